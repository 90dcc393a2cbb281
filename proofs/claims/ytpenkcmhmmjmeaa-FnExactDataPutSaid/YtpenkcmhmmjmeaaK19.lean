/- The contracts of chapter 12's model on parts and inits. -/
import Derived.Test.YtpenkcmhmmjmeaaK10
import Derived.Test.YtpenkcmhmmjmeaaK13
import Derived.Test.YtpenkcmhmmjmeaaG11
import Derived.Deep.RegionHeldLaw
import Derived.Test.YtpenkcmhmmjmeaaK4b
import Derived.Deep.QuietTactic
import Derived.BigQuiet
import Derived.IntWalk
namespace Go.Proofs.Ytpenkcmhmmjmeaa
open Go.RowKit Go.PlainAid

/-- A number for a condition. -/
def bitV (x : Bool) (n : Int) : Int := if x then n else 0
theorem past_cell {w : World} {b i : Nat} {v : Value} (h : w.cell? ⟨b, i, none⟩ = some v) (o : Obj) : (w.alloc o).cell? ⟨b, i, none⟩ = some v := by
  rw [World.cell?_alloc_lt _ _ _ (World.block_lt_of_cell? w _ h)]
  exact h
theorem past3 {w : World} {b i : Nat} {v : Value} {o p q : Obj} (h : w.cell? ⟨b, i, none⟩ = some v) : (((w.alloc o).alloc p).alloc q).drew.cell? ⟨b, i, none⟩ = some v :=
  (World.cell?_drew _ _).trans (past_cell (past_cell (past_cell h o) p) q)
theorem stored3 {w : World} {b d i : Nat} {v x y z : Value} {o p q : Obj} (hd : d ≠ b) (h : w.cell? ⟨b, i, none⟩ = some v) :
    ((((((w.alloc o).alloc p).alloc q).setCell ⟨d, 0, none⟩ x).setCell ⟨d, 1, none⟩ y).setCell ⟨d, 2, none⟩ z).drew.cell? ⟨b, i, none⟩ = some v :=
  (World.cell?_drew _ _).trans (cell_far hd (cell_far hd (cell_far hd (past_cell (past_cell (past_cell h o) p) q))))
theorem pastN {w : World} {c : Nat} {vs : List Value} (h : VarN c vs w) (hc : c < w.heap.size) (i : Nat) (v : Value) (hi : vs[i]? = some v) (o p q : Obj) :
    (((w.alloc o).alloc p).alloc q).cell? ⟨c, i, none⟩ = some v ∧ (((w.alloc o).alloc p).alloc q).frozen? ⟨c, i, none⟩ = false :=
  (((h.alloc o hc).alloc p (by simp; omega)).alloc q (by simp; omega)) i v hi
theorem bits_flags (fi la lo : Bool) : bitV la 1 + bitV fi 2 + bitV lo 4 = flagsV fi la lo := rfl
theorem bits_range (fi la : Bool) : 0 ≤ bitV la 1 + bitV fi 2 ∧ bitV la 1 + bitV fi 2 ≤ 3 := by cases fi <;> cases la <;> decide
instance (a b c : Int) (t : ByteArray) : Decidable (DataOk a b c t) := by
  unfold DataOk
  infer_instance
/-- Whether a part is valid. -/
def dataOkV (a b c : Int) (t : ByteArray) : Bool := decide (DataOk a b c t)
theorem dataOkV_yes {a b c : Int} {t : ByteArray} (h : DataOk a b c t) : dataOkV a b c t = true := decide_eq_true h
theorem dataOkV_no {a b c : Int} {t : ByteArray} (h : ¬ DataOk a b c t) : dataOkV a b c t = false := decide_eq_false h
instance (a b c d : Int) : Decidable (InitOk a b c d) := by
  unfold InitOk
  infer_instance
/-- Whether an init is valid. -/
def initOkV (a b c d : Int) : Bool := decide (InitOk a b c d)
theorem initOkV_yes {a b c d : Int} (h : InitOk a b c d) : initOkV a b c d = true := decide_eq_true h
theorem initOkV_no {a b c d : Int} (h : ¬ InitOk a b c d) : initOkV a b c d = false := decide_eq_false h

set_option maxHeartbeats 400000 in
theorem l12Data_any (a b c : Int) (fi la lo : Bool) (t : ByteArray) (w : World) :
    Calls Try.prog 29 #[.agg #[.int .i64 a, .int .i64 b, .int .i64 c, .bool fi, .bool la, .bool lo, .string t]] w fun e w' => e = .returned (.bool (dataOkV a b c t)) ∧ Below w.heap.size w w' := by
  by_cases h1 : Ser a
  · have H1 := Lib.hid h1
    clear h1
    by_cases h2 : Ser b
    · have H2 := Lib.hid h2
      clear h2
      by_cases h3 : Ser c
      · have H3 := Lib.hid h3
        clear h3
        have E := Lib.hid (show decide ((1 : Int) ≤ t.size ∧ (t.size : Int) ≤ 20) = dataOkV a b c t by
          by_cases g : 1 ≤ t.size ∧ t.size ≤ 20
          · rw [dataOkV_yes ⟨ser_le H1.out, ser_le H2.out, ser_le H3.out, g.1, g.2⟩]; exact decide_eq_true (by omega)
          · rw [dataOkV_no fun h => g h.2.2.2]; exact decide_eq_false (by omega))
        go_enter Try.func29, Try.ntmps29
        go_wp2_with fail
        refine (l3Ok_yes a _ H1.out).mono ?_
        rintro e w1 ⟨rfl, rfl⟩
        go_wp2_with fail
        refine (l3Ok_yes b _ H2.out).mono ?_
        rintro e w1 ⟨rfl, rfl⟩
        go_wp2_with fail
        refine (l3Ok_yes c _ H3.out).mono ?_
        rintro e w1 ⟨rfl, rfl⟩
        go_wp2_with fail
        refine (l6In_any (t.size : Int) 1 20 _).mono ?_
        rintro e w1 ⟨rfl, rfl⟩
        rw [E.out]
        go_wp2
        go_ret
        exact ⟨rfl, below_box _ (Nat.le_refl _)⟩
      · have H3 := Lib.hid h3
        clear h3
        rw [dataOkV_no fun h => ser_not H3.out h.2.2.1]
        go_enter Try.func29, Try.ntmps29
        go_wp2_with fail
        refine (l3Ok_yes a _ H1.out).mono ?_
        rintro e w1 ⟨rfl, rfl⟩
        go_wp2_with fail
        refine (l3Ok_yes b _ H2.out).mono ?_
        rintro e w1 ⟨rfl, rfl⟩
        go_wp2_with fail
        refine (l3Ok_no c _ H3.out).mono ?_
        rintro e w1 ⟨rfl, rfl⟩
        go_wp2
        go_ret
        exact ⟨rfl, below_box _ (Nat.le_refl _)⟩
    · have H2 := Lib.hid h2
      clear h2
      rw [dataOkV_no fun h => ser_not H2.out h.2.1]
      go_enter Try.func29, Try.ntmps29
      go_wp2_with fail
      refine (l3Ok_yes a _ H1.out).mono ?_
      rintro e w1 ⟨rfl, rfl⟩
      go_wp2_with fail
      refine (l3Ok_no b _ H2.out).mono ?_
      rintro e w1 ⟨rfl, rfl⟩
      go_wp2
      go_ret
      exact ⟨rfl, below_box _ (Nat.le_refl _)⟩
  · have H1 := Lib.hid h1
    clear h1
    rw [dataOkV_no fun h => ser_not H1.out h.1]
    go_enter Try.func29, Try.ntmps29
    go_wp2_with fail
    refine (l3Ok_no a _ H1.out).mono ?_
    rintro e w1 ⟨rfl, rfl⟩
    go_wp2
    go_ret
    exact ⟨rfl, below_box _ (Nat.le_refl _)⟩

set_option maxHeartbeats 400000 in
theorem l12Bit_any (x : Bool) (n : Int) (w : World) :
    Calls Try.prog 30 #[.bool x, .int .i64 n] w fun e w' => e = .returned (.int .i64 (bitV x n)) ∧ w = w' := by
  cases x
  all_goals
    go_enter Try.func30, Try.ntmps30
    go_wp2
    go_ret
    exact ⟨rfl, rfl⟩

theorem l12Bit_same (x : Bool) (n : Int) (w : World) :
    Calls Try.prog 30 #[.bool x, .int .i64 n] w fun e w' => e = .returned (.int .i64 (bitV x n)) ∧ w' = w :=
  (l12Bit_any x n w).mono fun _ _ h => ⟨h.1, h.2.symm⟩

/-- A chunk was made, or none. -/
def madeV (k f : Int) (b : ByteArray) : Value := .tuple #[.agg #[.int .i64 k, .int .i64 f, .string b], .bool true]
def notMadeV : Value := .tuple #[.agg #[.int .i64 0, .int .i64 0, .string (ByteArray.mk #[])], .bool false]

set_option maxHeartbeats 2000000 in
theorem sDataPut_yes (a b c : Int) (fi la lo : Bool) (t : ByteArray) (w : World) (h : DataOk a b c t) :
    Calls Try.prog 12 #[.agg #[.int .i64 a, .int .i64 b, .int .i64 c, .bool fi, .bool la, .bool lo, .string t]] w fun e w' => e = .returned (madeV 0 (flagsV fi la lo) (dataS a b c t)) ∧ Below w.heap.size w w' := by
  have H := Lib.hid h
  obtain ⟨⟨a0, a1⟩, ⟨b0, b1⟩, ⟨c0, c1⟩, t0, t1⟩ := h
  go_enter Try.func12, Try.ntmps12
  go_wp2_with fail
  refine (l12Data_any a b c fi la lo t _).mono ?_
  rintro e w1 ⟨rfl, hb1⟩
  rw [dataOkV_yes H.out]
  have V1 := (VarN.new w [.int .i64 a, .int .i64 b, .int .i64 c, .bool fi, .bool la, .bool lo, .string t] 24).alloc (.cells #[.int .i64 0, .int .i64 0, .string (ByteArray.mk #[])] 27) (by simp)
  have R1 := VarN.new (w.alloc (.cells #[.int .i64 a, .int .i64 b, .int .i64 c, .bool fi, .bool la, .bool lo, .string t] 24)) [.int .i64 0, .int .i64 0, .string (ByteArray.mk #[])] 27
  rw [show (w.alloc (.cells #[.int .i64 a, .int .i64 b, .int .i64 c, .bool fi, .bool la, .bool lo, .string t] 24)).heap.size = w.heap.size + 1 by simp] at R1
  have V2 := V1.below hb1 (by simp; omega)
  have R2 := R1.below hb1 (by simp)
  have hB1 : Below w.heap.size w w1 := ((below_box _ (Nat.le_refl _)).alloc (by simp) _).trans (hb1.mono (by simp; omega))
  have hlt : w.heap.size + 1 < w1.heap.size := by have := hb1.size; simp at this; omega
  clear hb1 V1 R1
  have x0 := (V2 0 _ rfl).1
  have x1 := (V2 1 _ rfl).1
  have x2 := (V2 2 _ rfl).1
  have x3 := (V2 3 _ rfl).1
  have x4 := (V2 4 _ rfl).1
  have x5 := (V2 5 _ rfl).1
  have x6 := (V2 6 _ rfl).1
  have r0 := (R2 0 _ rfl).1
  have r1 := (R2 1 _ rfl).1
  have r2 := (R2 2 _ rfl).1
  have g0 := (R2 0 _ rfl).2
  have g1 := (R2 1 _ rfl).2
  have g2 := (R2 2 _ rfl).2
  have HV2 := Lib.hid V2
  have HR2 := Lib.hid R2
  clear V2 R2
  obtain ⟨q0, q1⟩ := bits_range fi la
  have f0 := flagsV_range fi la lo
  have v1 : IntKind.i64.wrap (bitV la 1 + bitV fi 2) = bitV la 1 + bitV fi 2 := IntWalk.i64_in _ (by omega)
  have v2 : IntKind.i64.wrap (bitV la 1 + bitV fi 2 + bitV lo 4) = flagsV fi la lo := by rw [bits_flags]; exact IntWalk.i64_in _ (by omega)
  go_wp2_with fail
  go_quiet ((go_at_call 30; exact Calls.quiet_of_same (l12Bit_same _ _ _)))
  clear v1 v2
  have hB2 := below_drewN hB1 nq
  have V3 := HV2.out.below (below_drewN (Below.refl w1.heap.size w1) nq) (by omega)
  have R3 := HR2.out.below (below_drewN (Below.refl w1.heap.size w1) nq) hlt
  have hlt2 : w.heap.size + 1 < (w1.drewN nq).heap.size := hlt
  clear x0 x1 x2 x3 x4 x5 x6 r0 r1 r2 g0 g1 g2 HV2 HR2 hB1 hlt q0 q1 f0
  generalize World.drewN w1 nq = w2 at *
  have x0 := (V3 0 _ rfl).1
  have x1 := (V3 1 _ rfl).1
  have x2 := (V3 2 _ rfl).1
  have x6 := (V3 6 _ rfl).1
  have r0 := (R3 0 _ rfl).1
  have r1 := (R3 1 _ rfl).1
  have r2 := (R3 2 _ rfl).1
  have g0 := (R3 0 _ rfl).2
  have g1 := (R3 1 _ rfl).2
  have g2 := (R3 2 _ rfl).2
  have p0 := fun o p q => (pastN R3 hlt2 0 _ rfl o p q).1
  have p1 := fun o p q => (pastN R3 hlt2 1 _ rfl o p q).1
  have p2 := fun o p q => (pastN R3 hlt2 2 _ rfl o p q).1
  have u0 := fun o p q => (pastN R3 hlt2 0 _ rfl o p q).2
  have u1 := fun o p q => (pastN R3 hlt2 1 _ rfl o p q).2
  have u2 := fun o p q => (pastN R3 hlt2 2 _ rfl o p q).2
  clear V3 R3
  have hdb : w.heap.size + 1 ≠ w.heap.size := by omega
  have hz1 : ¬ 9223372036854775807 < (wordS a).size + (wordS b).size := by rw [wordS_size, wordS_size]; simp
  have hz2 : ¬ 9223372036854775807 < (wordS a).size + (wordS b).size + (wordS c).size := by rw [wordS_size, wordS_size, wordS_size]; simp
  have hz3 : ¬ 9223372036854775807 < (wordS a).size + (wordS b).size + (wordS c).size + t.size := by rw [wordS_size, wordS_size, wordS_size]; simp; omega
  go_wp2_with fail
  go_region_held_law (fun W => W.cell? ⟨w.heap.size, 0, none⟩ = some (.int .i64 a) ∧ W.cell? ⟨w.heap.size, 1, none⟩ = some (.int .i64 b) ∧ W.cell? ⟨w.heap.size, 2, none⟩ = some (.int .i64 c) ∧ W.cell? ⟨w.heap.size, 6, none⟩ = some (.string t)) (first | with_reducible exact ⟨past3 x0, past3 x1, past3 x2, past3 x6⟩ | with_reducible exact ⟨stored3 hdb x0, stored3 hdb x1, stored3 hdb x2, stored3 hdb x6⟩ | (go_keep; done))
    (first | (go_simp; go_at_call_of 31 (Value.int .i64 a); refine (l1Word_at a a0 a1 _).mono ?_; rintro e w3 ⟨rfl, rfl⟩) | (go_simp; go_at_call_of 31 (Value.int .i64 b); refine (l1Word_at b b0 b1 _).mono ?_; rintro e w3 ⟨rfl, rfl⟩) | (go_simp; go_at_call_of 31 (Value.int .i64 c); refine (l1Word_at c c0 c1 _).mono ?_; rintro e w3 ⟨rfl, rfl⟩))
  all_goals
    clear x0 x1 x2 x6 r0 r1 r2 g0 g1 g2 u0 u1 u2 hz1 hz2 hz3
    go_wp2
    refine bodyPost_ret (v := madeV 0 (flagsV fi la lo) (dataS a b c t)) ?_ rfl ?_
    · simp [results, Try.results12, go_sem, madeV, dataS, p0, p1, p2]
    · have hs := hB2.size
      exact ⟨rfl, (((((((hB2.alloc hs _).alloc (by simp; omega) _).alloc (by simp; omega) _).setCell (Nat.le_succ _) _).setCell (Nat.le_succ _) _).setCell (Nat.le_succ _) _)).drew⟩

set_option maxHeartbeats 400000 in
theorem sDataPut_no (a b c : Int) (fi la lo : Bool) (t : ByteArray) (w : World) (h : ¬ DataOk a b c t) :
    Calls Try.prog 12 #[.agg #[.int .i64 a, .int .i64 b, .int .i64 c, .bool fi, .bool la, .bool lo, .string t]] w fun e w' => e = .returned notMadeV ∧ Below w.heap.size w w' := by
  have H := Lib.hid h
  clear h
  go_enter Try.func12, Try.ntmps12
  go_wp2_with fail
  refine (l12Data_any a b c fi la lo t _).mono ?_
  rintro e w1 ⟨rfl, hb1⟩
  rw [dataOkV_no H.out]
  have R1 := VarN.new (w.alloc (.cells #[.int .i64 a, .int .i64 b, .int .i64 c, .bool fi, .bool la, .bool lo, .string t] 24)) [.int .i64 0, .int .i64 0, .string (ByteArray.mk #[])] 27
  rw [show (w.alloc (.cells #[.int .i64 a, .int .i64 b, .int .i64 c, .bool fi, .bool la, .bool lo, .string t] 24)).heap.size = w.heap.size + 1 by simp] at R1
  have R2 := R1.below hb1 (by simp)
  have hB1 : Below w.heap.size w w1 := ((below_box _ (Nat.le_refl _)).alloc (by simp) _).trans (hb1.mono (by simp; omega))
  clear hb1 R1
  have r0 := (R2 0 _ rfl).1
  have r1 := (R2 1 _ rfl).1
  have r2 := (R2 2 _ rfl).1
  have g0 := (R2 0 _ rfl).2
  have g1 := (R2 1 _ rfl).2
  have g2 := (R2 2 _ rfl).2
  clear R2
  go_wp2
  refine bodyPost_ret (v := notMadeV) ?_ rfl ?_
  · simp [results, Try.results12, go_sem, notMadeV, r0, r1, r2]
  · exact ⟨rfl, ((hB1.setCell (Nat.le_succ _) _).setCell (Nat.le_succ _) _).setCell (Nat.le_succ _) _⟩

end Go.Proofs.Ytpenkcmhmmjmeaa
