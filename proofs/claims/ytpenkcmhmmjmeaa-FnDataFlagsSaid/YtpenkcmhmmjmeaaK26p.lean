/- The contracts of the program's chapter 12: parts. -/
import Derived.Test.YtpenkcmhmmjmeaaK20
import Derived.Test.YtpenkcmhmmjmeaaK26a
import Derived.Test.YtpenkcmhmmjmeaaK26c
namespace Go.Proofs.Ytpenkcmhmmjmeaa
open Go.RowKit Go.PlainAid

theorem wordsPut_three (a b c : Int) (a0 : 0 ≤ a ∧ a ≤ 65535) (b0 : 0 ≤ b ∧ b ≤ 65535) (c0 : 0 ≤ c ∧ c ≤ 65535) (d cap : Nat) (w : World) (hv : VarN d [.int .i64 a, .int .i64 b, .int .i64 c] w) :
    Calls Try.prog 28 #[.slice (some ⟨d, 0, none⟩) 3 cap] w fun e w' => e = .returned (.string (wordS a ++ wordS b ++ wordS c)) ∧ Below w.heap.size w w' := by
  rw [← wordsS_three]
  exact wordsPut_any [a, b, c] d cap w (by simp) (fun n hn => by simp at hn; rcases hn with rfl | rfl | rfl <;> assumption) hv (lt_of_cell (hv 0 _ rfl).1)

set_option maxHeartbeats 400000 in
theorem dataPut_no (a b c : Int) (fi la lo : Bool) (t : ByteArray) (w : World) (h : ¬ DataOk a b c t) :
    Calls Try.prog 11 #[.agg #[.int .i64 a, .int .i64 b, .int .i64 c, .bool fi, .bool la, .bool lo, .string t]] w fun e w' => e = .returned notMadeV ∧ Below w.heap.size w w' := by
  have E := Lib.hid (dataOkV_no h)
  have V0 := (VarN.new w [.int .i64 a, .int .i64 b, .int .i64 c, .bool fi, .bool la, .bool lo, .string t] 24).alloc (.cells (List.toArray [.int .i64 0, .int .i64 0, .string (ByteArray.mk #[])]) 27) (by simp)
  have R0 := VarN.new_at (w := w.alloc (.cells (List.toArray [.int .i64 a, .int .i64 b, .int .i64 c, .bool fi, .bool la, .bool lo, .string t]) 24)) (d := w.heap.size + 1) (by simp) [.int .i64 0, .int .i64 0, .string (ByteArray.mk #[])] 27
  have B0 := (below_box (.cells (List.toArray [.int .i64 a, .int .i64 b, .int .i64 c, .bool fi, .bool la, .bool lo, .string t]) 24) (Nat.le_refl w.heap.size)).alloc (by simp) (.cells (List.toArray [.int .i64 0, .int .i64 0, .string (ByteArray.mk #[])]) 27)
  clear V0
  have HR := Lib.hid R0
  have HB := Lib.hid B0
  clear R0 B0
  go_enter Try.func11, Try.ntmps11
  go_wp2_with fail
  refine (dataValid_any a b c fi la lo t _).mono ?_
  rw [E.out]
  rintro e w1 ⟨rfl, hb1⟩
  have R1 := HR.out.below hb1 (by simp)
  have B1 := HB.out.trans (hb1.mono (by simp; omega))
  clear hb1 HR HB
  have r0 := (R1 0 _ rfl).1
  have r1 := (R1 1 _ rfl).1
  have r2 := (R1 2 _ rfl).1
  have g0 := (R1 0 _ rfl).2
  have g1 := (R1 1 _ rfl).2
  have g2 := (R1 2 _ rfl).2
  clear R1
  go_wp2
  refine bodyPost_ret (v := notMadeV) ?_ rfl ?_
  · simp [results, Try.results11, go_sem, notMadeV, r0, r1, r2]
  · exact ⟨rfl, ((B1.setCell (Nat.le_succ _) _).setCell (Nat.le_succ _) _).setCell (Nat.le_succ _) _⟩

theorem varN_drew (w : World) (vs : List Value) (T : TypeId) : VarN w.heap.size vs (w.alloc (.cells vs.toArray T)).drew := fun i v h => ⟨by simpa using (VarN.new w vs T i v h).1, by simp⟩
theorem below_drew_alloc (w : World) (o : Obj) : Below w.drew.heap.size w.drew (w.alloc o).drew := (Below.refl _ w.drew).alloc (Nat.le_refl _) o
/-- What the writing of a part needs of a world: the part, the result's place. -/
structure PutD (N : Nat) (a b c : Int) (fi la lo : Bool) (t : ByteArray) (w W : World) : Prop where
  v : VarN N [.int .i64 a, .int .i64 b, .int .i64 c, .bool fi, .bool la, .bool lo, .string t] W
  r : ∃ z0 z1 z2, VarN (N + 1) [z0, z1, z2] W
  b : Below N w W
theorem PutD.go {N : Nat} {a b c : Int} {fi la lo : Bool} {t : ByteArray} {w W W' : World} (h : PutD N a b c fi la lo t w W) (hb : Below W.heap.size W W') : PutD N a b c fi la lo t w W' := by
  have h1 := lt_of_cell (h.v 0 _ rfl).1
  obtain ⟨z0, z1, z2, hr⟩ := h.r
  exact ⟨h.v.below hb h1, ⟨z0, z1, z2, hr.below hb (lt_of_cell (hr 0 _ rfl).1)⟩, h.b.trans (hb.mono (Nat.le_of_lt h1))⟩
theorem PutD.put {N : Nat} {a b c : Int} {fi la lo : Bool} {t : ByteArray} {w W : World} (h : PutD N a b c fi la lo t w W) (x y z : Value) : PutD N a b c fi la lo t w (((W.setCell ⟨N + 1, 0, none⟩ x).setCell ⟨N + 1, 1, none⟩ y).setCell ⟨N + 1, 2, none⟩ z) := by
  obtain ⟨z0, z1, z2, hr⟩ := h.r
  exact ⟨((h.v.far x (by omega)).far y (by omega)).far z (by omega), ⟨x, y, z, hr.put3 x y z⟩, ((h.b.setCell (p := ⟨N + 1, 0, none⟩) (Nat.le_succ _) x).setCell (p := ⟨N + 1, 1, none⟩) (Nat.le_succ _) y).setCell (p := ⟨N + 1, 2, none⟩) (Nat.le_succ _) z⟩
theorem putD_at {N : Nat} {a b c : Int} {fi la lo : Bool} {t : ByteArray} {w W : World} (h : PutD N a b c fi la lo t w W) : W.cell? ⟨N, 0, none⟩ = some (.int .i64 a) ∧ W.cell? ⟨N, 1, none⟩ = some (.int .i64 b) ∧ W.cell? ⟨N, 2, none⟩ = some (.int .i64 c) ∧ W.cell? ⟨N, 3, none⟩ = some (.bool fi) ∧ W.cell? ⟨N, 4, none⟩ = some (.bool la) ∧ W.cell? ⟨N, 5, none⟩ = some (.bool lo) ∧ W.cell? ⟨N, 6, none⟩ = some (.string t) ∧ PutD N a b c fi la lo t w W :=
  ⟨(h.v 0 _ rfl).1, (h.v 1 _ rfl).1, (h.v 2 _ rfl).1, (h.v 3 _ rfl).1, (h.v 4 _ rfl).1, (h.v 5 _ rfl).1, (h.v 6 _ rfl).1, h⟩
theorem putD_next {N : Nat} {a b c : Int} {fi la lo : Bool} {t : ByteArray} {w W W' : World} (hb : Below W.heap.size W W') (h : W.cell? ⟨N, 0, none⟩ = some (.int .i64 a) ∧ W.cell? ⟨N, 1, none⟩ = some (.int .i64 b) ∧ W.cell? ⟨N, 2, none⟩ = some (.int .i64 c) ∧ W.cell? ⟨N, 3, none⟩ = some (.bool fi) ∧ W.cell? ⟨N, 4, none⟩ = some (.bool la) ∧ W.cell? ⟨N, 5, none⟩ = some (.bool lo) ∧ W.cell? ⟨N, 6, none⟩ = some (.string t) ∧ PutD N a b c fi la lo t w W) : W'.cell? ⟨N, 0, none⟩ = some (.int .i64 a) ∧ W'.cell? ⟨N, 1, none⟩ = some (.int .i64 b) ∧ W'.cell? ⟨N, 2, none⟩ = some (.int .i64 c) ∧ W'.cell? ⟨N, 3, none⟩ = some (.bool fi) ∧ W'.cell? ⟨N, 4, none⟩ = some (.bool la) ∧ W'.cell? ⟨N, 5, none⟩ = some (.bool lo) ∧ W'.cell? ⟨N, 6, none⟩ = some (.string t) ∧ PutD N a b c fi la lo t w W' :=
  putD_at (h.2.2.2.2.2.2.2.go hb)
theorem putD_store {N : Nat} {a b c : Int} {fi la lo : Bool} {t : ByteArray} {w W W' : World} {x y z : Value} (e : ((W.setCell ⟨N + 1, 0, none⟩ x).setCell ⟨N + 1, 1, none⟩ y).setCell ⟨N + 1, 2, none⟩ z = W') (h : W.cell? ⟨N, 0, none⟩ = some (.int .i64 a) ∧ W.cell? ⟨N, 1, none⟩ = some (.int .i64 b) ∧ W.cell? ⟨N, 2, none⟩ = some (.int .i64 c) ∧ W.cell? ⟨N, 3, none⟩ = some (.bool fi) ∧ W.cell? ⟨N, 4, none⟩ = some (.bool la) ∧ W.cell? ⟨N, 5, none⟩ = some (.bool lo) ∧ W.cell? ⟨N, 6, none⟩ = some (.string t) ∧ PutD N a b c fi la lo t w W) : W'.cell? ⟨N, 0, none⟩ = some (.int .i64 a) ∧ W'.cell? ⟨N, 1, none⟩ = some (.int .i64 b) ∧ W'.cell? ⟨N, 2, none⟩ = some (.int .i64 c) ∧ W'.cell? ⟨N, 3, none⟩ = some (.bool fi) ∧ W'.cell? ⟨N, 4, none⟩ = some (.bool la) ∧ W'.cell? ⟨N, 5, none⟩ = some (.bool lo) ∧ W'.cell? ⟨N, 6, none⟩ = some (.string t) ∧ PutD N a b c fi la lo t w W' :=
  putD_at (e ▸ h.2.2.2.2.2.2.2.put x y z)

set_option maxHeartbeats 2000000 in
theorem dataPut_yes (a b c : Int) (fi la lo : Bool) (t : ByteArray) (w : World) (h : DataOk a b c t) :
    Calls Try.prog 11 #[.agg #[.int .i64 a, .int .i64 b, .int .i64 c, .bool fi, .bool la, .bool lo, .string t]] w fun e w' => e = .returned (madeV 0 (flagsV fi la lo) (dataS a b c t)) ∧ Below w.heap.size w w' := by
  have E := Lib.hid (dataOkV_yes h)
  have H := Lib.hid h
  have f0 := flagsV_range fi la lo
  have hz1 : ¬ 9223372036854775807 < (wordS a).size + (wordS b).size + (wordS c).size + t.size := by have := h.2.2.2; rw [wordS_size, wordS_size, wordS_size]; simp; omega
  clear h
  have V0 := (VarN.new w [.int .i64 a, .int .i64 b, .int .i64 c, .bool fi, .bool la, .bool lo, .string t] 24).alloc (.cells (List.toArray [.int .i64 0, .int .i64 0, .string (ByteArray.mk #[])]) 27) (by simp)
  have R0 := VarN.new_at (w := w.alloc (.cells (List.toArray [.int .i64 a, .int .i64 b, .int .i64 c, .bool fi, .bool la, .bool lo, .string t]) 24)) (d := w.heap.size + 1) (by simp) [.int .i64 0, .int .i64 0, .string (ByteArray.mk #[])] 27
  have B0 := (below_box (.cells (List.toArray [.int .i64 a, .int .i64 b, .int .i64 c, .bool fi, .bool la, .bool lo, .string t]) 24) (Nat.le_refl w.heap.size)).alloc (by simp) (.cells (List.toArray [.int .i64 0, .int .i64 0, .string (ByteArray.mk #[])]) 27)
  have P0 := Lib.hid (PutD.mk V0 ⟨_, _, _, R0⟩ B0)
  clear V0 R0 B0
  go_enter Try.func11, Try.ntmps11
  go_wp2_with fail
  refine (dataValid_any a b c fi la lo t _).mono ?_
  rw [E.out]
  rintro e w1 ⟨rfl, hb1⟩
  have P1 := P0.out.go hb1
  clear hb1 P0
  have x0 := (P1.v 0 _ rfl).1
  have x1 := (P1.v 1 _ rfl).1
  have x2 := (P1.v 2 _ rfl).1
  have x3 := (P1.v 3 _ rfl).1
  have x4 := (P1.v 4 _ rfl).1
  have x5 := (P1.v 5 _ rfl).1
  have x6 := (P1.v 6 _ rfl).1
  have P1 := Lib.hid P1
  go_wp2_with fail
  go_region_held_law (fun W => W.cell? ⟨w.heap.size, 0, none⟩ = some (.int .i64 a) ∧ W.cell? ⟨w.heap.size, 1, none⟩ = some (.int .i64 b) ∧ W.cell? ⟨w.heap.size, 2, none⟩ = some (.int .i64 c) ∧ W.cell? ⟨w.heap.size, 3, none⟩ = some (.bool fi) ∧ W.cell? ⟨w.heap.size, 4, none⟩ = some (.bool la) ∧ W.cell? ⟨w.heap.size, 5, none⟩ = some (.bool lo) ∧ W.cell? ⟨w.heap.size, 6, none⟩ = some (.string t) ∧ PutD w.heap.size a b c fi la lo t w W)
    (first | assumption | exact putD_at (P1.out.go (Below.drew (Below.refl _ _))) | exact putD_next (by first | assumption | exact below_box _ (Nat.le_refl _) | exact below_drew_alloc _ _ | exact Below.drew (Below.refl _ _)) (by assumption) | exact putD_store rfl (by assumption))
    (first | (go_simp; go_at_call 27; refine (flagsOf_any a b c fi la lo t _).mono ?_; rintro e w' ⟨rfl, hbn⟩; obtain ⟨z0, z1, z2, hR⟩ := (putD_next (N := w.heap.size) (a := a) (b := b) (c := c) (fi := fi) (la := la) (lo := lo) (t := t) (w := w) hbn (by assumption)).2.2.2.2.2.2.2.r; have r0 := (hR 0 _ rfl).1; have r1 := (hR 1 _ rfl).1; have r2 := (hR 2 _ rfl).1; have g0 := (hR 0 _ rfl).2; have g1 := (hR 1 _ rfl).2; have g2 := (hR 2 _ rfl).2) | (go_simp; go_at_call 28; refine (wordsPut_three a b c H.out.1 H.out.2.1 H.out.2.2.1 _ _ _ (by first | exact VarN.new _ _ _ | exact varN_drew _ _ _ | exact (VarN.new _ _ _).below (by assumption) (by simp) | exact (varN_drew _ _ _).below (by assumption) (by simp))).mono ?_; rintro e w' ⟨rfl, hbn⟩; obtain ⟨z0, z1, z2, hR⟩ := (putD_next (N := w.heap.size) (a := a) (b := b) (c := c) (fi := fi) (la := la) (lo := lo) (t := t) (w := w) hbn (by assumption)).2.2.2.2.2.2.2.r; have r0 := (hR 0 _ rfl).1; have r1 := (hR 1 _ rfl).1; have r2 := (hR 2 _ rfl).1; have g0 := (hR 0 _ rfl).2; have g1 := (hR 1 _ rfl).2; have g2 := (hR 2 _ rfl).2))
  all_goals
    rename_i hHeld
    have HB := Lib.hid hHeld.2.2.2.2.2.2.2.b
    clear hHeld x0 x1 x2 x3 x4 x5 x6 hz1
    go_wp2
    refine bodyPost_ret (v := madeV 0 (flagsV fi la lo) (dataS a b c t)) ?_ rfl ?_
    · simp [results, Try.results11, go_sem, madeV, dataS, r0, r1, r2]
    · exact ⟨rfl, HB.out⟩

end Go.Proofs.Ytpenkcmhmmjmeaa
