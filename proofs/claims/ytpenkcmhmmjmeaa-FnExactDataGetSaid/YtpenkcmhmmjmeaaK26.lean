/- The contracts of the program's chapter 12: parts that are read. -/
import Derived.Test.YtpenkcmhmmjmeaaK20b
import Derived.Test.YtpenkcmhmmjmeaaK26p
namespace Go.Proofs.Ytpenkcmhmmjmeaa
open Go.RowKit Go.PlainAid

/-- What the reading of a part needs of a world: the chunk, the result's place. -/
structure GetD (N : Nat) (k f : Int) (b : ByteArray) (w W : World) : Prop where
  v : VarN N [.int .i64 k, .int .i64 f, .string b] W
  r : VarN (N + 1) [.int .i64 0, .int .i64 0, .int .i64 0, .bool false, .bool false, .bool false, .string (ByteArray.mk #[])] W
  b : Below N w W
theorem GetD.go {N : Nat} {k f : Int} {b : ByteArray} {w W W' : World} (h : GetD N k f b w W) (hb : Below (N + 1 + 1) W W') : GetD N k f b w W' :=
  ⟨h.v.below hb (by omega), h.r.below hb (by omega), h.b.trans (hb.mono (by omega))⟩
theorem cur_new_at {d : Nat} {W : World} (e : W.heap.size = d) (s : ByteArray) (T : TypeId) : Cur d s ((0 : Nat) : Int) (W.alloc (.cells #[.string s, .int .i64 0] T)) := by
  have h := VarN.new_at e [.string s, .int .i64 0] T
  exact ⟨by simp; omega, (h 0 _ rfl).1, (h 1 _ rfl).1, (h 1 _ rfl).2⟩

set_option maxHeartbeats 2000000 in
theorem dataGet_other (k f : Int) (b : ByteArray) (w : World) (h : ¬ (k = 0 ∧ 0 ≤ f ∧ f ≤ 7)) :
    Calls Try.prog 13 #[.agg #[.int .i64 k, .int .i64 f, .string b]] w fun e w' => e = .returned noDataV ∧ Below w.heap.size w w' := by
  have V0 := (VarN.new w [.int .i64 k, .int .i64 f, .string b] 27).alloc (.cells (List.toArray [.int .i64 0, .int .i64 0, .int .i64 0, .bool false, .bool false, .bool false, .string (ByteArray.mk #[])]) 24) (by simp)
  have R0 := VarN.new_at (w := w.alloc (.cells (List.toArray [.int .i64 k, .int .i64 f, .string b]) 27)) (d := w.heap.size + 1) (by simp) [.int .i64 0, .int .i64 0, .int .i64 0, .bool false, .bool false, .bool false, .string (ByteArray.mk #[])] 24
  have B0 := (below_box (.cells (List.toArray [.int .i64 k, .int .i64 f, .string b]) 27) (Nat.le_refl w.heap.size)).alloc (by simp) (.cells (List.toArray [.int .i64 0, .int .i64 0, .int .i64 0, .bool false, .bool false, .bool false, .string (ByteArray.mk #[])]) 24)
  have B1 := Lib.hid B0
  clear V0 R0 B0
  by_cases hk : k = 0
  · subst hk
    by_cases hf : 0 ≤ f
    · have hf7 : ¬ f ≤ 7 := fun x => h ⟨rfl, hf, x⟩
      have hf8 : 7 < f := by omega
      have hn : ¬ f < 0 := by omega
      clear h
      go_enter Try.func13, Try.ntmps13
      go_wp2
      refine bodyPost_ret (v := noDataV) ?_ rfl ?_
      · simp [results, Try.results13, go_sem, noDataV]
      · exact ⟨rfl, by repeat (first | with_reducible exact B1.out | refine Below.setCell ?_ (by exact Nat.le_succ _) _)⟩
    · have hn : f < 0 := by omega
      clear h hf
      go_enter Try.func13, Try.ntmps13
      go_wp2
      refine bodyPost_ret (v := noDataV) ?_ rfl ?_
      · simp [results, Try.results13, go_sem, noDataV]
      · exact ⟨rfl, by repeat (first | with_reducible exact B1.out | refine Below.setCell ?_ (by exact Nat.le_succ _) _)⟩
  · clear h
    go_enter Try.func13, Try.ntmps13
    go_wp2
    refine bodyPost_ret (v := noDataV) ?_ rfl ?_
    · simp [results, Try.results13, go_sem, noDataV]
    · exact ⟨rfl, by repeat (first | with_reducible exact B1.out | refine Below.setCell ?_ (by exact Nat.le_succ _) _)⟩

set_option maxHeartbeats 1000000 in
theorem dataGet_short (f : Int) (b : ByteArray) (w : World) (f0 : 0 ≤ f) (f1 : f ≤ 7) (hm : b.size ≤ 100000000) (h : b.size < 6) :
    Calls Try.prog 13 #[.agg #[.int .i64 0, .int .i64 f, .string b]] w fun e w' => e = .returned noDataV ∧ Below w.heap.size w w' := by
  have V0 := (VarN.new w [.int .i64 0, .int .i64 f, .string b] 27).alloc (.cells (List.toArray [.int .i64 0, .int .i64 0, .int .i64 0, .bool false, .bool false, .bool false, .string (ByteArray.mk #[])]) 24) (by simp)
  have R0 := VarN.new_at (w := w.alloc (.cells (List.toArray [.int .i64 0, .int .i64 f, .string b]) 27)) (d := w.heap.size + 1) (by simp) [.int .i64 0, .int .i64 0, .int .i64 0, .bool false, .bool false, .bool false, .string (ByteArray.mk #[])] 24
  have B0 := (below_box (.cells (List.toArray [.int .i64 0, .int .i64 f, .string b]) 27) (Nat.le_refl w.heap.size)).alloc (by simp) (.cells (List.toArray [.int .i64 0, .int .i64 0, .int .i64 0, .bool false, .bool false, .bool false, .string (ByteArray.mk #[])]) 24)
  have C0 := Lib.hid (cur_new_at (W := (w.alloc (.cells (List.toArray [.int .i64 0, .int .i64 f, .string b]) 27)).alloc (.cells (List.toArray [.int .i64 0, .int .i64 0, .int .i64 0, .bool false, .bool false, .bool false, .string (ByteArray.mk #[])]) 24)) (d := w.heap.size + 1 + 1) (by simp) b 55)
  have G0 := Lib.hid ((GetD.mk V0 R0 B0).go ((Below.refl _ _).alloc (by simp) (.cells #[.string b, .int .i64 0] 55)))
  have v0 := (V0 0 _ rfl).1
  have v1 := (V0 1 _ rfl).1
  have v2 := (V0 2 _ rfl).1
  clear V0 R0 B0
  have hf7 : ¬ 7 < f := by omega
  have hn : ¬ f < 0 := by omega
  go_enter Try.func13, Try.ntmps13
  go_wp2_with fail
  refine (words_three_no (w.heap.size + 1 + 1) b ((0 : Nat) : Int) _ hm C0.out (by omega)).mono ?_
  rintro e w1 ⟨rfl, q, rfl⟩
  have G1 := G0.out.go (below_drewN (Below.refl _ _) q)
  have B1 := G1.b
  have r0 := (G1.r 0 _ rfl).1
  have rf0 := (G1.r 0 _ rfl).2
  have r1 := (G1.r 1 _ rfl).1
  have rf1 := (G1.r 1 _ rfl).2
  have r2 := (G1.r 2 _ rfl).1
  have rf2 := (G1.r 2 _ rfl).2
  have r3 := (G1.r 3 _ rfl).1
  have rf3 := (G1.r 3 _ rfl).2
  have r4 := (G1.r 4 _ rfl).1
  have rf4 := (G1.r 4 _ rfl).2
  have r5 := (G1.r 5 _ rfl).1
  have rf5 := (G1.r 5 _ rfl).2
  have r6 := (G1.r 6 _ rfl).1
  have rf6 := (G1.r 6 _ rfl).2
  clear G0 C0 v0 v1 v2
  go_wp2
  refine bodyPost_ret (v := noDataV) ?_ rfl ?_
  · simp [results, Try.results13, go_sem, noDataV, r0, r1, r2, r3, r4, r5, r6]
  · exact ⟨rfl, by repeat (first | with_reducible exact B1 | refine Below.setCell ?_ (by exact Nat.le_succ _) _)⟩

theorem and_two {f : Int} (h0 : 0 ≤ f) (h1 : f ≤ 7) : (bits .and .i64 f 2 != 0) = (f / 2 % 2 == 1) := by
  rcases (show f = 0 ∨ f = 1 ∨ f = 2 ∨ f = 3 ∨ f = 4 ∨ f = 5 ∨ f = 6 ∨ f = 7 by omega) with rfl | rfl | rfl | rfl | rfl | rfl | rfl | rfl <;> decide
theorem and_one {f : Int} (h0 : 0 ≤ f) (h1 : f ≤ 7) : (bits .and .i64 f 1 != 0) = (f % 2 == 1) := by
  rcases (show f = 0 ∨ f = 1 ∨ f = 2 ∨ f = 3 ∨ f = 4 ∨ f = 5 ∨ f = 6 ∨ f = 7 by omega) with rfl | rfl | rfl | rfl | rfl | rfl | rfl | rfl <;> decide
theorem and_four {f : Int} (h0 : 0 ≤ f) (h1 : f ≤ 7) : (bits .and .i64 f 4 != 0) = (f / 4 == 1) := by
  rcases (show f = 0 ∨ f = 1 ∨ f = 2 ∨ f = 3 ∨ f = 4 ∨ f = 5 ∨ f = 6 ∨ f = 7 by omega) with rfl | rfl | rfl | rfl | rfl | rfl | rfl | rfl <;> decide

set_option maxHeartbeats 2000000 in
theorem dataGet_bad (f : Int) (x1 x2 x3 : Bool) (E1 : (bits .and .i64 f 2 != 0) = x1) (E2 : (bits .and .i64 f 1 != 0) = x2) (E3 : (bits .and .i64 f 4 != 0) = x3) (b : ByteArray) (w : World) (f0 : 0 ≤ f) (f1 : f ≤ 7) (hm : b.size ≤ 100000000) (h : 6 ≤ b.size) (hz : Hid (dataOkV (be b 0 2) (be b 2 2) (be b 4 2) (b.extract 6 b.size) = false)) :
    Calls Try.prog 13 #[.agg #[.int .i64 0, .int .i64 f, .string b]] w fun e w' => e = .returned (noDataV) ∧ Below w.heap.size w w' := by
  have HE := hz
  clear hz
  have V0 := (VarN.new w [.int .i64 0, .int .i64 f, .string b] 27).alloc (.cells (List.toArray [.int .i64 0, .int .i64 0, .int .i64 0, .bool false, .bool false, .bool false, .string (ByteArray.mk #[])]) 24) (by simp)
  have R0 := VarN.new_at (w := w.alloc (.cells (List.toArray [.int .i64 0, .int .i64 f, .string b]) 27)) (d := w.heap.size + 1) (by simp) [.int .i64 0, .int .i64 0, .int .i64 0, .bool false, .bool false, .bool false, .string (ByteArray.mk #[])] 24
  have B0 := (below_box (.cells (List.toArray [.int .i64 0, .int .i64 f, .string b]) 27) (Nat.le_refl w.heap.size)).alloc (by simp) (.cells (List.toArray [.int .i64 0, .int .i64 0, .int .i64 0, .bool false, .bool false, .bool false, .string (ByteArray.mk #[])]) 24)
  have C0 := Lib.hid (cur_new_at (W := (w.alloc (.cells (List.toArray [.int .i64 0, .int .i64 f, .string b]) 27)).alloc (.cells (List.toArray [.int .i64 0, .int .i64 0, .int .i64 0, .bool false, .bool false, .bool false, .string (ByteArray.mk #[])]) 24)) (d := w.heap.size + 1 + 1) (by simp) b 55)
  have G0 := Lib.hid ((GetD.mk V0 R0 B0).go ((Below.refl _ _).alloc (by simp) (.cells #[.string b, .int .i64 0] 55)))
  have v0 := (V0 0 _ rfl).1
  have v1 := (V0 1 _ rfl).1
  have v2 := (V0 2 _ rfl).1
  clear V0 R0 B0
  have hf7 : ¬ 7 < f := by omega
  have hn : ¬ f < 0 := by omega
  go_enter Try.func13, Try.ntmps13
  go_wp2_with fail
  refine (words_three (w.heap.size + 1 + 1) b 0 _ hm C0.out (by omega) _ (Nat.le_refl _)).mono ?_
  rintro e w1 ⟨d, rfl, hd, hV, hC, hF⟩
  have V1 : VarN d [.int .i64 (be b 0 2), .int .i64 (be b 2 2), .int .i64 (be b 4 2)] w1 := hV
  have C1 := Lib.hid (hC.go (q := ((6 : Nat) : Int)) (by omega))
  have G1 := Lib.hid (G0.out.go hF.below)
  have hd2 : w.heap.size + 1 + 1 < d := by simp at hd; omega
  have VL1 := Lib.hid V1
  clear hV hC hF V1 G0 C0 v0 v1 v2 hd
  have u2 := (G1.out.v 2 _ rfl).1
  have c1 : w1.cell? ⟨w.heap.size + 1 + 1, 1, none⟩ = some (.int .i64 6) := C1.out.2.2.1
  have w4e : IntKind.i64.wrap ((b.size : Int) - 6) = ((b.size - 6 : Nat) : Int) := (IntWalk.i64_in _ (by omega)).trans (by omega)
  go_wp2_with fail
  refine (piece_big (w.heap.size + 1 + 1) b 6 (b.size - 6) _ hm C1.out (by omega) _ (Nat.le_refl _)).mono ?_
  rintro e w2 ⟨rfl, hC2, hF2⟩
  rw [show b.extract 6 (6 + (b.size - 6)) = b.extract 6 b.size by congr 1; omega]
  have V2 := VL1.out.aside hF2.aside (lt_of_cell (VL1.out 0 _ rfl).1) (by omega)
  have G2 := G1.out.go hF2.below
  clear hC2 hF2 G1 VL1 C1 u2 c1 w4e
  have d0 := (V2 0 _ rfl).1
  have d1 := (V2 1 _ rfl).1
  have d2 := (V2 2 _ rfl).1
  have u1 := (G2.v 1 _ rfl).1
  obtain ⟨T, hT⟩ : ∃ T, b.extract 6 b.size = T := ⟨_, rfl⟩
  rw [hT]
  have HT := Lib.hid hT
  have G2 := Lib.hid G2
  clear hT V2
  have HTz := Lib.hid (HT.out ▸ HE.out)
  have n1 := World.new_ne w2 _ d0
  have n2 := World.new_ne w2 _ d1
  have n3 := World.new_ne w2 _ d2
  have n4 := World.new_ne w2 _ u1
  have hw2 : w.heap.size + 1 + 1 < w2.heap.size := Nat.lt_trans hd2 (lt_of_cell d0)
  go_wp2_with fail
  go_region_held_law (fun W => W.cell? ⟨d, 0, none⟩ = some (.int .i64 (be b 0 2)) ∧ W.cell? ⟨d, 1, none⟩ = some (.int .i64 (be b 2 2)) ∧ W.cell? ⟨d, 2, none⟩ = some (.int .i64 (be b 4 2)) ∧ W.cell? ⟨w.heap.size, 1, none⟩ = some (.int .i64 f)) (go_keep) (fail)
  all_goals
    rename_i hHeld
    clear hHeld d0 d1 d2 u1 n1 n2 n3 n4 E1 E2 E3
    have V3 := Lib.hid (varN_drew w2 [.int .i64 (be b 0 2), .int .i64 (be b 2 2), .int .i64 (be b 4 2), .bool x1, .bool x2, .bool x3, .string T] 24)
    have G3 := Lib.hid (G2.out.go (Below.drew ((Below.refl (w.heap.size + 1 + 1) w2).alloc (Nat.le_of_lt hw2) (.cells (List.toArray [.int .i64 (be b 0 2), .int .i64 (be b 2 2), .int .i64 (be b 4 2), .bool x1, .bool x2, .bool x3, .string T]) 24))))
    clear G2
    go_wp2_with fail
    refine (dataValid_any (be b 0 2) (be b 2 2) (be b 4 2) x1 x2 x3 T _).mono ?_
    rw [HTz.out]
    rintro e w4 ⟨rfl, hb4⟩
    have G4 := G3.out.go (hb4.mono (by simp; omega))
    have B1 := G4.b
    have r0 := (G4.r 0 _ rfl).1
    have rf0 := (G4.r 0 _ rfl).2
    have r1 := (G4.r 1 _ rfl).1
    have rf1 := (G4.r 1 _ rfl).2
    have r2 := (G4.r 2 _ rfl).1
    have rf2 := (G4.r 2 _ rfl).2
    have r3 := (G4.r 3 _ rfl).1
    have rf3 := (G4.r 3 _ rfl).2
    have r4 := (G4.r 4 _ rfl).1
    have rf4 := (G4.r 4 _ rfl).2
    have r5 := (G4.r 5 _ rfl).1
    have rf5 := (G4.r 5 _ rfl).2
    have r6 := (G4.r 6 _ rfl).1
    have rf6 := (G4.r 6 _ rfl).2
    clear V3 G3 G4 hb4
    go_wp2
    refine bodyPost_ret (v := noDataV) ?_ rfl ?_
    · simp [results, Try.results13, go_sem, noDataV, r0, r1, r2, r3, r4, r5, r6]
    · exact ⟨rfl, by repeat (first | with_reducible exact B1 | refine Below.setCell ?_ (by exact Nat.le_succ _) _)⟩


set_option maxHeartbeats 2000000 in
theorem dataGet_good (f : Int) (x1 x2 x3 : Bool) (E1 : (bits .and .i64 f 2 != 0) = x1) (E2 : (bits .and .i64 f 1 != 0) = x2) (E3 : (bits .and .i64 f 4 != 0) = x3) (b : ByteArray) (w : World) (f0 : 0 ≤ f) (f1 : f ≤ 7) (hm : b.size ≤ 100000000) (h : 6 ≤ b.size) (hz : Hid (dataOkV (be b 0 2) (be b 2 2) (be b 4 2) (b.extract 6 b.size) = true)) :
    Calls Try.prog 13 #[.agg #[.int .i64 0, .int .i64 f, .string b]] w fun e w' => e = .returned (gotDataV (be b 0 2) (be b 2 2) (be b 4 2) x1 x2 x3 (b.extract 6 b.size)) ∧ Below w.heap.size w w' := by
  have HE := hz
  clear hz
  have V0 := (VarN.new w [.int .i64 0, .int .i64 f, .string b] 27).alloc (.cells (List.toArray [.int .i64 0, .int .i64 0, .int .i64 0, .bool false, .bool false, .bool false, .string (ByteArray.mk #[])]) 24) (by simp)
  have R0 := VarN.new_at (w := w.alloc (.cells (List.toArray [.int .i64 0, .int .i64 f, .string b]) 27)) (d := w.heap.size + 1) (by simp) [.int .i64 0, .int .i64 0, .int .i64 0, .bool false, .bool false, .bool false, .string (ByteArray.mk #[])] 24
  have B0 := (below_box (.cells (List.toArray [.int .i64 0, .int .i64 f, .string b]) 27) (Nat.le_refl w.heap.size)).alloc (by simp) (.cells (List.toArray [.int .i64 0, .int .i64 0, .int .i64 0, .bool false, .bool false, .bool false, .string (ByteArray.mk #[])]) 24)
  have C0 := Lib.hid (cur_new_at (W := (w.alloc (.cells (List.toArray [.int .i64 0, .int .i64 f, .string b]) 27)).alloc (.cells (List.toArray [.int .i64 0, .int .i64 0, .int .i64 0, .bool false, .bool false, .bool false, .string (ByteArray.mk #[])]) 24)) (d := w.heap.size + 1 + 1) (by simp) b 55)
  have G0 := Lib.hid ((GetD.mk V0 R0 B0).go ((Below.refl _ _).alloc (by simp) (.cells #[.string b, .int .i64 0] 55)))
  have v0 := (V0 0 _ rfl).1
  have v1 := (V0 1 _ rfl).1
  have v2 := (V0 2 _ rfl).1
  clear V0 R0 B0
  have hf7 : ¬ 7 < f := by omega
  have hn : ¬ f < 0 := by omega
  go_enter Try.func13, Try.ntmps13
  go_wp2_with fail
  refine (words_three (w.heap.size + 1 + 1) b 0 _ hm C0.out (by omega) _ (Nat.le_refl _)).mono ?_
  rintro e w1 ⟨d, rfl, hd, hV, hC, hF⟩
  have V1 : VarN d [.int .i64 (be b 0 2), .int .i64 (be b 2 2), .int .i64 (be b 4 2)] w1 := hV
  have C1 := Lib.hid (hC.go (q := ((6 : Nat) : Int)) (by omega))
  have G1 := Lib.hid (G0.out.go hF.below)
  have hd2 : w.heap.size + 1 + 1 < d := by simp at hd; omega
  have VL1 := Lib.hid V1
  clear hV hC hF V1 G0 C0 v0 v1 v2 hd
  have u2 := (G1.out.v 2 _ rfl).1
  have c1 : w1.cell? ⟨w.heap.size + 1 + 1, 1, none⟩ = some (.int .i64 6) := C1.out.2.2.1
  have w4e : IntKind.i64.wrap ((b.size : Int) - 6) = ((b.size - 6 : Nat) : Int) := (IntWalk.i64_in _ (by omega)).trans (by omega)
  go_wp2_with fail
  refine (piece_big (w.heap.size + 1 + 1) b 6 (b.size - 6) _ hm C1.out (by omega) _ (Nat.le_refl _)).mono ?_
  rintro e w2 ⟨rfl, hC2, hF2⟩
  rw [show b.extract 6 (6 + (b.size - 6)) = b.extract 6 b.size by congr 1; omega]
  have V2 := VL1.out.aside hF2.aside (lt_of_cell (VL1.out 0 _ rfl).1) (by omega)
  have G2 := G1.out.go hF2.below
  clear hC2 hF2 G1 VL1 C1 u2 c1 w4e
  have d0 := (V2 0 _ rfl).1
  have d1 := (V2 1 _ rfl).1
  have d2 := (V2 2 _ rfl).1
  have u1 := (G2.v 1 _ rfl).1
  obtain ⟨T, hT⟩ : ∃ T, b.extract 6 b.size = T := ⟨_, rfl⟩
  rw [hT]
  have HT := Lib.hid hT
  have G2 := Lib.hid G2
  clear hT V2
  have HTz := Lib.hid (HT.out ▸ HE.out)
  have n1 := World.new_ne w2 _ d0
  have n2 := World.new_ne w2 _ d1
  have n3 := World.new_ne w2 _ d2
  have n4 := World.new_ne w2 _ u1
  have hw2 : w.heap.size + 1 + 1 < w2.heap.size := Nat.lt_trans hd2 (lt_of_cell d0)
  go_wp2_with fail
  go_region_held_law (fun W => W.cell? ⟨d, 0, none⟩ = some (.int .i64 (be b 0 2)) ∧ W.cell? ⟨d, 1, none⟩ = some (.int .i64 (be b 2 2)) ∧ W.cell? ⟨d, 2, none⟩ = some (.int .i64 (be b 4 2)) ∧ W.cell? ⟨w.heap.size, 1, none⟩ = some (.int .i64 f)) (go_keep) (fail)
  all_goals
    rename_i hHeld
    clear hHeld d0 d1 d2 u1 n1 n2 n3 n4 E1 E2 E3
    have V3 := Lib.hid (varN_drew w2 [.int .i64 (be b 0 2), .int .i64 (be b 2 2), .int .i64 (be b 4 2), .bool x1, .bool x2, .bool x3, .string T] 24)
    have G3 := Lib.hid (G2.out.go (Below.drew ((Below.refl (w.heap.size + 1 + 1) w2).alloc (Nat.le_of_lt hw2) (.cells (List.toArray [.int .i64 (be b 0 2), .int .i64 (be b 2 2), .int .i64 (be b 4 2), .bool x1, .bool x2, .bool x3, .string T]) 24))))
    clear G2
    go_wp2_with fail
    refine (dataValid_any (be b 0 2) (be b 2 2) (be b 4 2) x1 x2 x3 T _).mono ?_
    rw [HTz.out]
    rintro e w4 ⟨rfl, hb4⟩
    have G4 := G3.out.go (hb4.mono (by simp; omega))
    have B1 := G4.b
    have V4 := V3.out.below hb4 (by simp)
    have r0 := (G4.r 0 _ rfl).1
    have rf0 := (G4.r 0 _ rfl).2
    have r1 := (G4.r 1 _ rfl).1
    have rf1 := (G4.r 1 _ rfl).2
    have r2 := (G4.r 2 _ rfl).1
    have rf2 := (G4.r 2 _ rfl).2
    have r3 := (G4.r 3 _ rfl).1
    have rf3 := (G4.r 3 _ rfl).2
    have r4 := (G4.r 4 _ rfl).1
    have rf4 := (G4.r 4 _ rfl).2
    have r5 := (G4.r 5 _ rfl).1
    have rf5 := (G4.r 5 _ rfl).2
    have r6 := (G4.r 6 _ rfl).1
    have rf6 := (G4.r 6 _ rfl).2
    have v0 := (V4 0 _ rfl).1
    have v1 := (V4 1 _ rfl).1
    have v2 := (V4 2 _ rfl).1
    have v3 := (V4 3 _ rfl).1
    have v4 := (V4 4 _ rfl).1
    have v5 := (V4 5 _ rfl).1
    have v6 := (V4 6 _ rfl).1
    clear V3 G3 G4 V4 hb4
    go_wp2
    refine bodyPost_ret (v := gotDataV (be b 0 2) (be b 2 2) (be b 4 2) x1 x2 x3 T) ?_ rfl ?_
    · simp [results, Try.results13, go_sem, gotDataV, r0, r1, r2, r3, r4, r5, r6]
    · exact ⟨by rw [HT.out], by repeat (first | with_reducible exact B1 | refine Below.setCell ?_ (by exact Nat.le_succ _) _)⟩


theorem dataGet_yes (k f : Int) (b : ByteArray) (w : World) (h : HasData k f b) :
    Calls Try.prog 13 #[.agg #[.int .i64 k, .int .i64 f, .string b]] w fun e w' => e = .returned (gotDataV (be b 0 2) (be b 2 2) (be b 4 2) (f / 2 % 2 == 1) (f % 2 == 1) (f / 4 == 1) (b.extract 6 b.size)) ∧ Below w.heap.size w w' := by
  obtain ⟨rfl, ⟨f0, f1⟩, h7, h26⟩ := h
  exact dataGet_good f _ _ _ (and_two f0 f1) (and_one f0 f1) (and_four f0 f1) b w f0 f1 (by omega) (by omega) (Lib.hid (dataOkV_yes (data_ok (k := 0) (f := f) ⟨rfl, ⟨f0, f1⟩, h7, h26⟩)))

theorem dataGet_no (k f : Int) (b : ByteArray) (w : World) (hm : b.size ≤ 100000000) (h : ¬ HasData k f b) :
    Calls Try.prog 13 #[.agg #[.int .i64 k, .int .i64 f, .string b]] w fun e w' => e = .returned noDataV ∧ Below w.heap.size w w' := by
  by_cases h1 : k = 0 ∧ 0 ≤ f ∧ f ≤ 7
  · obtain ⟨rfl, f0, f1⟩ := h1
    by_cases h2 : 6 ≤ b.size
    · exact dataGet_bad f _ _ _ (and_two f0 f1) (and_one f0 f1) (and_four f0 f1) b w f0 f1 hm h2 (Lib.hid (dataOkV_no (data_not fun h3 => h ⟨rfl, ⟨f0, f1⟩, h3⟩)))
    · exact dataGet_short f b w f0 f1 hm (by omega)
  · exact dataGet_other k f b w h1

end Go.Proofs.Ytpenkcmhmmjmeaa
