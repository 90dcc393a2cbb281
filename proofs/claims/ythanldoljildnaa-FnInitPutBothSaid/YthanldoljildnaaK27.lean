/- The contracts of the program's chapter 12: inits that are read. -/
import Derived.Test.YthanldoljildnaaK27p
namespace Go.Proofs.Ythanldoljildnaa
open Go.RowKit Go.PlainAid

/-- What the reading of an init needs of a world: the chunk, the result's place. -/
structure GetI (N : Nat) (k f : Int) (b : ByteArray) (w W : World) : Prop where
  v : VarN N [.int .i64 k, .int .i64 f, .string b] W
  r : VarN (N + 1) [.int .i64 0, .int .i64 0, .int .i64 0, .int .i64 0] W
  b : Below N w W
theorem GetI.go {N : Nat} {k f : Int} {b : ByteArray} {w W W' : World} (h : GetI N k f b w W) (hb : Below (N + 1 + 1) W W') : GetI N k f b w W' :=
  ⟨h.v.below hb (by omega), h.r.below hb (by omega), h.b.trans (hb.mono (by omega))⟩
theorem cur_new_at {d : Nat} {W : World} (e : W.heap.size = d) (s : ByteArray) (T : TypeId) : Cur d s ((0 : Nat) : Int) (W.alloc (.cells #[.string s, .int .i64 0] T)) := by
  have h := VarN.new_at e [.string s, .int .i64 0] T
  exact ⟨by simp; omega, (h 0 _ rfl).1, (h 1 _ rfl).1, (h 1 _ rfl).2⟩

set_option maxHeartbeats 2000000 in
theorem initGet_other (k f : Int) (b : ByteArray) (w : World) (h : ¬ ((k = 1 ∨ k = 2) ∧ f = 0)) :
    Calls Try.prog 13 #[.agg #[.int .i64 k, .int .i64 f, .string b]] w fun e w' => e = .returned noInitV ∧ Below w.heap.size w w' := by
  have V0 := (VarN.new w [.int .i64 k, .int .i64 f, .string b] 28).alloc (.cells (List.toArray [.int .i64 0, .int .i64 0, .int .i64 0, .int .i64 0]) 24) (by simp)
  have R0 := VarN.new_at (w := w.alloc (.cells (List.toArray [.int .i64 k, .int .i64 f, .string b]) 28)) (d := w.heap.size + 1) (by simp) [.int .i64 0, .int .i64 0, .int .i64 0, .int .i64 0] 24
  have B0 := (below_box (.cells (List.toArray [.int .i64 k, .int .i64 f, .string b]) 28) (Nat.le_refl w.heap.size)).alloc (by simp) (.cells (List.toArray [.int .i64 0, .int .i64 0, .int .i64 0, .int .i64 0]) 24)
  have B1 := Lib.hid B0
  clear V0 R0 B0
  by_cases h1 : k = 1
  · subst h1
    have hf : ¬ f = 0 := fun x => h ⟨.inl rfl, x⟩
    clear h
    go_enter Try.func13, Try.ntmps13
    go_wp2
    refine bodyPost_ret (v := noInitV) ?_ rfl ?_
    · simp [results, Try.results13, go_sem, noInitV]
    · exact ⟨rfl, by repeat (first | with_reducible exact B1.out | refine Below.setCell ?_ (by exact Nat.le_succ _) _)⟩
  · by_cases h2 : k = 2
    · subst h2
      have hf : ¬ f = 0 := fun x => h ⟨.inr rfl, x⟩
      clear h
      go_enter Try.func13, Try.ntmps13
      go_wp2
      refine bodyPost_ret (v := noInitV) ?_ rfl ?_
      · simp [results, Try.results13, go_sem, noInitV]
      · exact ⟨rfl, by repeat (first | with_reducible exact B1.out | refine Below.setCell ?_ (by exact Nat.le_succ _) _)⟩
    · clear h
      go_enter Try.func13, Try.ntmps13
      go_wp2
      refine bodyPost_ret (v := noInitV) ?_ rfl ?_
      · simp [results, Try.results13, go_sem, noInitV]
      · exact ⟨rfl, by repeat (first | with_reducible exact B1.out | refine Below.setCell ?_ (by exact Nat.le_succ _) _)⟩

set_option maxHeartbeats 2000000 in
theorem initGet_tiny_1 (b : ByteArray) (w : World) (hm : b.size ≤ 100000000) (h : b.size < 4) :
    Calls Try.prog 13 #[.agg #[.int .i64 1, .int .i64 0, .string b]] w fun e w' => e = .returned (noInitV) ∧ Below w.heap.size w w' := by
  have V0 := (VarN.new w [.int .i64 1, .int .i64 0, .string b] 28).alloc (.cells (List.toArray [.int .i64 0, .int .i64 0, .int .i64 0, .int .i64 0]) 24) (by simp)
  have R0 := VarN.new_at (w := w.alloc (.cells (List.toArray [.int .i64 1, .int .i64 0, .string b]) 28)) (d := w.heap.size + 1) (by simp) [.int .i64 0, .int .i64 0, .int .i64 0, .int .i64 0] 24
  have B0 := (below_box (.cells (List.toArray [.int .i64 1, .int .i64 0, .string b]) 28) (Nat.le_refl w.heap.size)).alloc (by simp) (.cells (List.toArray [.int .i64 0, .int .i64 0, .int .i64 0, .int .i64 0]) 24)
  have C0 := Lib.hid (cur_new_at (W := (w.alloc (.cells (List.toArray [.int .i64 1, .int .i64 0, .string b]) 28)).alloc (.cells (List.toArray [.int .i64 0, .int .i64 0, .int .i64 0, .int .i64 0]) 24)) (d := w.heap.size + 1 + 1) (by simp) b 53)
  have G0 := Lib.hid ((GetI.mk V0 R0 B0).go ((Below.refl _ _).alloc (by simp) (.cells #[.string b, .int .i64 0] 53)))
  have v0 := (V0 0 _ rfl).1
  have v1 := (V0 1 _ rfl).1
  have v2 := (V0 2 _ rfl).1
  clear V0 R0 B0
  have hs : b.size ≤ maxLen := Nat.le_trans hm (by decide)
  go_enter Try.func13, Try.ntmps13
  go_wp2_with fail
  refine (number_no (w.heap.size + 1 + 1) b ((0 : Nat) : Int) 4 _ hs (by omega) (by omega) C0.out.2.1 C0.out.2.2.1 (by omega)).mono ?_
  rintro e w1 ⟨rfl, q, rfl⟩
  have C1 := Lib.hid (C0.out.drewN q)
  have G1 := Lib.hid (G0.out.go (below_drewN (Below.refl _ _) q))
  clear G0 C0 v0 v1 v2
  generalize hW : World.drewN _ q = W1 at C1 G1 ⊢
  clear hW
  go_wp2_with fail
  refine (words_three_no (w.heap.size + 1 + 1) b ((0 : Nat) : Int) _ hm C1.out (by omega)).mono ?_
  rintro e w2 ⟨rfl, q2, rfl⟩
  have G2 := G1.out.go (below_drewN (Below.refl _ _) q2)
  have B1 := G2.b
  have r0 := (G2.r 0 _ rfl).1
  have rf0 := (G2.r 0 _ rfl).2
  have r1 := (G2.r 1 _ rfl).1
  have rf1 := (G2.r 1 _ rfl).2
  have r2 := (G2.r 2 _ rfl).1
  have rf2 := (G2.r 2 _ rfl).2
  have r3 := (G2.r 3 _ rfl).1
  have rf3 := (G2.r 3 _ rfl).2
  clear G1 C1 G2
  go_wp2
  refine bodyPost_ret (v := noInitV) ?_ rfl ?_
  · simp [results, Try.results13, go_sem, noInitV, r0, r1, r2, r3]
  · exact ⟨rfl, by repeat (first | with_reducible exact B1 | refine Below.setCell ?_ (by exact Nat.le_succ _) _)⟩

set_option maxHeartbeats 2000000 in
theorem initGet_short_1 (b : ByteArray) (w : World) (hm : b.size ≤ 100000000) (h4 : 4 ≤ b.size) (h : b.size < 10) :
    Calls Try.prog 13 #[.agg #[.int .i64 1, .int .i64 0, .string b]] w fun e w' => e = .returned (noInitV) ∧ Below w.heap.size w w' := by
  have V0 := (VarN.new w [.int .i64 1, .int .i64 0, .string b] 28).alloc (.cells (List.toArray [.int .i64 0, .int .i64 0, .int .i64 0, .int .i64 0]) 24) (by simp)
  have R0 := VarN.new_at (w := w.alloc (.cells (List.toArray [.int .i64 1, .int .i64 0, .string b]) 28)) (d := w.heap.size + 1) (by simp) [.int .i64 0, .int .i64 0, .int .i64 0, .int .i64 0] 24
  have B0 := (below_box (.cells (List.toArray [.int .i64 1, .int .i64 0, .string b]) 28) (Nat.le_refl w.heap.size)).alloc (by simp) (.cells (List.toArray [.int .i64 0, .int .i64 0, .int .i64 0, .int .i64 0]) 24)
  have C0 := Lib.hid (cur_new_at (W := (w.alloc (.cells (List.toArray [.int .i64 1, .int .i64 0, .string b]) 28)).alloc (.cells (List.toArray [.int .i64 0, .int .i64 0, .int .i64 0, .int .i64 0]) 24)) (d := w.heap.size + 1 + 1) (by simp) b 53)
  have G0 := Lib.hid ((GetI.mk V0 R0 B0).go ((Below.refl _ _).alloc (by simp) (.cells #[.string b, .int .i64 0] 53)))
  have v0 := (V0 0 _ rfl).1
  have v1 := (V0 1 _ rfl).1
  have v2 := (V0 2 _ rfl).1
  clear V0 R0 B0
  have hs : b.size ≤ maxLen := Nat.le_trans hm (by decide)
  go_enter Try.func13, Try.ntmps13
  go_wp2_with fail
  refine (number_cur (w.heap.size + 1 + 1) b 0 4 _ hs (by decide) C0.out (by omega) _ (Nat.le_refl _)).mono ?_
  rintro e w1 ⟨rfl, hC, hF⟩
  have C1 := Lib.hid (hC.go (q := ((4 : Nat) : Int)) (by omega))
  have G1 := Lib.hid (G0.out.go hF.below)
  clear hC hF G0 C0 v0 v1 v2
  go_wp2_with fail
  refine (words_three_no (w.heap.size + 1 + 1) b ((4 : Nat) : Int) _ hm C1.out (by omega)).mono ?_
  rintro e w2 ⟨rfl, q2, rfl⟩
  have G2 := G1.out.go (below_drewN (Below.refl _ _) q2)
  have B1 := G2.b
  have r0 := (G2.r 0 _ rfl).1
  have rf0 := (G2.r 0 _ rfl).2
  have r1 := (G2.r 1 _ rfl).1
  have rf1 := (G2.r 1 _ rfl).2
  have r2 := (G2.r 2 _ rfl).1
  have rf2 := (G2.r 2 _ rfl).2
  have r3 := (G2.r 3 _ rfl).1
  have rf3 := (G2.r 3 _ rfl).2
  clear G1 C1 G2
  go_wp2
  refine bodyPost_ret (v := noInitV) ?_ rfl ?_
  · simp [results, Try.results13, go_sem, noInitV, r0, r1, r2, r3]
  · exact ⟨rfl, by repeat (first | with_reducible exact B1 | refine Below.setCell ?_ (by exact Nat.le_succ _) _)⟩

set_option maxHeartbeats 2000000 in
theorem initGet_wide_1 (b : ByteArray) (w : World) (hm : b.size ≤ 100000000) (h : 11 ≤ b.size) :
    Calls Try.prog 13 #[.agg #[.int .i64 1, .int .i64 0, .string b]] w fun e w' => e = .returned (noInitV) ∧ Below w.heap.size w w' := by
  have V0 := (VarN.new w [.int .i64 1, .int .i64 0, .string b] 28).alloc (.cells (List.toArray [.int .i64 0, .int .i64 0, .int .i64 0, .int .i64 0]) 24) (by simp)
  have R0 := VarN.new_at (w := w.alloc (.cells (List.toArray [.int .i64 1, .int .i64 0, .string b]) 28)) (d := w.heap.size + 1) (by simp) [.int .i64 0, .int .i64 0, .int .i64 0, .int .i64 0] 24
  have B0 := (below_box (.cells (List.toArray [.int .i64 1, .int .i64 0, .string b]) 28) (Nat.le_refl w.heap.size)).alloc (by simp) (.cells (List.toArray [.int .i64 0, .int .i64 0, .int .i64 0, .int .i64 0]) 24)
  have C0 := Lib.hid (cur_new_at (W := (w.alloc (.cells (List.toArray [.int .i64 1, .int .i64 0, .string b]) 28)).alloc (.cells (List.toArray [.int .i64 0, .int .i64 0, .int .i64 0, .int .i64 0]) 24)) (d := w.heap.size + 1 + 1) (by simp) b 53)
  have G0 := Lib.hid ((GetI.mk V0 R0 B0).go ((Below.refl _ _).alloc (by simp) (.cells #[.string b, .int .i64 0] 53)))
  have v0 := (V0 0 _ rfl).1
  have v1 := (V0 1 _ rfl).1
  have v2 := (V0 2 _ rfl).1
  clear V0 R0 B0
  have hs : b.size ≤ maxLen := Nat.le_trans hm (by decide)
  go_enter Try.func13, Try.ntmps13
  go_wp2_with fail
  refine (number_cur (w.heap.size + 1 + 1) b 0 4 _ hs (by decide) C0.out (by omega) _ (Nat.le_refl _)).mono ?_
  rintro e w1 ⟨rfl, hC, hF⟩
  have C1 := Lib.hid (hC.go (q := ((4 : Nat) : Int)) (by omega))
  have G1 := Lib.hid (G0.out.go hF.below)
  clear hC hF G0 C0 v0 v1 v2
  go_wp2_with fail
  refine (words_three (w.heap.size + 1 + 1) b 4 _ hm C1.out (by omega) _ (Nat.le_refl _)).mono ?_
  rintro e w2 ⟨d, rfl, hd, hV, hC, hF⟩
  have VL2 := Lib.hid (show VarN d [.int .i64 (be b 4 2), .int .i64 (be b 6 2), .int .i64 (be b 8 2)] w2 from hV)
  have C2 := Lib.hid (hC.go (q := ((10 : Nat) : Int)) (by omega))
  have G2 := Lib.hid (G1.out.go hF.below)
  have hd2 : w.heap.size + 1 + 1 < d := Nat.lt_of_lt_of_le C1.out.1 hd
  clear hV hC hF G1 C1 hd
  go_wp2_with fail
  refine (has_yes (w.heap.size + 1 + 1) b ((10 : Nat) : Int) 1 _ hs (by omega) (by omega) C2.out.2.1 C2.out.2.2.1 (by omega) (by omega)).mono ?_
  rintro e w3 ⟨rfl, q3, rfl⟩
  have G3 := G2.out.go (below_drewN (Below.refl _ _) q3)
  have B1 := G3.b
  have r0 := (G3.r 0 _ rfl).1
  have rf0 := (G3.r 0 _ rfl).2
  have r1 := (G3.r 1 _ rfl).1
  have rf1 := (G3.r 1 _ rfl).2
  have r2 := (G3.r 2 _ rfl).1
  have rf2 := (G3.r 2 _ rfl).2
  have r3 := (G3.r 3 _ rfl).1
  have rf3 := (G3.r 3 _ rfl).2
  clear G2 C2 G3 VL2
  go_wp2
  refine bodyPost_ret (v := noInitV) ?_ rfl ?_
  · simp [results, Try.results13, go_sem, noInitV, r0, r1, r2, r3]
  · exact ⟨rfl, by repeat (first | with_reducible exact B1 | refine Below.setCell ?_ (by exact Nat.le_succ _) _)⟩

set_option maxHeartbeats 2000000 in
theorem initGet_bad_1 (b : ByteArray) (w : World) (hm : b.size ≤ 100000000) (h : b.size = 10) (hz : Hid (initOkV (be b 0 4) (be b 4 2) (be b 6 2) (be b 8 2) = false)) :
    Calls Try.prog 13 #[.agg #[.int .i64 1, .int .i64 0, .string b]] w fun e w' => e = .returned (noInitV) ∧ Below w.heap.size w w' := by
  have V0 := (VarN.new w [.int .i64 1, .int .i64 0, .string b] 28).alloc (.cells (List.toArray [.int .i64 0, .int .i64 0, .int .i64 0, .int .i64 0]) 24) (by simp)
  have R0 := VarN.new_at (w := w.alloc (.cells (List.toArray [.int .i64 1, .int .i64 0, .string b]) 28)) (d := w.heap.size + 1) (by simp) [.int .i64 0, .int .i64 0, .int .i64 0, .int .i64 0] 24
  have B0 := (below_box (.cells (List.toArray [.int .i64 1, .int .i64 0, .string b]) 28) (Nat.le_refl w.heap.size)).alloc (by simp) (.cells (List.toArray [.int .i64 0, .int .i64 0, .int .i64 0, .int .i64 0]) 24)
  have C0 := Lib.hid (cur_new_at (W := (w.alloc (.cells (List.toArray [.int .i64 1, .int .i64 0, .string b]) 28)).alloc (.cells (List.toArray [.int .i64 0, .int .i64 0, .int .i64 0, .int .i64 0]) 24)) (d := w.heap.size + 1 + 1) (by simp) b 53)
  have G0 := Lib.hid ((GetI.mk V0 R0 B0).go ((Below.refl _ _).alloc (by simp) (.cells #[.string b, .int .i64 0] 53)))
  have v0 := (V0 0 _ rfl).1
  have v1 := (V0 1 _ rfl).1
  have v2 := (V0 2 _ rfl).1
  clear V0 R0 B0
  have hs : b.size ≤ maxLen := Nat.le_trans hm (by decide)
  go_enter Try.func13, Try.ntmps13
  go_wp2_with fail
  refine (number_cur (w.heap.size + 1 + 1) b 0 4 _ hs (by decide) C0.out (by omega) _ (Nat.le_refl _)).mono ?_
  rintro e w1 ⟨rfl, hC, hF⟩
  have C1 := Lib.hid (hC.go (q := ((4 : Nat) : Int)) (by omega))
  have G1 := Lib.hid (G0.out.go hF.below)
  clear hC hF G0 C0 v0 v1 v2
  go_wp2_with fail
  refine (words_three (w.heap.size + 1 + 1) b 4 _ hm C1.out (by omega) _ (Nat.le_refl _)).mono ?_
  rintro e w2 ⟨d, rfl, hd, hV, hC, hF⟩
  have VL2 := Lib.hid (show VarN d [.int .i64 (be b 4 2), .int .i64 (be b 6 2), .int .i64 (be b 8 2)] w2 from hV)
  have C2 := Lib.hid (hC.go (q := ((10 : Nat) : Int)) (by omega))
  have G2 := Lib.hid (G1.out.go hF.below)
  have hd2 : w.heap.size + 1 + 1 < d := Nat.lt_of_lt_of_le C1.out.1 hd
  clear hV hC hF G1 C1 hd
  go_wp2_with fail
  refine (has_no (w.heap.size + 1 + 1) b ((10 : Nat) : Int) 1 _ hs (by omega) (by omega) C2.out.2.1 C2.out.2.2.1 (by omega)).mono ?_
  rintro e w3 ⟨rfl, q3, rfl⟩
  have hd3 := lt_of_cell (VL2.out 0 _ rfl).1
  have V3 := VL2.out.below (below_drewN (Below.refl w2.heap.size w2) q3) hd3
  have G3 := Lib.hid (G2.out.go (below_drewN (Below.refl _ _) q3))
  have hw3 : w.heap.size + 1 + 1 < (w2.drewN q3).heap.size := by simp; omega
  clear G2 C2 VL2 hd3
  generalize w2.drewN q3 = w3 at *
  have d0 := (V3 0 _ rfl).1
  have d1 := (V3 1 _ rfl).1
  have d2 := (V3 2 _ rfl).1
  have n1 := World.new_ne w3 _ d0
  have n2 := World.new_ne w3 _ d1
  have n3 := World.new_ne w3 _ d2
  clear V3
  go_wp2_with fail
  go_region_held_law (fun W => W.cell? ⟨d, 0, none⟩ = some (.int .i64 (be b 4 2)) ∧ W.cell? ⟨d, 1, none⟩ = some (.int .i64 (be b 6 2)) ∧ W.cell? ⟨d, 2, none⟩ = some (.int .i64 (be b 8 2))) (go_keep) (fail)
  all_goals
    rename_i hHeld
    clear hHeld d0 d1 d2 n1 n2 n3
    have V4 := Lib.hid (varN_drew w3 [.int .i64 (be b 0 4), .int .i64 (be b 4 2), .int .i64 (be b 6 2), .int .i64 (be b 8 2)] 24)
    have G4 := Lib.hid (G3.out.go (Below.drew ((Below.refl (w.heap.size + 1 + 1) w3).alloc (Nat.le_of_lt hw3) (.cells (List.toArray [.int .i64 (be b 0 4), .int .i64 (be b 4 2), .int .i64 (be b 6 2), .int .i64 (be b 8 2)]) 24))))
    clear G3
    go_wp2_with fail
    refine (initValid_any (be b 0 4) (be b 4 2) (be b 6 2) (be b 8 2) _).mono ?_
    rw [hz.out]
    rintro e w5 ⟨rfl, hb5⟩
    have G5 := G4.out.go (hb5.mono (by simp; omega))
    have B1 := G5.b
    have r0 := (G5.r 0 _ rfl).1
    have rf0 := (G5.r 0 _ rfl).2
    have r1 := (G5.r 1 _ rfl).1
    have rf1 := (G5.r 1 _ rfl).2
    have r2 := (G5.r 2 _ rfl).1
    have rf2 := (G5.r 2 _ rfl).2
    have r3 := (G5.r 3 _ rfl).1
    have rf3 := (G5.r 3 _ rfl).2
    clear V4 G4 G5 hb5
    go_wp2
    refine bodyPost_ret (v := noInitV) ?_ rfl ?_
    · simp [results, Try.results13, go_sem, noInitV, r0, r1, r2, r3]
    · exact ⟨rfl, by repeat (first | with_reducible exact B1 | refine Below.setCell ?_ (by exact Nat.le_succ _) _)⟩

set_option maxHeartbeats 2000000 in
theorem initGet_good_1 (b : ByteArray) (w : World) (hm : b.size ≤ 100000000) (h : b.size = 10) (hz : Hid (initOkV (be b 0 4) (be b 4 2) (be b 6 2) (be b 8 2) = true)) :
    Calls Try.prog 13 #[.agg #[.int .i64 1, .int .i64 0, .string b]] w fun e w' => e = .returned (gotInitV (be b 0 4) (be b 4 2) (be b 6 2) (be b 8 2)) ∧ Below w.heap.size w w' := by
  have V0 := (VarN.new w [.int .i64 1, .int .i64 0, .string b] 28).alloc (.cells (List.toArray [.int .i64 0, .int .i64 0, .int .i64 0, .int .i64 0]) 24) (by simp)
  have R0 := VarN.new_at (w := w.alloc (.cells (List.toArray [.int .i64 1, .int .i64 0, .string b]) 28)) (d := w.heap.size + 1) (by simp) [.int .i64 0, .int .i64 0, .int .i64 0, .int .i64 0] 24
  have B0 := (below_box (.cells (List.toArray [.int .i64 1, .int .i64 0, .string b]) 28) (Nat.le_refl w.heap.size)).alloc (by simp) (.cells (List.toArray [.int .i64 0, .int .i64 0, .int .i64 0, .int .i64 0]) 24)
  have C0 := Lib.hid (cur_new_at (W := (w.alloc (.cells (List.toArray [.int .i64 1, .int .i64 0, .string b]) 28)).alloc (.cells (List.toArray [.int .i64 0, .int .i64 0, .int .i64 0, .int .i64 0]) 24)) (d := w.heap.size + 1 + 1) (by simp) b 53)
  have G0 := Lib.hid ((GetI.mk V0 R0 B0).go ((Below.refl _ _).alloc (by simp) (.cells #[.string b, .int .i64 0] 53)))
  have v0 := (V0 0 _ rfl).1
  have v1 := (V0 1 _ rfl).1
  have v2 := (V0 2 _ rfl).1
  clear V0 R0 B0
  have hs : b.size ≤ maxLen := Nat.le_trans hm (by decide)
  go_enter Try.func13, Try.ntmps13
  go_wp2_with fail
  refine (number_cur (w.heap.size + 1 + 1) b 0 4 _ hs (by decide) C0.out (by omega) _ (Nat.le_refl _)).mono ?_
  rintro e w1 ⟨rfl, hC, hF⟩
  have C1 := Lib.hid (hC.go (q := ((4 : Nat) : Int)) (by omega))
  have G1 := Lib.hid (G0.out.go hF.below)
  clear hC hF G0 C0 v0 v1 v2
  go_wp2_with fail
  refine (words_three (w.heap.size + 1 + 1) b 4 _ hm C1.out (by omega) _ (Nat.le_refl _)).mono ?_
  rintro e w2 ⟨d, rfl, hd, hV, hC, hF⟩
  have VL2 := Lib.hid (show VarN d [.int .i64 (be b 4 2), .int .i64 (be b 6 2), .int .i64 (be b 8 2)] w2 from hV)
  have C2 := Lib.hid (hC.go (q := ((10 : Nat) : Int)) (by omega))
  have G2 := Lib.hid (G1.out.go hF.below)
  have hd2 : w.heap.size + 1 + 1 < d := Nat.lt_of_lt_of_le C1.out.1 hd
  clear hV hC hF G1 C1 hd
  go_wp2_with fail
  refine (has_no (w.heap.size + 1 + 1) b ((10 : Nat) : Int) 1 _ hs (by omega) (by omega) C2.out.2.1 C2.out.2.2.1 (by omega)).mono ?_
  rintro e w3 ⟨rfl, q3, rfl⟩
  have hd3 := lt_of_cell (VL2.out 0 _ rfl).1
  have V3 := VL2.out.below (below_drewN (Below.refl w2.heap.size w2) q3) hd3
  have G3 := Lib.hid (G2.out.go (below_drewN (Below.refl _ _) q3))
  have hw3 : w.heap.size + 1 + 1 < (w2.drewN q3).heap.size := by simp; omega
  clear G2 C2 VL2 hd3
  generalize w2.drewN q3 = w3 at *
  have d0 := (V3 0 _ rfl).1
  have d1 := (V3 1 _ rfl).1
  have d2 := (V3 2 _ rfl).1
  have n1 := World.new_ne w3 _ d0
  have n2 := World.new_ne w3 _ d1
  have n3 := World.new_ne w3 _ d2
  clear V3
  go_wp2_with fail
  go_region_held_law (fun W => W.cell? ⟨d, 0, none⟩ = some (.int .i64 (be b 4 2)) ∧ W.cell? ⟨d, 1, none⟩ = some (.int .i64 (be b 6 2)) ∧ W.cell? ⟨d, 2, none⟩ = some (.int .i64 (be b 8 2))) (go_keep) (fail)
  all_goals
    rename_i hHeld
    clear hHeld d0 d1 d2 n1 n2 n3
    have V4 := Lib.hid (varN_drew w3 [.int .i64 (be b 0 4), .int .i64 (be b 4 2), .int .i64 (be b 6 2), .int .i64 (be b 8 2)] 24)
    have G4 := Lib.hid (G3.out.go (Below.drew ((Below.refl (w.heap.size + 1 + 1) w3).alloc (Nat.le_of_lt hw3) (.cells (List.toArray [.int .i64 (be b 0 4), .int .i64 (be b 4 2), .int .i64 (be b 6 2), .int .i64 (be b 8 2)]) 24))))
    clear G3
    go_wp2_with fail
    refine (initValid_any (be b 0 4) (be b 4 2) (be b 6 2) (be b 8 2) _).mono ?_
    rw [hz.out]
    rintro e w5 ⟨rfl, hb5⟩
    have G5 := G4.out.go (hb5.mono (by simp; omega))
    have V5 := V4.out.below hb5 (by simp)
    have B1 := G5.b
    have r0 := (G5.r 0 _ rfl).1
    have rf0 := (G5.r 0 _ rfl).2
    have r1 := (G5.r 1 _ rfl).1
    have rf1 := (G5.r 1 _ rfl).2
    have r2 := (G5.r 2 _ rfl).1
    have rf2 := (G5.r 2 _ rfl).2
    have r3 := (G5.r 3 _ rfl).1
    have rf3 := (G5.r 3 _ rfl).2
    have v0 := (V5 0 _ rfl).1
    have v1 := (V5 1 _ rfl).1
    have v2 := (V5 2 _ rfl).1
    have v3 := (V5 3 _ rfl).1
    clear V4 G4 G5 V5 hb5
    go_wp2
    refine bodyPost_ret (v := gotInitV (be b 0 4) (be b 4 2) (be b 6 2) (be b 8 2)) ?_ rfl ?_
    · simp [results, Try.results13, go_sem, gotInitV, r0, r1, r2, r3]
    · exact ⟨rfl, by repeat (first | with_reducible exact B1 | refine Below.setCell ?_ (by exact Nat.le_succ _) _)⟩

set_option maxHeartbeats 2000000 in
theorem initGet_tiny_2 (b : ByteArray) (w : World) (hm : b.size ≤ 100000000) (h : b.size < 4) :
    Calls Try.prog 13 #[.agg #[.int .i64 2, .int .i64 0, .string b]] w fun e w' => e = .returned (noInitV) ∧ Below w.heap.size w w' := by
  have V0 := (VarN.new w [.int .i64 2, .int .i64 0, .string b] 28).alloc (.cells (List.toArray [.int .i64 0, .int .i64 0, .int .i64 0, .int .i64 0]) 24) (by simp)
  have R0 := VarN.new_at (w := w.alloc (.cells (List.toArray [.int .i64 2, .int .i64 0, .string b]) 28)) (d := w.heap.size + 1) (by simp) [.int .i64 0, .int .i64 0, .int .i64 0, .int .i64 0] 24
  have B0 := (below_box (.cells (List.toArray [.int .i64 2, .int .i64 0, .string b]) 28) (Nat.le_refl w.heap.size)).alloc (by simp) (.cells (List.toArray [.int .i64 0, .int .i64 0, .int .i64 0, .int .i64 0]) 24)
  have C0 := Lib.hid (cur_new_at (W := (w.alloc (.cells (List.toArray [.int .i64 2, .int .i64 0, .string b]) 28)).alloc (.cells (List.toArray [.int .i64 0, .int .i64 0, .int .i64 0, .int .i64 0]) 24)) (d := w.heap.size + 1 + 1) (by simp) b 53)
  have G0 := Lib.hid ((GetI.mk V0 R0 B0).go ((Below.refl _ _).alloc (by simp) (.cells #[.string b, .int .i64 0] 53)))
  have v0 := (V0 0 _ rfl).1
  have v1 := (V0 1 _ rfl).1
  have v2 := (V0 2 _ rfl).1
  clear V0 R0 B0
  have hs : b.size ≤ maxLen := Nat.le_trans hm (by decide)
  go_enter Try.func13, Try.ntmps13
  go_wp2_with fail
  refine (number_no (w.heap.size + 1 + 1) b ((0 : Nat) : Int) 4 _ hs (by omega) (by omega) C0.out.2.1 C0.out.2.2.1 (by omega)).mono ?_
  rintro e w1 ⟨rfl, q, rfl⟩
  have C1 := Lib.hid (C0.out.drewN q)
  have G1 := Lib.hid (G0.out.go (below_drewN (Below.refl _ _) q))
  clear G0 C0 v0 v1 v2
  generalize hW : World.drewN _ q = W1 at C1 G1 ⊢
  clear hW
  go_wp2_with fail
  refine (words_three_no (w.heap.size + 1 + 1) b ((0 : Nat) : Int) _ hm C1.out (by omega)).mono ?_
  rintro e w2 ⟨rfl, q2, rfl⟩
  have G2 := G1.out.go (below_drewN (Below.refl _ _) q2)
  have B1 := G2.b
  have r0 := (G2.r 0 _ rfl).1
  have rf0 := (G2.r 0 _ rfl).2
  have r1 := (G2.r 1 _ rfl).1
  have rf1 := (G2.r 1 _ rfl).2
  have r2 := (G2.r 2 _ rfl).1
  have rf2 := (G2.r 2 _ rfl).2
  have r3 := (G2.r 3 _ rfl).1
  have rf3 := (G2.r 3 _ rfl).2
  clear G1 C1 G2
  go_wp2
  refine bodyPost_ret (v := noInitV) ?_ rfl ?_
  · simp [results, Try.results13, go_sem, noInitV, r0, r1, r2, r3]
  · exact ⟨rfl, by repeat (first | with_reducible exact B1 | refine Below.setCell ?_ (by exact Nat.le_succ _) _)⟩

set_option maxHeartbeats 2000000 in
theorem initGet_short_2 (b : ByteArray) (w : World) (hm : b.size ≤ 100000000) (h4 : 4 ≤ b.size) (h : b.size < 10) :
    Calls Try.prog 13 #[.agg #[.int .i64 2, .int .i64 0, .string b]] w fun e w' => e = .returned (noInitV) ∧ Below w.heap.size w w' := by
  have V0 := (VarN.new w [.int .i64 2, .int .i64 0, .string b] 28).alloc (.cells (List.toArray [.int .i64 0, .int .i64 0, .int .i64 0, .int .i64 0]) 24) (by simp)
  have R0 := VarN.new_at (w := w.alloc (.cells (List.toArray [.int .i64 2, .int .i64 0, .string b]) 28)) (d := w.heap.size + 1) (by simp) [.int .i64 0, .int .i64 0, .int .i64 0, .int .i64 0] 24
  have B0 := (below_box (.cells (List.toArray [.int .i64 2, .int .i64 0, .string b]) 28) (Nat.le_refl w.heap.size)).alloc (by simp) (.cells (List.toArray [.int .i64 0, .int .i64 0, .int .i64 0, .int .i64 0]) 24)
  have C0 := Lib.hid (cur_new_at (W := (w.alloc (.cells (List.toArray [.int .i64 2, .int .i64 0, .string b]) 28)).alloc (.cells (List.toArray [.int .i64 0, .int .i64 0, .int .i64 0, .int .i64 0]) 24)) (d := w.heap.size + 1 + 1) (by simp) b 53)
  have G0 := Lib.hid ((GetI.mk V0 R0 B0).go ((Below.refl _ _).alloc (by simp) (.cells #[.string b, .int .i64 0] 53)))
  have v0 := (V0 0 _ rfl).1
  have v1 := (V0 1 _ rfl).1
  have v2 := (V0 2 _ rfl).1
  clear V0 R0 B0
  have hs : b.size ≤ maxLen := Nat.le_trans hm (by decide)
  go_enter Try.func13, Try.ntmps13
  go_wp2_with fail
  refine (number_cur (w.heap.size + 1 + 1) b 0 4 _ hs (by decide) C0.out (by omega) _ (Nat.le_refl _)).mono ?_
  rintro e w1 ⟨rfl, hC, hF⟩
  have C1 := Lib.hid (hC.go (q := ((4 : Nat) : Int)) (by omega))
  have G1 := Lib.hid (G0.out.go hF.below)
  clear hC hF G0 C0 v0 v1 v2
  go_wp2_with fail
  refine (words_three_no (w.heap.size + 1 + 1) b ((4 : Nat) : Int) _ hm C1.out (by omega)).mono ?_
  rintro e w2 ⟨rfl, q2, rfl⟩
  have G2 := G1.out.go (below_drewN (Below.refl _ _) q2)
  have B1 := G2.b
  have r0 := (G2.r 0 _ rfl).1
  have rf0 := (G2.r 0 _ rfl).2
  have r1 := (G2.r 1 _ rfl).1
  have rf1 := (G2.r 1 _ rfl).2
  have r2 := (G2.r 2 _ rfl).1
  have rf2 := (G2.r 2 _ rfl).2
  have r3 := (G2.r 3 _ rfl).1
  have rf3 := (G2.r 3 _ rfl).2
  clear G1 C1 G2
  go_wp2
  refine bodyPost_ret (v := noInitV) ?_ rfl ?_
  · simp [results, Try.results13, go_sem, noInitV, r0, r1, r2, r3]
  · exact ⟨rfl, by repeat (first | with_reducible exact B1 | refine Below.setCell ?_ (by exact Nat.le_succ _) _)⟩

set_option maxHeartbeats 2000000 in
theorem initGet_wide_2 (b : ByteArray) (w : World) (hm : b.size ≤ 100000000) (h : 11 ≤ b.size) :
    Calls Try.prog 13 #[.agg #[.int .i64 2, .int .i64 0, .string b]] w fun e w' => e = .returned (noInitV) ∧ Below w.heap.size w w' := by
  have V0 := (VarN.new w [.int .i64 2, .int .i64 0, .string b] 28).alloc (.cells (List.toArray [.int .i64 0, .int .i64 0, .int .i64 0, .int .i64 0]) 24) (by simp)
  have R0 := VarN.new_at (w := w.alloc (.cells (List.toArray [.int .i64 2, .int .i64 0, .string b]) 28)) (d := w.heap.size + 1) (by simp) [.int .i64 0, .int .i64 0, .int .i64 0, .int .i64 0] 24
  have B0 := (below_box (.cells (List.toArray [.int .i64 2, .int .i64 0, .string b]) 28) (Nat.le_refl w.heap.size)).alloc (by simp) (.cells (List.toArray [.int .i64 0, .int .i64 0, .int .i64 0, .int .i64 0]) 24)
  have C0 := Lib.hid (cur_new_at (W := (w.alloc (.cells (List.toArray [.int .i64 2, .int .i64 0, .string b]) 28)).alloc (.cells (List.toArray [.int .i64 0, .int .i64 0, .int .i64 0, .int .i64 0]) 24)) (d := w.heap.size + 1 + 1) (by simp) b 53)
  have G0 := Lib.hid ((GetI.mk V0 R0 B0).go ((Below.refl _ _).alloc (by simp) (.cells #[.string b, .int .i64 0] 53)))
  have v0 := (V0 0 _ rfl).1
  have v1 := (V0 1 _ rfl).1
  have v2 := (V0 2 _ rfl).1
  clear V0 R0 B0
  have hs : b.size ≤ maxLen := Nat.le_trans hm (by decide)
  go_enter Try.func13, Try.ntmps13
  go_wp2_with fail
  refine (number_cur (w.heap.size + 1 + 1) b 0 4 _ hs (by decide) C0.out (by omega) _ (Nat.le_refl _)).mono ?_
  rintro e w1 ⟨rfl, hC, hF⟩
  have C1 := Lib.hid (hC.go (q := ((4 : Nat) : Int)) (by omega))
  have G1 := Lib.hid (G0.out.go hF.below)
  clear hC hF G0 C0 v0 v1 v2
  go_wp2_with fail
  refine (words_three (w.heap.size + 1 + 1) b 4 _ hm C1.out (by omega) _ (Nat.le_refl _)).mono ?_
  rintro e w2 ⟨d, rfl, hd, hV, hC, hF⟩
  have VL2 := Lib.hid (show VarN d [.int .i64 (be b 4 2), .int .i64 (be b 6 2), .int .i64 (be b 8 2)] w2 from hV)
  have C2 := Lib.hid (hC.go (q := ((10 : Nat) : Int)) (by omega))
  have G2 := Lib.hid (G1.out.go hF.below)
  have hd2 : w.heap.size + 1 + 1 < d := Nat.lt_of_lt_of_le C1.out.1 hd
  clear hV hC hF G1 C1 hd
  go_wp2_with fail
  refine (has_yes (w.heap.size + 1 + 1) b ((10 : Nat) : Int) 1 _ hs (by omega) (by omega) C2.out.2.1 C2.out.2.2.1 (by omega) (by omega)).mono ?_
  rintro e w3 ⟨rfl, q3, rfl⟩
  have G3 := G2.out.go (below_drewN (Below.refl _ _) q3)
  have B1 := G3.b
  have r0 := (G3.r 0 _ rfl).1
  have rf0 := (G3.r 0 _ rfl).2
  have r1 := (G3.r 1 _ rfl).1
  have rf1 := (G3.r 1 _ rfl).2
  have r2 := (G3.r 2 _ rfl).1
  have rf2 := (G3.r 2 _ rfl).2
  have r3 := (G3.r 3 _ rfl).1
  have rf3 := (G3.r 3 _ rfl).2
  clear G2 C2 G3 VL2
  go_wp2
  refine bodyPost_ret (v := noInitV) ?_ rfl ?_
  · simp [results, Try.results13, go_sem, noInitV, r0, r1, r2, r3]
  · exact ⟨rfl, by repeat (first | with_reducible exact B1 | refine Below.setCell ?_ (by exact Nat.le_succ _) _)⟩

set_option maxHeartbeats 2000000 in
theorem initGet_bad_2 (b : ByteArray) (w : World) (hm : b.size ≤ 100000000) (h : b.size = 10) (hz : Hid (initOkV (be b 0 4) (be b 4 2) (be b 6 2) (be b 8 2) = false)) :
    Calls Try.prog 13 #[.agg #[.int .i64 2, .int .i64 0, .string b]] w fun e w' => e = .returned (noInitV) ∧ Below w.heap.size w w' := by
  have V0 := (VarN.new w [.int .i64 2, .int .i64 0, .string b] 28).alloc (.cells (List.toArray [.int .i64 0, .int .i64 0, .int .i64 0, .int .i64 0]) 24) (by simp)
  have R0 := VarN.new_at (w := w.alloc (.cells (List.toArray [.int .i64 2, .int .i64 0, .string b]) 28)) (d := w.heap.size + 1) (by simp) [.int .i64 0, .int .i64 0, .int .i64 0, .int .i64 0] 24
  have B0 := (below_box (.cells (List.toArray [.int .i64 2, .int .i64 0, .string b]) 28) (Nat.le_refl w.heap.size)).alloc (by simp) (.cells (List.toArray [.int .i64 0, .int .i64 0, .int .i64 0, .int .i64 0]) 24)
  have C0 := Lib.hid (cur_new_at (W := (w.alloc (.cells (List.toArray [.int .i64 2, .int .i64 0, .string b]) 28)).alloc (.cells (List.toArray [.int .i64 0, .int .i64 0, .int .i64 0, .int .i64 0]) 24)) (d := w.heap.size + 1 + 1) (by simp) b 53)
  have G0 := Lib.hid ((GetI.mk V0 R0 B0).go ((Below.refl _ _).alloc (by simp) (.cells #[.string b, .int .i64 0] 53)))
  have v0 := (V0 0 _ rfl).1
  have v1 := (V0 1 _ rfl).1
  have v2 := (V0 2 _ rfl).1
  clear V0 R0 B0
  have hs : b.size ≤ maxLen := Nat.le_trans hm (by decide)
  go_enter Try.func13, Try.ntmps13
  go_wp2_with fail
  refine (number_cur (w.heap.size + 1 + 1) b 0 4 _ hs (by decide) C0.out (by omega) _ (Nat.le_refl _)).mono ?_
  rintro e w1 ⟨rfl, hC, hF⟩
  have C1 := Lib.hid (hC.go (q := ((4 : Nat) : Int)) (by omega))
  have G1 := Lib.hid (G0.out.go hF.below)
  clear hC hF G0 C0 v0 v1 v2
  go_wp2_with fail
  refine (words_three (w.heap.size + 1 + 1) b 4 _ hm C1.out (by omega) _ (Nat.le_refl _)).mono ?_
  rintro e w2 ⟨d, rfl, hd, hV, hC, hF⟩
  have VL2 := Lib.hid (show VarN d [.int .i64 (be b 4 2), .int .i64 (be b 6 2), .int .i64 (be b 8 2)] w2 from hV)
  have C2 := Lib.hid (hC.go (q := ((10 : Nat) : Int)) (by omega))
  have G2 := Lib.hid (G1.out.go hF.below)
  have hd2 : w.heap.size + 1 + 1 < d := Nat.lt_of_lt_of_le C1.out.1 hd
  clear hV hC hF G1 C1 hd
  go_wp2_with fail
  refine (has_no (w.heap.size + 1 + 1) b ((10 : Nat) : Int) 1 _ hs (by omega) (by omega) C2.out.2.1 C2.out.2.2.1 (by omega)).mono ?_
  rintro e w3 ⟨rfl, q3, rfl⟩
  have hd3 := lt_of_cell (VL2.out 0 _ rfl).1
  have V3 := VL2.out.below (below_drewN (Below.refl w2.heap.size w2) q3) hd3
  have G3 := Lib.hid (G2.out.go (below_drewN (Below.refl _ _) q3))
  have hw3 : w.heap.size + 1 + 1 < (w2.drewN q3).heap.size := by simp; omega
  clear G2 C2 VL2 hd3
  generalize w2.drewN q3 = w3 at *
  have d0 := (V3 0 _ rfl).1
  have d1 := (V3 1 _ rfl).1
  have d2 := (V3 2 _ rfl).1
  have n1 := World.new_ne w3 _ d0
  have n2 := World.new_ne w3 _ d1
  have n3 := World.new_ne w3 _ d2
  clear V3
  go_wp2_with fail
  go_region_held_law (fun W => W.cell? ⟨d, 0, none⟩ = some (.int .i64 (be b 4 2)) ∧ W.cell? ⟨d, 1, none⟩ = some (.int .i64 (be b 6 2)) ∧ W.cell? ⟨d, 2, none⟩ = some (.int .i64 (be b 8 2))) (go_keep) (fail)
  all_goals
    rename_i hHeld
    clear hHeld d0 d1 d2 n1 n2 n3
    have V4 := Lib.hid (varN_drew w3 [.int .i64 (be b 0 4), .int .i64 (be b 4 2), .int .i64 (be b 6 2), .int .i64 (be b 8 2)] 24)
    have G4 := Lib.hid (G3.out.go (Below.drew ((Below.refl (w.heap.size + 1 + 1) w3).alloc (Nat.le_of_lt hw3) (.cells (List.toArray [.int .i64 (be b 0 4), .int .i64 (be b 4 2), .int .i64 (be b 6 2), .int .i64 (be b 8 2)]) 24))))
    clear G3
    go_wp2_with fail
    refine (initValid_any (be b 0 4) (be b 4 2) (be b 6 2) (be b 8 2) _).mono ?_
    rw [hz.out]
    rintro e w5 ⟨rfl, hb5⟩
    have G5 := G4.out.go (hb5.mono (by simp; omega))
    have B1 := G5.b
    have r0 := (G5.r 0 _ rfl).1
    have rf0 := (G5.r 0 _ rfl).2
    have r1 := (G5.r 1 _ rfl).1
    have rf1 := (G5.r 1 _ rfl).2
    have r2 := (G5.r 2 _ rfl).1
    have rf2 := (G5.r 2 _ rfl).2
    have r3 := (G5.r 3 _ rfl).1
    have rf3 := (G5.r 3 _ rfl).2
    clear V4 G4 G5 hb5
    go_wp2
    refine bodyPost_ret (v := noInitV) ?_ rfl ?_
    · simp [results, Try.results13, go_sem, noInitV, r0, r1, r2, r3]
    · exact ⟨rfl, by repeat (first | with_reducible exact B1 | refine Below.setCell ?_ (by exact Nat.le_succ _) _)⟩

set_option maxHeartbeats 2000000 in
theorem initGet_good_2 (b : ByteArray) (w : World) (hm : b.size ≤ 100000000) (h : b.size = 10) (hz : Hid (initOkV (be b 0 4) (be b 4 2) (be b 6 2) (be b 8 2) = true)) :
    Calls Try.prog 13 #[.agg #[.int .i64 2, .int .i64 0, .string b]] w fun e w' => e = .returned (gotInitV (be b 0 4) (be b 4 2) (be b 6 2) (be b 8 2)) ∧ Below w.heap.size w w' := by
  have V0 := (VarN.new w [.int .i64 2, .int .i64 0, .string b] 28).alloc (.cells (List.toArray [.int .i64 0, .int .i64 0, .int .i64 0, .int .i64 0]) 24) (by simp)
  have R0 := VarN.new_at (w := w.alloc (.cells (List.toArray [.int .i64 2, .int .i64 0, .string b]) 28)) (d := w.heap.size + 1) (by simp) [.int .i64 0, .int .i64 0, .int .i64 0, .int .i64 0] 24
  have B0 := (below_box (.cells (List.toArray [.int .i64 2, .int .i64 0, .string b]) 28) (Nat.le_refl w.heap.size)).alloc (by simp) (.cells (List.toArray [.int .i64 0, .int .i64 0, .int .i64 0, .int .i64 0]) 24)
  have C0 := Lib.hid (cur_new_at (W := (w.alloc (.cells (List.toArray [.int .i64 2, .int .i64 0, .string b]) 28)).alloc (.cells (List.toArray [.int .i64 0, .int .i64 0, .int .i64 0, .int .i64 0]) 24)) (d := w.heap.size + 1 + 1) (by simp) b 53)
  have G0 := Lib.hid ((GetI.mk V0 R0 B0).go ((Below.refl _ _).alloc (by simp) (.cells #[.string b, .int .i64 0] 53)))
  have v0 := (V0 0 _ rfl).1
  have v1 := (V0 1 _ rfl).1
  have v2 := (V0 2 _ rfl).1
  clear V0 R0 B0
  have hs : b.size ≤ maxLen := Nat.le_trans hm (by decide)
  go_enter Try.func13, Try.ntmps13
  go_wp2_with fail
  refine (number_cur (w.heap.size + 1 + 1) b 0 4 _ hs (by decide) C0.out (by omega) _ (Nat.le_refl _)).mono ?_
  rintro e w1 ⟨rfl, hC, hF⟩
  have C1 := Lib.hid (hC.go (q := ((4 : Nat) : Int)) (by omega))
  have G1 := Lib.hid (G0.out.go hF.below)
  clear hC hF G0 C0 v0 v1 v2
  go_wp2_with fail
  refine (words_three (w.heap.size + 1 + 1) b 4 _ hm C1.out (by omega) _ (Nat.le_refl _)).mono ?_
  rintro e w2 ⟨d, rfl, hd, hV, hC, hF⟩
  have VL2 := Lib.hid (show VarN d [.int .i64 (be b 4 2), .int .i64 (be b 6 2), .int .i64 (be b 8 2)] w2 from hV)
  have C2 := Lib.hid (hC.go (q := ((10 : Nat) : Int)) (by omega))
  have G2 := Lib.hid (G1.out.go hF.below)
  have hd2 : w.heap.size + 1 + 1 < d := Nat.lt_of_lt_of_le C1.out.1 hd
  clear hV hC hF G1 C1 hd
  go_wp2_with fail
  refine (has_no (w.heap.size + 1 + 1) b ((10 : Nat) : Int) 1 _ hs (by omega) (by omega) C2.out.2.1 C2.out.2.2.1 (by omega)).mono ?_
  rintro e w3 ⟨rfl, q3, rfl⟩
  have hd3 := lt_of_cell (VL2.out 0 _ rfl).1
  have V3 := VL2.out.below (below_drewN (Below.refl w2.heap.size w2) q3) hd3
  have G3 := Lib.hid (G2.out.go (below_drewN (Below.refl _ _) q3))
  have hw3 : w.heap.size + 1 + 1 < (w2.drewN q3).heap.size := by simp; omega
  clear G2 C2 VL2 hd3
  generalize w2.drewN q3 = w3 at *
  have d0 := (V3 0 _ rfl).1
  have d1 := (V3 1 _ rfl).1
  have d2 := (V3 2 _ rfl).1
  have n1 := World.new_ne w3 _ d0
  have n2 := World.new_ne w3 _ d1
  have n3 := World.new_ne w3 _ d2
  clear V3
  go_wp2_with fail
  go_region_held_law (fun W => W.cell? ⟨d, 0, none⟩ = some (.int .i64 (be b 4 2)) ∧ W.cell? ⟨d, 1, none⟩ = some (.int .i64 (be b 6 2)) ∧ W.cell? ⟨d, 2, none⟩ = some (.int .i64 (be b 8 2))) (go_keep) (fail)
  all_goals
    rename_i hHeld
    clear hHeld d0 d1 d2 n1 n2 n3
    have V4 := Lib.hid (varN_drew w3 [.int .i64 (be b 0 4), .int .i64 (be b 4 2), .int .i64 (be b 6 2), .int .i64 (be b 8 2)] 24)
    have G4 := Lib.hid (G3.out.go (Below.drew ((Below.refl (w.heap.size + 1 + 1) w3).alloc (Nat.le_of_lt hw3) (.cells (List.toArray [.int .i64 (be b 0 4), .int .i64 (be b 4 2), .int .i64 (be b 6 2), .int .i64 (be b 8 2)]) 24))))
    clear G3
    go_wp2_with fail
    refine (initValid_any (be b 0 4) (be b 4 2) (be b 6 2) (be b 8 2) _).mono ?_
    rw [hz.out]
    rintro e w5 ⟨rfl, hb5⟩
    have G5 := G4.out.go (hb5.mono (by simp; omega))
    have V5 := V4.out.below hb5 (by simp)
    have B1 := G5.b
    have r0 := (G5.r 0 _ rfl).1
    have rf0 := (G5.r 0 _ rfl).2
    have r1 := (G5.r 1 _ rfl).1
    have rf1 := (G5.r 1 _ rfl).2
    have r2 := (G5.r 2 _ rfl).1
    have rf2 := (G5.r 2 _ rfl).2
    have r3 := (G5.r 3 _ rfl).1
    have rf3 := (G5.r 3 _ rfl).2
    have v0 := (V5 0 _ rfl).1
    have v1 := (V5 1 _ rfl).1
    have v2 := (V5 2 _ rfl).1
    have v3 := (V5 3 _ rfl).1
    clear V4 G4 G5 V5 hb5
    go_wp2
    refine bodyPost_ret (v := gotInitV (be b 0 4) (be b 4 2) (be b 6 2) (be b 8 2)) ?_ rfl ?_
    · simp [results, Try.results13, go_sem, gotInitV, r0, r1, r2, r3]
    · exact ⟨rfl, by repeat (first | with_reducible exact B1 | refine Below.setCell ?_ (by exact Nat.le_succ _) _)⟩

theorem initGet_yes (k f : Int) (b : ByteArray) (w : World) (h : HasInit k f b) :
    Calls Try.prog 13 #[.agg #[.int .i64 k, .int .i64 f, .string b]] w fun e w' => e = .returned (gotInitV (be b 0 4) (be b 4 2) (be b 6 2) (be b 8 2)) ∧ Below w.heap.size w w' := by
  have E := Lib.hid (initOkV_yes (init_ok h))
  obtain ⟨hk, rfl, hz, _⟩ := h
  rcases hk with rfl | rfl
  · exact initGet_good_1 b w (by omega) hz E
  · exact initGet_good_2 b w (by omega) hz E

theorem initGet_no (k f : Int) (b : ByteArray) (w : World) (hm : b.size ≤ 100000000) (h : ¬ HasInit k f b) :
    Calls Try.prog 13 #[.agg #[.int .i64 k, .int .i64 f, .string b]] w fun e w' => e = .returned noInitV ∧ Below w.heap.size w w' := by
  by_cases h1 : (k = 1 ∨ k = 2) ∧ f = 0
  · obtain ⟨hk, rfl⟩ := h1
    have E : b.size = 10 → Hid (initOkV (be b 0 4) (be b 4 2) (be b 6 2) (be b 8 2) = false) := fun hz => Lib.hid (initOkV_no fun o => h ⟨hk, rfl, hz, o.1.1, o.2.2.1.1, o.2.2.1.2⟩)
    rcases hk with rfl | rfl
    · by_cases h4 : b.size < 4
      · exact initGet_tiny_1 b w hm h4
      · by_cases h10 : b.size < 10
        · exact initGet_short_1 b w hm (by omega) h10
        · by_cases he : b.size = 10
          · exact initGet_bad_1 b w hm he (E he)
          · exact initGet_wide_1 b w hm (by omega)
    · by_cases h4 : b.size < 4
      · exact initGet_tiny_2 b w hm h4
      · by_cases h10 : b.size < 10
        · exact initGet_short_2 b w hm (by omega) h10
        · by_cases he : b.size = 10
          · exact initGet_bad_2 b w hm he (E he)
          · exact initGet_wide_2 b w hm (by omega)
  · exact initGet_other k f b w h1

end Go.Proofs.Ythanldoljildnaa
