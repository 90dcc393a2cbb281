/- The walks of the exact laws on receipts that are written and asked. -/
import Derived.Test.YtnahecpmmbdobaaK31
import Derived.Test.YtnahecpmmbdobaaK32
import Derived.Test.YtnahecpmmbdobaaK17
import Derived.Handy
namespace Go.Proofs.Ytnahecpmmbdobaa
open Go.RowKit Go.PlainAid

theorem Gaps.len_le {w : World} {a : Option Addr} {len cap : Nat} {gs : List (Int × Int)} (h : Gaps w a len cap gs) : len ≤ 9223372036854775807 := by
  rcases h with ⟨_, rfl, _⟩ | ⟨_, _, h1, h2, _⟩
  · omega
  · unfold maxLen at h2
    omega
/-- What the last comparison of a law needs to know of a world. -/
theorem keptC2 {p q p' q' : Addr} {x y x' y' : Value} {a b : Option Addr} {l1 c1 l2 c2 : Nat} {gs hs : List (Int × Int)} {w W W' : World}
    (h : W.cell? p = some x ∧ W.cell? q = some y ∧ W.cell? p' = some x' ∧ W.cell? q' = some y' ∧ Gaps W a l1 c1 gs ∧ Gaps W b l2 c2 hs ∧ Below w.heap.size w W) (hb : Below W.heap.size W W') :
    W'.cell? p = some x ∧ W'.cell? q = some y ∧ W'.cell? p' = some x' ∧ W'.cell? q' = some y' ∧ Gaps W' a l1 c1 gs ∧ Gaps W' b l2 c2 hs ∧ Below w.heap.size w W' := by
  obtain ⟨h1, h2, h3, h4, h5, h6, h7⟩ := h
  exact ⟨(hb.cell (World.block_lt_of_cell? W _ h1)).trans h1, (hb.cell (World.block_lt_of_cell? W _ h2)).trans h2, (hb.cell (World.block_lt_of_cell? W _ h3)).trans h3, (hb.cell (World.block_lt_of_cell? W _ h4)).trans h4, h5.below hb, h6.below hb, h7.trans (hb.mono h7.size)⟩

set_option maxHeartbeats 1000000 in
theorem eqChunk_same (k f : Int) (b : ByteArray) (w : World) :
    Calls Try.prog 28 #[.agg #[.int .i64 k, .int .i64 f, .string b], .agg #[.int .i64 k, .int .i64 f, .string b]] w fun e w' => e = .returned (.bool true) ∧ Below w.heap.size w w' := by
  go_enter Try.func28, Try.ntmps28
  go_wp2
  go_ret
  exact ⟨rfl, (below_box _ (Nat.le_refl _)).alloc (by simp) _⟩

set_option maxHeartbeats 2000000 in
theorem walk_fnExactSackPut (c : Int) (a : Option Addr) (len cap : Nat) (gs : List (Int × Int)) (w1 : World) (h : Gaps w1 a len cap gs) :
    Calls Try.prog 10 #[.agg #[.int .i64 c, .slice a len cap]] w1 fun e w' => e = .returned (.bool true) ∧ Below w1.heap.size w1 w' := by
  have hb1 := Below.refl w1.heap.size w1
  have hm := h.len_le
  have GA := Lib.hid h
  clear h
  by_cases hz : len ≤ 1048576
  · have HZ := Lib.hid hz
    clear hz
    go_enter Try.func10, Try.ntmps10
    by_cases hc : SackOk c gs
    · have HC := Lib.hid hc
      clear hc
      go_wp2_with fail
      refine (szSack_yes c a len cap _ HZ.out).mono ?_
      rintro e w2 ⟨rfl, hb2⟩
      have Vp := Lib.hid ((VarN.new_at (w := w1) (d := w1.heap.size) (by simp) [.int .i64 c, .slice a len cap] 46).below hb2 (by simp))
      have HB2 := Lib.hid (((hb1).alloc (Nat.le_trans hb1.size (by exact Nat.le_refl _)) (.cells (List.toArray [.int .i64 c, .slice a len cap]) 46)).trans (hb2.mono (Nat.le_trans hb1.size (by simp <;> omega))))
      have ltp : w1.heap.size < w2.heap.size := lt_of_cell (Vp.out 0 _ rfl).1
      have nep : ¬ w1.heap.size = w2.heap.size := by omega
      have GA := Lib.hid (((GA.out).below (below_box (.cells (List.toArray [.int .i64 c, .slice a len cap]) 46) (Nat.le_refl _))).below hb2)
      clear hb2
      have p0 := (Vp.out 0 _ rfl).1
      have pf0 := (Vp.out 0 _ rfl).2
      have p1 := (Vp.out 1 _ rfl).1
      have pf1 := (Vp.out 1 _ rfl).2
      have tz : (len : Int) ≤ 1048576 := by have := HZ.out; omega
      go_wp2_with fail
      refine (toSack_any c a len cap gs _ GA.out HZ.out).mono ?_
      rintro e w3 ⟨⟨d1, rfl, hd1, hg1⟩, hb3⟩
      clear p0 pf0 p1 pf1
      have Vp := Lib.hid ((Vp.out).below hb3 ltp)
      have HB3 := Lib.hid (HB2.out.trans (hb3.mono HB2.out.size))
      have ltp : w1.heap.size < w3.heap.size := lt_of_cell (Vp.out 0 _ rfl).1
      have nep : ¬ w1.heap.size = w3.heap.size := by omega
      have GA := Lib.hid ((GA.out).below hb3)
      clear hb3
      have G1 := Lib.hid hg1
      clear hg1 hd1
      go_wp2_with fail
      refine (sSackPut_yes c _ len len gs _ G1.out HC.out).mono ?_
      rintro e w4 ⟨rfl, hb4⟩
      have Vp := Lib.hid ((Vp.out).below hb4 ltp)
      have HB4 := Lib.hid (HB3.out.trans (hb4.mono HB3.out.size))
      have ltp : w1.heap.size < w4.heap.size := lt_of_cell (Vp.out 0 _ rfl).1
      have nep : ¬ w1.heap.size = w4.heap.size := by omega
      have GA := Lib.hid ((GA.out).below hb4)
      have G1 := Lib.hid ((G1.out).below hb4)
      clear hb4
      unfold madeV
      have p0 := (Vp.out 0 _ rfl).1
      have pf0 := (Vp.out 0 _ rfl).2
      have p1 := (Vp.out 1 _ rfl).1
      have pf1 := (Vp.out 1 _ rfl).2
      go_wp2_with fail
      refine (toSack_any c a len cap gs _ ((GA.out).below (below_box (.cells (List.toArray [.int .i64 3, .int .i64 0, .string (sackS c gs)]) 28) (Nat.le_refl _))) HZ.out).mono ?_
      rintro e w5 ⟨⟨d2, rfl, hd2, hg2⟩, hb5⟩
      clear p0 pf0 p1 pf1
      have Vp := Lib.hid (((Vp.out).alloc (.cells (List.toArray [.int .i64 3, .int .i64 0, .string (sackS c gs)]) 28) (by omega)).below hb5 (by simp; omega))
      have Vv := Lib.hid ((VarN.new_at (w := w4) (d := w4.heap.size) (by simp) [.int .i64 3, .int .i64 0, .string (sackS c gs)] 28).below hb5 (by simp))
      have HB5 := Lib.hid (((HB4.out).alloc (Nat.le_trans HB4.out.size (by exact Nat.le_refl _)) (.cells (List.toArray [.int .i64 3, .int .i64 0, .string (sackS c gs)]) 28)).trans (hb5.mono (Nat.le_trans HB4.out.size (by simp <;> omega))))
      have ltp : w1.heap.size < w5.heap.size := lt_of_cell (Vp.out 0 _ rfl).1
      have ltv : w4.heap.size < w5.heap.size := lt_of_cell (Vv.out 0 _ rfl).1
      have nep : ¬ w1.heap.size = w5.heap.size := by omega
      have nev : ¬ w4.heap.size = w5.heap.size := by omega
      have GA := Lib.hid (((GA.out).below (below_box (.cells (List.toArray [.int .i64 3, .int .i64 0, .string (sackS c gs)]) 28) (Nat.le_refl _))).below hb5)
      have G1 := Lib.hid (((G1.out).below (below_box (.cells (List.toArray [.int .i64 3, .int .i64 0, .string (sackS c gs)]) 28) (Nat.le_refl _))).below hb5)
      clear hb5
      have G2 := Lib.hid hg2
      clear hg2 hd2
      go_wp2_with fail
      refine (sackPut_yes c _ len len gs _ ((G2.out).below (below_box (.cells (List.toArray [.int .i64 c, .slice (some ⟨d2, 0, none⟩) len len]) 25) (Nat.le_refl _))) HC.out).mono ?_
      rintro e w6 ⟨rfl, hb6⟩
      have Vp := Lib.hid (((Vp.out).alloc (.cells (List.toArray [.int .i64 c, .slice (some ⟨d2, 0, none⟩) len len]) 25) (by omega)).below hb6 (by simp; omega))
      have Vv := Lib.hid (((Vv.out).alloc (.cells (List.toArray [.int .i64 c, .slice (some ⟨d2, 0, none⟩) len len]) 25) (by omega)).below hb6 (by simp; omega))
      have Vs := Lib.hid ((VarN.new_at (w := w5) (d := w5.heap.size) (by simp) [.int .i64 c, .slice (some ⟨d2, 0, none⟩) len len] 25).below hb6 (by simp))
      have HB6 := Lib.hid (((HB5.out).alloc (Nat.le_trans HB5.out.size (by exact Nat.le_refl _)) (.cells (List.toArray [.int .i64 c, .slice (some ⟨d2, 0, none⟩) len len]) 25)).trans (hb6.mono (Nat.le_trans HB5.out.size (by simp <;> omega))))
      have ltp : w1.heap.size < w6.heap.size := lt_of_cell (Vp.out 0 _ rfl).1
      have ltv : w4.heap.size < w6.heap.size := lt_of_cell (Vv.out 0 _ rfl).1
      have lts : w5.heap.size < w6.heap.size := lt_of_cell (Vs.out 0 _ rfl).1
      have nep : ¬ w1.heap.size = w6.heap.size := by omega
      have nev : ¬ w4.heap.size = w6.heap.size := by omega
      have nes : ¬ w5.heap.size = w6.heap.size := by omega
      have GA := Lib.hid (((GA.out).below (below_box (.cells (List.toArray [.int .i64 c, .slice (some ⟨d2, 0, none⟩) len len]) 25) (Nat.le_refl _))).below hb6)
      have G1 := Lib.hid (((G1.out).below (below_box (.cells (List.toArray [.int .i64 c, .slice (some ⟨d2, 0, none⟩) len len]) 25) (Nat.le_refl _))).below hb6)
      have G2 := Lib.hid (((G2.out).below (below_box (.cells (List.toArray [.int .i64 c, .slice (some ⟨d2, 0, none⟩) len len]) 25) (Nat.le_refl _))).below hb6)
      clear hb6
      unfold madeV
      have v0 := (Vv.out 0 _ rfl).1
      have vf0 := (Vv.out 0 _ rfl).2
      have v1 := (Vv.out 1 _ rfl).1
      have vf1 := (Vv.out 1 _ rfl).2
      have v2 := (Vv.out 2 _ rfl).1
      have vf2 := (Vv.out 2 _ rfl).2
      go_wp2_with fail
      refine (eqChunk_same 3 0 (sackS c gs) _).mono ?_
      rintro e w7 ⟨rfl, hb7⟩
      clear v0 vf0 v1 vf1 v2 vf2
      have Vp := Lib.hid (((Vp.out).alloc (.cells (List.toArray [.int .i64 3, .int .i64 0, .string (sackS c gs)]) 28) (by omega)).below hb7 (by simp; omega))
      have Vv := Lib.hid (((Vv.out).alloc (.cells (List.toArray [.int .i64 3, .int .i64 0, .string (sackS c gs)]) 28) (by omega)).below hb7 (by simp; omega))
      have Vs := Lib.hid (((Vs.out).alloc (.cells (List.toArray [.int .i64 3, .int .i64 0, .string (sackS c gs)]) 28) (by omega)).below hb7 (by simp; omega))
      have Vg := Lib.hid ((VarN.new_at (w := w6) (d := w6.heap.size) (by simp) [.int .i64 3, .int .i64 0, .string (sackS c gs)] 28).below hb7 (by simp))
      have HB7 := Lib.hid (((HB6.out).alloc (Nat.le_trans HB6.out.size (by exact Nat.le_refl _)) (.cells (List.toArray [.int .i64 3, .int .i64 0, .string (sackS c gs)]) 28)).trans (hb7.mono (Nat.le_trans HB6.out.size (by simp <;> omega))))
      have ltp : w1.heap.size < w7.heap.size := lt_of_cell (Vp.out 0 _ rfl).1
      have ltv : w4.heap.size < w7.heap.size := lt_of_cell (Vv.out 0 _ rfl).1
      have lts : w5.heap.size < w7.heap.size := lt_of_cell (Vs.out 0 _ rfl).1
      have ltg : w6.heap.size < w7.heap.size := lt_of_cell (Vg.out 0 _ rfl).1
      have nep : ¬ w1.heap.size = w7.heap.size := by omega
      have nev : ¬ w4.heap.size = w7.heap.size := by omega
      have nes : ¬ w5.heap.size = w7.heap.size := by omega
      have neg : ¬ w6.heap.size = w7.heap.size := by omega
      have GA := Lib.hid (((GA.out).below (below_box (.cells (List.toArray [.int .i64 3, .int .i64 0, .string (sackS c gs)]) 28) (Nat.le_refl _))).below hb7)
      have G1 := Lib.hid (((G1.out).below (below_box (.cells (List.toArray [.int .i64 3, .int .i64 0, .string (sackS c gs)]) 28) (Nat.le_refl _))).below hb7)
      have G2 := Lib.hid (((G2.out).below (below_box (.cells (List.toArray [.int .i64 3, .int .i64 0, .string (sackS c gs)]) 28) (Nat.le_refl _))).below hb7)
      clear hb7
      have p0 := (Vp.out 0 _ rfl).1
      have pf0 := (Vp.out 0 _ rfl).2
      have p1 := (Vp.out 1 _ rfl).1
      have pf1 := (Vp.out 1 _ rfl).2
      have s0 := (Vs.out 0 _ rfl).1
      have sf0 := (Vs.out 0 _ rfl).2
      have s1 := (Vs.out 1 _ rfl).1
      have sf1 := (Vs.out 1 _ rfl).2
      have hS := keptC2 (W := w7) (w := w7) (p := ⟨w5.heap.size, 0, none⟩) (q := ⟨w5.heap.size, 1, none⟩) (p' := ⟨w1.heap.size, 0, none⟩) (q' := ⟨w1.heap.size, 1, none⟩) ⟨s0, s1, p0, p1, GA.out, G2.out, Below.refl _ _⟩ (Below.drew (Below.refl _ _))
      go_wp2_with fail
      go_region_held_law (fun W => W.cell? ⟨w5.heap.size, 0, none⟩ = some (.int .i64 c) ∧ W.cell? ⟨w5.heap.size, 1, none⟩ = some (.slice (some ⟨d2, 0, none⟩) len len) ∧ W.cell? ⟨w1.heap.size, 0, none⟩ = some (.int .i64 c) ∧ W.cell? ⟨w1.heap.size, 1, none⟩ = some (.slice a len cap) ∧ Gaps W a len cap gs ∧ Gaps W (some ⟨d2, 0, none⟩) len len gs ∧ Below w7.heap.size w7 W)
        (first | with_reducible assumption | with_reducible exact hS | exact keptC2 (by assumption) (by assumption))
        (first | (go_simp; go_at_call 27; refine (toSack_any c a len cap gs _ (by go_split_ands; assumption) HZ.out).mono ?_; rintro e w' ⟨⟨d, rfl, hd, hgg⟩, hbn⟩) | (go_simp; go_at_call 29; refine (eqSack_same c _ _ len len len gs _ (by go_split_ands; assumption) (by assumption)).mono ?_; rintro e w' ⟨rfl, hbn⟩))
      all_goals
        rename_i hHeld
        have HW := Lib.hid hHeld.2.2.2.2.2.2
        clear hHeld s0 sf0 s1 sf1 p0 pf0 p1 pf1
        go_wp2
        go_ret
        exact ⟨rfl, HB7.out.trans (HW.out.mono HB7.out.size)⟩
    · have HC := Lib.hid hc
      clear hc
      go_wp2_with fail
      refine (szSack_yes c a len cap _ HZ.out).mono ?_
      rintro e w2 ⟨rfl, hb2⟩
      have Vp := Lib.hid ((VarN.new_at (w := w1) (d := w1.heap.size) (by simp) [.int .i64 c, .slice a len cap] 46).below hb2 (by simp))
      have HB2 := Lib.hid (((hb1).alloc (Nat.le_trans hb1.size (by exact Nat.le_refl _)) (.cells (List.toArray [.int .i64 c, .slice a len cap]) 46)).trans (hb2.mono (Nat.le_trans hb1.size (by simp <;> omega))))
      have ltp : w1.heap.size < w2.heap.size := lt_of_cell (Vp.out 0 _ rfl).1
      have nep : ¬ w1.heap.size = w2.heap.size := by omega
      have GA := Lib.hid (((GA.out).below (below_box (.cells (List.toArray [.int .i64 c, .slice a len cap]) 46) (Nat.le_refl _))).below hb2)
      clear hb2
      have p0 := (Vp.out 0 _ rfl).1
      have pf0 := (Vp.out 0 _ rfl).2
      have p1 := (Vp.out 1 _ rfl).1
      have pf1 := (Vp.out 1 _ rfl).2
      have tz : (len : Int) ≤ 1048576 := by have := HZ.out; omega
      go_wp2_with fail
      refine (toSack_any c a len cap gs _ GA.out HZ.out).mono ?_
      rintro e w3 ⟨⟨d1, rfl, hd1, hg1⟩, hb3⟩
      clear p0 pf0 p1 pf1
      have Vp := Lib.hid ((Vp.out).below hb3 ltp)
      have HB3 := Lib.hid (HB2.out.trans (hb3.mono HB2.out.size))
      have ltp : w1.heap.size < w3.heap.size := lt_of_cell (Vp.out 0 _ rfl).1
      have nep : ¬ w1.heap.size = w3.heap.size := by omega
      have GA := Lib.hid ((GA.out).below hb3)
      clear hb3
      have G1 := Lib.hid hg1
      clear hg1 hd1
      go_wp2_with fail
      refine (sSackPut_no c _ len len gs _ G1.out HC.out).mono ?_
      rintro e w4 ⟨rfl, hb4⟩
      have Vp := Lib.hid ((Vp.out).below hb4 ltp)
      have HB4 := Lib.hid (HB3.out.trans (hb4.mono HB3.out.size))
      have ltp : w1.heap.size < w4.heap.size := lt_of_cell (Vp.out 0 _ rfl).1
      have nep : ¬ w1.heap.size = w4.heap.size := by omega
      have GA := Lib.hid ((GA.out).below hb4)
      have G1 := Lib.hid ((G1.out).below hb4)
      clear hb4
      unfold notMadeV
      have p0 := (Vp.out 0 _ rfl).1
      have pf0 := (Vp.out 0 _ rfl).2
      have p1 := (Vp.out 1 _ rfl).1
      have pf1 := (Vp.out 1 _ rfl).2
      go_wp2_with fail
      refine (toSack_any c a len cap gs _ ((GA.out).below (below_box (.cells (List.toArray [.int .i64 0, .int .i64 0, .string (ByteArray.mk #[])]) 28) (Nat.le_refl _))) HZ.out).mono ?_
      rintro e w5 ⟨⟨d2, rfl, hd2, hg2⟩, hb5⟩
      clear p0 pf0 p1 pf1
      have Vp := Lib.hid (((Vp.out).alloc (.cells (List.toArray [.int .i64 0, .int .i64 0, .string (ByteArray.mk #[])]) 28) (by omega)).below hb5 (by simp; omega))
      have Vv := Lib.hid ((VarN.new_at (w := w4) (d := w4.heap.size) (by simp) [.int .i64 0, .int .i64 0, .string (ByteArray.mk #[])] 28).below hb5 (by simp))
      have HB5 := Lib.hid (((HB4.out).alloc (Nat.le_trans HB4.out.size (by exact Nat.le_refl _)) (.cells (List.toArray [.int .i64 0, .int .i64 0, .string (ByteArray.mk #[])]) 28)).trans (hb5.mono (Nat.le_trans HB4.out.size (by simp <;> omega))))
      have ltp : w1.heap.size < w5.heap.size := lt_of_cell (Vp.out 0 _ rfl).1
      have ltv : w4.heap.size < w5.heap.size := lt_of_cell (Vv.out 0 _ rfl).1
      have nep : ¬ w1.heap.size = w5.heap.size := by omega
      have nev : ¬ w4.heap.size = w5.heap.size := by omega
      have GA := Lib.hid (((GA.out).below (below_box (.cells (List.toArray [.int .i64 0, .int .i64 0, .string (ByteArray.mk #[])]) 28) (Nat.le_refl _))).below hb5)
      have G1 := Lib.hid (((G1.out).below (below_box (.cells (List.toArray [.int .i64 0, .int .i64 0, .string (ByteArray.mk #[])]) 28) (Nat.le_refl _))).below hb5)
      clear hb5
      have G2 := Lib.hid hg2
      clear hg2 hd2
      go_wp2_with fail
      refine (sackPut_no c _ len len gs _ ((G2.out).below (below_box (.cells (List.toArray [.int .i64 c, .slice (some ⟨d2, 0, none⟩) len len]) 25) (Nat.le_refl _))) HC.out).mono ?_
      rintro e w6 ⟨rfl, hb6⟩
      have Vp := Lib.hid (((Vp.out).alloc (.cells (List.toArray [.int .i64 c, .slice (some ⟨d2, 0, none⟩) len len]) 25) (by omega)).below hb6 (by simp; omega))
      have Vv := Lib.hid (((Vv.out).alloc (.cells (List.toArray [.int .i64 c, .slice (some ⟨d2, 0, none⟩) len len]) 25) (by omega)).below hb6 (by simp; omega))
      have Vs := Lib.hid ((VarN.new_at (w := w5) (d := w5.heap.size) (by simp) [.int .i64 c, .slice (some ⟨d2, 0, none⟩) len len] 25).below hb6 (by simp))
      have HB6 := Lib.hid (((HB5.out).alloc (Nat.le_trans HB5.out.size (by exact Nat.le_refl _)) (.cells (List.toArray [.int .i64 c, .slice (some ⟨d2, 0, none⟩) len len]) 25)).trans (hb6.mono (Nat.le_trans HB5.out.size (by simp <;> omega))))
      have ltp : w1.heap.size < w6.heap.size := lt_of_cell (Vp.out 0 _ rfl).1
      have ltv : w4.heap.size < w6.heap.size := lt_of_cell (Vv.out 0 _ rfl).1
      have lts : w5.heap.size < w6.heap.size := lt_of_cell (Vs.out 0 _ rfl).1
      have nep : ¬ w1.heap.size = w6.heap.size := by omega
      have nev : ¬ w4.heap.size = w6.heap.size := by omega
      have nes : ¬ w5.heap.size = w6.heap.size := by omega
      have GA := Lib.hid (((GA.out).below (below_box (.cells (List.toArray [.int .i64 c, .slice (some ⟨d2, 0, none⟩) len len]) 25) (Nat.le_refl _))).below hb6)
      have G1 := Lib.hid (((G1.out).below (below_box (.cells (List.toArray [.int .i64 c, .slice (some ⟨d2, 0, none⟩) len len]) 25) (Nat.le_refl _))).below hb6)
      have G2 := Lib.hid (((G2.out).below (below_box (.cells (List.toArray [.int .i64 c, .slice (some ⟨d2, 0, none⟩) len len]) 25) (Nat.le_refl _))).below hb6)
      clear hb6
      unfold notMadeV
      have v0 := (Vv.out 0 _ rfl).1
      have vf0 := (Vv.out 0 _ rfl).2
      have v1 := (Vv.out 1 _ rfl).1
      have vf1 := (Vv.out 1 _ rfl).2
      have v2 := (Vv.out 2 _ rfl).1
      have vf2 := (Vv.out 2 _ rfl).2
      go_wp2_with fail
      refine (eqChunk_same 0 0 (ByteArray.mk #[]) _).mono ?_
      rintro e w7 ⟨rfl, hb7⟩
      clear v0 vf0 v1 vf1 v2 vf2
      have Vp := Lib.hid (((Vp.out).alloc (.cells (List.toArray [.int .i64 0, .int .i64 0, .string (ByteArray.mk #[])]) 28) (by omega)).below hb7 (by simp; omega))
      have Vv := Lib.hid (((Vv.out).alloc (.cells (List.toArray [.int .i64 0, .int .i64 0, .string (ByteArray.mk #[])]) 28) (by omega)).below hb7 (by simp; omega))
      have Vs := Lib.hid (((Vs.out).alloc (.cells (List.toArray [.int .i64 0, .int .i64 0, .string (ByteArray.mk #[])]) 28) (by omega)).below hb7 (by simp; omega))
      have Vg := Lib.hid ((VarN.new_at (w := w6) (d := w6.heap.size) (by simp) [.int .i64 0, .int .i64 0, .string (ByteArray.mk #[])] 28).below hb7 (by simp))
      have HB7 := Lib.hid (((HB6.out).alloc (Nat.le_trans HB6.out.size (by exact Nat.le_refl _)) (.cells (List.toArray [.int .i64 0, .int .i64 0, .string (ByteArray.mk #[])]) 28)).trans (hb7.mono (Nat.le_trans HB6.out.size (by simp <;> omega))))
      have ltp : w1.heap.size < w7.heap.size := lt_of_cell (Vp.out 0 _ rfl).1
      have ltv : w4.heap.size < w7.heap.size := lt_of_cell (Vv.out 0 _ rfl).1
      have lts : w5.heap.size < w7.heap.size := lt_of_cell (Vs.out 0 _ rfl).1
      have ltg : w6.heap.size < w7.heap.size := lt_of_cell (Vg.out 0 _ rfl).1
      have nep : ¬ w1.heap.size = w7.heap.size := by omega
      have nev : ¬ w4.heap.size = w7.heap.size := by omega
      have nes : ¬ w5.heap.size = w7.heap.size := by omega
      have neg : ¬ w6.heap.size = w7.heap.size := by omega
      have GA := Lib.hid (((GA.out).below (below_box (.cells (List.toArray [.int .i64 0, .int .i64 0, .string (ByteArray.mk #[])]) 28) (Nat.le_refl _))).below hb7)
      have G1 := Lib.hid (((G1.out).below (below_box (.cells (List.toArray [.int .i64 0, .int .i64 0, .string (ByteArray.mk #[])]) 28) (Nat.le_refl _))).below hb7)
      have G2 := Lib.hid (((G2.out).below (below_box (.cells (List.toArray [.int .i64 0, .int .i64 0, .string (ByteArray.mk #[])]) 28) (Nat.le_refl _))).below hb7)
      clear hb7
      have p0 := (Vp.out 0 _ rfl).1
      have pf0 := (Vp.out 0 _ rfl).2
      have p1 := (Vp.out 1 _ rfl).1
      have pf1 := (Vp.out 1 _ rfl).2
      have s0 := (Vs.out 0 _ rfl).1
      have sf0 := (Vs.out 0 _ rfl).2
      have s1 := (Vs.out 1 _ rfl).1
      have sf1 := (Vs.out 1 _ rfl).2
      have hS := keptC2 (W := w7) (w := w7) (p := ⟨w5.heap.size, 0, none⟩) (q := ⟨w5.heap.size, 1, none⟩) (p' := ⟨w1.heap.size, 0, none⟩) (q' := ⟨w1.heap.size, 1, none⟩) ⟨s0, s1, p0, p1, GA.out, G2.out, Below.refl _ _⟩ (Below.drew (Below.refl _ _))
      go_wp2_with fail
      go_region_held_law (fun W => W.cell? ⟨w5.heap.size, 0, none⟩ = some (.int .i64 c) ∧ W.cell? ⟨w5.heap.size, 1, none⟩ = some (.slice (some ⟨d2, 0, none⟩) len len) ∧ W.cell? ⟨w1.heap.size, 0, none⟩ = some (.int .i64 c) ∧ W.cell? ⟨w1.heap.size, 1, none⟩ = some (.slice a len cap) ∧ Gaps W a len cap gs ∧ Gaps W (some ⟨d2, 0, none⟩) len len gs ∧ Below w7.heap.size w7 W)
        (first | with_reducible assumption | with_reducible exact hS | exact keptC2 (by assumption) (by assumption))
        (first | (go_simp; go_at_call 27; refine (toSack_any c a len cap gs _ (by go_split_ands; assumption) HZ.out).mono ?_; rintro e w' ⟨⟨d, rfl, hd, hgg⟩, hbn⟩) | (go_simp; go_at_call 29; refine (eqSack_same c _ _ len len len gs _ (by go_split_ands; assumption) (by assumption)).mono ?_; rintro e w' ⟨rfl, hbn⟩))
      all_goals
        rename_i hHeld
        have HW := Lib.hid hHeld.2.2.2.2.2.2
        clear hHeld s0 sf0 s1 sf1 p0 pf0 p1 pf1
        go_wp2
        go_ret
        exact ⟨rfl, HB7.out.trans (HW.out.mono HB7.out.size)⟩
  · have HZ := Lib.hid (show 1048576 < len by omega)
    clear hz
    go_enter Try.func10, Try.ntmps10
    go_wp2_with fail
    refine (szSack_no c a len cap _ HZ.out hm).mono ?_
    rintro e w2 ⟨rfl, hb2⟩
    have Vp := Lib.hid ((VarN.new_at (w := w1) (d := w1.heap.size) (by simp) [.int .i64 c, .slice a len cap] 46).below hb2 (by simp))
    have HB2 := Lib.hid (((hb1).alloc (Nat.le_trans hb1.size (by exact Nat.le_refl _)) (.cells (List.toArray [.int .i64 c, .slice a len cap]) 46)).trans (hb2.mono (Nat.le_trans hb1.size (by simp <;> omega))))
    have ltp : w1.heap.size < w2.heap.size := lt_of_cell (Vp.out 0 _ rfl).1
    have nep : ¬ w1.heap.size = w2.heap.size := by omega
    clear hb2
    go_wp2
    go_ret
    exact ⟨rfl, HB2.out⟩

set_option maxHeartbeats 2000000 in
theorem walk_fnExactSackHas (c : Int) (a : Option Addr) (len cap : Nat) (gs : List (Int × Int)) (s : Int) (w1 : World) (h : Gaps w1 a len cap gs) :
    Calls Try.prog 12 #[.agg #[.int .i64 c, .slice a len cap], .int .i64 s] w1 fun e w' => e = .returned (.bool true) ∧ Below w1.heap.size w1 w' := by
  have hb1 := Below.refl w1.heap.size w1
  have hm := h.len_le
  have GA := Lib.hid h
  clear h
  by_cases hz : len ≤ 1048576
  · have HZ := Lib.hid hz
    clear hz
    go_enter Try.func12, Try.ntmps12
    go_wp2_with fail
    refine (szSack_yes c a len cap _ HZ.out).mono ?_
    rintro e w2 ⟨rfl, hb2⟩
    have Vp := Lib.hid ((VarN.new_at (w := w1) (d := w1.heap.size) (by simp) [.int .i64 c, .slice a len cap] 46).below hb2 (by simp))
    have HB2 := Lib.hid (((hb1).alloc (Nat.le_trans hb1.size (by exact Nat.le_refl _)) (.cells (List.toArray [.int .i64 c, .slice a len cap]) 46)).trans (hb2.mono (Nat.le_trans hb1.size (by simp <;> omega))))
    have ltp : w1.heap.size < w2.heap.size := lt_of_cell (Vp.out 0 _ rfl).1
    have nep : ¬ w1.heap.size = w2.heap.size := by omega
    have GA := Lib.hid (((GA.out).below (below_box (.cells (List.toArray [.int .i64 c, .slice a len cap]) 46) (Nat.le_refl _))).below hb2)
    clear hb2
    have p0 := (Vp.out 0 _ rfl).1
    have pf0 := (Vp.out 0 _ rfl).2
    have p1 := (Vp.out 1 _ rfl).1
    have pf1 := (Vp.out 1 _ rfl).2
    have tz : (len : Int) ≤ 1048576 := by have := HZ.out; omega
    go_wp2_with fail
    refine (toSack_any c a len cap gs _ GA.out HZ.out).mono ?_
    rintro e w3 ⟨⟨d1, rfl, hd1, hg1⟩, hb3⟩
    clear p0 pf0 p1 pf1
    have Vp := Lib.hid ((Vp.out).below hb3 ltp)
    have HB3 := Lib.hid (HB2.out.trans (hb3.mono HB2.out.size))
    have ltp : w1.heap.size < w3.heap.size := lt_of_cell (Vp.out 0 _ rfl).1
    have nep : ¬ w1.heap.size = w3.heap.size := by omega
    have GA := Lib.hid ((GA.out).below hb3)
    clear hb3
    have G1 := Lib.hid hg1
    clear hg1 hd1
    go_wp2_with fail
    refine (sSackHas_any c s _ len len gs _ G1.out).mono ?_
    rintro e w4 ⟨rfl, hb4⟩
    have Vp := Lib.hid ((Vp.out).below hb4 ltp)
    have HB4 := Lib.hid (HB3.out.trans (hb4.mono HB3.out.size))
    have ltp : w1.heap.size < w4.heap.size := lt_of_cell (Vp.out 0 _ rfl).1
    have nep : ¬ w1.heap.size = w4.heap.size := by omega
    have GA := Lib.hid ((GA.out).below hb4)
    have G1 := Lib.hid ((G1.out).below hb4)
    clear hb4
    have p0 := (Vp.out 0 _ rfl).1
    have pf0 := (Vp.out 0 _ rfl).2
    have p1 := (Vp.out 1 _ rfl).1
    have pf1 := (Vp.out 1 _ rfl).2
    go_wp2_with fail
    refine (toSack_any c a len cap gs _ GA.out HZ.out).mono ?_
    rintro e w5 ⟨⟨d2, rfl, hd2, hg2⟩, hb5⟩
    clear p0 pf0 p1 pf1
    have Vp := Lib.hid ((Vp.out).below hb5 ltp)
    have HB5 := Lib.hid (HB4.out.trans (hb5.mono HB4.out.size))
    have ltp : w1.heap.size < w5.heap.size := lt_of_cell (Vp.out 0 _ rfl).1
    have nep : ¬ w1.heap.size = w5.heap.size := by omega
    have GA := Lib.hid ((GA.out).below hb5)
    have G1 := Lib.hid ((G1.out).below hb5)
    clear hb5
    have G2 := Lib.hid hg2
    clear hg2 hd2
    go_wp2_with fail
    refine (sackHas_any c s _ len len gs _ ((G2.out).below (below_box (.cells (List.toArray [.int .i64 c, .slice (some ⟨d2, 0, none⟩) len len]) 25) (Nat.le_refl _)))).mono ?_
    rintro e w6 ⟨rfl, hb6⟩
    have Vp := Lib.hid (((Vp.out).alloc (.cells (List.toArray [.int .i64 c, .slice (some ⟨d2, 0, none⟩) len len]) 25) (by omega)).below hb6 (by simp; omega))
    have Vs := Lib.hid ((VarN.new_at (w := w5) (d := w5.heap.size) (by simp) [.int .i64 c, .slice (some ⟨d2, 0, none⟩) len len] 25).below hb6 (by simp))
    have HB6 := Lib.hid (((HB5.out).alloc (Nat.le_trans HB5.out.size (by exact Nat.le_refl _)) (.cells (List.toArray [.int .i64 c, .slice (some ⟨d2, 0, none⟩) len len]) 25)).trans (hb6.mono (Nat.le_trans HB5.out.size (by simp <;> omega))))
    have ltp : w1.heap.size < w6.heap.size := lt_of_cell (Vp.out 0 _ rfl).1
    have lts : w5.heap.size < w6.heap.size := lt_of_cell (Vs.out 0 _ rfl).1
    have nep : ¬ w1.heap.size = w6.heap.size := by omega
    have nes : ¬ w5.heap.size = w6.heap.size := by omega
    have GA := Lib.hid (((GA.out).below (below_box (.cells (List.toArray [.int .i64 c, .slice (some ⟨d2, 0, none⟩) len len]) 25) (Nat.le_refl _))).below hb6)
    have G1 := Lib.hid (((G1.out).below (below_box (.cells (List.toArray [.int .i64 c, .slice (some ⟨d2, 0, none⟩) len len]) 25) (Nat.le_refl _))).below hb6)
    have G2 := Lib.hid (((G2.out).below (below_box (.cells (List.toArray [.int .i64 c, .slice (some ⟨d2, 0, none⟩) len len]) 25) (Nat.le_refl _))).below hb6)
    clear hb6
    have p0 := (Vp.out 0 _ rfl).1
    have pf0 := (Vp.out 0 _ rfl).2
    have p1 := (Vp.out 1 _ rfl).1
    have pf1 := (Vp.out 1 _ rfl).2
    have s0 := (Vs.out 0 _ rfl).1
    have sf0 := (Vs.out 0 _ rfl).2
    have s1 := (Vs.out 1 _ rfl).1
    have sf1 := (Vs.out 1 _ rfl).2
    have hS := keptC2 (W := w6) (w := w6) (p := ⟨w5.heap.size, 0, none⟩) (q := ⟨w5.heap.size, 1, none⟩) (p' := ⟨w1.heap.size, 0, none⟩) (q' := ⟨w1.heap.size, 1, none⟩) ⟨s0, s1, p0, p1, GA.out, G2.out, Below.refl _ _⟩ (Below.drew (Below.refl _ _))
    go_wp2_with fail
    go_region_held_law (fun W => W.cell? ⟨w5.heap.size, 0, none⟩ = some (.int .i64 c) ∧ W.cell? ⟨w5.heap.size, 1, none⟩ = some (.slice (some ⟨d2, 0, none⟩) len len) ∧ W.cell? ⟨w1.heap.size, 0, none⟩ = some (.int .i64 c) ∧ W.cell? ⟨w1.heap.size, 1, none⟩ = some (.slice a len cap) ∧ Gaps W a len cap gs ∧ Gaps W (some ⟨d2, 0, none⟩) len len gs ∧ Below w6.heap.size w6 W)
      (first | with_reducible assumption | with_reducible exact hS | exact keptC2 (by assumption) (by assumption))
      (first | (go_simp; go_at_call 27; refine (toSack_any c a len cap gs _ (by go_split_ands; assumption) HZ.out).mono ?_; rintro e w' ⟨⟨d, rfl, hd, hgg⟩, hbn⟩) | (go_simp; go_at_call 29; refine (eqSack_same c _ _ len len len gs _ (by go_split_ands; assumption) (by assumption)).mono ?_; rintro e w' ⟨rfl, hbn⟩))
    all_goals
      rename_i hHeld
      have HW := Lib.hid hHeld.2.2.2.2.2.2
      clear hHeld s0 sf0 s1 sf1 p0 pf0 p1 pf1
      go_wp2
      go_ret
      exact ⟨rfl, HB6.out.trans (HW.out.mono HB6.out.size)⟩
  · have HZ := Lib.hid (show 1048576 < len by omega)
    clear hz
    go_enter Try.func12, Try.ntmps12
    go_wp2_with fail
    refine (szSack_no c a len cap _ HZ.out hm).mono ?_
    rintro e w2 ⟨rfl, hb2⟩
    have Vp := Lib.hid ((VarN.new_at (w := w1) (d := w1.heap.size) (by simp) [.int .i64 c, .slice a len cap] 46).below hb2 (by simp))
    have HB2 := Lib.hid (((hb1).alloc (Nat.le_trans hb1.size (by exact Nat.le_refl _)) (.cells (List.toArray [.int .i64 c, .slice a len cap]) 46)).trans (hb2.mono (Nat.le_trans hb1.size (by simp <;> omega))))
    have ltp : w1.heap.size < w2.heap.size := lt_of_cell (Vp.out 0 _ rfl).1
    have nep : ¬ w1.heap.size = w2.heap.size := by omega
    clear hb2
    go_wp2
    go_ret
    exact ⟨rfl, HB2.out⟩

end Go.Proofs.Ytnahecpmmbdobaa
