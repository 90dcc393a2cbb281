/- The walk of the law on the edges of blocks. -/
import Derived.Test.YtnahecpmmbdobaaW17
namespace Go.Proofs.Ytnahecpmmbdobaa
open Go.RowKit Go.PlainAid

theorem keptH {p q p' q' : Addr} {x y x' y' : Value} {a : Option Addr} {l c : Nat} {gs : List (Int × Int)} {w W W' : World}
    (h : W.cell? p = some x ∧ W.cell? q = some y ∧ W.cell? p' = some x' ∧ W.cell? q' = some y' ∧ Gaps W a l c gs ∧ Below w.heap.size w W) (hb : Below W.heap.size W W') :
    W'.cell? p = some x ∧ W'.cell? q = some y ∧ W'.cell? p' = some x' ∧ W'.cell? q' = some y' ∧ Gaps W' a l c gs ∧ Below w.heap.size w W' := by
  obtain ⟨h1, h2, h3, h4, h5, h7⟩ := h
  exact ⟨(hb.cell (World.block_lt_of_cell? W _ h1)).trans h1, (hb.cell (World.block_lt_of_cell? W _ h2)).trans h2, (hb.cell (World.block_lt_of_cell? W _ h3)).trans h3, (hb.cell (World.block_lt_of_cell? W _ h4)).trans h4, h5.below hb, h7.trans (hb.mono h7.size)⟩
theorem block_edges : ∀ {l : Int} {gs : List (Int × Int)} {k : Nat} {f t : Int}, GapsOk l gs → k < gs.length → (gs.getD k (0, 0)).1 = f → (gs.getD k (0, 0)).2 = t →
    (l + 2 ≤ f ∧ f ≤ t ∧ t ≤ 16) ∧ blockV f gs = true ∧ blockV t gs = true ∧ blockV (f - 1) gs = false ∧ blockV (t + 1) gs = false
  | _, [], _, _, _, _, hk, _, _ => by simp at hk
  | l, x :: gs, 0, f, t, ⟨h1, h2, h3, h4⟩, _, hf, ht => by
    obtain rfl : x.1 = f := hf
    obtain rfl : x.2 = t := ht
    have b1 := block_before h4 (show x.1 - 1 ≤ x.2 + 1 by omega)
    have b2 := block_before h4 (show x.2 + 1 ≤ x.2 + 1 by omega)
    refine ⟨⟨h1, h2, h3⟩, ?_, ?_, ?_, ?_⟩
    · unfold blockV
      rw [List.any_cons, decide_eq_true (show x.1 ≤ x.1 ∧ x.1 ≤ x.2 by omega), Bool.true_or]
    · unfold blockV
      rw [List.any_cons, decide_eq_true (show x.1 ≤ x.2 ∧ x.2 ≤ x.2 by omega), Bool.true_or]
    · unfold blockV at b1 ⊢
      rw [List.any_cons, b1, Bool.or_false]
      exact decide_eq_false (by omega)
    · unfold blockV at b2 ⊢
      rw [List.any_cons, b2, Bool.or_false]
      exact decide_eq_false (by omega)
  | l, x :: gs, k + 1, f, t, ⟨h1, h2, h3, h4⟩, hk, hf, ht => by
    obtain ⟨⟨e1, e2, e3⟩, b1, b2, b3, b4⟩ := block_edges (k := k) (f := f) (t := t) h4 (by simpa using hk) (by simpa using hf) (by simpa using ht)
    refine ⟨⟨by omega, e2, e3⟩, ?_, ?_, ?_, ?_⟩
    · unfold blockV at b1 ⊢
      rw [List.any_cons, b1, Bool.or_true]
    · unfold blockV at b2 ⊢
      rw [List.any_cons, b2, Bool.or_true]
    · unfold blockV at b3 ⊢
      rw [List.any_cons, b3, Bool.or_false]
      exact decide_eq_false (by omega)
    · unfold blockV at b4 ⊢
      rw [List.any_cons, b4, Bool.or_false]
      exact decide_eq_false (by omega)

set_option maxHeartbeats 4000000 in
theorem walk_fnSackEdges (a0 : Option Addr) (len0 cap0 : Nat) (z0 : List Int) (w : World) (w0 : IsRow .u8 w a0 len0 cap0 z0) :
    Calls Try.prog 9 #[.slice a0 len0 cap0] w fun e w' => e = .returned (.bool true) ∧ Below w.heap.size w w' := by
  have H := Lib.hid w0
  clear w0
  by_cases hl : (1048576 : Int) < len0
  · go_enter Try.func9, Try.ntmps9
    go_wp2
    go_ret
    exact ⟨rfl, Below.refl _ _⟩
  · go_enter Try.func9, Try.ntmps9
    go_wp2_with fail
    refine (drawSackPut_any a0 len0 cap0 z0 _ H.out).mono ?_
    rintro e w1 ⟨c, g, k, cap, gs, rfl, ⟨nc0, nc1⟩, nk, hgp, hsm, hb1⟩
    have GA := Lib.hid hgp
    clear hgp
    by_cases hc : SackOk c gs
    · have HC := Lib.hid hc
      clear hc
      go_wp2_with fail
      refine (sackPut_yes c _ k cap gs _ ((GA.out).below (below_box (.cells (List.toArray [.int .i64 c, .slice (some ⟨g, 0, none⟩) k cap]) 25) (Nat.le_refl _))) HC.out).mono ?_
      rintro e w2 ⟨rfl, hb2⟩
      have Vv := Lib.hid ((VarN.new_at (w := w1) (d := w1.heap.size) (by simp) [.int .i64 c, .slice (some ⟨g, 0, none⟩) k cap] 25).below hb2 (by simp))
      have HB2 := Lib.hid (((hb1).alloc (Nat.le_trans hb1.size (by exact Nat.le_refl _)) (.cells (List.toArray [.int .i64 c, .slice (some ⟨g, 0, none⟩) k cap]) 25)).trans (hb2.mono (Nat.le_trans hb1.size (by simp <;> omega))))
      have ltv : w1.heap.size < w2.heap.size := lt_of_cell (Vv.out 0 _ rfl).1
      have nev : ¬ w1.heap.size = w2.heap.size := by omega
      have GA := Lib.hid (((GA.out).below (below_box (.cells (List.toArray [.int .i64 c, .slice (some ⟨g, 0, none⟩) k cap]) 25) (Nat.le_refl _))).below hb2)
      clear hb2
      unfold madeV
      have v0 := (Vv.out 0 _ rfl).1
      have vf0 := (Vv.out 0 _ rfl).2
      have v1 := (Vv.out 1 _ rfl).1
      have vf1 := (Vv.out 1 _ rfl).2
      go_wp2_with fail
      refine (sSackPut_yes c _ k cap gs _ ((GA.out).below (below_box (.cells (List.toArray [.int .i64 3, .int .i64 0, .string (sackS c gs)]) 28) (Nat.le_refl _))) HC.out).mono ?_
      rintro e w3 ⟨rfl, hb3⟩
      clear v0 vf0 v1 vf1
      have Vv := Lib.hid (((Vv.out).alloc (.cells (List.toArray [.int .i64 3, .int .i64 0, .string (sackS c gs)]) 28) (by omega)).below hb3 (by simp; omega))
      have Vo := Lib.hid ((VarN.new_at (w := w2) (d := w2.heap.size) (by simp) [.int .i64 3, .int .i64 0, .string (sackS c gs)] 28).below hb3 (by simp))
      have HB3 := Lib.hid (((HB2.out).alloc (Nat.le_trans HB2.out.size (by exact Nat.le_refl _)) (.cells (List.toArray [.int .i64 3, .int .i64 0, .string (sackS c gs)]) 28)).trans (hb3.mono (Nat.le_trans HB2.out.size (by simp <;> omega))))
      have ltv : w1.heap.size < w3.heap.size := lt_of_cell (Vv.out 0 _ rfl).1
      have lto : w2.heap.size < w3.heap.size := lt_of_cell (Vo.out 0 _ rfl).1
      have nev : ¬ w1.heap.size = w3.heap.size := by omega
      have neo : ¬ w2.heap.size = w3.heap.size := by omega
      have GA := Lib.hid (((GA.out).below (below_box (.cells (List.toArray [.int .i64 3, .int .i64 0, .string (sackS c gs)]) 28) (Nat.le_refl _))).below hb3)
      clear hb3
      unfold madeV
      have v0 := (Vv.out 0 _ rfl).1
      have vf0 := (Vv.out 0 _ rfl).2
      have v1 := (Vv.out 1 _ rfl).1
      have vf1 := (Vv.out 1 _ rfl).2
      have o0 := (Vo.out 0 _ rfl).1
      have of0 := (Vo.out 0 _ rfl).2
      have o1 := (Vo.out 1 _ rfl).1
      have of1 := (Vo.out 1 _ rfl).2
      have o2 := (Vo.out 2 _ rfl).1
      have of2 := (Vo.out 2 _ rfl).2
      have hl := GA.out.length
      have hS := Lib.hid (keptF (W := w3) (w := w3) (p := ⟨w1.heap.size, 0, none⟩) (q := ⟨w1.heap.size, 1, none⟩) ⟨v0, v1, GA.out, Below.refl _ _⟩ ((Below.refl w3.heap.size w3).alloc (by simp) (.cells (List.toArray [.int .i64 3, .int .i64 0, .string (sackS c gs)]) 28)))
      go_wp2
      go_loopw [8] (fun i wr => ∃ j : Nat, j ≤ k ∧ i = .int .i64 j ∧ wr.cell? ⟨w1.heap.size, 0, none⟩ = some (.int .i64 c) ∧ wr.cell? ⟨w1.heap.size, 1, none⟩ = some (.slice (some ⟨g, 0, none⟩) k cap) ∧ Hid (Gaps wr (some ⟨g, 0, none⟩) k cap gs ∧ Below w3.heap.size w3 wr)) (fun i _ => k - (intOf i).toNat)
      case atStart => exact ⟨0, Nat.zero_le _, rfl, hS.out.1, hS.out.2.1, Lib.hid hS.out.2.2⟩
      case round =>
        obtain ⟨j, hj, rfl, s0, s1, hgb⟩ := hrel
        clear v0 vf0 v1 vf1 o0 of0 o1 of1 o2 of2
        by_cases hlt : j < k
        · have hG := hgb.out.1
          rcases hG with ⟨h0, _⟩ | ⟨x, hx, h1, h2, h3, h4⟩
          · cases h0
          obtain rfl : (⟨g, 0, none⟩ : Addr) = x := by simpa using hx
          obtain ⟨q0, q1⟩ := h4 j hlt
          obtain ⟨f, hf⟩ : ∃ f, (gs.getD j (0, 0)).1 = f := ⟨_, rfl⟩
          obtain ⟨t, ht⟩ : ∃ t, (gs.getD j (0, 0)).2 = t := ⟨_, rfl⟩
          obtain ⟨⟨r1, r2, r3⟩, b1, b2, b3, b4⟩ := block_edges HC.out.2 (show j < gs.length by omega) hf ht
          rw [hf, gap_add] at q0
          rw [ht, gap_add] at q1
          clear h4 hf ht hx h2
          have hcs := ser_of HC.out.1
          have A1 := Lib.hid (addV_yes f hcs)
          have A2 := Lib.hid (addV_yes t hcs)
          have B1 := Lib.hid ((addV_yes (-1) (addS_ser c f)).trans (addS_sum c f (-1)))
          have B2 := Lib.hid ((addV_yes 1 (addS_ser c t)).trans (addS_sum c t 1))
          have E1 := Lib.hid (show hasV c (addS c f) gs = true by rw [hasV_diff HC.out (addS_ser c f), diffS_add (by omega) (by omega), b1, Bool.true_or])
          have E2 := Lib.hid (show hasV c (addS c t) gs = true by rw [hasV_diff HC.out (addS_ser c t), diffS_add (by omega) (by omega), b2, Bool.true_or])
          have E3 := Lib.hid (show hasV c (addS c (f + -1)) gs = false by rw [hasV_diff HC.out (addS_ser c _), diffS_add (by omega) (by omega), show f + -1 = f - 1 by omega, b3, Bool.false_or]; exact decide_eq_false (by omega))
          have E4 := Lib.hid (show hasV c (addS c (t + 1)) gs = false by rw [hasV_diff HC.out (addS_ser c _), diffS_add (by omega) (by omega), b4, Bool.false_or]; exact decide_eq_false (by omega))
          obtain ⟨xm, hxm⟩ : ∃ x, addS c (f + -1) = x := ⟨_, rfl⟩
          obtain ⟨xp, hxp⟩ : ∃ x, addS c (t + 1) = x := ⟨_, rfl⟩
          rw [hxm] at B1 E3
          rw [hxp] at B2 E4
          obtain ⟨xa, hxa⟩ : ∃ x, addS c f = x := ⟨_, rfl⟩
          obtain ⟨xb, hxb⟩ : ∃ x, addS c t = x := ⟨_, rfl⟩
          rw [hxa] at A1 B1 E1
          rw [hxb] at A2 B2 E2
          clear hxm hxp hxa hxb hcs b1 b2 b3 b4 r1 r2 r3
          have hT := Lib.hid (keptH (W := wr) (w := wr) (p := ⟨w1.heap.size, 0, none⟩) (q := ⟨w1.heap.size, 1, none⟩) (p' := ⟨g, j * 2, none⟩) (q' := ⟨g, j * 2 + 1, none⟩) ⟨s0, s1, q0, q1, hgb.out.1, Below.refl _ _⟩ (Below.drew (Below.refl _ _)))
          go_wp2_with fail
          go_region_held_law (fun W => W.cell? ⟨w1.heap.size, 0, none⟩ = some (.int .i64 c) ∧ W.cell? ⟨w1.heap.size, 1, none⟩ = some (.slice (some ⟨g, 0, none⟩) k cap) ∧ W.cell? ⟨g, j * 2, none⟩ = some (.int .i64 f) ∧ W.cell? ⟨g, j * 2 + 1, none⟩ = some (.int .i64 t) ∧ Gaps W (some ⟨g, 0, none⟩) k cap gs ∧ Below wr.heap.size wr W)
            (first | with_reducible assumption | with_reducible exact hT.out | exact keptH (by assumption) (by assumption))
            (first
              | (go_simp; go_at_call 21; refine (serialAdd_any _ _ _).mono ?_; (first | rw [A1.out]); rintro e w' ⟨rfl, rfl⟩))
          clear hT s0 s1 q0 q1
          rename_i hHeld
          have hT := Lib.hid (keptH hHeld (Below.drew (Below.refl _ _)))
          obtain ⟨s0, s1, q0, q1, _, _⟩ := hHeld
          go_wp2_with fail
          go_region_held_law (fun W => W.cell? ⟨w1.heap.size, 0, none⟩ = some (.int .i64 c) ∧ W.cell? ⟨w1.heap.size, 1, none⟩ = some (.slice (some ⟨g, 0, none⟩) k cap) ∧ W.cell? ⟨g, j * 2, none⟩ = some (.int .i64 f) ∧ W.cell? ⟨g, j * 2 + 1, none⟩ = some (.int .i64 t) ∧ Gaps W (some ⟨g, 0, none⟩) k cap gs ∧ Below wr.heap.size wr W)
            (first | with_reducible assumption | with_reducible exact hT.out | exact keptH (by assumption) (by assumption))
            (first
              | (go_simp; go_at_call 21; refine (serialAdd_any _ _ _).mono ?_; (first | rw [A2.out]); rintro e w' ⟨rfl, rfl⟩))
          clear hT s0 s1 q0 q1
          rename_i hHeld
          have hT := Lib.hid (keptH hHeld (Below.drew (Below.refl _ _)))
          obtain ⟨s0, s1, q0, q1, _, _⟩ := hHeld
          go_wp2_with fail
          go_region_held_law (fun W => W.cell? ⟨w1.heap.size, 0, none⟩ = some (.int .i64 c) ∧ W.cell? ⟨w1.heap.size, 1, none⟩ = some (.slice (some ⟨g, 0, none⟩) k cap) ∧ W.cell? ⟨g, j * 2, none⟩ = some (.int .i64 f) ∧ W.cell? ⟨g, j * 2 + 1, none⟩ = some (.int .i64 t) ∧ Gaps W (some ⟨g, 0, none⟩) k cap gs ∧ Below wr.heap.size wr W)
            (first | with_reducible assumption | with_reducible exact hT.out | exact keptH (by assumption) (by assumption))
            (first
              | (go_simp; go_at_call 20; refine (sackHas_any c _ _ k cap gs _ (by go_split_ands; assumption)).mono ?_; (first | rw [E1.out] | rw [E2.out] | rw [E3.out] | rw [E4.out]); rintro e w' ⟨rfl, hbn⟩)
              | (go_simp; go_at_call 21; refine (serialAdd_any _ _ _).mono ?_; (first | rw [B1.out] | rw [B2.out]); rintro e w' ⟨rfl, rfl⟩))
          all_goals
            rename_i hHeld
            have HW := Lib.hid hHeld
            clear hHeld hT s0 s1 q0 q1
            go_wp2
            go_roundw
            case rel => exact ⟨j + 1, by omega, by go_num, HW.out.1, HW.out.2.1, Lib.hid ⟨HW.out.2.2.2.2.1, hgb.out.2.trans (HW.out.2.2.2.2.2.mono hgb.out.2.size)⟩⟩
            case measure => simp [intOf]; omega
        · obtain rfl : j = k := by omega
          go_wp2
          go_ret
          exact ⟨rfl, HB3.out.trans (hgb.out.2.mono HB3.out.size)⟩
    · have HC := Lib.hid hc
      clear hc
      go_wp2_with fail
      refine (sackPut_no c _ k cap gs _ ((GA.out).below (below_box (.cells (List.toArray [.int .i64 c, .slice (some ⟨g, 0, none⟩) k cap]) 25) (Nat.le_refl _))) HC.out).mono ?_
      rintro e w2 ⟨rfl, hb2⟩
      have Vv := Lib.hid ((VarN.new_at (w := w1) (d := w1.heap.size) (by simp) [.int .i64 c, .slice (some ⟨g, 0, none⟩) k cap] 25).below hb2 (by simp))
      have HB2 := Lib.hid (((hb1).alloc (Nat.le_trans hb1.size (by exact Nat.le_refl _)) (.cells (List.toArray [.int .i64 c, .slice (some ⟨g, 0, none⟩) k cap]) 25)).trans (hb2.mono (Nat.le_trans hb1.size (by simp <;> omega))))
      have ltv : w1.heap.size < w2.heap.size := lt_of_cell (Vv.out 0 _ rfl).1
      have nev : ¬ w1.heap.size = w2.heap.size := by omega
      have GA := Lib.hid (((GA.out).below (below_box (.cells (List.toArray [.int .i64 c, .slice (some ⟨g, 0, none⟩) k cap]) 25) (Nat.le_refl _))).below hb2)
      clear hb2
      unfold notMadeV
      have v0 := (Vv.out 0 _ rfl).1
      have vf0 := (Vv.out 0 _ rfl).2
      have v1 := (Vv.out 1 _ rfl).1
      have vf1 := (Vv.out 1 _ rfl).2
      go_wp2_with fail
      refine (sSackPut_no c _ k cap gs _ ((GA.out).below (below_box (.cells (List.toArray [.int .i64 0, .int .i64 0, .string (ByteArray.mk #[])]) 28) (Nat.le_refl _))) HC.out).mono ?_
      rintro e w3 ⟨rfl, hb3⟩
      clear v0 vf0 v1 vf1
      have Vv := Lib.hid (((Vv.out).alloc (.cells (List.toArray [.int .i64 0, .int .i64 0, .string (ByteArray.mk #[])]) 28) (by omega)).below hb3 (by simp; omega))
      have Vo := Lib.hid ((VarN.new_at (w := w2) (d := w2.heap.size) (by simp) [.int .i64 0, .int .i64 0, .string (ByteArray.mk #[])] 28).below hb3 (by simp))
      have HB3 := Lib.hid (((HB2.out).alloc (Nat.le_trans HB2.out.size (by exact Nat.le_refl _)) (.cells (List.toArray [.int .i64 0, .int .i64 0, .string (ByteArray.mk #[])]) 28)).trans (hb3.mono (Nat.le_trans HB2.out.size (by simp <;> omega))))
      have ltv : w1.heap.size < w3.heap.size := lt_of_cell (Vv.out 0 _ rfl).1
      have lto : w2.heap.size < w3.heap.size := lt_of_cell (Vo.out 0 _ rfl).1
      have nev : ¬ w1.heap.size = w3.heap.size := by omega
      have neo : ¬ w2.heap.size = w3.heap.size := by omega
      have GA := Lib.hid (((GA.out).below (below_box (.cells (List.toArray [.int .i64 0, .int .i64 0, .string (ByteArray.mk #[])]) 28) (Nat.le_refl _))).below hb3)
      clear hb3
      unfold notMadeV
      have v0 := (Vv.out 0 _ rfl).1
      have vf0 := (Vv.out 0 _ rfl).2
      have v1 := (Vv.out 1 _ rfl).1
      have vf1 := (Vv.out 1 _ rfl).2
      have o0 := (Vo.out 0 _ rfl).1
      have of0 := (Vo.out 0 _ rfl).2
      have o1 := (Vo.out 1 _ rfl).1
      have of1 := (Vo.out 1 _ rfl).2
      have o2 := (Vo.out 2 _ rfl).1
      have of2 := (Vo.out 2 _ rfl).2
      go_wp2
      go_ret
      exact ⟨rfl, (HB3.out).alloc (Nat.le_trans HB3.out.size (by exact Nat.le_refl _)) _⟩

end Go.Proofs.Ytnahecpmmbdobaa
