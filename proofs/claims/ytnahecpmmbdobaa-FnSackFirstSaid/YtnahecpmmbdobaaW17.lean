/- The walks of the laws on receipts that are drawn and asked. -/
import Derived.Test.YtnahecpmmbdobaaK31
import Derived.Test.YtnahecpmmbdobaaK34
import Derived.Test.YtnahecpmmbdobaaK17
import Derived.Handy
namespace Go.Proofs.Ytnahecpmmbdobaa
open Go.RowKit Go.PlainAid

/-- What a region that asks a receipt needs to know of a world. -/
theorem keptF {p q : Addr} {x y : Value} {a : Option Addr} {l c : Nat} {gs : List (Int × Int)} {w W W' : World} (h : W.cell? p = some x ∧ W.cell? q = some y ∧ Gaps W a l c gs ∧ Below w.heap.size w W) (hb : Below W.heap.size W W') :
    W'.cell? p = some x ∧ W'.cell? q = some y ∧ Gaps W' a l c gs ∧ Below w.heap.size w W' := by
  obtain ⟨h1, h2, h3, h4⟩ := h
  exact ⟨(hb.cell (World.block_lt_of_cell? W _ h1)).trans h1, (hb.cell (World.block_lt_of_cell? W _ h2)).trans h2, h3.below hb, h4.trans (hb.mono h4.size)⟩
theorem hasV_diff {c s : Int} {gs : List (Int × Int)} (h : SackOk c gs) (hs : Ser s) : hasV c s gs = (blockV (diffS c s) gs || decide (diffS c s ≤ 0)) := by
  unfold hasV
  rw [decide_eq_true h, decide_eq_true (ser_le hs), Bool.true_and, Bool.true_and]
theorem hasV_bad {c s : Int} {gs : List (Int × Int)} (h : ¬ SackOk c gs) : hasV c s gs = false := by
  unfold hasV
  rw [decide_eq_false h, Bool.false_and, Bool.false_and]
theorem hasV_old {c s : Int} {gs : List (Int × Int)} (h : SackOk c gs) (hs : Ser s) (hd : diffS c s ≤ 0) : hasV c s gs = true := by
  rw [hasV_diff h hs, decide_eq_true hd, Bool.or_true]
/-- No valid block holds what lies at most one step behind its beginning. -/
theorem block_before : ∀ {l n : Int} {gs : List (Int × Int)}, GapsOk l gs → n ≤ l + 1 → blockV n gs = false
  | _, _, [], _, _ => rfl
  | l, n, g :: gs, ⟨h1, h2, h3, h4⟩, h => by
    have ih := block_before h4 (show n ≤ g.2 + 1 by omega)
    unfold blockV at ih ⊢
    rw [List.any_cons, ih, Bool.or_false]
    exact decide_eq_false (by omega)
theorem hasV_next {c : Int} {gs : List (Int × Int)} (h : SackOk c gs) : hasV c (addS c 1) gs = false := by
  rw [hasV_diff h (addS_ser c 1), diffS_add (by decide) (by decide), block_before h.2 (by decide)]
  decide

set_option maxHeartbeats 4000000 in
theorem walk_fnSackFirst (a0 : Option Addr) (len0 cap0 : Nat) (z0 : List Int) (w : World) (w0 : IsRow .u8 w a0 len0 cap0 z0) :
    Calls Try.prog 7 #[.slice a0 len0 cap0] w fun e w' => e = .returned (.bool true) ∧ Below w.heap.size w w' := by
  have H := Lib.hid w0
  clear w0
  by_cases hl : (1048576 : Int) < len0
  · go_enter Try.func7, Try.ntmps7
    go_wp2
    go_ret
    exact ⟨rfl, Below.refl _ _⟩
  · go_enter Try.func7, Try.ntmps7
    go_wp2_with fail
    refine (drawSackPut_any a0 len0 cap0 z0 _ H.out).mono ?_
    rintro e w1 ⟨c, g, k, cap, gs, rfl, ⟨nc0, nc1⟩, nk, hgp, hsm, hb1⟩
    have GA := Lib.hid hgp
    clear hgp
    by_cases hc : SackOk c gs
    · have HC := Lib.hid hc
      clear hc
      have hcs := ser_of HC.out.1
      have E1 := Lib.hid (hasV_old HC.out hcs (by rw [diffS_same]; decide))
      have E2 := Lib.hid (hasV_old HC.out (addS_ser c (-1)) (by rw [diffS_sub (by decide) (by decide)]; decide))
      have E3 := Lib.hid (hasV_next HC.out)
      have A2 := Lib.hid (addV_yes (-1) hcs)
      have A3 := Lib.hid (addV_yes 1 hcs)
      obtain ⟨xm, hxm⟩ : ∃ x, addS c (-1) = x := ⟨_, rfl⟩
      obtain ⟨xp, hxp⟩ : ∃ x, addS c 1 = x := ⟨_, rfl⟩
      rw [hxm] at E2 A2
      rw [hxp] at E3 A3
      clear hxm hxp hcs
      go_wp2_with fail
      refine (sackPut_yes c _ k cap gs _ ((GA.out).below (below_box (.cells (List.toArray [.int .i64 c, .slice (some ⟨g, 0, none⟩) k cap]) 25) (Nat.le_refl _))) HC.out).mono ?_
      rintro e w2 ⟨rfl, hb2⟩
      have Vv := Lib.hid ((VarN.new_at (w := w1) (d := w1.heap.size) (by simp) [.int .i64 c, .slice (some ⟨g, 0, none⟩) k cap] 25).below hb2 (by simp))
      have HB2 := Lib.hid (((hb1).alloc (Nat.le_trans hb1.size (by exact Nat.le_refl _)) (.cells (List.toArray [.int .i64 c, .slice (some ⟨g, 0, none⟩) k cap]) 25)).trans (hb2.mono (Nat.le_trans hb1.size (by simp <;> omega))))
      have ltv : w1.heap.size < w2.heap.size := lt_of_cell (Vv.out 0 _ rfl).1
      have nev : ¬ w1.heap.size = w2.heap.size := by omega
      have GA := Lib.hid (((GA.out).below (below_box (.cells (List.toArray [.int .i64 c, .slice (some ⟨g, 0, none⟩) k cap]) 25) (Nat.le_refl _))).below hb2)
      clear hb2
      unfold madeV
      have v0 := (Vv.out 0 _ rfl).1
      have vf0 := (Vv.out 0 _ rfl).2
      have v1 := (Vv.out 1 _ rfl).1
      have vf1 := (Vv.out 1 _ rfl).2
      go_wp2_with fail
      refine (sSackPut_yes c _ k cap gs _ ((GA.out).below (below_box (.cells (List.toArray [.int .i64 3, .int .i64 0, .string (sackS c gs)]) 28) (Nat.le_refl _))) HC.out).mono ?_
      rintro e w3 ⟨rfl, hb3⟩
      clear v0 vf0 v1 vf1
      have Vv := Lib.hid (((Vv.out).alloc (.cells (List.toArray [.int .i64 3, .int .i64 0, .string (sackS c gs)]) 28) (by omega)).below hb3 (by simp; omega))
      have Vo := Lib.hid ((VarN.new_at (w := w2) (d := w2.heap.size) (by simp) [.int .i64 3, .int .i64 0, .string (sackS c gs)] 28).below hb3 (by simp))
      have HB3 := Lib.hid (((HB2.out).alloc (Nat.le_trans HB2.out.size (by exact Nat.le_refl _)) (.cells (List.toArray [.int .i64 3, .int .i64 0, .string (sackS c gs)]) 28)).trans (hb3.mono (Nat.le_trans HB2.out.size (by simp <;> omega))))
      have ltv : w1.heap.size < w3.heap.size := lt_of_cell (Vv.out 0 _ rfl).1
      have lto : w2.heap.size < w3.heap.size := lt_of_cell (Vo.out 0 _ rfl).1
      have nev : ¬ w1.heap.size = w3.heap.size := by omega
      have neo : ¬ w2.heap.size = w3.heap.size := by omega
      have GA := Lib.hid (((GA.out).below (below_box (.cells (List.toArray [.int .i64 3, .int .i64 0, .string (sackS c gs)]) 28) (Nat.le_refl _))).below hb3)
      clear hb3
      unfold madeV
      have v0 := (Vv.out 0 _ rfl).1
      have vf0 := (Vv.out 0 _ rfl).2
      have v1 := (Vv.out 1 _ rfl).1
      have vf1 := (Vv.out 1 _ rfl).2
      have o0 := (Vo.out 0 _ rfl).1
      have of0 := (Vo.out 0 _ rfl).2
      have o1 := (Vo.out 1 _ rfl).1
      have of1 := (Vo.out 1 _ rfl).2
      have o2 := (Vo.out 2 _ rfl).1
      have of2 := (Vo.out 2 _ rfl).2
      have hS := Lib.hid (keptF (W := w3) (w := w3) (p := ⟨w1.heap.size, 0, none⟩) (q := ⟨w1.heap.size, 1, none⟩) ⟨v0, v1, GA.out, Below.refl _ _⟩ (Below.drew ((Below.refl w3.heap.size w3).alloc (by simp) (.cells (List.toArray [.int .i64 3, .int .i64 0, .string (sackS c gs)]) 28))))
      go_wp2_with fail
      go_region_held_law (fun W => W.cell? ⟨w1.heap.size, 0, none⟩ = some (.int .i64 c) ∧ W.cell? ⟨w1.heap.size, 1, none⟩ = some (.slice (some ⟨g, 0, none⟩) k cap) ∧ Gaps W (some ⟨g, 0, none⟩) k cap gs ∧ Below w3.heap.size w3 W)
        (first | with_reducible assumption | with_reducible exact hS.out | exact keptF (by assumption) (by assumption))
        (first
          | (go_simp; go_at_call 20; refine (sackHas_any c _ _ k cap gs _ (by go_split_ands; assumption)).mono ?_; (first | rw [E1.out] | rw [E2.out] | rw [E3.out]); rintro e w' ⟨rfl, hbn⟩)
          | (go_simp; go_at_call 21; refine (serialAdd_any c _ _).mono ?_; (first | rw [A2.out] | rw [A3.out]); rintro e w' ⟨rfl, rfl⟩))
      all_goals
        rename_i hHeld
        have HW := Lib.hid hHeld.2.2.2
        clear hHeld
        go_wp2
        go_ret
        exact ⟨rfl, HB3.out.trans (HW.out.mono HB3.out.size)⟩
    · have HC := Lib.hid hc
      clear hc
      go_wp2_with fail
      refine (sackPut_no c _ k cap gs _ ((GA.out).below (below_box (.cells (List.toArray [.int .i64 c, .slice (some ⟨g, 0, none⟩) k cap]) 25) (Nat.le_refl _))) HC.out).mono ?_
      rintro e w2 ⟨rfl, hb2⟩
      have Vv := Lib.hid ((VarN.new_at (w := w1) (d := w1.heap.size) (by simp) [.int .i64 c, .slice (some ⟨g, 0, none⟩) k cap] 25).below hb2 (by simp))
      have HB2 := Lib.hid (((hb1).alloc (Nat.le_trans hb1.size (by exact Nat.le_refl _)) (.cells (List.toArray [.int .i64 c, .slice (some ⟨g, 0, none⟩) k cap]) 25)).trans (hb2.mono (Nat.le_trans hb1.size (by simp <;> omega))))
      have ltv : w1.heap.size < w2.heap.size := lt_of_cell (Vv.out 0 _ rfl).1
      have nev : ¬ w1.heap.size = w2.heap.size := by omega
      have GA := Lib.hid (((GA.out).below (below_box (.cells (List.toArray [.int .i64 c, .slice (some ⟨g, 0, none⟩) k cap]) 25) (Nat.le_refl _))).below hb2)
      clear hb2
      unfold notMadeV
      have v0 := (Vv.out 0 _ rfl).1
      have vf0 := (Vv.out 0 _ rfl).2
      have v1 := (Vv.out 1 _ rfl).1
      have vf1 := (Vv.out 1 _ rfl).2
      go_wp2_with fail
      refine (sSackPut_no c _ k cap gs _ ((GA.out).below (below_box (.cells (List.toArray [.int .i64 0, .int .i64 0, .string (ByteArray.mk #[])]) 28) (Nat.le_refl _))) HC.out).mono ?_
      rintro e w3 ⟨rfl, hb3⟩
      clear v0 vf0 v1 vf1
      have Vv := Lib.hid (((Vv.out).alloc (.cells (List.toArray [.int .i64 0, .int .i64 0, .string (ByteArray.mk #[])]) 28) (by omega)).below hb3 (by simp; omega))
      have Vo := Lib.hid ((VarN.new_at (w := w2) (d := w2.heap.size) (by simp) [.int .i64 0, .int .i64 0, .string (ByteArray.mk #[])] 28).below hb3 (by simp))
      have HB3 := Lib.hid (((HB2.out).alloc (Nat.le_trans HB2.out.size (by exact Nat.le_refl _)) (.cells (List.toArray [.int .i64 0, .int .i64 0, .string (ByteArray.mk #[])]) 28)).trans (hb3.mono (Nat.le_trans HB2.out.size (by simp <;> omega))))
      have ltv : w1.heap.size < w3.heap.size := lt_of_cell (Vv.out 0 _ rfl).1
      have lto : w2.heap.size < w3.heap.size := lt_of_cell (Vo.out 0 _ rfl).1
      have nev : ¬ w1.heap.size = w3.heap.size := by omega
      have neo : ¬ w2.heap.size = w3.heap.size := by omega
      have GA := Lib.hid (((GA.out).below (below_box (.cells (List.toArray [.int .i64 0, .int .i64 0, .string (ByteArray.mk #[])]) 28) (Nat.le_refl _))).below hb3)
      clear hb3
      unfold notMadeV
      have v0 := (Vv.out 0 _ rfl).1
      have vf0 := (Vv.out 0 _ rfl).2
      have v1 := (Vv.out 1 _ rfl).1
      have vf1 := (Vv.out 1 _ rfl).2
      have o0 := (Vo.out 0 _ rfl).1
      have of0 := (Vo.out 0 _ rfl).2
      have o1 := (Vo.out 1 _ rfl).1
      have of1 := (Vo.out 1 _ rfl).2
      have o2 := (Vo.out 2 _ rfl).1
      have of2 := (Vo.out 2 _ rfl).2
      go_wp2
      go_ret
      exact ⟨rfl, (HB3.out).alloc (Nat.le_trans HB3.out.size (by exact Nat.le_refl _)) _⟩

set_option maxHeartbeats 1000000 in
theorem walk_fnSackHas (a0 : Option Addr) (len0 cap0 : Nat) (z0 : List Int) (w : World) (w0 : IsRow .u8 w a0 len0 cap0 z0) :
    Calls Try.prog 8 #[.slice a0 len0 cap0] w fun e w' => e = .returned (.bool true) ∧ Below w.heap.size w w' := by
  have H := Lib.hid w0
  clear w0
  by_cases hl : (1048576 : Int) < len0
  · go_enter Try.func8, Try.ntmps8
    go_wp2
    go_ret
    exact ⟨rfl, Below.refl _ _⟩
  · go_enter Try.func8, Try.ntmps8
    go_wp2_with fail
    refine (drawSackHas_any a0 len0 cap0 z0 _ H.out).mono ?_
    rintro e w1 ⟨c, g, k, cap, gs, q, rfl, ⟨nc0, nc1⟩, ⟨nq0, nq1⟩, nk, hgp, hsm, hb1⟩
    have hl := hgp.length
    have GA := Lib.hid hgp
    clear hgp
    by_cases hc : SackOk c gs
    · by_cases hq : Ser q
      · have HC := Lib.hid hc
        clear hc
        have E := Lib.hid (hasV_old HC.out (ser_of HC.out.1) (by rw [diffS_same]; decide))
        go_wp2_with fail
        refine (sackHas_any c q _ k cap gs _ ((GA.out).below (below_box (.cells (List.toArray [.int .i64 c, .slice (some ⟨g, 0, none⟩) k cap]) 25) (Nat.le_refl _)))).mono ?_
        rintro e w2 ⟨rfl, hb2⟩
        have Vv := Lib.hid ((VarN.new_at (w := w1) (d := w1.heap.size) (by simp) [.int .i64 c, .slice (some ⟨g, 0, none⟩) k cap] 25).below hb2 (by simp))
        have HB2 := Lib.hid (((hb1).alloc (Nat.le_trans hb1.size (by exact Nat.le_refl _)) (.cells (List.toArray [.int .i64 c, .slice (some ⟨g, 0, none⟩) k cap]) 25)).trans (hb2.mono (Nat.le_trans hb1.size (by simp <;> omega))))
        have ltv : w1.heap.size < w2.heap.size := lt_of_cell (Vv.out 0 _ rfl).1
        have nev : ¬ w1.heap.size = w2.heap.size := by omega
        have GA := Lib.hid (((GA.out).below (below_box (.cells (List.toArray [.int .i64 c, .slice (some ⟨g, 0, none⟩) k cap]) 25) (Nat.le_refl _))).below hb2)
        clear hb2
        have v0 := (Vv.out 0 _ rfl).1
        have vf0 := (Vv.out 0 _ rfl).2
        have v1 := (Vv.out 1 _ rfl).1
        have vf1 := (Vv.out 1 _ rfl).2
        go_wp2_with fail
        refine (sSackHas_any c q _ k cap gs _ GA.out).mono ?_
        rintro e w3 ⟨rfl, hb3⟩
        clear v0 vf0 v1 vf1
        have Vv := Lib.hid ((Vv.out).below hb3 ltv)
        have HB3 := Lib.hid (HB2.out.trans (hb3.mono HB2.out.size))
        have ltv : w1.heap.size < w3.heap.size := lt_of_cell (Vv.out 0 _ rfl).1
        have nev : ¬ w1.heap.size = w3.heap.size := by omega
        have GA := Lib.hid ((GA.out).below hb3)
        clear hb3
        have v0 := (Vv.out 0 _ rfl).1
        have vf0 := (Vv.out 0 _ rfl).2
        have v1 := (Vv.out 1 _ rfl).1
        have vf1 := (Vv.out 1 _ rfl).2
        go_wp2_with fail
        refine (sSackHas_any c c _ k cap gs _ GA.out).mono ?_
        rw [E.out]
        rintro e w4 ⟨rfl, hb4⟩
        clear v0 vf0 v1 vf1
        have Vv := Lib.hid ((Vv.out).below hb4 ltv)
        have HB4 := Lib.hid (HB3.out.trans (hb4.mono HB3.out.size))
        have ltv : w1.heap.size < w4.heap.size := lt_of_cell (Vv.out 0 _ rfl).1
        have nev : ¬ w1.heap.size = w4.heap.size := by omega
        have GA := Lib.hid ((GA.out).below hb4)
        clear hb4
        have N := Lib.hid (inV_self hq)
        have D := Lib.hid (diffV_yes (ser_of HC.out.1) hq)
        have R := Lib.hid (hasV_diff HC.out hq)
        obtain ⟨n, hn⟩ : ∃ n, diffS c q = n := ⟨_, rfl⟩
        rw [hn] at D R
        clear hn hq
        have v0 := (Vv.out 0 _ rfl).1
        have vf0 := (Vv.out 0 _ rfl).2
        have v1 := (Vv.out 1 _ rfl).1
        have vf1 := (Vv.out 1 _ rfl).2
        go_wp2_with fail
        refine (sSerialIn_any q q 1 _).mono ?_
        rw [N.out]
        rintro e w' ⟨rfl, rfl⟩
        go_wp2_with fail
        refine (serialDiff_any c q _).mono ?_
        rw [D.out]
        rintro e w5 ⟨rfl, hb5⟩
        have Vv := Lib.hid ((Vv.out).below hb5 ltv)
        have HB5 := Lib.hid (HB4.out.trans (hb5.mono HB4.out.size))
        have ltv : w1.heap.size < w5.heap.size := lt_of_cell (Vv.out 0 _ rfl).1
        have nev : ¬ w1.heap.size = w5.heap.size := by omega
        have GA := Lib.hid ((GA.out).below hb5)
        clear hb5
        have V0 := Lib.hid Vv.out
        have v0 := (Vv.out 0 _ rfl).1
        have vf0 := (Vv.out 0 _ rfl).2
        have v1 := (Vv.out 1 _ rfl).1
        have vf1 := (Vv.out 1 _ rfl).2
        rw [R.out]
        go_wp2
        go_loopw [8, 9] (fun s i wr => ∃ j : Nat, j ≤ k ∧ i = .int .i64 j ∧ s = .bool (decide (n ≤ 0) || blockV n (gs.take j)) ∧ wr = w5) (fun _ i _ => k - (intOf i).toNat)
        case atStart => exact ⟨0, Nat.zero_le _, rfl, by simp [blockV_none], rfl⟩
        case round =>
          obtain ⟨j, hj, rfl, rfl, rfl⟩ := hrel
          by_cases hlt : j < k
          · have hG := GA.out
            rcases hG with ⟨h0, _⟩ | ⟨x, hx, h1, h2, h3, h4⟩
            · cases h0
            obtain rfl : (⟨g, 0, none⟩ : Addr) = x := by simpa using hx
            obtain ⟨q0, q1⟩ := h4 j hlt
            obtain ⟨f, hf⟩ : ∃ f, (gs.getD j (0, 0)).1 = f := ⟨_, rfl⟩
            obtain ⟨t, ht⟩ : ∃ t, (gs.getD j (0, 0)).2 = t := ⟨_, rfl⟩
            have N2 := Lib.hid (blockV_next (n := n) (show j < gs.length by omega) hf ht)
            rw [hf, gap_add] at q0
            rw [ht, gap_add] at q1
            clear h4 hf ht hx h2
            cases hA : (decide (n ≤ 0) || blockV n (gs.take j))
            · have hB : blockV n (gs.take j) = false := by cases hb : blockV n (gs.take j) <;> simp_all
              have hD : decide (n ≤ 0) = false := by cases hb : decide (n ≤ 0) <;> simp_all
              have O := Lib.hid (show (decide (n ≤ 0) || blockV n (gs.take (j + 1))) = decide (f ≤ n ∧ n ≤ t) by rw [N2.out, hB, hD, Bool.false_or, Bool.false_or])
              clear hA hB hD
              by_cases c1 : f ≤ n
              · by_cases c2 : n ≤ t
                · go_wp2
                  go_roundw
                  case rel => exact ⟨j + 1, by omega, by go_num, by rw [O.out, decide_eq_true ⟨c1, c2⟩], by first | rfl | trivial⟩
                  case measure => simp [intOf]; omega
                · go_wp2
                  go_roundw
                  case rel => exact ⟨j + 1, by omega, by go_num, by rw [O.out, decide_eq_false fun h => c2 h.2], by first | rfl | trivial⟩
                  case measure => simp [intOf]; omega
              · go_wp2
                go_roundw
                case rel => exact ⟨j + 1, by omega, by go_num, by rw [O.out, decide_eq_false fun h => c1 h.1], by first | rfl | trivial⟩
                case measure => simp [intOf]; omega
            · have O := Lib.hid (show (decide (n ≤ 0) || blockV n (gs.take (j + 1))) = true by rw [N2.out, ← Bool.or_assoc, hA, Bool.true_or])
              clear hA
              go_wp2
              go_roundw
              case rel => exact ⟨j + 1, by omega, by go_num, by rw [O.out], by first | rfl | trivial⟩
              case measure => simp [intOf]; omega
          · obtain rfl : j = k := by omega
            have O : (decide (n ≤ 0) || blockV n (gs.take j)) = (blockV n gs || decide (n ≤ 0)) := by rw [List.take_of_length_le (by omega), Bool.or_comm]
            rw [O]
            go_wp2
            go_ret
            exact ⟨by simp, HB5.out⟩
      · have HC := Lib.hid hc
        clear hc
        have E := Lib.hid (hasV_old HC.out (ser_of HC.out.1) (by rw [diffS_same]; decide))
        go_wp2_with fail
        refine (sackHas_any c q _ k cap gs _ ((GA.out).below (below_box (.cells (List.toArray [.int .i64 c, .slice (some ⟨g, 0, none⟩) k cap]) 25) (Nat.le_refl _)))).mono ?_
        rintro e w2 ⟨rfl, hb2⟩
        have Vv := Lib.hid ((VarN.new_at (w := w1) (d := w1.heap.size) (by simp) [.int .i64 c, .slice (some ⟨g, 0, none⟩) k cap] 25).below hb2 (by simp))
        have HB2 := Lib.hid (((hb1).alloc (Nat.le_trans hb1.size (by exact Nat.le_refl _)) (.cells (List.toArray [.int .i64 c, .slice (some ⟨g, 0, none⟩) k cap]) 25)).trans (hb2.mono (Nat.le_trans hb1.size (by simp <;> omega))))
        have ltv : w1.heap.size < w2.heap.size := lt_of_cell (Vv.out 0 _ rfl).1
        have nev : ¬ w1.heap.size = w2.heap.size := by omega
        have GA := Lib.hid (((GA.out).below (below_box (.cells (List.toArray [.int .i64 c, .slice (some ⟨g, 0, none⟩) k cap]) 25) (Nat.le_refl _))).below hb2)
        clear hb2
        have v0 := (Vv.out 0 _ rfl).1
        have vf0 := (Vv.out 0 _ rfl).2
        have v1 := (Vv.out 1 _ rfl).1
        have vf1 := (Vv.out 1 _ rfl).2
        go_wp2_with fail
        refine (sSackHas_any c q _ k cap gs _ GA.out).mono ?_
        rintro e w3 ⟨rfl, hb3⟩
        clear v0 vf0 v1 vf1
        have Vv := Lib.hid ((Vv.out).below hb3 ltv)
        have HB3 := Lib.hid (HB2.out.trans (hb3.mono HB2.out.size))
        have ltv : w1.heap.size < w3.heap.size := lt_of_cell (Vv.out 0 _ rfl).1
        have nev : ¬ w1.heap.size = w3.heap.size := by omega
        have GA := Lib.hid ((GA.out).below hb3)
        clear hb3
        have v0 := (Vv.out 0 _ rfl).1
        have vf0 := (Vv.out 0 _ rfl).2
        have v1 := (Vv.out 1 _ rfl).1
        have vf1 := (Vv.out 1 _ rfl).2
        go_wp2_with fail
        refine (sSackHas_any c c _ k cap gs _ GA.out).mono ?_
        rw [E.out]
        rintro e w4 ⟨rfl, hb4⟩
        clear v0 vf0 v1 vf1
        have Vv := Lib.hid ((Vv.out).below hb4 ltv)
        have HB4 := Lib.hid (HB3.out.trans (hb4.mono HB3.out.size))
        have ltv : w1.heap.size < w4.heap.size := lt_of_cell (Vv.out 0 _ rfl).1
        have nev : ¬ w1.heap.size = w4.heap.size := by omega
        have GA := Lib.hid ((GA.out).below hb4)
        clear hb4
        have N := Lib.hid (inV_self_no hq)
        have v0 := (Vv.out 0 _ rfl).1
        have vf0 := (Vv.out 0 _ rfl).2
        have v1 := (Vv.out 1 _ rfl).1
        have vf1 := (Vv.out 1 _ rfl).2
        go_wp2_with fail
        refine (sSerialIn_any q q 1 _).mono ?_
        rw [N.out]
        rintro e w' ⟨rfl, rfl⟩
        go_wp2
        go_ret
        exact ⟨rfl, HB4.out⟩
    · have E := Lib.hid (hasV_bad (s := c) hc)
      clear hc
      go_wp2_with fail
      refine (sackHas_any c q _ k cap gs _ ((GA.out).below (below_box (.cells (List.toArray [.int .i64 c, .slice (some ⟨g, 0, none⟩) k cap]) 25) (Nat.le_refl _)))).mono ?_
      rintro e w2 ⟨rfl, hb2⟩
      have Vv := Lib.hid ((VarN.new_at (w := w1) (d := w1.heap.size) (by simp) [.int .i64 c, .slice (some ⟨g, 0, none⟩) k cap] 25).below hb2 (by simp))
      have HB2 := Lib.hid (((hb1).alloc (Nat.le_trans hb1.size (by exact Nat.le_refl _)) (.cells (List.toArray [.int .i64 c, .slice (some ⟨g, 0, none⟩) k cap]) 25)).trans (hb2.mono (Nat.le_trans hb1.size (by simp <;> omega))))
      have ltv : w1.heap.size < w2.heap.size := lt_of_cell (Vv.out 0 _ rfl).1
      have nev : ¬ w1.heap.size = w2.heap.size := by omega
      have GA := Lib.hid (((GA.out).below (below_box (.cells (List.toArray [.int .i64 c, .slice (some ⟨g, 0, none⟩) k cap]) 25) (Nat.le_refl _))).below hb2)
      clear hb2
      have v0 := (Vv.out 0 _ rfl).1
      have vf0 := (Vv.out 0 _ rfl).2
      have v1 := (Vv.out 1 _ rfl).1
      have vf1 := (Vv.out 1 _ rfl).2
      go_wp2_with fail
      refine (sSackHas_any c q _ k cap gs _ GA.out).mono ?_
      rintro e w3 ⟨rfl, hb3⟩
      clear v0 vf0 v1 vf1
      have Vv := Lib.hid ((Vv.out).below hb3 ltv)
      have HB3 := Lib.hid (HB2.out.trans (hb3.mono HB2.out.size))
      have ltv : w1.heap.size < w3.heap.size := lt_of_cell (Vv.out 0 _ rfl).1
      have nev : ¬ w1.heap.size = w3.heap.size := by omega
      have GA := Lib.hid ((GA.out).below hb3)
      clear hb3
      have v0 := (Vv.out 0 _ rfl).1
      have vf0 := (Vv.out 0 _ rfl).2
      have v1 := (Vv.out 1 _ rfl).1
      have vf1 := (Vv.out 1 _ rfl).2
      go_wp2_with fail
      refine (sSackHas_any c c _ k cap gs _ GA.out).mono ?_
      rw [E.out]
      rintro e w4 ⟨rfl, hb4⟩
      clear v0 vf0 v1 vf1
      have Vv := Lib.hid ((Vv.out).below hb4 ltv)
      have HB4 := Lib.hid (HB3.out.trans (hb4.mono HB3.out.size))
      have ltv : w1.heap.size < w4.heap.size := lt_of_cell (Vv.out 0 _ rfl).1
      have nev : ¬ w1.heap.size = w4.heap.size := by omega
      have GA := Lib.hid ((GA.out).below hb4)
      clear hb4
      have v0 := (Vv.out 0 _ rfl).1
      have vf0 := (Vv.out 0 _ rfl).2
      have v1 := (Vv.out 1 _ rfl).1
      have vf1 := (Vv.out 1 _ rfl).2
      go_wp2
      go_ret
      exact ⟨rfl, HB4.out⟩

end Go.Proofs.Ytnahecpmmbdobaa
