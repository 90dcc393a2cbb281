/- The walks of the laws on receipts that are written and read. -/
import Derived.Test.YteglajjenihagaaG13
import Derived.Test.YteglajjenihagaaK37
import Derived.Test.YteglajjenihagaaK38
import Derived.Test.YteglajjenihagaaK32
import Derived.Test.YteglajjenihagaaW17
namespace Go.Proofs.Yteglajjenihagaa
open Go.RowKit Go.PlainAid

theorem sackGet_put (c : Int) (gs : List (Int × Int)) (k : Nat) (w : World) (hk : gs.length = k) (h : SackOk c gs) :
    Calls Try.prog 11 #[.agg #[.int .i64 3, .int .i64 0, .string (sackS c gs)]] w fun e w' => ∃ a cap, e = .returned (.tuple #[.agg #[.int .i64 c, .slice a k cap], .bool true]) ∧ Gaps w' a k cap gs ∧ Below w.heap.size w w' := by
  subst hk
  have h8 := sack_few h
  have hz := sackS_size c gs
  refine (sackGet_any 3 0 (sackS c gs) w (by omega)).mono ?_
  have hg : sackGot 3 0 (sackS c gs) = true := by
    unfold sackGot
    rw [sack_count, sack_gaps h, sack_first c gs h.1, sackV_yes h, decide_eq_true ⟨rfl, rfl, by omega⟩, Bool.true_and]
  rw [hg, sack_count, sack_gaps h, sack_first c gs h.1]
  rintro e w' ⟨⟨v, rfl, ho⟩, hb⟩
  obtain ⟨a, cap, rfl, hG⟩ := own_gapsA ho
  exact ⟨a, cap, rfl, hG, hb⟩

theorem sSackGet_put (c : Int) (gs : List (Int × Int)) (k : Nat) (w : World) (hk : gs.length = k) (h : SackOk c gs) :
    Calls Try.prog 14 #[.agg #[.int .i64 3, .int .i64 0, .string (sackS c gs)]] w fun e w' => ∃ g cap, e = .returned (.tuple #[.agg #[.int .i64 c, .slice (some ⟨g, 0, none⟩) k cap], .bool true]) ∧ Gaps w' (some ⟨g, 0, none⟩) k cap gs ∧ Below w.heap.size w w' := by
  subst hk
  have h8 := sack_few h
  have hz := sackS_size c gs
  refine (sSackGet_any 3 0 (sackS c gs) w (by omega)).mono ?_
  have hg : sackGot 3 0 (sackS c gs) = true := by
    unfold sackGot
    rw [sack_count, sack_gaps h, sack_first c gs h.1, sackV_yes h, decide_eq_true ⟨rfl, rfl, by omega⟩, Bool.true_and]
  rw [hg, sack_count, sack_gaps h, sack_first c gs h.1]
  rintro e w' ⟨⟨g, cap, rfl, _, hG⟩, hb⟩
  exact ⟨g, cap, rfl, hG, hb⟩
theorem sackGot_is {k f : Int} {b : ByteArray} (h : sackGot k f b = true) : ∃ c gs, SackOk c gs ∧ k = 3 ∧ f = 0 ∧ b = sackS c gs := by
  unfold sackGot at h
  rw [Bool.and_eq_true, decide_eq_true_eq] at h
  obtain ⟨⟨rfl, rfl, hz⟩, hv⟩ := h
  exact ⟨be b 0 2, gapsAt b ((b.size - 2) / 4), of_decide_eq_true hv, rfl, rfl, (sack_back hz).symm⟩
theorem sackGet_none (k f : Int) (b : ByteArray) (w : World) (hm : b.size ≤ 62) (h : sackGot k f b = false) :
    Calls Try.prog 11 #[.agg #[.int .i64 k, .int .i64 f, .string b]] w fun e w' => e = .returned (.tuple #[.agg #[.int .i64 0, .slice none 0 0], .bool false]) ∧ Below w.heap.size w w' := by
  refine (sackGet_any k f b w (by omega)).mono ?_
  rw [h]
  rintro e w' ⟨hn, hb⟩
  exact ⟨hn, hb⟩
theorem sSackGet_none (k f : Int) (b : ByteArray) (w : World) (hm : b.size ≤ 62) (h : sackGot k f b = false) :
    Calls Try.prog 14 #[.agg #[.int .i64 k, .int .i64 f, .string b]] w fun e w' => e = .returned (.tuple #[.agg #[.int .i64 0, .slice none 0 0], .bool false]) ∧ Below w.heap.size w w' := by
  refine (sSackGet_any k f b w (by omega)).mono ?_
  rw [h]
  rintro e w' ⟨hn, hb⟩
  exact ⟨hn, hb⟩
theorem sameSack_none (w : World) :
    Calls Try.prog 12 #[.agg #[.int .i64 0, .slice none 0 0], .agg #[.int .i64 0, .slice none 0 0]] w fun e w' => e = .returned (.bool true) ∧ Below w.heap.size w w' :=
  sameSack_same 0 none none 0 0 0 [] w (.inl ⟨rfl, rfl, rfl, rfl⟩) (.inl ⟨rfl, rfl, rfl, rfl⟩)

set_option maxHeartbeats 4000000 in
theorem walk_fnSackPut (a0 : Option Addr) (len0 cap0 : Nat) (z0 : List Int) (w : World) (w0 : IsRow .u8 w a0 len0 cap0 z0) :
    Calls Try.prog 3 #[.slice a0 len0 cap0] w fun e w' => e = .returned (.bool true) ∧ Below w.heap.size w w' := by
  have H := Lib.hid w0
  clear w0
  by_cases hl : (1048576 : Int) < len0
  · go_enter Try.func3, Try.ntmps3
    go_wp2
    go_ret
    exact ⟨rfl, Below.refl _ _⟩
  · go_enter Try.func3, Try.ntmps3
    go_wp2_with fail
    refine (drawSackPut_any a0 len0 cap0 z0 _ H.out).mono ?_
    rintro e w1 ⟨c, g, k, cap, gs, rfl, ⟨nc0, nc1⟩, nk, hgp, hsm, hb1⟩
    have GA := Lib.hid hgp
    clear hgp
    by_cases hc : SackOk c gs
    · have HC := Lib.hid hc
      clear hc
      have hl := GA.out.length
      go_wp2_with fail
      refine (sackPut_yes c _ k cap gs _ ((GA.out).below (below_box (.cells (List.toArray [.int .i64 c, .slice (some ⟨g, 0, none⟩) k cap]) 25) (Nat.le_refl _))) HC.out).mono ?_
      rintro e w2 ⟨rfl, hb2⟩
      have Vv := Lib.hid ((VarN.new_at (w := w1) (d := w1.heap.size) (by simp) [.int .i64 c, .slice (some ⟨g, 0, none⟩) k cap] 25).below hb2 (by simp))
      have HB2 := Lib.hid (((hb1).alloc (Nat.le_trans hb1.size (by exact Nat.le_refl _)) (.cells (List.toArray [.int .i64 c, .slice (some ⟨g, 0, none⟩) k cap]) 25)).trans (hb2.mono (Nat.le_trans hb1.size (by simp <;> omega))))
      have ltv : w1.heap.size < w2.heap.size := lt_of_cell (Vv.out 0 _ rfl).1
      have nev : ¬ w1.heap.size = w2.heap.size := by omega
      have GA := Lib.hid (((GA.out).below (below_box (.cells (List.toArray [.int .i64 c, .slice (some ⟨g, 0, none⟩) k cap]) 25) (Nat.le_refl _))).below hb2)
      clear hb2
      unfold madeV
      have v0 := (Vv.out 0 _ rfl).1
      have vf0 := (Vv.out 0 _ rfl).2
      have v1 := (Vv.out 1 _ rfl).1
      have vf1 := (Vv.out 1 _ rfl).2
      go_wp2_with fail
      refine (sSackPut_yes c _ k cap gs _ ((GA.out).below (below_box (.cells (List.toArray [.int .i64 3, .int .i64 0, .string (sackS c gs)]) 28) (Nat.le_refl _))) HC.out).mono ?_
      rintro e w3 ⟨rfl, hb3⟩
      clear v0 vf0 v1 vf1
      have Vv := Lib.hid (((Vv.out).alloc (.cells (List.toArray [.int .i64 3, .int .i64 0, .string (sackS c gs)]) 28) (by omega)).below hb3 (by simp; omega))
      have Vo := Lib.hid ((VarN.new_at (w := w2) (d := w2.heap.size) (by simp) [.int .i64 3, .int .i64 0, .string (sackS c gs)] 28).below hb3 (by simp))
      have HB3 := Lib.hid (((HB2.out).alloc (Nat.le_trans HB2.out.size (by exact Nat.le_refl _)) (.cells (List.toArray [.int .i64 3, .int .i64 0, .string (sackS c gs)]) 28)).trans (hb3.mono (Nat.le_trans HB2.out.size (by simp <;> omega))))
      have ltv : w1.heap.size < w3.heap.size := lt_of_cell (Vv.out 0 _ rfl).1
      have lto : w2.heap.size < w3.heap.size := lt_of_cell (Vo.out 0 _ rfl).1
      have nev : ¬ w1.heap.size = w3.heap.size := by omega
      have neo : ¬ w2.heap.size = w3.heap.size := by omega
      have GA := Lib.hid (((GA.out).below (below_box (.cells (List.toArray [.int .i64 3, .int .i64 0, .string (sackS c gs)]) 28) (Nat.le_refl _))).below hb3)
      clear hb3
      unfold madeV
      have v0 := (Vv.out 0 _ rfl).1
      have vf0 := (Vv.out 0 _ rfl).2
      have v1 := (Vv.out 1 _ rfl).1
      have vf1 := (Vv.out 1 _ rfl).2
      have o0 := (Vo.out 0 _ rfl).1
      have of0 := (Vo.out 0 _ rfl).2
      have o1 := (Vo.out 1 _ rfl).1
      have of1 := (Vo.out 1 _ rfl).2
      have o2 := (Vo.out 2 _ rfl).1
      have of2 := (Vo.out 2 _ rfl).2
      go_wp2_with fail
      refine (sackGet_put c gs k _ hl HC.out).mono ?_
      rintro e w4 ⟨a2, cap2, rfl, hg2, hb4⟩
      clear v0 vf0 v1 vf1 o0 of0 o1 of1 o2 of2
      have Vv := Lib.hid (((Vv.out).alloc (.cells (List.toArray [.int .i64 3, .int .i64 0, .string (sackS c gs)]) 28) (by omega)).below hb4 (by simp; omega))
      have Vo := Lib.hid (((Vo.out).alloc (.cells (List.toArray [.int .i64 3, .int .i64 0, .string (sackS c gs)]) 28) (by omega)).below hb4 (by simp; omega))
      have Vt := Lib.hid ((VarN.new_at (w := w3) (d := w3.heap.size) (by simp) [.int .i64 3, .int .i64 0, .string (sackS c gs)] 28).below hb4 (by simp))
      have HB4 := Lib.hid (((HB3.out).alloc (Nat.le_trans HB3.out.size (by exact Nat.le_refl _)) (.cells (List.toArray [.int .i64 3, .int .i64 0, .string (sackS c gs)]) 28)).trans (hb4.mono (Nat.le_trans HB3.out.size (by simp <;> omega))))
      have ltv : w1.heap.size < w4.heap.size := lt_of_cell (Vv.out 0 _ rfl).1
      have lto : w2.heap.size < w4.heap.size := lt_of_cell (Vo.out 0 _ rfl).1
      have ltt : w3.heap.size < w4.heap.size := lt_of_cell (Vt.out 0 _ rfl).1
      have nev : ¬ w1.heap.size = w4.heap.size := by omega
      have neo : ¬ w2.heap.size = w4.heap.size := by omega
      have net : ¬ w3.heap.size = w4.heap.size := by omega
      have GA := Lib.hid (((GA.out).below (below_box (.cells (List.toArray [.int .i64 3, .int .i64 0, .string (sackS c gs)]) 28) (Nat.le_refl _))).below hb4)
      clear hb4
      have G2 := Lib.hid hg2
      clear hg2
      have v0 := (Vv.out 0 _ rfl).1
      have vf0 := (Vv.out 0 _ rfl).2
      have v1 := (Vv.out 1 _ rfl).1
      have vf1 := (Vv.out 1 _ rfl).2
      have o0 := (Vo.out 0 _ rfl).1
      have of0 := (Vo.out 0 _ rfl).2
      have o1 := (Vo.out 1 _ rfl).1
      have of1 := (Vo.out 1 _ rfl).2
      have o2 := (Vo.out 2 _ rfl).1
      have of2 := (Vo.out 2 _ rfl).2
      go_wp2_with fail
      refine (sameSack_same c a2 _ k cap2 cap gs _ ((G2.out).below (below_box (.cells (List.toArray [.int .i64 c, .slice a2 k cap2]) 25) (Nat.le_refl _))) ((GA.out).below (below_box (.cells (List.toArray [.int .i64 c, .slice a2 k cap2]) 25) (Nat.le_refl _)))).mono ?_
      rintro e w5 ⟨rfl, hb5⟩
      clear v0 vf0 v1 vf1 o0 of0 o1 of1 o2 of2
      have Vv := Lib.hid (((Vv.out).alloc (.cells (List.toArray [.int .i64 c, .slice a2 k cap2]) 25) (by omega)).below hb5 (by simp; omega))
      have Vo := Lib.hid (((Vo.out).alloc (.cells (List.toArray [.int .i64 c, .slice a2 k cap2]) 25) (by omega)).below hb5 (by simp; omega))
      have Vt := Lib.hid (((Vt.out).alloc (.cells (List.toArray [.int .i64 c, .slice a2 k cap2]) 25) (by omega)).below hb5 (by simp; omega))
      have Vx := Lib.hid ((VarN.new_at (w := w4) (d := w4.heap.size) (by simp) [.int .i64 c, .slice a2 k cap2] 25).below hb5 (by simp))
      have HB5 := Lib.hid (((HB4.out).alloc (Nat.le_trans HB4.out.size (by exact Nat.le_refl _)) (.cells (List.toArray [.int .i64 c, .slice a2 k cap2]) 25)).trans (hb5.mono (Nat.le_trans HB4.out.size (by simp <;> omega))))
      have ltv : w1.heap.size < w5.heap.size := lt_of_cell (Vv.out 0 _ rfl).1
      have lto : w2.heap.size < w5.heap.size := lt_of_cell (Vo.out 0 _ rfl).1
      have ltt : w3.heap.size < w5.heap.size := lt_of_cell (Vt.out 0 _ rfl).1
      have ltx : w4.heap.size < w5.heap.size := lt_of_cell (Vx.out 0 _ rfl).1
      have nev : ¬ w1.heap.size = w5.heap.size := by omega
      have neo : ¬ w2.heap.size = w5.heap.size := by omega
      have net : ¬ w3.heap.size = w5.heap.size := by omega
      have nex : ¬ w4.heap.size = w5.heap.size := by omega
      have GA := Lib.hid (((GA.out).below (below_box (.cells (List.toArray [.int .i64 c, .slice a2 k cap2]) 25) (Nat.le_refl _))).below hb5)
      have G2 := Lib.hid (((G2.out).below (below_box (.cells (List.toArray [.int .i64 c, .slice a2 k cap2]) 25) (Nat.le_refl _))).below hb5)
      clear hb5
      have v0 := (Vv.out 0 _ rfl).1
      have vf0 := (Vv.out 0 _ rfl).2
      have v1 := (Vv.out 1 _ rfl).1
      have vf1 := (Vv.out 1 _ rfl).2
      have o0 := (Vo.out 0 _ rfl).1
      have of0 := (Vo.out 0 _ rfl).2
      have o1 := (Vo.out 1 _ rfl).1
      have of1 := (Vo.out 1 _ rfl).2
      have o2 := (Vo.out 2 _ rfl).1
      have of2 := (Vo.out 2 _ rfl).2
      have hz := sackS_size c gs
      have hzk : ((sackS c gs).size : Int) = 2 + 4 * (k : Int) := by omega
      have w4 : IntKind.i64.wrap (4 * (k : Int)) = 4 * (k : Int) := IntWalk.i64_in _ (by omega)
      have w6 : IntKind.i64.wrap (2 + 4 * (k : Int)) = 2 + 4 * (k : Int) := IntWalk.i64_in _ (by omega)
      clear hz hl
      go_wp2
      go_ret
      exact ⟨rfl, HB5.out⟩
    · have HC := Lib.hid hc
      clear hc
      go_wp2_with fail
      refine (sackPut_no c _ k cap gs _ ((GA.out).below (below_box (.cells (List.toArray [.int .i64 c, .slice (some ⟨g, 0, none⟩) k cap]) 25) (Nat.le_refl _))) HC.out).mono ?_
      rintro e w2 ⟨rfl, hb2⟩
      have Vv := Lib.hid ((VarN.new_at (w := w1) (d := w1.heap.size) (by simp) [.int .i64 c, .slice (some ⟨g, 0, none⟩) k cap] 25).below hb2 (by simp))
      have HB2 := Lib.hid (((hb1).alloc (Nat.le_trans hb1.size (by exact Nat.le_refl _)) (.cells (List.toArray [.int .i64 c, .slice (some ⟨g, 0, none⟩) k cap]) 25)).trans (hb2.mono (Nat.le_trans hb1.size (by simp <;> omega))))
      have ltv : w1.heap.size < w2.heap.size := lt_of_cell (Vv.out 0 _ rfl).1
      have nev : ¬ w1.heap.size = w2.heap.size := by omega
      have GA := Lib.hid (((GA.out).below (below_box (.cells (List.toArray [.int .i64 c, .slice (some ⟨g, 0, none⟩) k cap]) 25) (Nat.le_refl _))).below hb2)
      clear hb2
      unfold notMadeV
      have v0 := (Vv.out 0 _ rfl).1
      have vf0 := (Vv.out 0 _ rfl).2
      have v1 := (Vv.out 1 _ rfl).1
      have vf1 := (Vv.out 1 _ rfl).2
      go_wp2_with fail
      refine (sSackPut_no c _ k cap gs _ ((GA.out).below (below_box (.cells (List.toArray [.int .i64 0, .int .i64 0, .string (ByteArray.mk #[])]) 28) (Nat.le_refl _))) HC.out).mono ?_
      rintro e w3 ⟨rfl, hb3⟩
      clear v0 vf0 v1 vf1
      have Vv := Lib.hid (((Vv.out).alloc (.cells (List.toArray [.int .i64 0, .int .i64 0, .string (ByteArray.mk #[])]) 28) (by omega)).below hb3 (by simp; omega))
      have Vo := Lib.hid ((VarN.new_at (w := w2) (d := w2.heap.size) (by simp) [.int .i64 0, .int .i64 0, .string (ByteArray.mk #[])] 28).below hb3 (by simp))
      have HB3 := Lib.hid (((HB2.out).alloc (Nat.le_trans HB2.out.size (by exact Nat.le_refl _)) (.cells (List.toArray [.int .i64 0, .int .i64 0, .string (ByteArray.mk #[])]) 28)).trans (hb3.mono (Nat.le_trans HB2.out.size (by simp <;> omega))))
      have ltv : w1.heap.size < w3.heap.size := lt_of_cell (Vv.out 0 _ rfl).1
      have lto : w2.heap.size < w3.heap.size := lt_of_cell (Vo.out 0 _ rfl).1
      have nev : ¬ w1.heap.size = w3.heap.size := by omega
      have neo : ¬ w2.heap.size = w3.heap.size := by omega
      have GA := Lib.hid (((GA.out).below (below_box (.cells (List.toArray [.int .i64 0, .int .i64 0, .string (ByteArray.mk #[])]) 28) (Nat.le_refl _))).below hb3)
      clear hb3
      unfold notMadeV
      have v0 := (Vv.out 0 _ rfl).1
      have vf0 := (Vv.out 0 _ rfl).2
      have v1 := (Vv.out 1 _ rfl).1
      have vf1 := (Vv.out 1 _ rfl).2
      have o0 := (Vo.out 0 _ rfl).1
      have of0 := (Vo.out 0 _ rfl).2
      have o1 := (Vo.out 1 _ rfl).1
      have of1 := (Vo.out 1 _ rfl).2
      have o2 := (Vo.out 2 _ rfl).1
      have of2 := (Vo.out 2 _ rfl).2
      go_wp2
      go_ret
      exact ⟨rfl, (HB3.out).alloc (Nat.le_trans HB3.out.size (by exact Nat.le_refl _)) _⟩

set_option maxHeartbeats 4000000 in
theorem walk_fnSackGet (a0 : Option Addr) (len0 cap0 : Nat) (z0 : List Int) (w : World) (w0 : IsRow .u8 w a0 len0 cap0 z0) :
    Calls Try.prog 4 #[.slice a0 len0 cap0] w fun e w' => e = .returned (.bool true) ∧ Below w.heap.size w w' := by
  have H := Lib.hid w0
  clear w0
  by_cases hl : (1048576 : Int) < len0
  · go_enter Try.func4, Try.ntmps4
    go_wp2
    go_ret
    exact ⟨rfl, Below.refl _ _⟩
  · go_enter Try.func4, Try.ntmps4
    go_wp2_with fail
    refine (drawSackGet_any a0 len0 cap0 z0 _ H.out).mono ?_
    rintro e w1 ⟨k, f, b, rfl, ⟨⟨k0, k1⟩, ⟨f0, f1⟩, nb⟩, hb1⟩
    by_cases hc : sackGot k f b = true
    · obtain ⟨c, gs, hok, rfl, rfl, rfl⟩ := sackGot_is hc
      have HC := Lib.hid hok
      clear hok hc k0 k1 f0 f1
      obtain ⟨n, hn⟩ : ∃ n, gs.length = n := ⟨_, rfl⟩
      have HN := Lib.hid hn
      clear hn
      go_wp2_with fail
      refine (sackGet_put c gs n _ HN.out HC.out).mono ?_
      rintro e w2 ⟨a2, cap2, rfl, hg2, hb2⟩
      have Vc := Lib.hid ((VarN.new_at (w := w1) (d := w1.heap.size) (by simp) [.int .i64 3, .int .i64 0, .string (sackS c gs)] 28).below hb2 (by simp))
      have HB2 := Lib.hid (((hb1).alloc (Nat.le_trans hb1.size (by exact Nat.le_refl _)) (.cells (List.toArray [.int .i64 3, .int .i64 0, .string (sackS c gs)]) 28)).trans (hb2.mono (Nat.le_trans hb1.size (by simp <;> omega))))
      have ltc : w1.heap.size < w2.heap.size := lt_of_cell (Vc.out 0 _ rfl).1
      have nec : ¬ w1.heap.size = w2.heap.size := by omega
      clear hb2
      have G2 := Lib.hid hg2
      clear hg2
      have c0 := (Vc.out 0 _ rfl).1
      have cf0 := (Vc.out 0 _ rfl).2
      have c1 := (Vc.out 1 _ rfl).1
      have cf1 := (Vc.out 1 _ rfl).2
      have c2 := (Vc.out 2 _ rfl).1
      have cf2 := (Vc.out 2 _ rfl).2
      go_wp2_with fail
      refine (sSackGet_put c gs n _ HN.out HC.out).mono ?_
      rintro e w3 ⟨g3, cap3, rfl, hg3, hb3⟩
      clear c0 cf0 c1 cf1 c2 cf2
      have Vc := Lib.hid (((Vc.out).alloc (.cells (List.toArray [.int .i64 c, .slice a2 n cap2]) 25) (by omega)).below hb3 (by simp; omega))
      have Vo := Lib.hid ((VarN.new_at (w := w2) (d := w2.heap.size) (by simp) [.int .i64 c, .slice a2 n cap2] 25).below hb3 (by simp))
      have HB3 := Lib.hid (((HB2.out).alloc (Nat.le_trans HB2.out.size (by exact Nat.le_refl _)) (.cells (List.toArray [.int .i64 c, .slice a2 n cap2]) 25)).trans (hb3.mono (Nat.le_trans HB2.out.size (by simp <;> omega))))
      have ltc : w1.heap.size < w3.heap.size := lt_of_cell (Vc.out 0 _ rfl).1
      have lto : w2.heap.size < w3.heap.size := lt_of_cell (Vo.out 0 _ rfl).1
      have nec : ¬ w1.heap.size = w3.heap.size := by omega
      have neo : ¬ w2.heap.size = w3.heap.size := by omega
      have G2 := Lib.hid (((G2.out).below (below_box (.cells (List.toArray [.int .i64 c, .slice a2 n cap2]) 25) (Nat.le_refl _))).below hb3)
      clear hb3
      have G3 := Lib.hid hg3
      clear hg3
      have o0 := (Vo.out 0 _ rfl).1
      have of0 := (Vo.out 0 _ rfl).2
      have o1 := (Vo.out 1 _ rfl).1
      have of1 := (Vo.out 1 _ rfl).2
      go_wp2_with fail
      refine (sameSack_same c a2 _ n cap2 cap3 gs _ ((G2.out).below (below_box (.cells (List.toArray [.int .i64 c, .slice (some ⟨g3, 0, none⟩) n cap3]) 25) (Nat.le_refl _))) ((G3.out).below (below_box (.cells (List.toArray [.int .i64 c, .slice (some ⟨g3, 0, none⟩) n cap3]) 25) (Nat.le_refl _)))).mono ?_
      rintro e w4 ⟨rfl, hb4⟩
      clear o0 of0 o1 of1
      have Vc := Lib.hid (((Vc.out).alloc (.cells (List.toArray [.int .i64 c, .slice (some ⟨g3, 0, none⟩) n cap3]) 25) (by omega)).below hb4 (by simp; omega))
      have Vo := Lib.hid (((Vo.out).alloc (.cells (List.toArray [.int .i64 c, .slice (some ⟨g3, 0, none⟩) n cap3]) 25) (by omega)).below hb4 (by simp; omega))
      have Vt := Lib.hid ((VarN.new_at (w := w3) (d := w3.heap.size) (by simp) [.int .i64 c, .slice (some ⟨g3, 0, none⟩) n cap3] 25).below hb4 (by simp))
      have HB4 := Lib.hid (((HB3.out).alloc (Nat.le_trans HB3.out.size (by exact Nat.le_refl _)) (.cells (List.toArray [.int .i64 c, .slice (some ⟨g3, 0, none⟩) n cap3]) 25)).trans (hb4.mono (Nat.le_trans HB3.out.size (by simp <;> omega))))
      have ltc : w1.heap.size < w4.heap.size := lt_of_cell (Vc.out 0 _ rfl).1
      have lto : w2.heap.size < w4.heap.size := lt_of_cell (Vo.out 0 _ rfl).1
      have ltt : w3.heap.size < w4.heap.size := lt_of_cell (Vt.out 0 _ rfl).1
      have nec : ¬ w1.heap.size = w4.heap.size := by omega
      have neo : ¬ w2.heap.size = w4.heap.size := by omega
      have net : ¬ w3.heap.size = w4.heap.size := by omega
      have G2 := Lib.hid (((G2.out).below (below_box (.cells (List.toArray [.int .i64 c, .slice (some ⟨g3, 0, none⟩) n cap3]) 25) (Nat.le_refl _))).below hb4)
      have G3 := Lib.hid (((G3.out).below (below_box (.cells (List.toArray [.int .i64 c, .slice (some ⟨g3, 0, none⟩) n cap3]) 25) (Nat.le_refl _))).below hb4)
      clear hb4
      have o0 := (Vo.out 0 _ rfl).1
      have of0 := (Vo.out 0 _ rfl).2
      have o1 := (Vo.out 1 _ rfl).1
      have of1 := (Vo.out 1 _ rfl).2
      have t0 := (Vt.out 0 _ rfl).1
      have tf0 := (Vt.out 0 _ rfl).2
      have t1 := (Vt.out 1 _ rfl).1
      have tf1 := (Vt.out 1 _ rfl).2
      go_wp2_with fail
      refine (sackPut_yes c _ n cap2 gs _ G2.out HC.out).mono ?_
      rintro e w5 ⟨rfl, hb5⟩
      clear o0 of0 o1 of1 t0 tf0 t1 tf1
      have Vc := Lib.hid ((Vc.out).below hb5 ltc)
      have Vo := Lib.hid ((Vo.out).below hb5 lto)
      have Vt := Lib.hid ((Vt.out).below hb5 ltt)
      have HB5 := Lib.hid (HB4.out.trans (hb5.mono HB4.out.size))
      have ltc : w1.heap.size < w5.heap.size := lt_of_cell (Vc.out 0 _ rfl).1
      have lto : w2.heap.size < w5.heap.size := lt_of_cell (Vo.out 0 _ rfl).1
      have ltt : w3.heap.size < w5.heap.size := lt_of_cell (Vt.out 0 _ rfl).1
      have nec : ¬ w1.heap.size = w5.heap.size := by omega
      have neo : ¬ w2.heap.size = w5.heap.size := by omega
      have net : ¬ w3.heap.size = w5.heap.size := by omega
      have G2 := Lib.hid ((G2.out).below hb5)
      have G3 := Lib.hid ((G3.out).below hb5)
      clear hb5
      unfold madeV
      have c0 := (Vc.out 0 _ rfl).1
      have cf0 := (Vc.out 0 _ rfl).2
      have c1 := (Vc.out 1 _ rfl).1
      have cf1 := (Vc.out 1 _ rfl).2
      have c2 := (Vc.out 2 _ rfl).1
      have cf2 := (Vc.out 2 _ rfl).2
      go_wp2
      go_ret
      exact ⟨rfl, (HB5.out).alloc (Nat.le_trans HB5.out.size (by exact Nat.le_refl _)) _⟩
    · have HC := Lib.hid (show sackGot k f b = false by simpa using hc)
      clear hc
      go_wp2_with fail
      refine (sackGet_none k f b _ nb HC.out).mono ?_
      rintro e w2 ⟨rfl, hb2⟩
      have Vc := Lib.hid ((VarN.new_at (w := w1) (d := w1.heap.size) (by simp) [.int .i64 k, .int .i64 f, .string b] 28).below hb2 (by simp))
      have HB2 := Lib.hid (((hb1).alloc (Nat.le_trans hb1.size (by exact Nat.le_refl _)) (.cells (List.toArray [.int .i64 k, .int .i64 f, .string b]) 28)).trans (hb2.mono (Nat.le_trans hb1.size (by simp <;> omega))))
      have ltc : w1.heap.size < w2.heap.size := lt_of_cell (Vc.out 0 _ rfl).1
      have nec : ¬ w1.heap.size = w2.heap.size := by omega
      clear hb2
      have c0 := (Vc.out 0 _ rfl).1
      have cf0 := (Vc.out 0 _ rfl).2
      have c1 := (Vc.out 1 _ rfl).1
      have cf1 := (Vc.out 1 _ rfl).2
      have c2 := (Vc.out 2 _ rfl).1
      have cf2 := (Vc.out 2 _ rfl).2
      go_wp2_with fail
      refine (sSackGet_none k f b _ nb HC.out).mono ?_
      rintro e w3 ⟨rfl, hb3⟩
      clear c0 cf0 c1 cf1 c2 cf2
      have Vc := Lib.hid (((Vc.out).alloc (.cells (List.toArray [.int .i64 0, .slice none 0 0]) 25) (by omega)).below hb3 (by simp; omega))
      have Vo := Lib.hid ((VarN.new_at (w := w2) (d := w2.heap.size) (by simp) [.int .i64 0, .slice none 0 0] 25).below hb3 (by simp))
      have HB3 := Lib.hid (((HB2.out).alloc (Nat.le_trans HB2.out.size (by exact Nat.le_refl _)) (.cells (List.toArray [.int .i64 0, .slice none 0 0]) 25)).trans (hb3.mono (Nat.le_trans HB2.out.size (by simp <;> omega))))
      have ltc : w1.heap.size < w3.heap.size := lt_of_cell (Vc.out 0 _ rfl).1
      have lto : w2.heap.size < w3.heap.size := lt_of_cell (Vo.out 0 _ rfl).1
      have nec : ¬ w1.heap.size = w3.heap.size := by omega
      have neo : ¬ w2.heap.size = w3.heap.size := by omega
      clear hb3
      have o0 := (Vo.out 0 _ rfl).1
      have of0 := (Vo.out 0 _ rfl).2
      have o1 := (Vo.out 1 _ rfl).1
      have of1 := (Vo.out 1 _ rfl).2
      go_wp2_with fail
      refine (sameSack_none _).mono ?_
      rintro e w4 ⟨rfl, hb4⟩
      clear o0 of0 o1 of1
      have Vc := Lib.hid (((Vc.out).alloc (.cells (List.toArray [.int .i64 0, .slice none 0 0]) 25) (by omega)).below hb4 (by simp; omega))
      have Vo := Lib.hid (((Vo.out).alloc (.cells (List.toArray [.int .i64 0, .slice none 0 0]) 25) (by omega)).below hb4 (by simp; omega))
      have Vt := Lib.hid ((VarN.new_at (w := w3) (d := w3.heap.size) (by simp) [.int .i64 0, .slice none 0 0] 25).below hb4 (by simp))
      have HB4 := Lib.hid (((HB3.out).alloc (Nat.le_trans HB3.out.size (by exact Nat.le_refl _)) (.cells (List.toArray [.int .i64 0, .slice none 0 0]) 25)).trans (hb4.mono (Nat.le_trans HB3.out.size (by simp <;> omega))))
      have ltc : w1.heap.size < w4.heap.size := lt_of_cell (Vc.out 0 _ rfl).1
      have lto : w2.heap.size < w4.heap.size := lt_of_cell (Vo.out 0 _ rfl).1
      have ltt : w3.heap.size < w4.heap.size := lt_of_cell (Vt.out 0 _ rfl).1
      have nec : ¬ w1.heap.size = w4.heap.size := by omega
      have neo : ¬ w2.heap.size = w4.heap.size := by omega
      have net : ¬ w3.heap.size = w4.heap.size := by omega
      clear hb4
      have o0 := (Vo.out 0 _ rfl).1
      have of0 := (Vo.out 0 _ rfl).2
      have o1 := (Vo.out 1 _ rfl).1
      have of1 := (Vo.out 1 _ rfl).2
      have t0 := (Vt.out 0 _ rfl).1
      have tf0 := (Vt.out 0 _ rfl).2
      have t1 := (Vt.out 1 _ rfl).1
      have tf1 := (Vt.out 1 _ rfl).2
      go_wp2_with fail
      refine (sameSack_none _).mono ?_
      rintro e w5 ⟨rfl, hb5⟩
      clear o0 of0 o1 of1 t0 tf0 t1 tf1
      have Vc := Lib.hid ((Vc.out).below hb5 ltc)
      have Vo := Lib.hid ((Vo.out).below hb5 lto)
      have Vt := Lib.hid ((Vt.out).below hb5 ltt)
      have HB5 := Lib.hid (HB4.out.trans (hb5.mono HB4.out.size))
      have ltc : w1.heap.size < w5.heap.size := lt_of_cell (Vc.out 0 _ rfl).1
      have lto : w2.heap.size < w5.heap.size := lt_of_cell (Vo.out 0 _ rfl).1
      have ltt : w3.heap.size < w5.heap.size := lt_of_cell (Vt.out 0 _ rfl).1
      have nec : ¬ w1.heap.size = w5.heap.size := by omega
      have neo : ¬ w2.heap.size = w5.heap.size := by omega
      have net : ¬ w3.heap.size = w5.heap.size := by omega
      clear hb5
      go_wp2
      go_ret
      exact ⟨rfl, HB5.out⟩

end Go.Proofs.Yteglajjenihagaa
