/- The walk of the exact law on receipts that are read. -/
import Derived.Test.YteglajjenihagaaG13
import Derived.Test.YteglajjenihagaaK39
import Derived.Test.YteglajjenihagaaW20
namespace Go.Proofs.Yteglajjenihagaa
open Go.RowKit Go.PlainAid

theorem sackGet_own (c : Int) (gs : List (Int × Int)) (k : Nat) (w : World) (hk : gs.length = k) (h : SackOk c gs) :
    Calls Try.prog 11 #[.agg #[.int .i64 3, .int .i64 0, .string (sackS c gs)]] w fun e w' => ∃ a cap, e = .returned (.tuple #[.agg #[.int .i64 c, .slice a k cap], .bool true]) ∧ Gaps w' a k cap gs ∧ Mk a k cap w.heap.size w'.heap.size w' ∧ Below w.heap.size w w' := by
  subst hk
  have h8 := sack_few h
  have hz := sackS_size c gs
  refine (sackGet_any 3 0 (sackS c gs) w (by omega)).mono ?_
  have hg : sackGot 3 0 (sackS c gs) = true := by
    unfold sackGot
    rw [sack_count, sack_gaps h, sack_first c gs h.1, sackV_yes h, decide_eq_true ⟨rfl, rfl, by omega⟩, Bool.true_and]
  rw [hg, sack_count, sack_gaps h, sack_first c gs h.1]
  rintro e w' ⟨⟨v, rfl, ho⟩, hb⟩
  obtain ⟨a, cap, rfl, hG⟩ := own_gapsA ho
  exact ⟨a, cap, rfl, hG, Mk.of_own ho, hb⟩
theorem sackGet_ownB (c : Int) (gs : List (Int × Int)) (k : Nat) (b : ByteArray) (w : World) (hb : b = sackS c gs) (hk : gs.length = k) (h : SackOk c gs) :
    Calls Try.prog 11 #[.agg #[.int .i64 3, .int .i64 0, .string b]] w fun e w' => ∃ a cap, e = .returned (.tuple #[.agg #[.int .i64 c, .slice a k cap], .bool true]) ∧ Gaps w' a k cap gs ∧ Mk a k cap w.heap.size w'.heap.size w' ∧ Below w.heap.size w w' :=
  hb ▸ sackGet_own c gs k w hk h
theorem sackGet_putB (c : Int) (gs : List (Int × Int)) (k : Nat) (b : ByteArray) (w : World) (hb : b = sackS c gs) (hk : gs.length = k) (h : SackOk c gs) :
    Calls Try.prog 11 #[.agg #[.int .i64 3, .int .i64 0, .string b]] w fun e w' => ∃ a cap, e = .returned (.tuple #[.agg #[.int .i64 c, .slice a k cap], .bool true]) ∧ Gaps w' a k cap gs ∧ Below w.heap.size w w' :=
  hb ▸ sackGet_put c gs k w hk h
theorem sSackGet_putB (c : Int) (gs : List (Int × Int)) (k : Nat) (b : ByteArray) (w : World) (hb : b = sackS c gs) (hk : gs.length = k) (h : SackOk c gs) :
    Calls Try.prog 14 #[.agg #[.int .i64 3, .int .i64 0, .string b]] w fun e w' => ∃ g cap, e = .returned (.tuple #[.agg #[.int .i64 c, .slice (some ⟨g, 0, none⟩) k cap], .bool true]) ∧ Gaps w' (some ⟨g, 0, none⟩) k cap gs ∧ Below w.heap.size w w' :=
  hb ▸ sSackGet_put c gs k w hk h
theorem sackGet_nil (k f : Int) (b : ByteArray) (w : World) (hm : b.size ≤ 1048576) (h : sackGot k f b = false) :
    Calls Try.prog 11 #[.agg #[.int .i64 k, .int .i64 f, .string b]] w fun e w' => e = .returned (.tuple #[.agg #[.int .i64 0, .slice none 0 0], .bool false]) ∧ Below w.heap.size w w' := by
  refine (sackGet_any k f b w (by omega)).mono ?_
  rw [h]
  rintro e w' ⟨hn, hb⟩
  exact ⟨hn, hb⟩
theorem sSackGet_nil (k f : Int) (b : ByteArray) (w : World) (hm : b.size ≤ 1048576) (h : sackGot k f b = false) :
    Calls Try.prog 14 #[.agg #[.int .i64 k, .int .i64 f, .string b]] w fun e w' => e = .returned (.tuple #[.agg #[.int .i64 0, .slice none 0 0], .bool false]) ∧ Below w.heap.size w w' := by
  refine (sSackGet_any k f b w (by omega)).mono ?_
  rw [h]
  rintro e w' ⟨hn, hb⟩
  exact ⟨hn, hb⟩

set_option maxHeartbeats 4000000 in
theorem walk_fnExactSackGet (k f : Int) (b : ByteArray) (_w0 : (Lit.int .i64 k).wf = true) (_w1 : (Lit.int .i64 f).wf = true) (hm : b.size ≤ maxLen) (w1 : World) :
    Calls Try.prog 7 #[.agg #[.int .i64 k, .int .i64 f, .string b]] w1 fun e w' => e = .returned (.bool true) ∧ Below w1.heap.size w1 w' := by
  have hb1 := Below.refl w1.heap.size w1
  by_cases hz : b.size ≤ 1048576
  · have HZ := Lib.hid hz
    clear hz
    go_enter Try.func7, Try.ntmps7
    by_cases hc : sackGot k f b = true
    · obtain ⟨c, gs, hok, rfl, rfl, hbs⟩ := sackGot_is hc
      have HS := Lib.hid hbs
      clear hbs
      have HC := Lib.hid hok
      have h8 := sack_few hok
      clear hok hc
      obtain ⟨n, hn⟩ : ∃ n, gs.length = n := ⟨_, rfl⟩
      rw [hn] at h8
      have HN := Lib.hid hn
      clear hn
      go_wp2_with fail
      refine (szChunk_yes 3 0 b _ HZ.out).mono ?_
      rintro e w2 ⟨rfl, hb2⟩
      have Vp := Lib.hid ((VarN.new_at (w := w1) (d := w1.heap.size) (by simp) [.int .i64 3, .int .i64 0, .string b] 39).below hb2 (by simp))
      have HB2 := Lib.hid (((hb1).alloc (Nat.le_trans hb1.size (by exact Nat.le_refl _)) (.cells (List.toArray [.int .i64 3, .int .i64 0, .string b]) 39)).trans (hb2.mono (Nat.le_trans hb1.size (by simp <;> omega))))
      have ltp : w1.heap.size < w2.heap.size := lt_of_cell (Vp.out 0 _ rfl).1
      have nep : ¬ w1.heap.size = w2.heap.size := by omega
      clear hb2
      have p0 := (Vp.out 0 _ rfl).1
      have pf0 := (Vp.out 0 _ rfl).2
      have p1 := (Vp.out 1 _ rfl).1
      have pf1 := (Vp.out 1 _ rfl).2
      have p2 := (Vp.out 2 _ rfl).1
      have pf2 := (Vp.out 2 _ rfl).2
      have tz : (b.size : Int) ≤ 1048576 := by have := HZ.out; omega
      go_wp2_with fail
      refine (toChunk_any 3 0 b _).mono ?_
      rintro e w3 ⟨rfl, hb3⟩
      clear p0 pf0 p1 pf1 p2 pf2
      have Vp := Lib.hid ((Vp.out).below hb3 ltp)
      have HB3 := Lib.hid (HB2.out.trans (hb3.mono HB2.out.size))
      have ltp : w1.heap.size < w3.heap.size := lt_of_cell (Vp.out 0 _ rfl).1
      have nep : ¬ w1.heap.size = w3.heap.size := by omega
      clear hb3
      go_wp2_with fail
      refine (sSackGet_putB c gs n b _ HS.out HN.out HC.out).mono ?_
      rintro e w4 ⟨g3, cap3, rfl, hg3, hb4⟩
      have Vp := Lib.hid ((Vp.out).below hb4 ltp)
      have HB4 := Lib.hid (HB3.out.trans (hb4.mono HB3.out.size))
      have ltp : w1.heap.size < w4.heap.size := lt_of_cell (Vp.out 0 _ rfl).1
      have nep : ¬ w1.heap.size = w4.heap.size := by omega
      clear hb4
      have G3 := Lib.hid hg3
      have g3l := gaps_lt hg3
      clear hg3
      have p0 := (Vp.out 0 _ rfl).1
      have pf0 := (Vp.out 0 _ rfl).2
      have p1 := (Vp.out 1 _ rfl).1
      have pf1 := (Vp.out 1 _ rfl).2
      have p2 := (Vp.out 2 _ rfl).1
      have pf2 := (Vp.out 2 _ rfl).2
      go_wp2_with fail
      refine (toChunk_any 3 0 b _).mono ?_
      rintro e w5 ⟨rfl, hb5⟩
      clear p0 pf0 p1 pf1 p2 pf2
      have Vp := Lib.hid (((Vp.out).alloc (.cells (List.toArray [.int .i64 c, .slice (some ⟨g3, 0, none⟩) n cap3]) 25) (by omega)).below hb5 (by simp; omega))
      have Vv := Lib.hid ((VarN.new_at (w := w4) (d := w4.heap.size) (by simp) [.int .i64 c, .slice (some ⟨g3, 0, none⟩) n cap3] 25).below hb5 (by simp))
      have HB5 := Lib.hid (((HB4.out).alloc (Nat.le_trans HB4.out.size (by exact Nat.le_refl _)) (.cells (List.toArray [.int .i64 c, .slice (some ⟨g3, 0, none⟩) n cap3]) 25)).trans (hb5.mono (Nat.le_trans HB4.out.size (by simp <;> omega))))
      have ltp : w1.heap.size < w5.heap.size := lt_of_cell (Vp.out 0 _ rfl).1
      have ltv : w4.heap.size < w5.heap.size := lt_of_cell (Vv.out 0 _ rfl).1
      have nep : ¬ w1.heap.size = w5.heap.size := by omega
      have nev : ¬ w4.heap.size = w5.heap.size := by omega
      have G3 := Lib.hid (((G3.out).below (below_box (.cells (List.toArray [.int .i64 c, .slice (some ⟨g3, 0, none⟩) n cap3]) 25) (Nat.le_refl _))).below hb5)
      clear hb5
      have Cp := ltp
      have Cv := ltv
      go_wp2_with fail
      refine (sackGet_ownB c gs n b _ HS.out HN.out HC.out).mono ?_
      rintro e w6 ⟨a, cap, rfl, hg4, hmk, hb6⟩
      have Vp := Lib.hid ((Vp.out).below hb6 ltp)
      have Vv := Lib.hid ((Vv.out).below hb6 ltv)
      have HB6 := Lib.hid (HB5.out.trans (hb6.mono HB5.out.size))
      have ltp : w1.heap.size < w6.heap.size := lt_of_cell (Vp.out 0 _ rfl).1
      have ltv : w4.heap.size < w6.heap.size := lt_of_cell (Vv.out 0 _ rfl).1
      have nep : ¬ w1.heap.size = w6.heap.size := by omega
      have nev : ¬ w4.heap.size = w6.heap.size := by omega
      have G3 := Lib.hid ((G3.out).below hb6)
      have szC : w5.heap.size ≤ w6.heap.size := hb6.size
      clear hb6
      have G4 := Lib.hid hg4
      have M := Lib.hid hmk
      clear hg4 hmk
      have v0 := (Vv.out 0 _ rfl).1
      have vf0 := (Vv.out 0 _ rfl).2
      have v1 := (Vv.out 1 _ rfl).1
      have vf1 := (Vv.out 1 _ rfl).2
      go_wp2_with fail
      refine (eqSack_same c a _ n cap cap3 gs _ ((G4.out).below (below_box (.cells (List.toArray [.int .i64 c, .slice a n cap]) 25) (Nat.le_refl _))) ((G3.out).below (below_box (.cells (List.toArray [.int .i64 c, .slice a n cap]) 25) (Nat.le_refl _)))).mono ?_
      rintro e w7 ⟨rfl, hb7⟩
      clear v0 vf0 v1 vf1
      have Vp := Lib.hid (((Vp.out).alloc (.cells (List.toArray [.int .i64 c, .slice a n cap]) 25) (by omega)).below hb7 (by simp; omega))
      have Vv := Lib.hid (((Vv.out).alloc (.cells (List.toArray [.int .i64 c, .slice a n cap]) 25) (by omega)).below hb7 (by simp; omega))
      have Vg := Lib.hid ((VarN.new_at (w := w6) (d := w6.heap.size) (by simp) [.int .i64 c, .slice a n cap] 25).below hb7 (by simp))
      have HB7 := Lib.hid (((HB6.out).alloc (Nat.le_trans HB6.out.size (by exact Nat.le_refl _)) (.cells (List.toArray [.int .i64 c, .slice a n cap]) 25)).trans (hb7.mono (Nat.le_trans HB6.out.size (by simp <;> omega))))
      have ltp : w1.heap.size < w7.heap.size := lt_of_cell (Vp.out 0 _ rfl).1
      have ltv : w4.heap.size < w7.heap.size := lt_of_cell (Vv.out 0 _ rfl).1
      have ltg : w6.heap.size < w7.heap.size := lt_of_cell (Vg.out 0 _ rfl).1
      have nep : ¬ w1.heap.size = w7.heap.size := by omega
      have nev : ¬ w4.heap.size = w7.heap.size := by omega
      have neg : ¬ w6.heap.size = w7.heap.size := by omega
      have G3 := Lib.hid (((G3.out).below (below_box (.cells (List.toArray [.int .i64 c, .slice a n cap]) 25) (Nat.le_refl _))).below hb7)
      have G4 := Lib.hid (((G4.out).below (below_box (.cells (List.toArray [.int .i64 c, .slice a n cap]) 25) (Nat.le_refl _))).below hb7)
      have M := Lib.hid (((M.out).below (below_box (.cells (List.toArray [.int .i64 c, .slice a n cap]) 25) (Nat.le_refl _))).below hb7)
      clear hb7
      have g0 := (Vg.out 0 _ rfl).1
      have gf0 := (Vg.out 0 _ rfl).2
      have g1 := (Vg.out 1 _ rfl).1
      have gf1 := (Vg.out 1 _ rfl).2
      go_wp2_with fail
      refine (markSack_any c a n cap w5.heap.size w6.heap.size _ (by omega) (by omega) M.out).mono ?_
      rintro e w8 ⟨rfl, hgm, ham, hsm, hbm⟩
      clear g0 gf0 g1 gf1
      have Vp := Lib.hid (Vp.out.below hbm Cp)
      have Vv := Lib.hid (Vv.out.below hbm Cv)
      have Vg := Lib.hid (Vg.out.aw ham ltg (M.out.far (Nat.le_refl _)))
      have G3 := Lib.hid (G3.out.under hbm (by omega))
      have HB8 := Lib.hid (HB7.out.trans (hbm.mono (by omega)))
      have GM := Lib.hid hgm
      clear hgm ham hbm G4 M
      have ltp : w1.heap.size < w8.heap.size := lt_of_cell (Vp.out 0 _ rfl).1
      have ltv : w4.heap.size < w8.heap.size := lt_of_cell (Vv.out 0 _ rfl).1
      have ltg : w6.heap.size < w8.heap.size := lt_of_cell (Vg.out 0 _ rfl).1
      have nep : ¬ w1.heap.size = w8.heap.size := by omega
      have nev : ¬ w4.heap.size = w8.heap.size := by omega
      have neg : ¬ w6.heap.size = w8.heap.size := by omega
      have g0 := (Vg.out 0 _ rfl).1
      have gf0 := (Vg.out 0 _ rfl).2
      have g1 := (Vg.out 1 _ rfl).1
      have gf1 := (Vg.out 1 _ rfl).2
      go_wp2_with fail
      refine (heldSack_any c a n cap _ (by omega) GM.out).mono ?_
      rintro e w9 ⟨rfl, hb9⟩
      clear g0 gf0 g1 gf1
      have Vp := Lib.hid ((Vp.out).below hb9 ltp)
      have Vv := Lib.hid ((Vv.out).below hb9 ltv)
      have Vg := Lib.hid ((Vg.out).below hb9 ltg)
      have HB9 := Lib.hid (HB8.out.trans (hb9.mono HB8.out.size))
      have ltp : w1.heap.size < w9.heap.size := lt_of_cell (Vp.out 0 _ rfl).1
      have ltv : w4.heap.size < w9.heap.size := lt_of_cell (Vv.out 0 _ rfl).1
      have ltg : w6.heap.size < w9.heap.size := lt_of_cell (Vg.out 0 _ rfl).1
      have nep : ¬ w1.heap.size = w9.heap.size := by omega
      have nev : ¬ w4.heap.size = w9.heap.size := by omega
      have neg : ¬ w6.heap.size = w9.heap.size := by omega
      have G3 := Lib.hid ((G3.out).below hb9)
      have GM := Lib.hid ((GM.out).below hb9)
      clear hb9
      have hq : ¬ 1 + 2 * (n : Int) < 0 := by omega
      have p0 := (Vp.out 0 _ rfl).1
      have pf0 := (Vp.out 0 _ rfl).2
      have p1 := (Vp.out 1 _ rfl).1
      have pf1 := (Vp.out 1 _ rfl).2
      have p2 := (Vp.out 2 _ rfl).1
      have pf2 := (Vp.out 2 _ rfl).2
      go_wp2_with fail
      refine (toChunk_any 3 0 b _).mono ?_
      rintro e w10 ⟨rfl, hb10⟩
      clear p0 pf0 p1 pf1 p2 pf2
      have Vp := Lib.hid ((Vp.out).below hb10 ltp)
      have Vv := Lib.hid ((Vv.out).below hb10 ltv)
      have Vg := Lib.hid ((Vg.out).below hb10 ltg)
      have HB10 := Lib.hid (HB9.out.trans (hb10.mono HB9.out.size))
      have ltp : w1.heap.size < w10.heap.size := lt_of_cell (Vp.out 0 _ rfl).1
      have ltv : w4.heap.size < w10.heap.size := lt_of_cell (Vv.out 0 _ rfl).1
      have ltg : w6.heap.size < w10.heap.size := lt_of_cell (Vg.out 0 _ rfl).1
      have nep : ¬ w1.heap.size = w10.heap.size := by omega
      have nev : ¬ w4.heap.size = w10.heap.size := by omega
      have neg : ¬ w6.heap.size = w10.heap.size := by omega
      have G3 := Lib.hid ((G3.out).below hb10)
      have GM := Lib.hid ((GM.out).below hb10)
      clear hb10
      go_wp2_with fail
      refine (sackGet_putB c gs n b _ HS.out HN.out HC.out).mono ?_
      rintro e w11 ⟨a2, cap2, rfl, hg5, hb11⟩
      have Vp := Lib.hid ((Vp.out).below hb11 ltp)
      have Vv := Lib.hid ((Vv.out).below hb11 ltv)
      have Vg := Lib.hid ((Vg.out).below hb11 ltg)
      have HB11 := Lib.hid (HB10.out.trans (hb11.mono HB10.out.size))
      have ltp : w1.heap.size < w11.heap.size := lt_of_cell (Vp.out 0 _ rfl).1
      have ltv : w4.heap.size < w11.heap.size := lt_of_cell (Vv.out 0 _ rfl).1
      have ltg : w6.heap.size < w11.heap.size := lt_of_cell (Vg.out 0 _ rfl).1
      have nep : ¬ w1.heap.size = w11.heap.size := by omega
      have nev : ¬ w4.heap.size = w11.heap.size := by omega
      have neg : ¬ w6.heap.size = w11.heap.size := by omega
      have G3 := Lib.hid ((G3.out).below hb11)
      have GM := Lib.hid ((GM.out).below hb11)
      clear hb11
      have G5 := Lib.hid hg5
      clear hg5
      have v0 := (Vv.out 0 _ rfl).1
      have vf0 := (Vv.out 0 _ rfl).2
      have v1 := (Vv.out 1 _ rfl).1
      have vf1 := (Vv.out 1 _ rfl).2
      go_wp2_with fail
      refine (eqSack_same c a2 _ n cap2 cap3 gs _ ((G5.out).below (below_box (.cells (List.toArray [.int .i64 c, .slice a2 n cap2]) 25) (Nat.le_refl _))) ((G3.out).below (below_box (.cells (List.toArray [.int .i64 c, .slice a2 n cap2]) 25) (Nat.le_refl _)))).mono ?_
      rintro e w12 ⟨rfl, hb12⟩
      clear v0 vf0 v1 vf1
      have Vp := Lib.hid (((Vp.out).alloc (.cells (List.toArray [.int .i64 c, .slice a2 n cap2]) 25) (by omega)).below hb12 (by simp; omega))
      have Vv := Lib.hid (((Vv.out).alloc (.cells (List.toArray [.int .i64 c, .slice a2 n cap2]) 25) (by omega)).below hb12 (by simp; omega))
      have Vg := Lib.hid (((Vg.out).alloc (.cells (List.toArray [.int .i64 c, .slice a2 n cap2]) 25) (by omega)).below hb12 (by simp; omega))
      have Vh := Lib.hid ((VarN.new_at (w := w11) (d := w11.heap.size) (by simp) [.int .i64 c, .slice a2 n cap2] 25).below hb12 (by simp))
      have HB12 := Lib.hid (((HB11.out).alloc (Nat.le_trans HB11.out.size (by exact Nat.le_refl _)) (.cells (List.toArray [.int .i64 c, .slice a2 n cap2]) 25)).trans (hb12.mono (Nat.le_trans HB11.out.size (by simp <;> omega))))
      have ltp : w1.heap.size < w12.heap.size := lt_of_cell (Vp.out 0 _ rfl).1
      have ltv : w4.heap.size < w12.heap.size := lt_of_cell (Vv.out 0 _ rfl).1
      have ltg : w6.heap.size < w12.heap.size := lt_of_cell (Vg.out 0 _ rfl).1
      have lth : w11.heap.size < w12.heap.size := lt_of_cell (Vh.out 0 _ rfl).1
      have nep : ¬ w1.heap.size = w12.heap.size := by omega
      have nev : ¬ w4.heap.size = w12.heap.size := by omega
      have neg : ¬ w6.heap.size = w12.heap.size := by omega
      have neh : ¬ w11.heap.size = w12.heap.size := by omega
      have G3 := Lib.hid (((G3.out).below (below_box (.cells (List.toArray [.int .i64 c, .slice a2 n cap2]) 25) (Nat.le_refl _))).below hb12)
      have GM := Lib.hid (((GM.out).below (below_box (.cells (List.toArray [.int .i64 c, .slice a2 n cap2]) 25) (Nat.le_refl _))).below hb12)
      have G5 := Lib.hid (((G5.out).below (below_box (.cells (List.toArray [.int .i64 c, .slice a2 n cap2]) 25) (Nat.le_refl _))).below hb12)
      clear hb12
      have g0 := (Vg.out 0 _ rfl).1
      have gf0 := (Vg.out 0 _ rfl).2
      have g1 := (Vg.out 1 _ rfl).1
      have gf1 := (Vg.out 1 _ rfl).2
      go_wp2_with fail
      refine (heldSack_any c a n cap _ (by omega) GM.out).mono ?_
      rintro e w13 ⟨rfl, hb13⟩
      clear g0 gf0 g1 gf1
      have Vp := Lib.hid ((Vp.out).below hb13 ltp)
      have Vv := Lib.hid ((Vv.out).below hb13 ltv)
      have Vg := Lib.hid ((Vg.out).below hb13 ltg)
      have Vh := Lib.hid ((Vh.out).below hb13 lth)
      have HB13 := Lib.hid (HB12.out.trans (hb13.mono HB12.out.size))
      have ltp : w1.heap.size < w13.heap.size := lt_of_cell (Vp.out 0 _ rfl).1
      have ltv : w4.heap.size < w13.heap.size := lt_of_cell (Vv.out 0 _ rfl).1
      have ltg : w6.heap.size < w13.heap.size := lt_of_cell (Vg.out 0 _ rfl).1
      have lth : w11.heap.size < w13.heap.size := lt_of_cell (Vh.out 0 _ rfl).1
      have nep : ¬ w1.heap.size = w13.heap.size := by omega
      have nev : ¬ w4.heap.size = w13.heap.size := by omega
      have neg : ¬ w6.heap.size = w13.heap.size := by omega
      have neh : ¬ w11.heap.size = w13.heap.size := by omega
      have G3 := Lib.hid ((G3.out).below hb13)
      have GM := Lib.hid ((GM.out).below hb13)
      have G5 := Lib.hid ((G5.out).below hb13)
      clear hb13
      go_wp2
      go_ret
      exact ⟨rfl, HB13.out⟩
    · have HC := Lib.hid (show sackGot k f b = false by simpa using hc)
      clear hc
      go_wp2_with fail
      refine (szChunk_yes k f b _ HZ.out).mono ?_
      rintro e w2 ⟨rfl, hb2⟩
      have Vp := Lib.hid ((VarN.new_at (w := w1) (d := w1.heap.size) (by simp) [.int .i64 k, .int .i64 f, .string b] 39).below hb2 (by simp))
      have HB2 := Lib.hid (((hb1).alloc (Nat.le_trans hb1.size (by exact Nat.le_refl _)) (.cells (List.toArray [.int .i64 k, .int .i64 f, .string b]) 39)).trans (hb2.mono (Nat.le_trans hb1.size (by simp <;> omega))))
      have ltp : w1.heap.size < w2.heap.size := lt_of_cell (Vp.out 0 _ rfl).1
      have nep : ¬ w1.heap.size = w2.heap.size := by omega
      clear hb2
      have p0 := (Vp.out 0 _ rfl).1
      have pf0 := (Vp.out 0 _ rfl).2
      have p1 := (Vp.out 1 _ rfl).1
      have pf1 := (Vp.out 1 _ rfl).2
      have p2 := (Vp.out 2 _ rfl).1
      have pf2 := (Vp.out 2 _ rfl).2
      have tz : (b.size : Int) ≤ 1048576 := by have := HZ.out; omega
      go_wp2_with fail
      refine (toChunk_any k f b _).mono ?_
      rintro e w3 ⟨rfl, hb3⟩
      clear p0 pf0 p1 pf1 p2 pf2
      have Vp := Lib.hid ((Vp.out).below hb3 ltp)
      have HB3 := Lib.hid (HB2.out.trans (hb3.mono HB2.out.size))
      have ltp : w1.heap.size < w3.heap.size := lt_of_cell (Vp.out 0 _ rfl).1
      have nep : ¬ w1.heap.size = w3.heap.size := by omega
      clear hb3
      go_wp2_with fail
      refine (sSackGet_nil k f b _ HZ.out HC.out).mono ?_
      rintro e w4 ⟨rfl, hb4⟩
      have Vp := Lib.hid ((Vp.out).below hb4 ltp)
      have HB4 := Lib.hid (HB3.out.trans (hb4.mono HB3.out.size))
      have ltp : w1.heap.size < w4.heap.size := lt_of_cell (Vp.out 0 _ rfl).1
      have nep : ¬ w1.heap.size = w4.heap.size := by omega
      clear hb4
      have p0 := (Vp.out 0 _ rfl).1
      have pf0 := (Vp.out 0 _ rfl).2
      have p1 := (Vp.out 1 _ rfl).1
      have pf1 := (Vp.out 1 _ rfl).2
      have p2 := (Vp.out 2 _ rfl).1
      have pf2 := (Vp.out 2 _ rfl).2
      go_wp2_with fail
      refine (toChunk_any k f b _).mono ?_
      rintro e w5 ⟨rfl, hb5⟩
      clear p0 pf0 p1 pf1 p2 pf2
      have Vp := Lib.hid (((Vp.out).alloc (.cells (List.toArray [.int .i64 0, .slice none 0 0]) 25) (by omega)).below hb5 (by simp; omega))
      have Vv := Lib.hid ((VarN.new_at (w := w4) (d := w4.heap.size) (by simp) [.int .i64 0, .slice none 0 0] 25).below hb5 (by simp))
      have HB5 := Lib.hid (((HB4.out).alloc (Nat.le_trans HB4.out.size (by exact Nat.le_refl _)) (.cells (List.toArray [.int .i64 0, .slice none 0 0]) 25)).trans (hb5.mono (Nat.le_trans HB4.out.size (by simp <;> omega))))
      have ltp : w1.heap.size < w5.heap.size := lt_of_cell (Vp.out 0 _ rfl).1
      have ltv : w4.heap.size < w5.heap.size := lt_of_cell (Vv.out 0 _ rfl).1
      have nep : ¬ w1.heap.size = w5.heap.size := by omega
      have nev : ¬ w4.heap.size = w5.heap.size := by omega
      clear hb5
      go_wp2_with fail
      refine (sackGet_nil k f b _ HZ.out HC.out).mono ?_
      rintro e w6 ⟨rfl, hb6⟩
      have Vp := Lib.hid ((Vp.out).below hb6 ltp)
      have Vv := Lib.hid ((Vv.out).below hb6 ltv)
      have HB6 := Lib.hid (HB5.out.trans (hb6.mono HB5.out.size))
      have ltp : w1.heap.size < w6.heap.size := lt_of_cell (Vp.out 0 _ rfl).1
      have ltv : w4.heap.size < w6.heap.size := lt_of_cell (Vv.out 0 _ rfl).1
      have nep : ¬ w1.heap.size = w6.heap.size := by omega
      have nev : ¬ w4.heap.size = w6.heap.size := by omega
      clear hb6
      have v0 := (Vv.out 0 _ rfl).1
      have vf0 := (Vv.out 0 _ rfl).2
      have v1 := (Vv.out 1 _ rfl).1
      have vf1 := (Vv.out 1 _ rfl).2
      go_wp2_with fail
      refine (eqSack_none _).mono ?_
      rintro e w7 ⟨rfl, hb7⟩
      clear v0 vf0 v1 vf1
      have Vp := Lib.hid (((Vp.out).alloc (.cells (List.toArray [.int .i64 0, .slice none 0 0]) 25) (by omega)).below hb7 (by simp; omega))
      have Vv := Lib.hid (((Vv.out).alloc (.cells (List.toArray [.int .i64 0, .slice none 0 0]) 25) (by omega)).below hb7 (by simp; omega))
      have Vg := Lib.hid ((VarN.new_at (w := w6) (d := w6.heap.size) (by simp) [.int .i64 0, .slice none 0 0] 25).below hb7 (by simp))
      have HB7 := Lib.hid (((HB6.out).alloc (Nat.le_trans HB6.out.size (by exact Nat.le_refl _)) (.cells (List.toArray [.int .i64 0, .slice none 0 0]) 25)).trans (hb7.mono (Nat.le_trans HB6.out.size (by simp <;> omega))))
      have ltp : w1.heap.size < w7.heap.size := lt_of_cell (Vp.out 0 _ rfl).1
      have ltv : w4.heap.size < w7.heap.size := lt_of_cell (Vv.out 0 _ rfl).1
      have ltg : w6.heap.size < w7.heap.size := lt_of_cell (Vg.out 0 _ rfl).1
      have nep : ¬ w1.heap.size = w7.heap.size := by omega
      have nev : ¬ w4.heap.size = w7.heap.size := by omega
      have neg : ¬ w6.heap.size = w7.heap.size := by omega
      clear hb7
      have g0 := (Vg.out 0 _ rfl).1
      have gf0 := (Vg.out 0 _ rfl).2
      have g1 := (Vg.out 1 _ rfl).1
      have gf1 := (Vg.out 1 _ rfl).2
      go_wp2_with fail
      refine (markSack_none 0 _).mono ?_
      rintro e w8 ⟨rfl, hb8⟩
      clear g0 gf0 g1 gf1
      have Vp := Lib.hid ((Vp.out).below hb8 ltp)
      have Vv := Lib.hid ((Vv.out).below hb8 ltv)
      have Vg := Lib.hid ((Vg.out).below hb8 ltg)
      have HB8 := Lib.hid (HB7.out.trans (hb8.mono HB7.out.size))
      have ltp : w1.heap.size < w8.heap.size := lt_of_cell (Vp.out 0 _ rfl).1
      have ltv : w4.heap.size < w8.heap.size := lt_of_cell (Vv.out 0 _ rfl).1
      have ltg : w6.heap.size < w8.heap.size := lt_of_cell (Vg.out 0 _ rfl).1
      have nep : ¬ w1.heap.size = w8.heap.size := by omega
      have nev : ¬ w4.heap.size = w8.heap.size := by omega
      have neg : ¬ w6.heap.size = w8.heap.size := by omega
      clear hb8
      have g0 := (Vg.out 0 _ rfl).1
      have gf0 := (Vg.out 0 _ rfl).2
      have g1 := (Vg.out 1 _ rfl).1
      have gf1 := (Vg.out 1 _ rfl).2
      go_wp2_with fail
      refine (heldSack_none 0 _).mono ?_
      rintro e w9 ⟨rfl, hb9⟩
      clear g0 gf0 g1 gf1
      have Vp := Lib.hid ((Vp.out).below hb9 ltp)
      have Vv := Lib.hid ((Vv.out).below hb9 ltv)
      have Vg := Lib.hid ((Vg.out).below hb9 ltg)
      have HB9 := Lib.hid (HB8.out.trans (hb9.mono HB8.out.size))
      have ltp : w1.heap.size < w9.heap.size := lt_of_cell (Vp.out 0 _ rfl).1
      have ltv : w4.heap.size < w9.heap.size := lt_of_cell (Vv.out 0 _ rfl).1
      have ltg : w6.heap.size < w9.heap.size := lt_of_cell (Vg.out 0 _ rfl).1
      have nep : ¬ w1.heap.size = w9.heap.size := by omega
      have nev : ¬ w4.heap.size = w9.heap.size := by omega
      have neg : ¬ w6.heap.size = w9.heap.size := by omega
      clear hb9
      have p0 := (Vp.out 0 _ rfl).1
      have pf0 := (Vp.out 0 _ rfl).2
      have p1 := (Vp.out 1 _ rfl).1
      have pf1 := (Vp.out 1 _ rfl).2
      have p2 := (Vp.out 2 _ rfl).1
      have pf2 := (Vp.out 2 _ rfl).2
      go_wp2_with fail
      refine (toChunk_any k f b _).mono ?_
      rintro e w10 ⟨rfl, hb10⟩
      clear p0 pf0 p1 pf1 p2 pf2
      have Vp := Lib.hid ((Vp.out).below hb10 ltp)
      have Vv := Lib.hid ((Vv.out).below hb10 ltv)
      have Vg := Lib.hid ((Vg.out).below hb10 ltg)
      have HB10 := Lib.hid (HB9.out.trans (hb10.mono HB9.out.size))
      have ltp : w1.heap.size < w10.heap.size := lt_of_cell (Vp.out 0 _ rfl).1
      have ltv : w4.heap.size < w10.heap.size := lt_of_cell (Vv.out 0 _ rfl).1
      have ltg : w6.heap.size < w10.heap.size := lt_of_cell (Vg.out 0 _ rfl).1
      have nep : ¬ w1.heap.size = w10.heap.size := by omega
      have nev : ¬ w4.heap.size = w10.heap.size := by omega
      have neg : ¬ w6.heap.size = w10.heap.size := by omega
      clear hb10
      go_wp2_with fail
      refine (sackGet_nil k f b _ HZ.out HC.out).mono ?_
      rintro e w11 ⟨rfl, hb11⟩
      have Vp := Lib.hid ((Vp.out).below hb11 ltp)
      have Vv := Lib.hid ((Vv.out).below hb11 ltv)
      have Vg := Lib.hid ((Vg.out).below hb11 ltg)
      have HB11 := Lib.hid (HB10.out.trans (hb11.mono HB10.out.size))
      have ltp : w1.heap.size < w11.heap.size := lt_of_cell (Vp.out 0 _ rfl).1
      have ltv : w4.heap.size < w11.heap.size := lt_of_cell (Vv.out 0 _ rfl).1
      have ltg : w6.heap.size < w11.heap.size := lt_of_cell (Vg.out 0 _ rfl).1
      have nep : ¬ w1.heap.size = w11.heap.size := by omega
      have nev : ¬ w4.heap.size = w11.heap.size := by omega
      have neg : ¬ w6.heap.size = w11.heap.size := by omega
      clear hb11
      have v0 := (Vv.out 0 _ rfl).1
      have vf0 := (Vv.out 0 _ rfl).2
      have v1 := (Vv.out 1 _ rfl).1
      have vf1 := (Vv.out 1 _ rfl).2
      go_wp2_with fail
      refine (eqSack_none _).mono ?_
      rintro e w12 ⟨rfl, hb12⟩
      clear v0 vf0 v1 vf1
      have Vp := Lib.hid (((Vp.out).alloc (.cells (List.toArray [.int .i64 0, .slice none 0 0]) 25) (by omega)).below hb12 (by simp; omega))
      have Vv := Lib.hid (((Vv.out).alloc (.cells (List.toArray [.int .i64 0, .slice none 0 0]) 25) (by omega)).below hb12 (by simp; omega))
      have Vg := Lib.hid (((Vg.out).alloc (.cells (List.toArray [.int .i64 0, .slice none 0 0]) 25) (by omega)).below hb12 (by simp; omega))
      have Vh := Lib.hid ((VarN.new_at (w := w11) (d := w11.heap.size) (by simp) [.int .i64 0, .slice none 0 0] 25).below hb12 (by simp))
      have HB12 := Lib.hid (((HB11.out).alloc (Nat.le_trans HB11.out.size (by exact Nat.le_refl _)) (.cells (List.toArray [.int .i64 0, .slice none 0 0]) 25)).trans (hb12.mono (Nat.le_trans HB11.out.size (by simp <;> omega))))
      have ltp : w1.heap.size < w12.heap.size := lt_of_cell (Vp.out 0 _ rfl).1
      have ltv : w4.heap.size < w12.heap.size := lt_of_cell (Vv.out 0 _ rfl).1
      have ltg : w6.heap.size < w12.heap.size := lt_of_cell (Vg.out 0 _ rfl).1
      have lth : w11.heap.size < w12.heap.size := lt_of_cell (Vh.out 0 _ rfl).1
      have nep : ¬ w1.heap.size = w12.heap.size := by omega
      have nev : ¬ w4.heap.size = w12.heap.size := by omega
      have neg : ¬ w6.heap.size = w12.heap.size := by omega
      have neh : ¬ w11.heap.size = w12.heap.size := by omega
      clear hb12
      have g0 := (Vg.out 0 _ rfl).1
      have gf0 := (Vg.out 0 _ rfl).2
      have g1 := (Vg.out 1 _ rfl).1
      have gf1 := (Vg.out 1 _ rfl).2
      go_wp2_with fail
      refine (heldSack_none 0 _).mono ?_
      rintro e w13 ⟨rfl, hb13⟩
      clear g0 gf0 g1 gf1
      have Vp := Lib.hid ((Vp.out).below hb13 ltp)
      have Vv := Lib.hid ((Vv.out).below hb13 ltv)
      have Vg := Lib.hid ((Vg.out).below hb13 ltg)
      have Vh := Lib.hid ((Vh.out).below hb13 lth)
      have HB13 := Lib.hid (HB12.out.trans (hb13.mono HB12.out.size))
      have ltp : w1.heap.size < w13.heap.size := lt_of_cell (Vp.out 0 _ rfl).1
      have ltv : w4.heap.size < w13.heap.size := lt_of_cell (Vv.out 0 _ rfl).1
      have ltg : w6.heap.size < w13.heap.size := lt_of_cell (Vg.out 0 _ rfl).1
      have lth : w11.heap.size < w13.heap.size := lt_of_cell (Vh.out 0 _ rfl).1
      have nep : ¬ w1.heap.size = w13.heap.size := by omega
      have nev : ¬ w4.heap.size = w13.heap.size := by omega
      have neg : ¬ w6.heap.size = w13.heap.size := by omega
      have neh : ¬ w11.heap.size = w13.heap.size := by omega
      clear hb13
      go_wp2
      go_ret
      exact ⟨rfl, HB13.out⟩
  · have HZ := Lib.hid (show 1048576 < b.size by omega)
    clear hz
    go_enter Try.func7, Try.ntmps7
    go_wp2_with fail
    refine (szChunk_no k f b _ HZ.out hm).mono ?_
    rintro e w2 ⟨rfl, hb2⟩
    have Vp := Lib.hid ((VarN.new_at (w := w1) (d := w1.heap.size) (by simp) [.int .i64 k, .int .i64 f, .string b] 39).below hb2 (by simp))
    have HB2 := Lib.hid (((hb1).alloc (Nat.le_trans hb1.size (by exact Nat.le_refl _)) (.cells (List.toArray [.int .i64 k, .int .i64 f, .string b]) 39)).trans (hb2.mono (Nat.le_trans hb1.size (by simp <;> omega))))
    have ltp : w1.heap.size < w2.heap.size := lt_of_cell (Vp.out 0 _ rfl).1
    have nep : ¬ w1.heap.size = w2.heap.size := by omega
    clear hb2
    go_wp2
    go_ret
    exact ⟨rfl, HB2.out⟩

end Go.Proofs.Yteglajjenihagaa
