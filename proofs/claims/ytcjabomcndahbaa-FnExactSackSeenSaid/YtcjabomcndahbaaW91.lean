/- The walk of the exact law on what a receipt tells. -/
import Derived.Test.YtcjabomcndahbaaK120
import Derived.Deep.RegionHeldLaw
import Derived.Handy
namespace Go.Proofs.Ytcjabomcndahbaa
open Go.RowKit Go.PlainAid

theorem keptXG {p q p' q' : Addr} {x y x' y' : Value} {a b : Option Addr} {l1 c1 l2 c2 : Nat} {es ds : List (Int × Int)} {w W W' : World}
    (h : W.cell? p = some x ∧ W.cell? q = some y ∧ W.cell? p' = some x' ∧ W.cell? q' = some y' ∧ Gaps W a l1 c1 es ∧ Gaps W b l2 c2 ds ∧ Below w.heap.size w W) (hb : Below W.heap.size W W') :
    W'.cell? p = some x ∧ W'.cell? q = some y ∧ W'.cell? p' = some x' ∧ W'.cell? q' = some y' ∧ Gaps W' a l1 c1 es ∧ Gaps W' b l2 c2 ds ∧ Below w.heap.size w W' := by
  obtain ⟨h1, h2, h3, h4, h5, h6, h7⟩ := h
  exact ⟨(hb.cell (World.block_lt_of_cell? W _ h1)).trans h1, (hb.cell (World.block_lt_of_cell? W _ h2)).trans h2, (hb.cell (World.block_lt_of_cell? W _ h3)).trans h3, (hb.cell (World.block_lt_of_cell? W _ h4)).trans h4, h5.below hb, h6.below hb, h7.trans (hb.mono h7.size)⟩

set_option maxHeartbeats 4000000 in
theorem walk_fnExactSackSeen (c : Int) (a : Option Addr) (len cap : Nat) (gs : List (Int × Int)) (w1 : World) (hns : Gaps w1 a len cap gs) :
    Calls Try.prog 14 #[.agg #[.int .i64 c, .slice a len cap]] w1 fun e w' => e = .returned (.bool true) ∧ Below w1.heap.size w1 w' := by
  have hb1 := Below.refl w1.heap.size w1
  have GA := Lib.hid hns
  have LTA := Lib.hid hns.lts
  clear hns
  obtain ⟨cw, bw, es, hv⟩ := backV_some c gs
  obtain ⟨k1, hkk⟩ : ∃ k1, es.length = k1 := ⟨_, rfl⟩
  have hk1 : k1 ≤ 1048576 := by have := backV_few hv; omega
  have HV := Lib.hid hv
  have HK := Lib.hid hkk
  clear hv hkk
  have HLN := Lib.hid GA.out.length
  go_enter Try.func14, Try.ntmps14
  go_wp2_with fail
  refine (szSack_any c a len cap gs _ ((GA.out).below (below_box (.cells (List.toArray [.int .i64 c, .slice a len cap]) 63) (Nat.le_refl _)))).mono ?_
  rintro e w2 ⟨⟨z, rfl, hzz⟩, hb2⟩
  have Vp := Lib.hid ((VarN.new_at (w := w1) (d := w1.heap.size) (by simp) [.int .i64 c, .slice a len cap] 63).below hb2 (by simp))
  have HB2 := Lib.hid (((hb1).alloc (Nat.le_trans hb1.size (by exact Nat.le_refl _)) (.cells (List.toArray [.int .i64 c, .slice a len cap]) 63)).trans (hb2.mono (Nat.le_trans hb1.size (by simp <;> omega))))
  have ltp : w1.heap.size < w2.heap.size := lt_of_cell (Vp.out 0 _ rfl).1
  have nep : ¬ w1.heap.size = w2.heap.size := by omega
  have GA := Lib.hid (((GA.out).below (below_box (.cells (List.toArray [.int .i64 c, .slice a len cap]) 63) (Nat.le_refl _))).below hb2)
  have hsz2 : w1.heap.size + 1 ≤ w2.heap.size := by have h := hb2.size; simp at h; omega
  clear hb2
  rcases hzz with rfl | ⟨y0, y1⟩
  · go_wp2
    go_ret
    exact ⟨rfl, HB2.out⟩
  · have yn : ¬ z < 0 := by omega
    have HLE := Lib.hid y1
    clear y0 y1
    have p0 := (Vp.out 0 _ rfl).1
    have pf0 := (Vp.out 0 _ rfl).2
    have p1 := (Vp.out 1 _ rfl).1
    have pf1 := (Vp.out 1 _ rfl).2
    go_wp2_with fail
    refine (toSackF_any c a len cap gs _ GA.out HLE.out).mono ?_
    rintro e w3 ⟨⟨d1, rfl, hd1, hf1, hl1⟩, hb3⟩
    clear p0 pf0 p1 pf1
    have Vp := Lib.hid ((Vp.out).below hb3 ltp)
    have HB3 := Lib.hid (HB2.out.trans (hb3.mono HB2.out.size))
    have ltp : w1.heap.size < w3.heap.size := lt_of_cell (Vp.out 0 _ rfl).1
    have nep : ¬ w1.heap.size = w3.heap.size := by omega
    have GA := Lib.hid ((GA.out).below hb3)
    have hsz3 : w2.heap.size + 0 ≤ w3.heap.size := by have h := hb3.size; omega
    clear hb3
    have G1 := Lib.hid (hf1.gaps HLN.out (Nat.le_trans HLE.out (by decide)))
    clear hf1 hd1 hl1
    have p0 := (Vp.out 0 _ rfl).1
    have pf0 := (Vp.out 0 _ rfl).2
    have p1 := (Vp.out 1 _ rfl).1
    have pf1 := (Vp.out 1 _ rfl).2
    go_wp2_with fail
    refine (sSackSeen_gis c _ len len gs cw bw es k1 _ G1.out HV.out HK.out).mono ?_
    rintro e w4 ⟨aw, capw, rfl, hgw, hb4⟩
    clear p0 pf0 p1 pf1
    have Vp := Lib.hid ((Vp.out).below hb4 ltp)
    have HB4 := Lib.hid (HB3.out.trans (hb4.mono HB3.out.size))
    have ltp : w1.heap.size < w4.heap.size := lt_of_cell (Vp.out 0 _ rfl).1
    have nep : ¬ w1.heap.size = w4.heap.size := by omega
    have GA := Lib.hid ((GA.out).below hb4)
    have G1 := Lib.hid ((G1.out).below hb4)
    have hsz4 : w3.heap.size + 0 ≤ w4.heap.size := by have h := hb4.size; omega
    clear hb4
    have GW := Lib.hid hgw
    clear hgw
    have LTW := Lib.hid GW.out.lts
    have p0 := (Vp.out 0 _ rfl).1
    have pf0 := (Vp.out 0 _ rfl).2
    have p1 := (Vp.out 1 _ rfl).1
    have pf1 := (Vp.out 1 _ rfl).2
    go_wp2_with fail
    refine (toSackF_any c a len cap gs _ ((GA.out).below (below_box (.cells (List.toArray [.int .i64 cw, .slice aw k1 capw]) 26) (Nat.le_refl _))) HLE.out).mono ?_
    rintro e w5 ⟨⟨d2, rfl, hd2, hf2, hl2⟩, hb5⟩
    clear p0 pf0 p1 pf1
    have Vp := Lib.hid (((Vp.out).alloc (.cells (List.toArray [.int .i64 cw, .slice aw k1 capw]) 26) (by omega)).below hb5 (by simp; omega))
    have Vv := Lib.hid ((VarN.new_at (w := w4) (d := w4.heap.size) (by simp) [.int .i64 cw, .slice aw k1 capw] 26).below hb5 (by simp))
    have HB5 := Lib.hid (((HB4.out).alloc (Nat.le_trans HB4.out.size (by exact Nat.le_refl _)) (.cells (List.toArray [.int .i64 cw, .slice aw k1 capw]) 26)).trans (hb5.mono (Nat.le_trans HB4.out.size (by simp <;> omega))))
    have ltp : w1.heap.size < w5.heap.size := lt_of_cell (Vp.out 0 _ rfl).1
    have ltv : w4.heap.size < w5.heap.size := lt_of_cell (Vv.out 0 _ rfl).1
    have nep : ¬ w1.heap.size = w5.heap.size := by omega
    have nev : ¬ w4.heap.size = w5.heap.size := by omega
    have GA := Lib.hid (((GA.out).below (below_box (.cells (List.toArray [.int .i64 cw, .slice aw k1 capw]) 26) (Nat.le_refl _))).below hb5)
    have GW := Lib.hid (((GW.out).below (below_box (.cells (List.toArray [.int .i64 cw, .slice aw k1 capw]) 26) (Nat.le_refl _))).below hb5)
    have hsz5 : w4.heap.size + 1 ≤ w5.heap.size := by have h := hb5.size; simp at h; omega
    clear hb5
    simp at hd2
    have G2 := Lib.hid (hf2.gaps HLN.out (Nat.le_trans HLE.out (by decide)))
    have FR := Lib.hid (show FreG d2 len gs w5 from ⟨hf2, hl2⟩)
    clear hf2
    have p0 := (Vp.out 0 _ rfl).1
    have pf0 := (Vp.out 0 _ rfl).2
    have p1 := (Vp.out 1 _ rfl).1
    have pf1 := (Vp.out 1 _ rfl).2
    have v0 := (Vv.out 0 _ rfl).1
    have vf0 := (Vv.out 0 _ rfl).2
    have v1 := (Vv.out 1 _ rfl).1
    have vf1 := (Vv.out 1 _ rfl).2
    go_wp2_with fail
    refine (sackSeen_gown c _ len len gs cw bw es k1 _ ((G2.out).below (below_box (.cells (List.toArray [.int .i64 c, .slice (some ⟨d2, 0, none⟩) len len]) 41) (Nat.le_refl _))) HV.out HK.out).mono ?_
    rintro e w6 ⟨ag, capg, rfl, ho, hb6⟩
    clear p0 pf0 p1 pf1 v0 vf0 v1 vf1
    have Vp := Lib.hid (((Vp.out).alloc (.cells (List.toArray [.int .i64 c, .slice (some ⟨d2, 0, none⟩) len len]) 41) (by omega)).below hb6 (by simp; omega))
    have Vv := Lib.hid (((Vv.out).alloc (.cells (List.toArray [.int .i64 c, .slice (some ⟨d2, 0, none⟩) len len]) 41) (by omega)).below hb6 (by simp; omega))
    have Vx := Lib.hid ((VarN.new_at (w := w5) (d := w5.heap.size) (by simp) [.int .i64 c, .slice (some ⟨d2, 0, none⟩) len len] 41).below hb6 (by simp))
    have HB6 := Lib.hid (((HB5.out).alloc (Nat.le_trans HB5.out.size (by exact Nat.le_refl _)) (.cells (List.toArray [.int .i64 c, .slice (some ⟨d2, 0, none⟩) len len]) 41)).trans (hb6.mono (Nat.le_trans HB5.out.size (by simp <;> omega))))
    have ltp : w1.heap.size < w6.heap.size := lt_of_cell (Vp.out 0 _ rfl).1
    have ltv : w4.heap.size < w6.heap.size := lt_of_cell (Vv.out 0 _ rfl).1
    have ltx : w5.heap.size < w6.heap.size := lt_of_cell (Vx.out 0 _ rfl).1
    have nep : ¬ w1.heap.size = w6.heap.size := by omega
    have nev : ¬ w4.heap.size = w6.heap.size := by omega
    have nex : ¬ w5.heap.size = w6.heap.size := by omega
    have GA := Lib.hid (((GA.out).below (below_box (.cells (List.toArray [.int .i64 c, .slice (some ⟨d2, 0, none⟩) len len]) 41) (Nat.le_refl _))).below hb6)
    have GW := Lib.hid (((GW.out).below (below_box (.cells (List.toArray [.int .i64 c, .slice (some ⟨d2, 0, none⟩) len len]) 41) (Nat.le_refl _))).below hb6)
    have G2 := Lib.hid (((G2.out).below (below_box (.cells (List.toArray [.int .i64 c, .slice (some ⟨d2, 0, none⟩) len len]) 41) (Nat.le_refl _))).below hb6)
    have FR := Lib.hid (((FR.out).below (below_box (.cells (List.toArray [.int .i64 c, .slice (some ⟨d2, 0, none⟩) len len]) 41) (Nat.le_refl _))).below hb6)
    have hsz6 : w5.heap.size + 1 ≤ w6.heap.size := by have h := hb6.size; simp at h; omega
    clear hb6
    have RO := Lib.hid (ownN_low ho (show w5.heap.size ≤ _ by simp))
    have HLO := Lib.hid (show ∀ x, (Value.slice ag k1 capg).ownBlock = some x → w5.heap.size ≤ x ∧ x < w6.heap.size from fun x hx => RO.out.lt x hx)
    clear ho
    have p0 := (Vp.out 0 _ rfl).1
    have pf0 := (Vp.out 0 _ rfl).2
    have p1 := (Vp.out 1 _ rfl).1
    have pf1 := (Vp.out 1 _ rfl).2
    have v0 := (Vv.out 0 _ rfl).1
    have vf0 := (Vv.out 0 _ rfl).2
    have v1 := (Vv.out 1 _ rfl).1
    have vf1 := (Vv.out 1 _ rfl).2
    have x0 := (Vx.out 0 _ rfl).1
    have xf0 := (Vx.out 0 _ rfl).2
    have x1 := (Vx.out 1 _ rfl).1
    have xf1 := (Vx.out 1 _ rfl).2
    go_wp2_with fail
    refine (eqSeen_same cw _ _ k1 capg capw es _ (own_ns ((ownN_alloc (RO.out)))) ((GW.out).below (below_box (.cells (List.toArray [.int .i64 cw, .slice ag k1 capg]) 26) (Nat.le_refl _)))).mono ?_
    rintro e w7 ⟨rfl, hb7⟩
    clear p0 pf0 p1 pf1 v0 vf0 v1 vf1 x0 xf0 x1 xf1
    have Vp := Lib.hid (((Vp.out).alloc (.cells (List.toArray [.int .i64 cw, .slice ag k1 capg]) 26) (by omega)).below hb7 (by simp; omega))
    have Vv := Lib.hid (((Vv.out).alloc (.cells (List.toArray [.int .i64 cw, .slice ag k1 capg]) 26) (by omega)).below hb7 (by simp; omega))
    have Vx := Lib.hid (((Vx.out).alloc (.cells (List.toArray [.int .i64 cw, .slice ag k1 capg]) 26) (by omega)).below hb7 (by simp; omega))
    have Vg := Lib.hid ((VarN.new_at (w := w6) (d := w6.heap.size) (by simp) [.int .i64 cw, .slice ag k1 capg] 26).below hb7 (by simp))
    have HB7 := Lib.hid (((HB6.out).alloc (Nat.le_trans HB6.out.size (by exact Nat.le_refl _)) (.cells (List.toArray [.int .i64 cw, .slice ag k1 capg]) 26)).trans (hb7.mono (Nat.le_trans HB6.out.size (by simp <;> omega))))
    have ltp : w1.heap.size < w7.heap.size := lt_of_cell (Vp.out 0 _ rfl).1
    have ltv : w4.heap.size < w7.heap.size := lt_of_cell (Vv.out 0 _ rfl).1
    have ltx : w5.heap.size < w7.heap.size := lt_of_cell (Vx.out 0 _ rfl).1
    have ltg : w6.heap.size < w7.heap.size := lt_of_cell (Vg.out 0 _ rfl).1
    have nep : ¬ w1.heap.size = w7.heap.size := by omega
    have nev : ¬ w4.heap.size = w7.heap.size := by omega
    have nex : ¬ w5.heap.size = w7.heap.size := by omega
    have neg : ¬ w6.heap.size = w7.heap.size := by omega
    have GA := Lib.hid (((GA.out).below (below_box (.cells (List.toArray [.int .i64 cw, .slice ag k1 capg]) 26) (Nat.le_refl _))).below hb7)
    have GW := Lib.hid (((GW.out).below (below_box (.cells (List.toArray [.int .i64 cw, .slice ag k1 capg]) 26) (Nat.le_refl _))).below hb7)
    have G2 := Lib.hid (((G2.out).below (below_box (.cells (List.toArray [.int .i64 cw, .slice ag k1 capg]) 26) (Nat.le_refl _))).below hb7)
    have FR := Lib.hid (((FR.out).below (below_box (.cells (List.toArray [.int .i64 cw, .slice ag k1 capg]) 26) (Nat.le_refl _))).below hb7)
    have hsz7 : w6.heap.size + 1 ≤ w7.heap.size := by have h := hb7.size; simp at h; omega
    have RO := Lib.hid (ownUp (ownN_alloc (RO.out)) hb7)
    clear hb7
    have p0 := (Vp.out 0 _ rfl).1
    have pf0 := (Vp.out 0 _ rfl).2
    have p1 := (Vp.out 1 _ rfl).1
    have pf1 := (Vp.out 1 _ rfl).2
    have x0 := (Vx.out 0 _ rfl).1
    have xf0 := (Vx.out 0 _ rfl).2
    have x1 := (Vx.out 1 _ rfl).1
    have xf1 := (Vx.out 1 _ rfl).2
    have hS := Lib.hid (keptXG (W := w7) (w := w7) (p := ⟨w5.heap.size, 0, none⟩) (q := ⟨w5.heap.size, 1, none⟩) (p' := ⟨w1.heap.size, 0, none⟩) (q' := ⟨w1.heap.size, 1, none⟩) ⟨x0, x1, p0, p1, G2.out, GA.out, Below.refl _ _⟩ (Below.drew (Below.refl _ _)))
    clear p0 pf0 p1 pf1 x0 xf0 x1 xf1
    go_wp2_with fail
    go_region_held_law (fun W => W.cell? ⟨w5.heap.size, 0, none⟩ = some (.int .i64 c) ∧ W.cell? ⟨w5.heap.size, 1, none⟩ = some (.slice (some ⟨d2, 0, none⟩) len len) ∧ W.cell? ⟨w1.heap.size, 0, none⟩ = some (.int .i64 c) ∧ W.cell? ⟨w1.heap.size, 1, none⟩ = some (.slice a len cap) ∧ Gaps W (some ⟨d2, 0, none⟩) len len gs ∧ Gaps W a len cap gs ∧ Below w7.heap.size w7 W)
      (first | with_reducible assumption | with_reducible exact hS.out | exact keptXG (by assumption) (by assumption))
      (first | (go_simp; go_at_call 47; refine (toSackF_any c a len cap gs _ (by go_split_ands; assumption) HLE.out).mono ?_; rintro e w' ⟨⟨d3, rfl, _, hf3, _⟩, hbn⟩; have G3 := hf3.gaps HLN.out (Nat.le_trans HLE.out (by decide))) | (go_simp; go_at_call 43; refine (eqSack_same c _ _ len len len gs _ (by go_split_ands; assumption) (by assumption)).mono ?_; rintro e w' ⟨rfl, hbn⟩))
    rename_i hHeld
    rename World => w8
    have hb8 : Below w7.heap.size w7 w8 := hHeld.2.2.2.2.2.2
    clear hHeld hS
    have Vp := Lib.hid ((Vp.out).below hb8 ltp)
    have Vv := Lib.hid ((Vv.out).below hb8 ltv)
    have Vx := Lib.hid ((Vx.out).below hb8 ltx)
    have Vg := Lib.hid ((Vg.out).below hb8 ltg)
    have HB8 := Lib.hid (HB7.out.trans (hb8.mono HB7.out.size))
    have GA := Lib.hid ((GA.out).below hb8)
    have GW := Lib.hid ((GW.out).below hb8)
    have G2 := Lib.hid ((G2.out).below hb8)
    have FR := Lib.hid ((FR.out).below hb8)
    have RO := Lib.hid (ownUp (RO.out) hb8)
    have hsz8 : w7.heap.size + 0 ≤ w8.heap.size := hb8.size
    have ltp : w1.heap.size < w8.heap.size := lt_of_cell (Vp.out 0 _ rfl).1
    have ltv : w4.heap.size < w8.heap.size := lt_of_cell (Vv.out 0 _ rfl).1
    have ltx : w5.heap.size < w8.heap.size := lt_of_cell (Vx.out 0 _ rfl).1
    have ltg : w6.heap.size < w8.heap.size := lt_of_cell (Vg.out 0 _ rfl).1
    have nep : ¬ w1.heap.size = w8.heap.size := by omega
    have nev : ¬ w4.heap.size = w8.heap.size := by omega
    have nex : ¬ w5.heap.size = w8.heap.size := by omega
    have neg : ¬ w6.heap.size = w8.heap.size := by omega
    clear hb8
    have hk0 : ¬ 1 + 2 * (len : Int) < 0 := by omega
    have p0 := (Vp.out 0 _ rfl).1
    have pf0 := (Vp.out 0 _ rfl).2
    have p1 := (Vp.out 1 _ rfl).1
    have pf1 := (Vp.out 1 _ rfl).2
    have v0 := (Vv.out 0 _ rfl).1
    have vf0 := (Vv.out 0 _ rfl).2
    have v1 := (Vv.out 1 _ rfl).1
    have vf1 := (Vv.out 1 _ rfl).2
    have x0 := (Vx.out 0 _ rfl).1
    have xf0 := (Vx.out 0 _ rfl).2
    have x1 := (Vx.out 1 _ rfl).1
    have xf1 := (Vx.out 1 _ rfl).2
    have g0 := (Vg.out 0 _ rfl).1
    have gf0 := (Vg.out 0 _ rfl).2
    have g1 := (Vg.out 1 _ rfl).1
    have gf1 := (Vg.out 1 _ rfl).2
    go_wp2_with fail
    refine (markFilG c FR.out HLE.out).mono ?_
    rintro e w9 ⟨rfl, hs9, hm⟩
    clear p0 pf0 p1 pf1 v0 vf0 v1 vf1 x0 xf0 x1 xf1 g0 gf0 g1 gf1
    have hsz9 : w8.heap.size + 0 ≤ w9.heap.size := hs9
    have Vp := Lib.hid (Vp.out.below (C := d2) hm.b (by omega))
    have Vv := Lib.hid (Vv.out.below (C := d2) hm.b (by omega))
    have Vg := Lib.hid (Vg.out.mg hm ltg (by intro e; simp at e; omega))
    have GA := Lib.hid (GA.out.mgC hm.b (fun x hx hl => Nat.lt_of_lt_of_le (LTA.out x hx hl) (by omega)))
    have GW := Lib.hid (GW.out.mgC hm.b (fun x hx hl => Nat.lt_of_lt_of_le (LTW.out x hx hl) (by omega)))
    have RO := Lib.hid (own_mg RO.out hm (fun x hx e => by have := HLO.out x hx; simp at e; omega))
    have HB9 := Lib.hid (HB8.out.trans (hm.b.mono (show w1.heap.size ≤ d2 by omega)))
    have ltp : w1.heap.size < w9.heap.size := lt_of_cell (Vp.out 0 _ rfl).1
    have ltv : w4.heap.size < w9.heap.size := lt_of_cell (Vv.out 0 _ rfl).1
    have ltg : w6.heap.size < w9.heap.size := lt_of_cell (Vg.out 0 _ rfl).1
    have nep : ¬ w1.heap.size = w9.heap.size := by omega
    have nev : ¬ w4.heap.size = w9.heap.size := by omega
    have neg : ¬ w6.heap.size = w9.heap.size := by omega
    clear hm hs9
    have p0 := (Vp.out 0 _ rfl).1
    have pf0 := (Vp.out 0 _ rfl).2
    have p1 := (Vp.out 1 _ rfl).1
    have pf1 := (Vp.out 1 _ rfl).2
    have v0 := (Vv.out 0 _ rfl).1
    have vf0 := (Vv.out 0 _ rfl).2
    have v1 := (Vv.out 1 _ rfl).1
    have vf1 := (Vv.out 1 _ rfl).2
    have g0 := (Vg.out 0 _ rfl).1
    have gf0 := (Vg.out 0 _ rfl).2
    have g1 := (Vg.out 1 _ rfl).1
    have gf1 := (Vg.out 1 _ rfl).2
    go_wp2_with fail
    refine (eqSeen_same cw _ _ k1 capg capw es _ (own_ns (RO.out)) GW.out).mono ?_
    rintro e w10 ⟨rfl, hb10⟩
    clear p0 pf0 p1 pf1 v0 vf0 v1 vf1 g0 gf0 g1 gf1
    have Vp := Lib.hid ((Vp.out).below hb10 ltp)
    have Vv := Lib.hid ((Vv.out).below hb10 ltv)
    have Vg := Lib.hid ((Vg.out).below hb10 ltg)
    have HB10 := Lib.hid (HB9.out.trans (hb10.mono HB9.out.size))
    have ltp : w1.heap.size < w10.heap.size := lt_of_cell (Vp.out 0 _ rfl).1
    have ltv : w4.heap.size < w10.heap.size := lt_of_cell (Vv.out 0 _ rfl).1
    have ltg : w6.heap.size < w10.heap.size := lt_of_cell (Vg.out 0 _ rfl).1
    have nep : ¬ w1.heap.size = w10.heap.size := by omega
    have nev : ¬ w4.heap.size = w10.heap.size := by omega
    have neg : ¬ w6.heap.size = w10.heap.size := by omega
    have GA := Lib.hid ((GA.out).below hb10)
    have GW := Lib.hid ((GW.out).below hb10)
    have hsz10 : w9.heap.size + 0 ≤ w10.heap.size := by have h := hb10.size; omega
    have RO := Lib.hid (ownUp (RO.out) hb10)
    clear hb10
    have p0 := (Vp.out 0 _ rfl).1
    have pf0 := (Vp.out 0 _ rfl).2
    have p1 := (Vp.out 1 _ rfl).1
    have pf1 := (Vp.out 1 _ rfl).2
    have v0 := (Vv.out 0 _ rfl).1
    have vf0 := (Vv.out 0 _ rfl).2
    have v1 := (Vv.out 1 _ rfl).1
    have vf1 := (Vv.out 1 _ rfl).2
    have g0 := (Vg.out 0 _ rfl).1
    have gf0 := (Vg.out 0 _ rfl).2
    have g1 := (Vg.out 1 _ rfl).1
    have gf1 := (Vg.out 1 _ rfl).2
    go_wp2_with fail
    refine (markRow cw RO.out (by omega) hk1).mono ?_
    rintro e w11 ⟨rfl, hgm, hs11, hm⟩
    clear p0 pf0 p1 pf1 v0 vf0 v1 vf1 g0 gf0 g1 gf1
    have hsz11 : w10.heap.size + 0 ≤ w11.heap.size := hs11
    have Vp := Lib.hid (Vp.out.below (C := w5.heap.size) hm.b (by omega))
    have Vv := Lib.hid (Vv.out.below (C := w5.heap.size) hm.b (by omega))
    have Vg := Lib.hid (Vg.out.mg hm ltg (by intro e; have := HLO.out _ e.symm; omega))
    have GA := Lib.hid (GA.out.mgC hm.b (fun x hx hl => Nat.lt_of_lt_of_le (LTA.out x hx hl) (by omega)))
    have GW := Lib.hid (GW.out.mgC hm.b (fun x hx hl => Nat.lt_of_lt_of_le (LTW.out x hx hl) (by omega)))
    have GM := Lib.hid hgm
    clear hgm
    have HB11 := Lib.hid (HB10.out.trans (hm.b.mono (show w1.heap.size ≤ w5.heap.size by omega)))
    have ltp : w1.heap.size < w11.heap.size := lt_of_cell (Vp.out 0 _ rfl).1
    have ltv : w4.heap.size < w11.heap.size := lt_of_cell (Vv.out 0 _ rfl).1
    have ltg : w6.heap.size < w11.heap.size := lt_of_cell (Vg.out 0 _ rfl).1
    have nep : ¬ w1.heap.size = w11.heap.size := by omega
    have nev : ¬ w4.heap.size = w11.heap.size := by omega
    have neg : ¬ w6.heap.size = w11.heap.size := by omega
    clear hm hs11
    have hq0 : ¬ 1 + (k1 : Int) < 0 := by omega
    have p0 := (Vp.out 0 _ rfl).1
    have pf0 := (Vp.out 0 _ rfl).2
    have p1 := (Vp.out 1 _ rfl).1
    have pf1 := (Vp.out 1 _ rfl).2
    have v0 := (Vv.out 0 _ rfl).1
    have vf0 := (Vv.out 0 _ rfl).2
    have v1 := (Vv.out 1 _ rfl).1
    have vf1 := (Vv.out 1 _ rfl).2
    have g0 := (Vg.out 0 _ rfl).1
    have gf0 := (Vg.out 0 _ rfl).2
    have g1 := (Vg.out 1 _ rfl).1
    have gf1 := (Vg.out 1 _ rfl).2
    go_wp2_with fail
    refine (heldSeen_any cw _ k1 capg _ hk1 GM.out).mono ?_
    rintro e w12 ⟨rfl, hb12⟩
    clear p0 pf0 p1 pf1 v0 vf0 v1 vf1 g0 gf0 g1 gf1
    have Vp := Lib.hid ((Vp.out).below hb12 ltp)
    have Vv := Lib.hid ((Vv.out).below hb12 ltv)
    have Vg := Lib.hid ((Vg.out).below hb12 ltg)
    have HB12 := Lib.hid (HB11.out.trans (hb12.mono HB11.out.size))
    have ltp : w1.heap.size < w12.heap.size := lt_of_cell (Vp.out 0 _ rfl).1
    have ltv : w4.heap.size < w12.heap.size := lt_of_cell (Vv.out 0 _ rfl).1
    have ltg : w6.heap.size < w12.heap.size := lt_of_cell (Vg.out 0 _ rfl).1
    have nep : ¬ w1.heap.size = w12.heap.size := by omega
    have nev : ¬ w4.heap.size = w12.heap.size := by omega
    have neg : ¬ w6.heap.size = w12.heap.size := by omega
    have GA := Lib.hid ((GA.out).below hb12)
    have GW := Lib.hid ((GW.out).below hb12)
    have GM := Lib.hid ((GM.out).below hb12)
    have hsz12 : w11.heap.size + 0 ≤ w12.heap.size := by have h := hb12.size; omega
    clear hb12
    have p0 := (Vp.out 0 _ rfl).1
    have pf0 := (Vp.out 0 _ rfl).2
    have p1 := (Vp.out 1 _ rfl).1
    have pf1 := (Vp.out 1 _ rfl).2
    have v0 := (Vv.out 0 _ rfl).1
    have vf0 := (Vv.out 0 _ rfl).2
    have v1 := (Vv.out 1 _ rfl).1
    have vf1 := (Vv.out 1 _ rfl).2
    have g0 := (Vg.out 0 _ rfl).1
    have gf0 := (Vg.out 0 _ rfl).2
    have g1 := (Vg.out 1 _ rfl).1
    have gf1 := (Vg.out 1 _ rfl).2
    go_wp2_with fail
    refine (toSackF_any c a len cap gs _ GA.out HLE.out).mono ?_
    rintro e w13 ⟨⟨d4, rfl, hd4, hf4, hl4⟩, hb13⟩
    clear p0 pf0 p1 pf1 v0 vf0 v1 vf1 g0 gf0 g1 gf1
    have Vp := Lib.hid ((Vp.out).below hb13 ltp)
    have Vv := Lib.hid ((Vv.out).below hb13 ltv)
    have Vg := Lib.hid ((Vg.out).below hb13 ltg)
    have HB13 := Lib.hid (HB12.out.trans (hb13.mono HB12.out.size))
    have ltp : w1.heap.size < w13.heap.size := lt_of_cell (Vp.out 0 _ rfl).1
    have ltv : w4.heap.size < w13.heap.size := lt_of_cell (Vv.out 0 _ rfl).1
    have ltg : w6.heap.size < w13.heap.size := lt_of_cell (Vg.out 0 _ rfl).1
    have nep : ¬ w1.heap.size = w13.heap.size := by omega
    have nev : ¬ w4.heap.size = w13.heap.size := by omega
    have neg : ¬ w6.heap.size = w13.heap.size := by omega
    have GA := Lib.hid ((GA.out).below hb13)
    have GW := Lib.hid ((GW.out).below hb13)
    have GM := Lib.hid ((GM.out).below hb13)
    have hsz13 : w12.heap.size + 0 ≤ w13.heap.size := by have h := hb13.size; omega
    clear hb13
    have G4 := Lib.hid (hf4.gaps HLN.out (Nat.le_trans HLE.out (by decide)))
    clear hf4 hd4 hl4
    have p0 := (Vp.out 0 _ rfl).1
    have pf0 := (Vp.out 0 _ rfl).2
    have p1 := (Vp.out 1 _ rfl).1
    have pf1 := (Vp.out 1 _ rfl).2
    have v0 := (Vv.out 0 _ rfl).1
    have vf0 := (Vv.out 0 _ rfl).2
    have v1 := (Vv.out 1 _ rfl).1
    have vf1 := (Vv.out 1 _ rfl).2
    have g0 := (Vg.out 0 _ rfl).1
    have gf0 := (Vg.out 0 _ rfl).2
    have g1 := (Vg.out 1 _ rfl).1
    have gf1 := (Vg.out 1 _ rfl).2
    go_wp2_with fail
    refine (sackSeen_gis c _ len len gs cw bw es k1 _ G4.out HV.out HK.out).mono ?_
    rintro e w14 ⟨ah, caph, rfl, hgh, hb14⟩
    clear p0 pf0 p1 pf1 v0 vf0 v1 vf1 g0 gf0 g1 gf1
    have Vp := Lib.hid ((Vp.out).below hb14 ltp)
    have Vv := Lib.hid ((Vv.out).below hb14 ltv)
    have Vg := Lib.hid ((Vg.out).below hb14 ltg)
    have HB14 := Lib.hid (HB13.out.trans (hb14.mono HB13.out.size))
    have ltp : w1.heap.size < w14.heap.size := lt_of_cell (Vp.out 0 _ rfl).1
    have ltv : w4.heap.size < w14.heap.size := lt_of_cell (Vv.out 0 _ rfl).1
    have ltg : w6.heap.size < w14.heap.size := lt_of_cell (Vg.out 0 _ rfl).1
    have nep : ¬ w1.heap.size = w14.heap.size := by omega
    have nev : ¬ w4.heap.size = w14.heap.size := by omega
    have neg : ¬ w6.heap.size = w14.heap.size := by omega
    have GA := Lib.hid ((GA.out).below hb14)
    have GW := Lib.hid ((GW.out).below hb14)
    have GM := Lib.hid ((GM.out).below hb14)
    have G4 := Lib.hid ((G4.out).below hb14)
    have hsz14 : w13.heap.size + 0 ≤ w14.heap.size := by have h := hb14.size; omega
    clear hb14
    have GH := Lib.hid hgh
    clear hgh
    have p0 := (Vp.out 0 _ rfl).1
    have pf0 := (Vp.out 0 _ rfl).2
    have p1 := (Vp.out 1 _ rfl).1
    have pf1 := (Vp.out 1 _ rfl).2
    have v0 := (Vv.out 0 _ rfl).1
    have vf0 := (Vv.out 0 _ rfl).2
    have v1 := (Vv.out 1 _ rfl).1
    have vf1 := (Vv.out 1 _ rfl).2
    have g0 := (Vg.out 0 _ rfl).1
    have gf0 := (Vg.out 0 _ rfl).2
    have g1 := (Vg.out 1 _ rfl).1
    have gf1 := (Vg.out 1 _ rfl).2
    go_wp2_with fail
    refine (eqSeen_same cw _ _ k1 caph capw es _ ((GH.out).below (below_box (.cells (List.toArray [.int .i64 cw, .slice ah k1 caph]) 26) (Nat.le_refl _))) ((GW.out).below (below_box (.cells (List.toArray [.int .i64 cw, .slice ah k1 caph]) 26) (Nat.le_refl _)))).mono ?_
    rintro e w15 ⟨rfl, hb15⟩
    clear p0 pf0 p1 pf1 v0 vf0 v1 vf1 g0 gf0 g1 gf1
    have Vp := Lib.hid (((Vp.out).alloc (.cells (List.toArray [.int .i64 cw, .slice ah k1 caph]) 26) (by omega)).below hb15 (by simp; omega))
    have Vv := Lib.hid (((Vv.out).alloc (.cells (List.toArray [.int .i64 cw, .slice ah k1 caph]) 26) (by omega)).below hb15 (by simp; omega))
    have Vg := Lib.hid (((Vg.out).alloc (.cells (List.toArray [.int .i64 cw, .slice ah k1 caph]) 26) (by omega)).below hb15 (by simp; omega))
    have Vh := Lib.hid ((VarN.new_at (w := w14) (d := w14.heap.size) (by simp) [.int .i64 cw, .slice ah k1 caph] 26).below hb15 (by simp))
    have HB15 := Lib.hid (((HB14.out).alloc (Nat.le_trans HB14.out.size (by exact Nat.le_refl _)) (.cells (List.toArray [.int .i64 cw, .slice ah k1 caph]) 26)).trans (hb15.mono (Nat.le_trans HB14.out.size (by simp <;> omega))))
    have ltp : w1.heap.size < w15.heap.size := lt_of_cell (Vp.out 0 _ rfl).1
    have ltv : w4.heap.size < w15.heap.size := lt_of_cell (Vv.out 0 _ rfl).1
    have ltg : w6.heap.size < w15.heap.size := lt_of_cell (Vg.out 0 _ rfl).1
    have lth : w14.heap.size < w15.heap.size := lt_of_cell (Vh.out 0 _ rfl).1
    have nep : ¬ w1.heap.size = w15.heap.size := by omega
    have nev : ¬ w4.heap.size = w15.heap.size := by omega
    have neg : ¬ w6.heap.size = w15.heap.size := by omega
    have neh : ¬ w14.heap.size = w15.heap.size := by omega
    have GA := Lib.hid (((GA.out).below (below_box (.cells (List.toArray [.int .i64 cw, .slice ah k1 caph]) 26) (Nat.le_refl _))).below hb15)
    have GW := Lib.hid (((GW.out).below (below_box (.cells (List.toArray [.int .i64 cw, .slice ah k1 caph]) 26) (Nat.le_refl _))).below hb15)
    have GM := Lib.hid (((GM.out).below (below_box (.cells (List.toArray [.int .i64 cw, .slice ah k1 caph]) 26) (Nat.le_refl _))).below hb15)
    have G4 := Lib.hid (((G4.out).below (below_box (.cells (List.toArray [.int .i64 cw, .slice ah k1 caph]) 26) (Nat.le_refl _))).below hb15)
    have GH := Lib.hid (((GH.out).below (below_box (.cells (List.toArray [.int .i64 cw, .slice ah k1 caph]) 26) (Nat.le_refl _))).below hb15)
    have hsz15 : w14.heap.size + 1 ≤ w15.heap.size := by have h := hb15.size; simp at h; omega
    clear hb15
    have p0 := (Vp.out 0 _ rfl).1
    have pf0 := (Vp.out 0 _ rfl).2
    have p1 := (Vp.out 1 _ rfl).1
    have pf1 := (Vp.out 1 _ rfl).2
    have v0 := (Vv.out 0 _ rfl).1
    have vf0 := (Vv.out 0 _ rfl).2
    have v1 := (Vv.out 1 _ rfl).1
    have vf1 := (Vv.out 1 _ rfl).2
    have g0 := (Vg.out 0 _ rfl).1
    have gf0 := (Vg.out 0 _ rfl).2
    have g1 := (Vg.out 1 _ rfl).1
    have gf1 := (Vg.out 1 _ rfl).2
    have h0 := (Vh.out 0 _ rfl).1
    have hf0 := (Vh.out 0 _ rfl).2
    have h1 := (Vh.out 1 _ rfl).1
    have hf1 := (Vh.out 1 _ rfl).2
    go_wp2_with fail
    refine (heldSeen_any cw _ k1 capg _ hk1 GM.out).mono ?_
    rintro e w16 ⟨rfl, hb16⟩
    clear p0 pf0 p1 pf1 v0 vf0 v1 vf1 g0 gf0 g1 gf1 h0 hf0 h1 hf1
    have Vp := Lib.hid ((Vp.out).below hb16 ltp)
    have Vv := Lib.hid ((Vv.out).below hb16 ltv)
    have Vg := Lib.hid ((Vg.out).below hb16 ltg)
    have Vh := Lib.hid ((Vh.out).below hb16 lth)
    have HB16 := Lib.hid (HB15.out.trans (hb16.mono HB15.out.size))
    have ltp : w1.heap.size < w16.heap.size := lt_of_cell (Vp.out 0 _ rfl).1
    have ltv : w4.heap.size < w16.heap.size := lt_of_cell (Vv.out 0 _ rfl).1
    have ltg : w6.heap.size < w16.heap.size := lt_of_cell (Vg.out 0 _ rfl).1
    have lth : w14.heap.size < w16.heap.size := lt_of_cell (Vh.out 0 _ rfl).1
    have nep : ¬ w1.heap.size = w16.heap.size := by omega
    have nev : ¬ w4.heap.size = w16.heap.size := by omega
    have neg : ¬ w6.heap.size = w16.heap.size := by omega
    have neh : ¬ w14.heap.size = w16.heap.size := by omega
    have GA := Lib.hid ((GA.out).below hb16)
    have GW := Lib.hid ((GW.out).below hb16)
    have GM := Lib.hid ((GM.out).below hb16)
    have G4 := Lib.hid ((G4.out).below hb16)
    have GH := Lib.hid ((GH.out).below hb16)
    have hsz16 : w15.heap.size + 0 ≤ w16.heap.size := by have h := hb16.size; omega
    clear hb16
    have p0 := (Vp.out 0 _ rfl).1
    have pf0 := (Vp.out 0 _ rfl).2
    have p1 := (Vp.out 1 _ rfl).1
    have pf1 := (Vp.out 1 _ rfl).2
    have v0 := (Vv.out 0 _ rfl).1
    have vf0 := (Vv.out 0 _ rfl).2
    have v1 := (Vv.out 1 _ rfl).1
    have vf1 := (Vv.out 1 _ rfl).2
    have g0 := (Vg.out 0 _ rfl).1
    have gf0 := (Vg.out 0 _ rfl).2
    have g1 := (Vg.out 1 _ rfl).1
    have gf1 := (Vg.out 1 _ rfl).2
    have h0 := (Vh.out 0 _ rfl).1
    have hf0 := (Vh.out 0 _ rfl).2
    have h1 := (Vh.out 1 _ rfl).1
    have hf1 := (Vh.out 1 _ rfl).2
    go_wp2
    go_ret
    exact ⟨rfl, HB16.out⟩

end Go.Proofs.Ytcjabomcndahbaa
