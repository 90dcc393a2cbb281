/- The walks of the exact laws on what has arrived: valid, new, has. -/
import Derived.Test.YtcjabomcndahbaaK119
import Derived.Test.YtcjabomcndahbaaW85
import Derived.Test.YtcjabomcndahbaaW86
import Derived.Test.YtcjabomcndahbaaK105
import Derived.Test.YtcjabomcndahbaaK92
import Derived.Deep.RegionHeldLaw
import Derived.Handy
namespace Go.Proofs.Ytcjabomcndahbaa
open Go.RowKit Go.PlainAid

/-- A copy that may be marked. -/
structure Fre (d len : Nat) (es : List Int) (w : World) : Prop where
  f : FilN d len len es w
  r : FreeN d w
  l : d < w.heap.size
theorem Fre.below {d len : Nat} {es : List Int} {w w' : World} (h : Fre d len es w) (hb : Below w.heap.size w w') : Fre d len es w' := ⟨h.f.below hb, h.r.below h.l hb, Nat.lt_of_lt_of_le h.l hb.size⟩
theorem keptX {p q p' q' : Addr} {x y x' y' : Value} {a b : Option Addr} {l1 c1 l2 c2 : Nat} {es ds : List Int} {w W W' : World}
    (h : W.cell? p = some x ∧ W.cell? q = some y ∧ W.cell? p' = some x' ∧ W.cell? q' = some y' ∧ Ns W a l1 c1 es ∧ Ns W b l2 c2 ds ∧ Below w.heap.size w W) (hb : Below W.heap.size W W') :
    W'.cell? p = some x ∧ W'.cell? q = some y ∧ W'.cell? p' = some x' ∧ W'.cell? q' = some y' ∧ Ns W' a l1 c1 es ∧ Ns W' b l2 c2 ds ∧ Below w.heap.size w W' := by
  obtain ⟨h1, h2, h3, h4, h5, h6, h7⟩ := h
  exact ⟨(hb.cell (World.block_lt_of_cell? W _ h1)).trans h1, (hb.cell (World.block_lt_of_cell? W _ h2)).trans h2, (hb.cell (World.block_lt_of_cell? W _ h3)).trans h3, (hb.cell (World.block_lt_of_cell? W _ h4)).trans h4, h5.below hb, h6.below hb, h7.trans (hb.mono h7.size)⟩

set_option maxHeartbeats 4000000 in
theorem walk_fnExactSeenValid (c : Int) (a : Option Addr) (len cap : Nat) (es : List Int) (w1 : World) (hns : Ns w1 a len cap es) :
    Calls Try.prog 10 #[.agg #[.int .i64 c, .slice a len cap]] w1 fun e w' => e = .returned (.bool true) ∧ Below w1.heap.size w1 w' := by
  have hb1 := Below.refl w1.heap.size w1
  have GA := Lib.hid hns
  have LTA := Lib.hid hns.lts
  clear hns
  obtain ⟨z0, hz0⟩ : ∃ z0, seenV c es = z0 := ⟨_, rfl⟩
  have HV := Lib.hid hz0
  clear hz0
  have HLN := Lib.hid GA.out.length
  go_enter Try.func10, Try.ntmps10
  go_wp2_with fail
  refine (szSeen_any c a len cap es _ ((GA.out).below (below_box (.cells (List.toArray [.int .i64 c, .slice a len cap]) 53) (Nat.le_refl _)))).mono ?_
  rintro e w2 ⟨⟨z, rfl, hzz⟩, hb2⟩
  have Vp := Lib.hid ((VarN.new_at (w := w1) (d := w1.heap.size) (by simp) [.int .i64 c, .slice a len cap] 53).below hb2 (by simp))
  have HB2 := Lib.hid (((hb1).alloc (Nat.le_trans hb1.size (by exact Nat.le_refl _)) (.cells (List.toArray [.int .i64 c, .slice a len cap]) 53)).trans (hb2.mono (Nat.le_trans hb1.size (by simp <;> omega))))
  have ltp : w1.heap.size < w2.heap.size := lt_of_cell (Vp.out 0 _ rfl).1
  have nep : ¬ w1.heap.size = w2.heap.size := by omega
  have GA := Lib.hid (((GA.out).below (below_box (.cells (List.toArray [.int .i64 c, .slice a len cap]) 53) (Nat.le_refl _))).below hb2)
  have hsz2 : w1.heap.size + 1 ≤ w2.heap.size := by have h := hb2.size; simp at h; omega
  clear hb2
  rcases hzz with rfl | ⟨y0, y1⟩
  · go_wp2
    go_ret
    exact ⟨rfl, HB2.out⟩
  · have yn : ¬ z < 0 := by omega
    have HLE := Lib.hid y1
    clear y0 y1
    have p0 := (Vp.out 0 _ rfl).1
    have pf0 := (Vp.out 0 _ rfl).2
    have p1 := (Vp.out 1 _ rfl).1
    have pf1 := (Vp.out 1 _ rfl).2
    go_wp2_with fail
    refine (toSeen_any c a len cap es _ GA.out HLE.out).mono ?_
    rintro e w3 ⟨⟨d1, rfl, hd1, hf1, hr1, hl1⟩, hb3⟩
    clear p0 pf0 p1 pf1
    have Vp := Lib.hid ((Vp.out).below hb3 ltp)
    have HB3 := Lib.hid (HB2.out.trans (hb3.mono HB2.out.size))
    have ltp : w1.heap.size < w3.heap.size := lt_of_cell (Vp.out 0 _ rfl).1
    have nep : ¬ w1.heap.size = w3.heap.size := by omega
    have GA := Lib.hid ((GA.out).below hb3)
    have hsz3 : w2.heap.size + 0 ≤ w3.heap.size := by have h := hb3.size; omega
    clear hb3
    have G1 := Lib.hid (hf1.ns HLN.out (Nat.le_refl _) (Nat.le_trans HLE.out (by decide)))
    clear hf1 hr1 hd1 hl1
    have p0 := (Vp.out 0 _ rfl).1
    have pf0 := (Vp.out 0 _ rfl).2
    have p1 := (Vp.out 1 _ rfl).1
    have pf1 := (Vp.out 1 _ rfl).2
    go_wp2_with fail
    refine (sSeenValid_any c _ len len es _ G1.out).mono ?_
    rw [HV.out]
    rintro e w4 ⟨rfl, hb4⟩
    clear p0 pf0 p1 pf1
    have Vp := Lib.hid ((Vp.out).below hb4 ltp)
    have HB4 := Lib.hid (HB3.out.trans (hb4.mono HB3.out.size))
    have ltp : w1.heap.size < w4.heap.size := lt_of_cell (Vp.out 0 _ rfl).1
    have nep : ¬ w1.heap.size = w4.heap.size := by omega
    have GA := Lib.hid ((GA.out).below hb4)
    have G1 := Lib.hid ((G1.out).below hb4)
    have hsz4 : w3.heap.size + 0 ≤ w4.heap.size := by have h := hb4.size; omega
    clear hb4
    have p0 := (Vp.out 0 _ rfl).1
    have pf0 := (Vp.out 0 _ rfl).2
    have p1 := (Vp.out 1 _ rfl).1
    have pf1 := (Vp.out 1 _ rfl).2
    go_wp2_with fail
    refine (toSeen_any c a len cap es _ GA.out HLE.out).mono ?_
    rintro e w5 ⟨⟨d2, rfl, hd2, hf2, hr2, hl2⟩, hb5⟩
    clear p0 pf0 p1 pf1
    have Vp := Lib.hid ((Vp.out).below hb5 ltp)
    have HB5 := Lib.hid (HB4.out.trans (hb5.mono HB4.out.size))
    have ltp : w1.heap.size < w5.heap.size := lt_of_cell (Vp.out 0 _ rfl).1
    have nep : ¬ w1.heap.size = w5.heap.size := by omega
    have GA := Lib.hid ((GA.out).below hb5)
    have hsz5 : w4.heap.size + 0 ≤ w5.heap.size := by have h := hb5.size; omega
    clear hb5
    have G2 := Lib.hid (hf2.ns HLN.out (Nat.le_refl _) (Nat.le_trans HLE.out (by decide)))
    clear hf2 hr2 hd2 hl2
    have p0 := (Vp.out 0 _ rfl).1
    have pf0 := (Vp.out 0 _ rfl).2
    have p1 := (Vp.out 1 _ rfl).1
    have pf1 := (Vp.out 1 _ rfl).2
    go_wp2_with fail
    refine (seenValid_any c _ len len es _ ((G2.out).below (below_box (.cells (List.toArray [.int .i64 c, .slice (some ⟨d2, 0, none⟩) len len]) 26) (Nat.le_refl _)))).mono ?_
    rw [HV.out]
    rintro e w6 ⟨rfl, hb6⟩
    clear p0 pf0 p1 pf1
    have Vp := Lib.hid (((Vp.out).alloc (.cells (List.toArray [.int .i64 c, .slice (some ⟨d2, 0, none⟩) len len]) 26) (by omega)).below hb6 (by simp; omega))
    have Vx := Lib.hid ((VarN.new_at (w := w5) (d := w5.heap.size) (by simp) [.int .i64 c, .slice (some ⟨d2, 0, none⟩) len len] 26).below hb6 (by simp))
    have HB6 := Lib.hid (((HB5.out).alloc (Nat.le_trans HB5.out.size (by exact Nat.le_refl _)) (.cells (List.toArray [.int .i64 c, .slice (some ⟨d2, 0, none⟩) len len]) 26)).trans (hb6.mono (Nat.le_trans HB5.out.size (by simp <;> omega))))
    have ltp : w1.heap.size < w6.heap.size := lt_of_cell (Vp.out 0 _ rfl).1
    have ltx : w5.heap.size < w6.heap.size := lt_of_cell (Vx.out 0 _ rfl).1
    have nep : ¬ w1.heap.size = w6.heap.size := by omega
    have nex : ¬ w5.heap.size = w6.heap.size := by omega
    have GA := Lib.hid (((GA.out).below (below_box (.cells (List.toArray [.int .i64 c, .slice (some ⟨d2, 0, none⟩) len len]) 26) (Nat.le_refl _))).below hb6)
    have G2 := Lib.hid (((G2.out).below (below_box (.cells (List.toArray [.int .i64 c, .slice (some ⟨d2, 0, none⟩) len len]) 26) (Nat.le_refl _))).below hb6)
    have hsz6 : w5.heap.size + 1 ≤ w6.heap.size := by have h := hb6.size; simp at h; omega
    clear hb6
    have p0 := (Vp.out 0 _ rfl).1
    have pf0 := (Vp.out 0 _ rfl).2
    have p1 := (Vp.out 1 _ rfl).1
    have pf1 := (Vp.out 1 _ rfl).2
    have x0 := (Vx.out 0 _ rfl).1
    have xf0 := (Vx.out 0 _ rfl).2
    have x1 := (Vx.out 1 _ rfl).1
    have xf1 := (Vx.out 1 _ rfl).2
    have hS := Lib.hid (keptX (W := w6) (w := w6) (p := ⟨w5.heap.size, 0, none⟩) (q := ⟨w5.heap.size, 1, none⟩) (p' := ⟨w1.heap.size, 0, none⟩) (q' := ⟨w1.heap.size, 1, none⟩) ⟨x0, x1, p0, p1, G2.out, GA.out, Below.refl _ _⟩ (Below.drew (Below.refl _ _)))
    clear p0 pf0 p1 pf1 x0 xf0 x1 xf1
    go_wp2_with fail
    go_region_held_law (fun W => W.cell? ⟨w5.heap.size, 0, none⟩ = some (.int .i64 c) ∧ W.cell? ⟨w5.heap.size, 1, none⟩ = some (.slice (some ⟨d2, 0, none⟩) len len) ∧ W.cell? ⟨w1.heap.size, 0, none⟩ = some (.int .i64 c) ∧ W.cell? ⟨w1.heap.size, 1, none⟩ = some (.slice a len cap) ∧ Ns W (some ⟨d2, 0, none⟩) len len es ∧ Ns W a len cap es ∧ Below w6.heap.size w6 W)
      (first | with_reducible assumption | with_reducible exact hS.out | exact keptX (by assumption) (by assumption))
      (first | (go_simp; go_at_call 39; refine (toSeen_any c a len cap es _ (by go_split_ands; assumption) HLE.out).mono ?_; rintro e w' ⟨⟨d3, rfl, _, hf3, _, _⟩, hbn⟩; have G3 := hf3.ns HLN.out (Nat.le_refl _) (Nat.le_trans HLE.out (by decide))) | (go_simp; go_at_call 40; refine (eqSeen_same c _ _ len len len es _ (by go_split_ands; assumption) (by assumption)).mono ?_; rintro e w' ⟨rfl, hbn⟩))
    rename_i hHeld
    rename World => w7
    have hb7 : Below w6.heap.size w6 w7 := hHeld.2.2.2.2.2.2
    clear hHeld hS
    have Vp := Lib.hid ((Vp.out).below hb7 ltp)
    have Vx := Lib.hid ((Vx.out).below hb7 ltx)
    have HB7 := Lib.hid (HB6.out.trans (hb7.mono HB6.out.size))
    have GA := Lib.hid ((GA.out).below hb7)
    have G2 := Lib.hid ((G2.out).below hb7)
    have hsz7 : w6.heap.size + 0 ≤ w7.heap.size := hb7.size
    have ltp : w1.heap.size < w7.heap.size := lt_of_cell (Vp.out 0 _ rfl).1
    have ltx : w5.heap.size < w7.heap.size := lt_of_cell (Vx.out 0 _ rfl).1
    have nep : ¬ w1.heap.size = w7.heap.size := by omega
    have nex : ¬ w5.heap.size = w7.heap.size := by omega
    clear hb7
    have p0 := (Vp.out 0 _ rfl).1
    have pf0 := (Vp.out 0 _ rfl).2
    have p1 := (Vp.out 1 _ rfl).1
    have pf1 := (Vp.out 1 _ rfl).2
    have x0 := (Vx.out 0 _ rfl).1
    have xf0 := (Vx.out 0 _ rfl).2
    have x1 := (Vx.out 1 _ rfl).1
    have xf1 := (Vx.out 1 _ rfl).2
    go_wp2
    go_ret
    exact ⟨rfl, HB7.out⟩

set_option maxHeartbeats 4000000 in
theorem walk_fnExactSeenHas (c : Int) (a : Option Addr) (len cap : Nat) (es : List Int) (t : Int) (w1 : World) (hns : Ns w1 a len cap es) :
    Calls Try.prog 12 #[.agg #[.int .i64 c, .slice a len cap], .int .i64 t] w1 fun e w' => e = .returned (.bool true) ∧ Below w1.heap.size w1 w' := by
  have hb1 := Below.refl w1.heap.size w1
  have GA := Lib.hid hns
  have LTA := Lib.hid hns.lts
  clear hns
  obtain ⟨z0, hz0⟩ : ∃ z0, hasSV c es t = z0 := ⟨_, rfl⟩
  have HV := Lib.hid hz0
  clear hz0
  have HLN := Lib.hid GA.out.length
  go_enter Try.func12, Try.ntmps12
  go_wp2_with fail
  refine (szSeen_any c a len cap es _ ((GA.out).below (below_box (.cells (List.toArray [.int .i64 c, .slice a len cap]) 53) (Nat.le_refl _)))).mono ?_
  rintro e w2 ⟨⟨z, rfl, hzz⟩, hb2⟩
  have Vp := Lib.hid ((VarN.new_at (w := w1) (d := w1.heap.size) (by simp) [.int .i64 c, .slice a len cap] 53).below hb2 (by simp))
  have HB2 := Lib.hid (((hb1).alloc (Nat.le_trans hb1.size (by exact Nat.le_refl _)) (.cells (List.toArray [.int .i64 c, .slice a len cap]) 53)).trans (hb2.mono (Nat.le_trans hb1.size (by simp <;> omega))))
  have ltp : w1.heap.size < w2.heap.size := lt_of_cell (Vp.out 0 _ rfl).1
  have nep : ¬ w1.heap.size = w2.heap.size := by omega
  have GA := Lib.hid (((GA.out).below (below_box (.cells (List.toArray [.int .i64 c, .slice a len cap]) 53) (Nat.le_refl _))).below hb2)
  have hsz2 : w1.heap.size + 1 ≤ w2.heap.size := by have h := hb2.size; simp at h; omega
  clear hb2
  rcases hzz with rfl | ⟨y0, y1⟩
  · go_wp2
    go_ret
    exact ⟨rfl, HB2.out⟩
  · have yn : ¬ z < 0 := by omega
    have HLE := Lib.hid y1
    clear y0 y1
    have p0 := (Vp.out 0 _ rfl).1
    have pf0 := (Vp.out 0 _ rfl).2
    have p1 := (Vp.out 1 _ rfl).1
    have pf1 := (Vp.out 1 _ rfl).2
    go_wp2_with fail
    refine (toSeen_any c a len cap es _ GA.out HLE.out).mono ?_
    rintro e w3 ⟨⟨d1, rfl, hd1, hf1, hr1, hl1⟩, hb3⟩
    clear p0 pf0 p1 pf1
    have Vp := Lib.hid ((Vp.out).below hb3 ltp)
    have HB3 := Lib.hid (HB2.out.trans (hb3.mono HB2.out.size))
    have ltp : w1.heap.size < w3.heap.size := lt_of_cell (Vp.out 0 _ rfl).1
    have nep : ¬ w1.heap.size = w3.heap.size := by omega
    have GA := Lib.hid ((GA.out).below hb3)
    have hsz3 : w2.heap.size + 0 ≤ w3.heap.size := by have h := hb3.size; omega
    clear hb3
    have G1 := Lib.hid (hf1.ns HLN.out (Nat.le_refl _) (Nat.le_trans HLE.out (by decide)))
    clear hf1 hr1 hd1 hl1
    have p0 := (Vp.out 0 _ rfl).1
    have pf0 := (Vp.out 0 _ rfl).2
    have p1 := (Vp.out 1 _ rfl).1
    have pf1 := (Vp.out 1 _ rfl).2
    go_wp2_with fail
    refine (sSeenHas_any c _ len len es t _ G1.out).mono ?_
    rw [HV.out]
    rintro e w4 ⟨rfl, hb4⟩
    clear p0 pf0 p1 pf1
    have Vp := Lib.hid ((Vp.out).below hb4 ltp)
    have HB4 := Lib.hid (HB3.out.trans (hb4.mono HB3.out.size))
    have ltp : w1.heap.size < w4.heap.size := lt_of_cell (Vp.out 0 _ rfl).1
    have nep : ¬ w1.heap.size = w4.heap.size := by omega
    have GA := Lib.hid ((GA.out).below hb4)
    have G1 := Lib.hid ((G1.out).below hb4)
    have hsz4 : w3.heap.size + 0 ≤ w4.heap.size := by have h := hb4.size; omega
    clear hb4
    have p0 := (Vp.out 0 _ rfl).1
    have pf0 := (Vp.out 0 _ rfl).2
    have p1 := (Vp.out 1 _ rfl).1
    have pf1 := (Vp.out 1 _ rfl).2
    go_wp2_with fail
    refine (toSeen_any c a len cap es _ GA.out HLE.out).mono ?_
    rintro e w5 ⟨⟨d2, rfl, hd2, hf2, hr2, hl2⟩, hb5⟩
    clear p0 pf0 p1 pf1
    have Vp := Lib.hid ((Vp.out).below hb5 ltp)
    have HB5 := Lib.hid (HB4.out.trans (hb5.mono HB4.out.size))
    have ltp : w1.heap.size < w5.heap.size := lt_of_cell (Vp.out 0 _ rfl).1
    have nep : ¬ w1.heap.size = w5.heap.size := by omega
    have GA := Lib.hid ((GA.out).below hb5)
    have hsz5 : w4.heap.size + 0 ≤ w5.heap.size := by have h := hb5.size; omega
    clear hb5
    have G2 := Lib.hid (hf2.ns HLN.out (Nat.le_refl _) (Nat.le_trans HLE.out (by decide)))
    clear hf2 hr2 hd2 hl2
    have p0 := (Vp.out 0 _ rfl).1
    have pf0 := (Vp.out 0 _ rfl).2
    have p1 := (Vp.out 1 _ rfl).1
    have pf1 := (Vp.out 1 _ rfl).2
    go_wp2_with fail
    refine (seenHas_any c _ len len es t _ ((G2.out).below (below_box (.cells (List.toArray [.int .i64 c, .slice (some ⟨d2, 0, none⟩) len len]) 26) (Nat.le_refl _)))).mono ?_
    rw [HV.out]
    rintro e w6 ⟨rfl, hb6⟩
    clear p0 pf0 p1 pf1
    have Vp := Lib.hid (((Vp.out).alloc (.cells (List.toArray [.int .i64 c, .slice (some ⟨d2, 0, none⟩) len len]) 26) (by omega)).below hb6 (by simp; omega))
    have Vx := Lib.hid ((VarN.new_at (w := w5) (d := w5.heap.size) (by simp) [.int .i64 c, .slice (some ⟨d2, 0, none⟩) len len] 26).below hb6 (by simp))
    have HB6 := Lib.hid (((HB5.out).alloc (Nat.le_trans HB5.out.size (by exact Nat.le_refl _)) (.cells (List.toArray [.int .i64 c, .slice (some ⟨d2, 0, none⟩) len len]) 26)).trans (hb6.mono (Nat.le_trans HB5.out.size (by simp <;> omega))))
    have ltp : w1.heap.size < w6.heap.size := lt_of_cell (Vp.out 0 _ rfl).1
    have ltx : w5.heap.size < w6.heap.size := lt_of_cell (Vx.out 0 _ rfl).1
    have nep : ¬ w1.heap.size = w6.heap.size := by omega
    have nex : ¬ w5.heap.size = w6.heap.size := by omega
    have GA := Lib.hid (((GA.out).below (below_box (.cells (List.toArray [.int .i64 c, .slice (some ⟨d2, 0, none⟩) len len]) 26) (Nat.le_refl _))).below hb6)
    have G2 := Lib.hid (((G2.out).below (below_box (.cells (List.toArray [.int .i64 c, .slice (some ⟨d2, 0, none⟩) len len]) 26) (Nat.le_refl _))).below hb6)
    have hsz6 : w5.heap.size + 1 ≤ w6.heap.size := by have h := hb6.size; simp at h; omega
    clear hb6
    have p0 := (Vp.out 0 _ rfl).1
    have pf0 := (Vp.out 0 _ rfl).2
    have p1 := (Vp.out 1 _ rfl).1
    have pf1 := (Vp.out 1 _ rfl).2
    have x0 := (Vx.out 0 _ rfl).1
    have xf0 := (Vx.out 0 _ rfl).2
    have x1 := (Vx.out 1 _ rfl).1
    have xf1 := (Vx.out 1 _ rfl).2
    have hS := Lib.hid (keptX (W := w6) (w := w6) (p := ⟨w5.heap.size, 0, none⟩) (q := ⟨w5.heap.size, 1, none⟩) (p' := ⟨w1.heap.size, 0, none⟩) (q' := ⟨w1.heap.size, 1, none⟩) ⟨x0, x1, p0, p1, G2.out, GA.out, Below.refl _ _⟩ (Below.drew (Below.refl _ _)))
    clear p0 pf0 p1 pf1 x0 xf0 x1 xf1
    go_wp2_with fail
    go_region_held_law (fun W => W.cell? ⟨w5.heap.size, 0, none⟩ = some (.int .i64 c) ∧ W.cell? ⟨w5.heap.size, 1, none⟩ = some (.slice (some ⟨d2, 0, none⟩) len len) ∧ W.cell? ⟨w1.heap.size, 0, none⟩ = some (.int .i64 c) ∧ W.cell? ⟨w1.heap.size, 1, none⟩ = some (.slice a len cap) ∧ Ns W (some ⟨d2, 0, none⟩) len len es ∧ Ns W a len cap es ∧ Below w6.heap.size w6 W)
      (first | with_reducible assumption | with_reducible exact hS.out | exact keptX (by assumption) (by assumption))
      (first | (go_simp; go_at_call 39; refine (toSeen_any c a len cap es _ (by go_split_ands; assumption) HLE.out).mono ?_; rintro e w' ⟨⟨d3, rfl, _, hf3, _, _⟩, hbn⟩; have G3 := hf3.ns HLN.out (Nat.le_refl _) (Nat.le_trans HLE.out (by decide))) | (go_simp; go_at_call 40; refine (eqSeen_same c _ _ len len len es _ (by go_split_ands; assumption) (by assumption)).mono ?_; rintro e w' ⟨rfl, hbn⟩))
    rename_i hHeld
    rename World => w7
    have hb7 : Below w6.heap.size w6 w7 := hHeld.2.2.2.2.2.2
    clear hHeld hS
    have Vp := Lib.hid ((Vp.out).below hb7 ltp)
    have Vx := Lib.hid ((Vx.out).below hb7 ltx)
    have HB7 := Lib.hid (HB6.out.trans (hb7.mono HB6.out.size))
    have GA := Lib.hid ((GA.out).below hb7)
    have G2 := Lib.hid ((G2.out).below hb7)
    have hsz7 : w6.heap.size + 0 ≤ w7.heap.size := hb7.size
    have ltp : w1.heap.size < w7.heap.size := lt_of_cell (Vp.out 0 _ rfl).1
    have ltx : w5.heap.size < w7.heap.size := lt_of_cell (Vx.out 0 _ rfl).1
    have nep : ¬ w1.heap.size = w7.heap.size := by omega
    have nex : ¬ w5.heap.size = w7.heap.size := by omega
    clear hb7
    have p0 := (Vp.out 0 _ rfl).1
    have pf0 := (Vp.out 0 _ rfl).2
    have p1 := (Vp.out 1 _ rfl).1
    have pf1 := (Vp.out 1 _ rfl).2
    have x0 := (Vx.out 0 _ rfl).1
    have xf0 := (Vx.out 0 _ rfl).2
    have x1 := (Vx.out 1 _ rfl).1
    have xf1 := (Vx.out 1 _ rfl).2
    go_wp2
    go_ret
    exact ⟨rfl, HB7.out⟩

theorem markNil (c : Int) (w : World) :
    Calls Try.prog 41 #[.agg #[.int .i64 c, .slice none 0 0], .int .i64 1] w fun e w' => e = .returned (.int .i64 1) ∧ Below w.heap.size w w' := by
  refine (markRow (es := []) c (World.ownsRow_nil w w.heap.size 3 1) (Nat.le_refl _) (by omega)).mono ?_
  rintro e w' ⟨rfl, _, _, hm⟩
  exact ⟨rfl, hm.b⟩
theorem heldNil (c : Int) (w : World) :
    Calls Try.prog 42 #[.agg #[.int .i64 c, .slice none 0 0], .int .i64 1] w fun e w' => e = .returned (.int .i64 1) ∧ Below w.heap.size w w' :=
  heldSeen_any c none 0 0 w (by omega) (Ns.nil _)

set_option maxHeartbeats 4000000 in
theorem walk_fnExactSeenNew (t : Int) (_w0 : (Lit.int .i64 t).wf = true) (w1 : World) :
    Calls Try.prog 11 #[.int .i64 t] w1 fun e w' => e = .returned (.bool true) ∧ Below w1.heap.size w1 w' := by
  have hb1 := Below.refl w1.heap.size w1
  by_cases ht : Ser t
  · obtain ⟨c1, hc1⟩ : ∃ c1, addS t (-1) = c1 := ⟨_, rfl⟩
    have HT := Lib.hid ht
    have HC := Lib.hid hc1
    clear ht hc1
    go_enter Try.func11, Try.ntmps11
    go_wp2_with fail
    refine (sSeenNew_as t c1 _ HT.out HC.out).mono ?_
    rintro e w2 ⟨q, rfl, hgw, hb2⟩
    have HB2 := Lib.hid (hb1.trans (hb2.mono hb1.size))
    have hsz2 : w1.heap.size + 0 ≤ w2.heap.size := by have h := hb2.size; omega
    clear hb2
    have GW := Lib.hid hgw
    clear hgw
    go_wp2_with fail
    refine (seenNew_as t c1 _ HT.out HC.out).mono ?_
    rintro e w3 ⟨rfl, hb3⟩
    have Vv := Lib.hid ((VarN.new_at (w := w2) (d := w2.heap.size) (by simp) [.int .i64 c1, .slice q 0 0] 26).below hb3 (by simp))
    have HB3 := Lib.hid (((HB2.out).alloc (Nat.le_trans HB2.out.size (by exact Nat.le_refl _)) (.cells (List.toArray [.int .i64 c1, .slice q 0 0]) 26)).trans (hb3.mono (Nat.le_trans HB2.out.size (by simp <;> omega))))
    have ltv : w2.heap.size < w3.heap.size := lt_of_cell (Vv.out 0 _ rfl).1
    have nev : ¬ w2.heap.size = w3.heap.size := by omega
    have GW := Lib.hid (((GW.out).below (below_box (.cells (List.toArray [.int .i64 c1, .slice q 0 0]) 26) (Nat.le_refl _))).below hb3)
    have hsz3 : w2.heap.size + 1 ≤ w3.heap.size := by have h := hb3.size; simp at h; omega
    clear hb3
    have v0 := (Vv.out 0 _ rfl).1
    have vf0 := (Vv.out 0 _ rfl).2
    have v1 := (Vv.out 1 _ rfl).1
    have vf1 := (Vv.out 1 _ rfl).2
    go_wp2_with fail
    refine (eqSeen_same c1 none _ 0 0 0 [] _ (Ns.nil _) ((GW.out).below (below_box (.cells (List.toArray [.int .i64 c1, .slice none 0 0]) 26) (Nat.le_refl _)))).mono ?_
    rintro e w4 ⟨rfl, hb4⟩
    clear v0 vf0 v1 vf1
    have Vv := Lib.hid (((Vv.out).alloc (.cells (List.toArray [.int .i64 c1, .slice none 0 0]) 26) (by omega)).below hb4 (by simp; omega))
    have Vg := Lib.hid ((VarN.new_at (w := w3) (d := w3.heap.size) (by simp) [.int .i64 c1, .slice none 0 0] 26).below hb4 (by simp))
    have HB4 := Lib.hid (((HB3.out).alloc (Nat.le_trans HB3.out.size (by exact Nat.le_refl _)) (.cells (List.toArray [.int .i64 c1, .slice none 0 0]) 26)).trans (hb4.mono (Nat.le_trans HB3.out.size (by simp <;> omega))))
    have ltv : w2.heap.size < w4.heap.size := lt_of_cell (Vv.out 0 _ rfl).1
    have ltg : w3.heap.size < w4.heap.size := lt_of_cell (Vg.out 0 _ rfl).1
    have nev : ¬ w2.heap.size = w4.heap.size := by omega
    have neg : ¬ w3.heap.size = w4.heap.size := by omega
    have GW := Lib.hid (((GW.out).below (below_box (.cells (List.toArray [.int .i64 c1, .slice none 0 0]) 26) (Nat.le_refl _))).below hb4)
    have hsz4 : w3.heap.size + 1 ≤ w4.heap.size := by have h := hb4.size; simp at h; omega
    clear hb4
    have v0 := (Vv.out 0 _ rfl).1
    have vf0 := (Vv.out 0 _ rfl).2
    have v1 := (Vv.out 1 _ rfl).1
    have vf1 := (Vv.out 1 _ rfl).2
    have g0 := (Vg.out 0 _ rfl).1
    have gf0 := (Vg.out 0 _ rfl).2
    have g1 := (Vg.out 1 _ rfl).1
    have gf1 := (Vg.out 1 _ rfl).2
    go_wp2_with fail
    refine (markNil c1 _).mono ?_
    rintro e w5 ⟨rfl, hb5⟩
    clear v0 vf0 v1 vf1 g0 gf0 g1 gf1
    have Vv := Lib.hid ((Vv.out).below hb5 ltv)
    have Vg := Lib.hid ((Vg.out).below hb5 ltg)
    have HB5 := Lib.hid (HB4.out.trans (hb5.mono HB4.out.size))
    have ltv : w2.heap.size < w5.heap.size := lt_of_cell (Vv.out 0 _ rfl).1
    have ltg : w3.heap.size < w5.heap.size := lt_of_cell (Vg.out 0 _ rfl).1
    have nev : ¬ w2.heap.size = w5.heap.size := by omega
    have neg : ¬ w3.heap.size = w5.heap.size := by omega
    have GW := Lib.hid ((GW.out).below hb5)
    have hsz5 : w4.heap.size + 0 ≤ w5.heap.size := by have h := hb5.size; omega
    clear hb5
    have v0 := (Vv.out 0 _ rfl).1
    have vf0 := (Vv.out 0 _ rfl).2
    have v1 := (Vv.out 1 _ rfl).1
    have vf1 := (Vv.out 1 _ rfl).2
    have g0 := (Vg.out 0 _ rfl).1
    have gf0 := (Vg.out 0 _ rfl).2
    have g1 := (Vg.out 1 _ rfl).1
    have gf1 := (Vg.out 1 _ rfl).2
    go_wp2_with fail
    refine (heldNil c1 _).mono ?_
    rintro e w6 ⟨rfl, hb6⟩
    clear v0 vf0 v1 vf1 g0 gf0 g1 gf1
    have Vv := Lib.hid ((Vv.out).below hb6 ltv)
    have Vg := Lib.hid ((Vg.out).below hb6 ltg)
    have HB6 := Lib.hid (HB5.out.trans (hb6.mono HB5.out.size))
    have ltv : w2.heap.size < w6.heap.size := lt_of_cell (Vv.out 0 _ rfl).1
    have ltg : w3.heap.size < w6.heap.size := lt_of_cell (Vg.out 0 _ rfl).1
    have nev : ¬ w2.heap.size = w6.heap.size := by omega
    have neg : ¬ w3.heap.size = w6.heap.size := by omega
    have GW := Lib.hid ((GW.out).below hb6)
    have hsz6 : w5.heap.size + 0 ≤ w6.heap.size := by have h := hb6.size; omega
    clear hb6
    have v0 := (Vv.out 0 _ rfl).1
    have vf0 := (Vv.out 0 _ rfl).2
    have v1 := (Vv.out 1 _ rfl).1
    have vf1 := (Vv.out 1 _ rfl).2
    have g0 := (Vg.out 0 _ rfl).1
    have gf0 := (Vg.out 0 _ rfl).2
    have g1 := (Vg.out 1 _ rfl).1
    have gf1 := (Vg.out 1 _ rfl).2
    go_wp2_with fail
    refine (seenNew_as t c1 _ HT.out HC.out).mono ?_
    rintro e w7 ⟨rfl, hb7⟩
    clear v0 vf0 v1 vf1 g0 gf0 g1 gf1
    have Vv := Lib.hid ((Vv.out).below hb7 ltv)
    have Vg := Lib.hid ((Vg.out).below hb7 ltg)
    have HB7 := Lib.hid (HB6.out.trans (hb7.mono HB6.out.size))
    have ltv : w2.heap.size < w7.heap.size := lt_of_cell (Vv.out 0 _ rfl).1
    have ltg : w3.heap.size < w7.heap.size := lt_of_cell (Vg.out 0 _ rfl).1
    have nev : ¬ w2.heap.size = w7.heap.size := by omega
    have neg : ¬ w3.heap.size = w7.heap.size := by omega
    have GW := Lib.hid ((GW.out).below hb7)
    have hsz7 : w6.heap.size + 0 ≤ w7.heap.size := by have h := hb7.size; omega
    clear hb7
    have v0 := (Vv.out 0 _ rfl).1
    have vf0 := (Vv.out 0 _ rfl).2
    have v1 := (Vv.out 1 _ rfl).1
    have vf1 := (Vv.out 1 _ rfl).2
    have g0 := (Vg.out 0 _ rfl).1
    have gf0 := (Vg.out 0 _ rfl).2
    have g1 := (Vg.out 1 _ rfl).1
    have gf1 := (Vg.out 1 _ rfl).2
    go_wp2_with fail
    refine (eqSeen_same c1 none _ 0 0 0 [] _ (Ns.nil _) ((GW.out).below (below_box (.cells (List.toArray [.int .i64 c1, .slice none 0 0]) 26) (Nat.le_refl _)))).mono ?_
    rintro e w8 ⟨rfl, hb8⟩
    clear v0 vf0 v1 vf1 g0 gf0 g1 gf1
    have Vv := Lib.hid (((Vv.out).alloc (.cells (List.toArray [.int .i64 c1, .slice none 0 0]) 26) (by omega)).below hb8 (by simp; omega))
    have Vg := Lib.hid (((Vg.out).alloc (.cells (List.toArray [.int .i64 c1, .slice none 0 0]) 26) (by omega)).below hb8 (by simp; omega))
    have Vh := Lib.hid ((VarN.new_at (w := w7) (d := w7.heap.size) (by simp) [.int .i64 c1, .slice none 0 0] 26).below hb8 (by simp))
    have HB8 := Lib.hid (((HB7.out).alloc (Nat.le_trans HB7.out.size (by exact Nat.le_refl _)) (.cells (List.toArray [.int .i64 c1, .slice none 0 0]) 26)).trans (hb8.mono (Nat.le_trans HB7.out.size (by simp <;> omega))))
    have ltv : w2.heap.size < w8.heap.size := lt_of_cell (Vv.out 0 _ rfl).1
    have ltg : w3.heap.size < w8.heap.size := lt_of_cell (Vg.out 0 _ rfl).1
    have lth : w7.heap.size < w8.heap.size := lt_of_cell (Vh.out 0 _ rfl).1
    have nev : ¬ w2.heap.size = w8.heap.size := by omega
    have neg : ¬ w3.heap.size = w8.heap.size := by omega
    have neh : ¬ w7.heap.size = w8.heap.size := by omega
    have GW := Lib.hid (((GW.out).below (below_box (.cells (List.toArray [.int .i64 c1, .slice none 0 0]) 26) (Nat.le_refl _))).below hb8)
    have hsz8 : w7.heap.size + 1 ≤ w8.heap.size := by have h := hb8.size; simp at h; omega
    clear hb8
    have v0 := (Vv.out 0 _ rfl).1
    have vf0 := (Vv.out 0 _ rfl).2
    have v1 := (Vv.out 1 _ rfl).1
    have vf1 := (Vv.out 1 _ rfl).2
    have g0 := (Vg.out 0 _ rfl).1
    have gf0 := (Vg.out 0 _ rfl).2
    have g1 := (Vg.out 1 _ rfl).1
    have gf1 := (Vg.out 1 _ rfl).2
    have h0 := (Vh.out 0 _ rfl).1
    have hf0 := (Vh.out 0 _ rfl).2
    have h1 := (Vh.out 1 _ rfl).1
    have hf1 := (Vh.out 1 _ rfl).2
    go_wp2_with fail
    refine (heldNil c1 _).mono ?_
    rintro e w9 ⟨rfl, hb9⟩
    clear v0 vf0 v1 vf1 g0 gf0 g1 gf1 h0 hf0 h1 hf1
    have Vv := Lib.hid ((Vv.out).below hb9 ltv)
    have Vg := Lib.hid ((Vg.out).below hb9 ltg)
    have Vh := Lib.hid ((Vh.out).below hb9 lth)
    have HB9 := Lib.hid (HB8.out.trans (hb9.mono HB8.out.size))
    have ltv : w2.heap.size < w9.heap.size := lt_of_cell (Vv.out 0 _ rfl).1
    have ltg : w3.heap.size < w9.heap.size := lt_of_cell (Vg.out 0 _ rfl).1
    have lth : w7.heap.size < w9.heap.size := lt_of_cell (Vh.out 0 _ rfl).1
    have nev : ¬ w2.heap.size = w9.heap.size := by omega
    have neg : ¬ w3.heap.size = w9.heap.size := by omega
    have neh : ¬ w7.heap.size = w9.heap.size := by omega
    have GW := Lib.hid ((GW.out).below hb9)
    have hsz9 : w8.heap.size + 0 ≤ w9.heap.size := by have h := hb9.size; omega
    clear hb9
    have v0 := (Vv.out 0 _ rfl).1
    have vf0 := (Vv.out 0 _ rfl).2
    have v1 := (Vv.out 1 _ rfl).1
    have vf1 := (Vv.out 1 _ rfl).2
    have g0 := (Vg.out 0 _ rfl).1
    have gf0 := (Vg.out 0 _ rfl).2
    have g1 := (Vg.out 1 _ rfl).1
    have gf1 := (Vg.out 1 _ rfl).2
    have h0 := (Vh.out 0 _ rfl).1
    have hf0 := (Vh.out 0 _ rfl).2
    have h1 := (Vh.out 1 _ rfl).1
    have hf1 := (Vh.out 1 _ rfl).2
    go_wp2
    go_ret
    exact ⟨rfl, HB9.out⟩
  · have HT := Lib.hid ht
    clear ht
    go_enter Try.func11, Try.ntmps11
    go_wp2_with fail
    refine (sSeenNew_no t _ HT.out).mono ?_
    rintro e w2 ⟨rfl, hb2⟩
    have HB2 := Lib.hid (hb1.trans (hb2.mono hb1.size))
    have hsz2 : w1.heap.size + 0 ≤ w2.heap.size := by have h := hb2.size; omega
    clear hb2
    go_wp2_with fail
    refine (seenNew_no t _ HT.out).mono ?_
    rintro e w3 ⟨rfl, hb3⟩
    have Vv := Lib.hid ((VarN.new_at (w := w2) (d := w2.heap.size) (by simp) [.int .i64 0, .slice none 0 0] 26).below hb3 (by simp))
    have HB3 := Lib.hid (((HB2.out).alloc (Nat.le_trans HB2.out.size (by exact Nat.le_refl _)) (.cells (List.toArray [.int .i64 0, .slice none 0 0]) 26)).trans (hb3.mono (Nat.le_trans HB2.out.size (by simp <;> omega))))
    have ltv : w2.heap.size < w3.heap.size := lt_of_cell (Vv.out 0 _ rfl).1
    have nev : ¬ w2.heap.size = w3.heap.size := by omega
    have hsz3 : w2.heap.size + 1 ≤ w3.heap.size := by have h := hb3.size; simp at h; omega
    clear hb3
    have v0 := (Vv.out 0 _ rfl).1
    have vf0 := (Vv.out 0 _ rfl).2
    have v1 := (Vv.out 1 _ rfl).1
    have vf1 := (Vv.out 1 _ rfl).2
    go_wp2_with fail
    refine (eqSeen_same 0 none none 0 0 0 [] _ (Ns.nil _) (Ns.nil _)).mono ?_
    rintro e w4 ⟨rfl, hb4⟩
    clear v0 vf0 v1 vf1
    have Vv := Lib.hid (((Vv.out).alloc (.cells (List.toArray [.int .i64 0, .slice none 0 0]) 26) (by omega)).below hb4 (by simp; omega))
    have Vg := Lib.hid ((VarN.new_at (w := w3) (d := w3.heap.size) (by simp) [.int .i64 0, .slice none 0 0] 26).below hb4 (by simp))
    have HB4 := Lib.hid (((HB3.out).alloc (Nat.le_trans HB3.out.size (by exact Nat.le_refl _)) (.cells (List.toArray [.int .i64 0, .slice none 0 0]) 26)).trans (hb4.mono (Nat.le_trans HB3.out.size (by simp <;> omega))))
    have ltv : w2.heap.size < w4.heap.size := lt_of_cell (Vv.out 0 _ rfl).1
    have ltg : w3.heap.size < w4.heap.size := lt_of_cell (Vg.out 0 _ rfl).1
    have nev : ¬ w2.heap.size = w4.heap.size := by omega
    have neg : ¬ w3.heap.size = w4.heap.size := by omega
    have hsz4 : w3.heap.size + 1 ≤ w4.heap.size := by have h := hb4.size; simp at h; omega
    clear hb4
    have v0 := (Vv.out 0 _ rfl).1
    have vf0 := (Vv.out 0 _ rfl).2
    have v1 := (Vv.out 1 _ rfl).1
    have vf1 := (Vv.out 1 _ rfl).2
    have g0 := (Vg.out 0 _ rfl).1
    have gf0 := (Vg.out 0 _ rfl).2
    have g1 := (Vg.out 1 _ rfl).1
    have gf1 := (Vg.out 1 _ rfl).2
    go_wp2_with fail
    refine (markNil 0 _).mono ?_
    rintro e w5 ⟨rfl, hb5⟩
    clear v0 vf0 v1 vf1 g0 gf0 g1 gf1
    have Vv := Lib.hid ((Vv.out).below hb5 ltv)
    have Vg := Lib.hid ((Vg.out).below hb5 ltg)
    have HB5 := Lib.hid (HB4.out.trans (hb5.mono HB4.out.size))
    have ltv : w2.heap.size < w5.heap.size := lt_of_cell (Vv.out 0 _ rfl).1
    have ltg : w3.heap.size < w5.heap.size := lt_of_cell (Vg.out 0 _ rfl).1
    have nev : ¬ w2.heap.size = w5.heap.size := by omega
    have neg : ¬ w3.heap.size = w5.heap.size := by omega
    have hsz5 : w4.heap.size + 0 ≤ w5.heap.size := by have h := hb5.size; omega
    clear hb5
    have v0 := (Vv.out 0 _ rfl).1
    have vf0 := (Vv.out 0 _ rfl).2
    have v1 := (Vv.out 1 _ rfl).1
    have vf1 := (Vv.out 1 _ rfl).2
    have g0 := (Vg.out 0 _ rfl).1
    have gf0 := (Vg.out 0 _ rfl).2
    have g1 := (Vg.out 1 _ rfl).1
    have gf1 := (Vg.out 1 _ rfl).2
    go_wp2_with fail
    refine (heldNil 0 _).mono ?_
    rintro e w6 ⟨rfl, hb6⟩
    clear v0 vf0 v1 vf1 g0 gf0 g1 gf1
    have Vv := Lib.hid ((Vv.out).below hb6 ltv)
    have Vg := Lib.hid ((Vg.out).below hb6 ltg)
    have HB6 := Lib.hid (HB5.out.trans (hb6.mono HB5.out.size))
    have ltv : w2.heap.size < w6.heap.size := lt_of_cell (Vv.out 0 _ rfl).1
    have ltg : w3.heap.size < w6.heap.size := lt_of_cell (Vg.out 0 _ rfl).1
    have nev : ¬ w2.heap.size = w6.heap.size := by omega
    have neg : ¬ w3.heap.size = w6.heap.size := by omega
    have hsz6 : w5.heap.size + 0 ≤ w6.heap.size := by have h := hb6.size; omega
    clear hb6
    have v0 := (Vv.out 0 _ rfl).1
    have vf0 := (Vv.out 0 _ rfl).2
    have v1 := (Vv.out 1 _ rfl).1
    have vf1 := (Vv.out 1 _ rfl).2
    have g0 := (Vg.out 0 _ rfl).1
    have gf0 := (Vg.out 0 _ rfl).2
    have g1 := (Vg.out 1 _ rfl).1
    have gf1 := (Vg.out 1 _ rfl).2
    go_wp2_with fail
    refine (seenNew_no t _ HT.out).mono ?_
    rintro e w7 ⟨rfl, hb7⟩
    clear v0 vf0 v1 vf1 g0 gf0 g1 gf1
    have Vv := Lib.hid ((Vv.out).below hb7 ltv)
    have Vg := Lib.hid ((Vg.out).below hb7 ltg)
    have HB7 := Lib.hid (HB6.out.trans (hb7.mono HB6.out.size))
    have ltv : w2.heap.size < w7.heap.size := lt_of_cell (Vv.out 0 _ rfl).1
    have ltg : w3.heap.size < w7.heap.size := lt_of_cell (Vg.out 0 _ rfl).1
    have nev : ¬ w2.heap.size = w7.heap.size := by omega
    have neg : ¬ w3.heap.size = w7.heap.size := by omega
    have hsz7 : w6.heap.size + 0 ≤ w7.heap.size := by have h := hb7.size; omega
    clear hb7
    have v0 := (Vv.out 0 _ rfl).1
    have vf0 := (Vv.out 0 _ rfl).2
    have v1 := (Vv.out 1 _ rfl).1
    have vf1 := (Vv.out 1 _ rfl).2
    have g0 := (Vg.out 0 _ rfl).1
    have gf0 := (Vg.out 0 _ rfl).2
    have g1 := (Vg.out 1 _ rfl).1
    have gf1 := (Vg.out 1 _ rfl).2
    go_wp2_with fail
    refine (eqSeen_same 0 none none 0 0 0 [] _ (Ns.nil _) (Ns.nil _)).mono ?_
    rintro e w8 ⟨rfl, hb8⟩
    clear v0 vf0 v1 vf1 g0 gf0 g1 gf1
    have Vv := Lib.hid (((Vv.out).alloc (.cells (List.toArray [.int .i64 0, .slice none 0 0]) 26) (by omega)).below hb8 (by simp; omega))
    have Vg := Lib.hid (((Vg.out).alloc (.cells (List.toArray [.int .i64 0, .slice none 0 0]) 26) (by omega)).below hb8 (by simp; omega))
    have Vh := Lib.hid ((VarN.new_at (w := w7) (d := w7.heap.size) (by simp) [.int .i64 0, .slice none 0 0] 26).below hb8 (by simp))
    have HB8 := Lib.hid (((HB7.out).alloc (Nat.le_trans HB7.out.size (by exact Nat.le_refl _)) (.cells (List.toArray [.int .i64 0, .slice none 0 0]) 26)).trans (hb8.mono (Nat.le_trans HB7.out.size (by simp <;> omega))))
    have ltv : w2.heap.size < w8.heap.size := lt_of_cell (Vv.out 0 _ rfl).1
    have ltg : w3.heap.size < w8.heap.size := lt_of_cell (Vg.out 0 _ rfl).1
    have lth : w7.heap.size < w8.heap.size := lt_of_cell (Vh.out 0 _ rfl).1
    have nev : ¬ w2.heap.size = w8.heap.size := by omega
    have neg : ¬ w3.heap.size = w8.heap.size := by omega
    have neh : ¬ w7.heap.size = w8.heap.size := by omega
    have hsz8 : w7.heap.size + 1 ≤ w8.heap.size := by have h := hb8.size; simp at h; omega
    clear hb8
    have v0 := (Vv.out 0 _ rfl).1
    have vf0 := (Vv.out 0 _ rfl).2
    have v1 := (Vv.out 1 _ rfl).1
    have vf1 := (Vv.out 1 _ rfl).2
    have g0 := (Vg.out 0 _ rfl).1
    have gf0 := (Vg.out 0 _ rfl).2
    have g1 := (Vg.out 1 _ rfl).1
    have gf1 := (Vg.out 1 _ rfl).2
    have h0 := (Vh.out 0 _ rfl).1
    have hf0 := (Vh.out 0 _ rfl).2
    have h1 := (Vh.out 1 _ rfl).1
    have hf1 := (Vh.out 1 _ rfl).2
    go_wp2_with fail
    refine (heldNil 0 _).mono ?_
    rintro e w9 ⟨rfl, hb9⟩
    clear v0 vf0 v1 vf1 g0 gf0 g1 gf1 h0 hf0 h1 hf1
    have Vv := Lib.hid ((Vv.out).below hb9 ltv)
    have Vg := Lib.hid ((Vg.out).below hb9 ltg)
    have Vh := Lib.hid ((Vh.out).below hb9 lth)
    have HB9 := Lib.hid (HB8.out.trans (hb9.mono HB8.out.size))
    have ltv : w2.heap.size < w9.heap.size := lt_of_cell (Vv.out 0 _ rfl).1
    have ltg : w3.heap.size < w9.heap.size := lt_of_cell (Vg.out 0 _ rfl).1
    have lth : w7.heap.size < w9.heap.size := lt_of_cell (Vh.out 0 _ rfl).1
    have nev : ¬ w2.heap.size = w9.heap.size := by omega
    have neg : ¬ w3.heap.size = w9.heap.size := by omega
    have neh : ¬ w7.heap.size = w9.heap.size := by omega
    have hsz9 : w8.heap.size + 0 ≤ w9.heap.size := by have h := hb9.size; omega
    clear hb9
    have v0 := (Vv.out 0 _ rfl).1
    have vf0 := (Vv.out 0 _ rfl).2
    have v1 := (Vv.out 1 _ rfl).1
    have vf1 := (Vv.out 1 _ rfl).2
    have g0 := (Vg.out 0 _ rfl).1
    have gf0 := (Vg.out 0 _ rfl).2
    have g1 := (Vg.out 1 _ rfl).1
    have gf1 := (Vg.out 1 _ rfl).2
    have h0 := (Vh.out 0 _ rfl).1
    have hf0 := (Vh.out 0 _ rfl).2
    have h1 := (Vh.out 1 _ rfl).1
    have hf1 := (Vh.out 1 _ rfl).2
    go_wp2
    go_ret
    exact ⟨rfl, HB9.out⟩

end Go.Proofs.Ytcjabomcndahbaa
