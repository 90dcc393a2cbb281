/- The walk of the exact law on a valid assembly. -/
import Derived.Test.YtncbgejggfkdmabK168
import Derived.Test.YtncbgejggfkdmabK153
import Derived.Deep.RegionHeldLaw
import Derived.Handy
namespace Go.Proofs.Ytncbgejggfkdmab
open Go.RowKit Go.PlainAid

theorem OwnA.ns {R d n e m : Nat} {es : List Int} {ps : List Part} {W : World} (h : OwnA R d n e m es ps W) : Ns W (some ⟨d, 0, none⟩) n n es := h.fn.ns h.ln (Nat.le_refl _) (Nat.le_trans h.sn (by decide))
theorem OwnA.pts {R d n e m : Nat} {es : List Int} {ps : List Part} {W : World} (h : OwnA R d n e m es ps W) : Pts W (some ⟨e, 0, none⟩) m m ps := h.fp.pts h.lp (Nat.le_refl _) (Nat.le_trans h.sp (by decide))
theorem keptY {p q p' q' : Addr} {x y x' y' : Value} {a b c d : Option Addr} {l1 c1 l2 c2 l3 c3 l4 c4 : Nat} {es ds : List Int} {ps qs : List Part} {w W W' : World}
    (h : W.cell? p = some x ∧ W.cell? q = some y ∧ W.cell? p' = some x' ∧ W.cell? q' = some y' ∧ Ns W a l1 c1 es ∧ Pts W b l2 c2 ps ∧ Ns W c l3 c3 ds ∧ Pts W d l4 c4 qs ∧ Below w.heap.size w W) (hb : Below W.heap.size W W') :
    W'.cell? p = some x ∧ W'.cell? q = some y ∧ W'.cell? p' = some x' ∧ W'.cell? q' = some y' ∧ Ns W' a l1 c1 es ∧ Pts W' b l2 c2 ps ∧ Ns W' c l3 c3 ds ∧ Pts W' d l4 c4 qs ∧ Below w.heap.size w W' := by
  obtain ⟨h1, h2, h3, h4, h5, h6, h7, h8, h9⟩ := h
  exact ⟨(hb.cell (World.block_lt_of_cell? W _ h1)).trans h1, (hb.cell (World.block_lt_of_cell? W _ h2)).trans h2, (hb.cell (World.block_lt_of_cell? W _ h3)).trans h3, (hb.cell (World.block_lt_of_cell? W _ h4)).trans h4, h5.below hb, h6.below hb, h7.below hb, h8.below hb, h9.trans (hb.mono h9.size)⟩

set_option maxHeartbeats 4000000 in
theorem walk_fnExactAsmValid (an : Option Addr) (ln cn : Nat) (es : List Int) (ap : Option Addr) (lp cp : Nat) (ps : List Part) (w1 : World) (hns : Ns w1 an ln cn es) (hpt : Pts w1 ap lp cp ps) (htx : ∀ p ∈ ps, p.text.size ≤ maxLen) (hky : ∀ p ∈ ps, Key p.tsn) :
    Calls Try.prog 10 #[.agg #[.slice an ln cn, .slice ap lp cp]] w1 fun e w' => e = .returned (.bool true) ∧ Below w1.heap.size w1 w' := by
  have hb1 := Below.refl w1.heap.size w1
  have GA := Lib.hid hns
  have PA := Lib.hid hpt
  have HTX := Lib.hid htx
  have HKY := Lib.hid hky
  clear hns hpt htx hky
  obtain ⟨z0, hz0⟩ : ∃ z0, asmV es ps = z0 := ⟨_, rfl⟩
  have HV := Lib.hid hz0
  clear hz0
  go_enter Try.func10, Try.ntmps10
  go_wp2_with fail
  refine (szAssembly_any an ln cn es ap lp cp ps _ ((GA.out).below (below_box (.cells (List.toArray [.slice an ln cn, .slice ap lp cp]) 51) (Nat.le_refl _))) ((PA.out).below (below_box (.cells (List.toArray [.slice an ln cn, .slice ap lp cp]) 51) (Nat.le_refl _))) HTX.out).mono ?_
  rintro e w2 ⟨⟨z, rfl, hzz⟩, hb2⟩
  have Vp := Lib.hid ((VarN.new_at (w := w1) (d := w1.heap.size) (by simp) [.slice an ln cn, .slice ap lp cp] 51).below hb2 (by simp))
  have HB2 := Lib.hid (((hb1).alloc (Nat.le_trans hb1.size (by exact Nat.le_refl _)) (.cells (List.toArray [.slice an ln cn, .slice ap lp cp]) 51)).trans (hb2.mono (Nat.le_trans hb1.size (by simp <;> omega))))
  have ltp : w1.heap.size < w2.heap.size := lt_of_cell (Vp.out 0 _ rfl).1
  have nep : ¬ w1.heap.size = w2.heap.size := by omega
  have GA := Lib.hid (((GA.out).below (below_box (.cells (List.toArray [.slice an ln cn, .slice ap lp cp]) 51) (Nat.le_refl _))).below hb2)
  have PA := Lib.hid (((PA.out).below (below_box (.cells (List.toArray [.slice an ln cn, .slice ap lp cp]) 51) (Nat.le_refl _))).below hb2)
  have hsz2 : w1.heap.size + 1 ≤ w2.heap.size := by have h := hb2.size; simp at h; omega
  clear hb2
  rcases hzz with rfl | ⟨y0, y1, y2⟩
  · go_wp2
    go_ret
    exact ⟨rfl, HB2.out⟩
  · have yn : ¬ z < 0 := by omega
    have HLE := Lib.hid y1
    have HLP := Lib.hid y2
    clear y0 y1 y2
    have p0 := (Vp.out 0 _ rfl).1
    have pf0 := (Vp.out 0 _ rfl).2
    have p1 := (Vp.out 1 _ rfl).1
    have pf1 := (Vp.out 1 _ rfl).2
    go_wp2_with fail
    refine (toAssembly_any an ln cn es ap lp cp ps _ GA.out PA.out HLE.out HLP.out).mono ?_
    rintro e w3 ⟨⟨d1, e1, rfl, ho1⟩, hb3⟩
    clear p0 pf0 p1 pf1
    have Vp := Lib.hid ((Vp.out).below hb3 ltp)
    have HB3 := Lib.hid (HB2.out.trans (hb3.mono HB2.out.size))
    have ltp : w1.heap.size < w3.heap.size := lt_of_cell (Vp.out 0 _ rfl).1
    have nep : ¬ w1.heap.size = w3.heap.size := by omega
    have GA := Lib.hid ((GA.out).below hb3)
    have PA := Lib.hid ((PA.out).below hb3)
    have hsz3 : w2.heap.size + 0 ≤ w3.heap.size := by have h := hb3.size; omega
    clear hb3
    have G1 := Lib.hid ho1.ns
    have P1 := Lib.hid ho1.pts
    clear ho1
    have p0 := (Vp.out 0 _ rfl).1
    have pf0 := (Vp.out 0 _ rfl).2
    have p1 := (Vp.out 1 _ rfl).1
    have pf1 := (Vp.out 1 _ rfl).2
    go_wp2_with fail
    refine (sAsmValid_any _ ln ln es _ lp lp ps _ G1.out P1.out).mono ?_
    rw [HV.out]
    rintro e w4 ⟨rfl, hb4⟩
    clear p0 pf0 p1 pf1
    have Vp := Lib.hid ((Vp.out).below hb4 ltp)
    have HB4 := Lib.hid (HB3.out.trans (hb4.mono HB3.out.size))
    have ltp : w1.heap.size < w4.heap.size := lt_of_cell (Vp.out 0 _ rfl).1
    have nep : ¬ w1.heap.size = w4.heap.size := by omega
    have GA := Lib.hid ((GA.out).below hb4)
    have PA := Lib.hid ((PA.out).below hb4)
    have G1 := Lib.hid ((G1.out).below hb4)
    have P1 := Lib.hid ((P1.out).below hb4)
    have hsz4 : w3.heap.size + 0 ≤ w4.heap.size := by have h := hb4.size; omega
    clear hb4
    have p0 := (Vp.out 0 _ rfl).1
    have pf0 := (Vp.out 0 _ rfl).2
    have p1 := (Vp.out 1 _ rfl).1
    have pf1 := (Vp.out 1 _ rfl).2
    go_wp2_with fail
    refine (toAssembly_any an ln cn es ap lp cp ps _ GA.out PA.out HLE.out HLP.out).mono ?_
    rintro e w5 ⟨⟨d2, e2, rfl, ho2⟩, hb5⟩
    clear p0 pf0 p1 pf1
    have Vp := Lib.hid ((Vp.out).below hb5 ltp)
    have HB5 := Lib.hid (HB4.out.trans (hb5.mono HB4.out.size))
    have ltp : w1.heap.size < w5.heap.size := lt_of_cell (Vp.out 0 _ rfl).1
    have nep : ¬ w1.heap.size = w5.heap.size := by omega
    have GA := Lib.hid ((GA.out).below hb5)
    have PA := Lib.hid ((PA.out).below hb5)
    have hsz5 : w4.heap.size + 0 ≤ w5.heap.size := by have h := hb5.size; omega
    clear hb5
    have G2 := Lib.hid ho2.ns
    have P2 := Lib.hid ho2.pts
    clear ho2
    have p0 := (Vp.out 0 _ rfl).1
    have pf0 := (Vp.out 0 _ rfl).2
    have p1 := (Vp.out 1 _ rfl).1
    have pf1 := (Vp.out 1 _ rfl).2
    go_wp2_with fail
    refine (asmValid_any _ ln ln es _ lp lp ps _ ((G2.out).below (below_box (.cells (List.toArray [.slice (some ⟨d2, 0, none⟩) ln ln, .slice (some ⟨e2, 0, none⟩) lp lp]) 27) (Nat.le_refl _))) ((P2.out).below (below_box (.cells (List.toArray [.slice (some ⟨d2, 0, none⟩) ln ln, .slice (some ⟨e2, 0, none⟩) lp lp]) 27) (Nat.le_refl _))) HKY.out).mono ?_
    rw [HV.out]
    rintro e w6 ⟨rfl, hb6⟩
    clear p0 pf0 p1 pf1
    have Vp := Lib.hid (((Vp.out).alloc (.cells (List.toArray [.slice (some ⟨d2, 0, none⟩) ln ln, .slice (some ⟨e2, 0, none⟩) lp lp]) 27) (by omega)).below hb6 (by simp; omega))
    have Vx := Lib.hid ((VarN.new_at (w := w5) (d := w5.heap.size) (by simp) [.slice (some ⟨d2, 0, none⟩) ln ln, .slice (some ⟨e2, 0, none⟩) lp lp] 27).below hb6 (by simp))
    have HB6 := Lib.hid (((HB5.out).alloc (Nat.le_trans HB5.out.size (by exact Nat.le_refl _)) (.cells (List.toArray [.slice (some ⟨d2, 0, none⟩) ln ln, .slice (some ⟨e2, 0, none⟩) lp lp]) 27)).trans (hb6.mono (Nat.le_trans HB5.out.size (by simp <;> omega))))
    have ltp : w1.heap.size < w6.heap.size := lt_of_cell (Vp.out 0 _ rfl).1
    have ltx : w5.heap.size < w6.heap.size := lt_of_cell (Vx.out 0 _ rfl).1
    have nep : ¬ w1.heap.size = w6.heap.size := by omega
    have nex : ¬ w5.heap.size = w6.heap.size := by omega
    have GA := Lib.hid (((GA.out).below (below_box (.cells (List.toArray [.slice (some ⟨d2, 0, none⟩) ln ln, .slice (some ⟨e2, 0, none⟩) lp lp]) 27) (Nat.le_refl _))).below hb6)
    have PA := Lib.hid (((PA.out).below (below_box (.cells (List.toArray [.slice (some ⟨d2, 0, none⟩) ln ln, .slice (some ⟨e2, 0, none⟩) lp lp]) 27) (Nat.le_refl _))).below hb6)
    have G2 := Lib.hid (((G2.out).below (below_box (.cells (List.toArray [.slice (some ⟨d2, 0, none⟩) ln ln, .slice (some ⟨e2, 0, none⟩) lp lp]) 27) (Nat.le_refl _))).below hb6)
    have P2 := Lib.hid (((P2.out).below (below_box (.cells (List.toArray [.slice (some ⟨d2, 0, none⟩) ln ln, .slice (some ⟨e2, 0, none⟩) lp lp]) 27) (Nat.le_refl _))).below hb6)
    have hsz6 : w5.heap.size + 1 ≤ w6.heap.size := by have h := hb6.size; simp at h; omega
    clear hb6
    have p0 := (Vp.out 0 _ rfl).1
    have pf0 := (Vp.out 0 _ rfl).2
    have p1 := (Vp.out 1 _ rfl).1
    have pf1 := (Vp.out 1 _ rfl).2
    have x0 := (Vx.out 0 _ rfl).1
    have xf0 := (Vx.out 0 _ rfl).2
    have x1 := (Vx.out 1 _ rfl).1
    have xf1 := (Vx.out 1 _ rfl).2
    have hS := Lib.hid (keptY (W := w6) (w := w6) (p := ⟨w5.heap.size, 0, none⟩) (q := ⟨w5.heap.size, 1, none⟩) (p' := ⟨w1.heap.size, 0, none⟩) (q' := ⟨w1.heap.size, 1, none⟩) ⟨x0, x1, p0, p1, G2.out, P2.out, GA.out, PA.out, Below.refl _ _⟩ (Below.drew (Below.refl _ _)))
    clear p0 pf0 p1 pf1 x0 xf0 x1 xf1
    go_wp2_with fail
    go_region_held_law (fun W => W.cell? ⟨w5.heap.size, 0, none⟩ = some (.slice (some ⟨d2, 0, none⟩) ln ln) ∧ W.cell? ⟨w5.heap.size, 1, none⟩ = some (.slice (some ⟨e2, 0, none⟩) lp lp) ∧ W.cell? ⟨w1.heap.size, 0, none⟩ = some (.slice an ln cn) ∧ W.cell? ⟨w1.heap.size, 1, none⟩ = some (.slice ap lp cp) ∧ Ns W (some ⟨d2, 0, none⟩) ln ln es ∧ Pts W (some ⟨e2, 0, none⟩) lp lp ps ∧ Ns W an ln cn es ∧ Pts W ap lp cp ps ∧ Below w6.heap.size w6 W)
      (first | with_reducible assumption | with_reducible exact hS.out | exact keptY (by assumption) (by assumption))
      (first | (go_simp; go_at_call 29; refine (toAssembly_any an ln cn es ap lp cp ps _ (by go_split_ands; assumption) (by go_split_ands; assumption) HLE.out HLP.out).mono ?_; rintro e w' ⟨⟨d3, e3, rfl, ho3⟩, hbn⟩; have G3 := ho3.ns; have P3 := ho3.pts) | (go_simp; go_at_call 25; refine (eqAssembly_same _ _ _ _ ln ln ln lp lp lp es ps _ (by go_split_ands; assumption) (by assumption) (by go_split_ands; assumption) (by assumption)).mono ?_; rintro e w' ⟨rfl, hbn⟩))
    rename_i hHeld
    rename World => w7
    have hb7 : Below w6.heap.size w6 w7 := hHeld.2.2.2.2.2.2.2.2
    clear hHeld hS
    have Vp := Lib.hid ((Vp.out).below hb7 ltp)
    have Vx := Lib.hid ((Vx.out).below hb7 ltx)
    have HB7 := Lib.hid (HB6.out.trans (hb7.mono HB6.out.size))
    have GA := Lib.hid ((GA.out).below hb7)
    have PA := Lib.hid ((PA.out).below hb7)
    have G2 := Lib.hid ((G2.out).below hb7)
    have P2 := Lib.hid ((P2.out).below hb7)
    have hsz7 : w6.heap.size + 0 ≤ w7.heap.size := hb7.size
    have ltp : w1.heap.size < w7.heap.size := lt_of_cell (Vp.out 0 _ rfl).1
    have ltx : w5.heap.size < w7.heap.size := lt_of_cell (Vx.out 0 _ rfl).1
    have nep : ¬ w1.heap.size = w7.heap.size := by omega
    have nex : ¬ w5.heap.size = w7.heap.size := by omega
    clear hb7
    have p0 := (Vp.out 0 _ rfl).1
    have pf0 := (Vp.out 0 _ rfl).2
    have p1 := (Vp.out 1 _ rfl).1
    have pf1 := (Vp.out 1 _ rfl).2
    have x0 := (Vx.out 0 _ rfl).1
    have xf0 := (Vx.out 0 _ rfl).2
    have x1 := (Vx.out 1 _ rfl).1
    have xf1 := (Vx.out 1 _ rfl).2
    go_wp2
    go_ret
    exact ⟨rfl, HB7.out⟩

end Go.Proofs.Ytncbgejggfkdmab
