/- The walk of the exact law on a new assembly. -/
import Derived.Test.YtncbgejggfkdmabK170
import Derived.Test.YtncbgejggfkdmabW93
import Derived.Handy
namespace Go.Proofs.Ytncbgejggfkdmab
open Go.RowKit Go.PlainAid

theorem markNilA (w : World) :
    Calls Try.prog 26 #[.agg #[.slice none 0 0, .slice none 0 0], .int .i64 1] w fun e w' => e = .returned (.int .i64 1) ∧ Below w.heap.size w w' := by
  refine (markNewA (es := []) none (World.ownsRow_nil w w.heap.size 3 1) (Nat.le_refl _) (by omega)).mono ?_
  rintro e w' ⟨rfl, _, _, hm⟩
  exact ⟨rfl, hm.b⟩
theorem heldNilA (w : World) :
    Calls Try.prog 27 #[.agg #[.slice none 0 0, .slice none 0 0], .int .i64 1] w fun e w' => e = .returned (.int .i64 1) ∧ Below w.heap.size w w' :=
  heldNewA none 0 0 none w (by omega) (Ns.nil _)

set_option maxHeartbeats 4000000 in
theorem walk_fnExactAsmNew (n : Int) (_w0 : (Lit.int .i64 n).wf = true) (w1 : World) :
    Calls Try.prog 9 #[.int .i64 n] w1 fun e w' => e = .returned (.bool true) ∧ Below w1.heap.size w1 w' := by
  have hb1 := Below.refl w1.heap.size w1
  by_cases hn : 1 ≤ n ∧ n ≤ 4
  · obtain ⟨m, rfl⟩ : ∃ m : Nat, n = (m : Int) := ⟨n.toNat, by omega⟩
    have HM := Lib.hid (show 1 ≤ m ∧ m ≤ 4 by omega)
    have hk1 : m ≤ 1048576 := by omega
    have hq0 : ¬ 1 + (m : Int) < 0 := by omega
    clear hn
    go_enter Try.func9, Try.ntmps9
    go_wp2_with fail
    refine (sAsmNew_at m _ HM.out).mono ?_
    rintro e w2 ⟨gw, pw, rfl, o1, o2, hb2⟩
    have HB2 := Lib.hid (hb1.trans (hb2.mono hb1.size))
    have hsz2 : w1.heap.size + 0 ≤ w2.heap.size := by have h := hb2.size; omega
    clear hb2
    have GW := Lib.hid (own_ns o1)
    have LTW := Lib.hid GW.out.lts
    clear o1 o2
    go_wp2_with fail
    refine (asmNew_at m _ HM.out).mono ?_
    rintro e w3 ⟨ag, pg, rfl, ho, o4, hb3⟩
    have Vv := Lib.hid ((VarN.new_at (w := w2) (d := w2.heap.size) (by simp) [.slice (some ⟨gw, 0, none⟩) m m, .slice pw 0 0] 27).below hb3 (by simp))
    have HB3 := Lib.hid (((HB2.out).alloc (Nat.le_trans HB2.out.size (by exact Nat.le_refl _)) (.cells (List.toArray [.slice (some ⟨gw, 0, none⟩) m m, .slice pw 0 0]) 27)).trans (hb3.mono (Nat.le_trans HB2.out.size (by simp <;> omega))))
    have ltv : w2.heap.size < w3.heap.size := lt_of_cell (Vv.out 0 _ rfl).1
    have nev : ¬ w2.heap.size = w3.heap.size := by omega
    have GW := Lib.hid (((GW.out).below (below_box (.cells (List.toArray [.slice (some ⟨gw, 0, none⟩) m m, .slice pw 0 0]) 27) (Nat.le_refl _))).below hb3)
    have hsz3 : w2.heap.size + 1 ≤ w3.heap.size := by have h := hb3.size; simp at h; omega
    clear hb3
    have RO := Lib.hid (row_low ho (show (w2.heap.size + 1) ≤ _ by simp))
    have HLO := Lib.hid (show ∀ x, (Value.slice (some ⟨ag, 0, none⟩) m m).ownBlock = some x → (w2.heap.size + 1) ≤ x ∧ x < w3.heap.size from fun x hx => row_lt RO.out hx)
    clear ho o4
    have v0 := (Vv.out 0 _ rfl).1
    have vf0 := (Vv.out 0 _ rfl).2
    have v1 := (Vv.out 1 _ rfl).1
    have vf1 := (Vv.out 1 _ rfl).2
    go_wp2_with fail
    refine (eqAssembly_same _ _ _ _ m m m 0 0 0 (List.replicate m 0) [] _ (own_ns ((ownN_alloc (RO.out)))) ((GW.out).below (below_box (.cells (List.toArray [.slice (some ⟨ag, 0, none⟩) m m, .slice pg 0 0]) 27) (Nat.le_refl _))) (pts0 _ _) (pts0 _ _)).mono ?_
    rintro e w4 ⟨rfl, hb4⟩
    clear v0 vf0 v1 vf1
    have Vv := Lib.hid (((Vv.out).alloc (.cells (List.toArray [.slice (some ⟨ag, 0, none⟩) m m, .slice pg 0 0]) 27) (by omega)).below hb4 (by simp; omega))
    have Vg := Lib.hid ((VarN.new_at (w := w3) (d := w3.heap.size) (by simp) [.slice (some ⟨ag, 0, none⟩) m m, .slice pg 0 0] 27).below hb4 (by simp))
    have HB4 := Lib.hid (((HB3.out).alloc (Nat.le_trans HB3.out.size (by exact Nat.le_refl _)) (.cells (List.toArray [.slice (some ⟨ag, 0, none⟩) m m, .slice pg 0 0]) 27)).trans (hb4.mono (Nat.le_trans HB3.out.size (by simp <;> omega))))
    have ltv : w2.heap.size < w4.heap.size := lt_of_cell (Vv.out 0 _ rfl).1
    have ltg : w3.heap.size < w4.heap.size := lt_of_cell (Vg.out 0 _ rfl).1
    have nev : ¬ w2.heap.size = w4.heap.size := by omega
    have neg : ¬ w3.heap.size = w4.heap.size := by omega
    have GW := Lib.hid (((GW.out).below (below_box (.cells (List.toArray [.slice (some ⟨ag, 0, none⟩) m m, .slice pg 0 0]) 27) (Nat.le_refl _))).below hb4)
    have hsz4 : w3.heap.size + 1 ≤ w4.heap.size := by have h := hb4.size; simp at h; omega
    have RO := Lib.hid (ownUp (ownN_alloc (RO.out)) hb4)
    clear hb4
    have v0 := (Vv.out 0 _ rfl).1
    have vf0 := (Vv.out 0 _ rfl).2
    have v1 := (Vv.out 1 _ rfl).1
    have vf1 := (Vv.out 1 _ rfl).2
    have g0 := (Vg.out 0 _ rfl).1
    have gf0 := (Vg.out 0 _ rfl).2
    have g1 := (Vg.out 1 _ rfl).1
    have gf1 := (Vg.out 1 _ rfl).2
    go_wp2_with fail
    refine (markNewA pg RO.out (by omega) hk1).mono ?_
    rintro e w5 ⟨rfl, hgm, hs5, hm⟩
    clear v0 vf0 v1 vf1 g0 gf0 g1 gf1
    have hsz5 : w4.heap.size + 0 ≤ w5.heap.size := hs5
    have Vv := Lib.hid (Vv.out.below (C := (w2.heap.size + 1)) hm.b (by omega))
    have Vg := Lib.hid (Vg.out.mg hm ltg (by intro e; have := HLO.out _ e.symm; omega))
    have GW := Lib.hid (GW.out.mgC hm.b (fun x hx hl => Nat.lt_of_lt_of_le (LTW.out x hx hl) (by omega)))
    have GM := Lib.hid hgm
    clear hgm
    have HB5 := Lib.hid (HB4.out.trans (hm.b.mono (show w1.heap.size ≤ (w2.heap.size + 1) by omega)))
    have ltv : w2.heap.size < w5.heap.size := lt_of_cell (Vv.out 0 _ rfl).1
    have ltg : w3.heap.size < w5.heap.size := lt_of_cell (Vg.out 0 _ rfl).1
    have nev : ¬ w2.heap.size = w5.heap.size := by omega
    have neg : ¬ w3.heap.size = w5.heap.size := by omega
    clear hm hs5
    have v0 := (Vv.out 0 _ rfl).1
    have vf0 := (Vv.out 0 _ rfl).2
    have v1 := (Vv.out 1 _ rfl).1
    have vf1 := (Vv.out 1 _ rfl).2
    have g0 := (Vg.out 0 _ rfl).1
    have gf0 := (Vg.out 0 _ rfl).2
    have g1 := (Vg.out 1 _ rfl).1
    have gf1 := (Vg.out 1 _ rfl).2
    go_wp2_with fail
    refine (heldNewA _ m m pg _ hk1 GM.out).mono ?_
    rintro e w6 ⟨rfl, hb6⟩
    clear v0 vf0 v1 vf1 g0 gf0 g1 gf1
    have Vv := Lib.hid ((Vv.out).below hb6 ltv)
    have Vg := Lib.hid ((Vg.out).below hb6 ltg)
    have HB6 := Lib.hid (HB5.out.trans (hb6.mono HB5.out.size))
    have ltv : w2.heap.size < w6.heap.size := lt_of_cell (Vv.out 0 _ rfl).1
    have ltg : w3.heap.size < w6.heap.size := lt_of_cell (Vg.out 0 _ rfl).1
    have nev : ¬ w2.heap.size = w6.heap.size := by omega
    have neg : ¬ w3.heap.size = w6.heap.size := by omega
    have GW := Lib.hid ((GW.out).below hb6)
    have GM := Lib.hid ((GM.out).below hb6)
    have hsz6 : w5.heap.size + 0 ≤ w6.heap.size := by have h := hb6.size; omega
    clear hb6
    have v0 := (Vv.out 0 _ rfl).1
    have vf0 := (Vv.out 0 _ rfl).2
    have v1 := (Vv.out 1 _ rfl).1
    have vf1 := (Vv.out 1 _ rfl).2
    have g0 := (Vg.out 0 _ rfl).1
    have gf0 := (Vg.out 0 _ rfl).2
    have g1 := (Vg.out 1 _ rfl).1
    have gf1 := (Vg.out 1 _ rfl).2
    go_wp2_with fail
    refine (asmNew_at m _ HM.out).mono ?_
    rintro e w7 ⟨ah, ph, rfl, hoh, o6, hb7⟩
    clear v0 vf0 v1 vf1 g0 gf0 g1 gf1
    have Vv := Lib.hid ((Vv.out).below hb7 ltv)
    have Vg := Lib.hid ((Vg.out).below hb7 ltg)
    have HB7 := Lib.hid (HB6.out.trans (hb7.mono HB6.out.size))
    have ltv : w2.heap.size < w7.heap.size := lt_of_cell (Vv.out 0 _ rfl).1
    have ltg : w3.heap.size < w7.heap.size := lt_of_cell (Vg.out 0 _ rfl).1
    have nev : ¬ w2.heap.size = w7.heap.size := by omega
    have neg : ¬ w3.heap.size = w7.heap.size := by omega
    have GW := Lib.hid ((GW.out).below hb7)
    have GM := Lib.hid ((GM.out).below hb7)
    have hsz7 : w6.heap.size + 0 ≤ w7.heap.size := by have h := hb7.size; omega
    clear hb7
    have GH := Lib.hid (own_ns hoh)
    clear hoh o6
    have v0 := (Vv.out 0 _ rfl).1
    have vf0 := (Vv.out 0 _ rfl).2
    have v1 := (Vv.out 1 _ rfl).1
    have vf1 := (Vv.out 1 _ rfl).2
    have g0 := (Vg.out 0 _ rfl).1
    have gf0 := (Vg.out 0 _ rfl).2
    have g1 := (Vg.out 1 _ rfl).1
    have gf1 := (Vg.out 1 _ rfl).2
    go_wp2_with fail
    refine (eqAssembly_same _ _ _ _ m m m 0 0 0 (List.replicate m 0) [] _ ((GH.out).below (below_box (.cells (List.toArray [.slice (some ⟨ah, 0, none⟩) m m, .slice ph 0 0]) 27) (Nat.le_refl _))) ((GW.out).below (below_box (.cells (List.toArray [.slice (some ⟨ah, 0, none⟩) m m, .slice ph 0 0]) 27) (Nat.le_refl _))) (pts0 _ _) (pts0 _ _)).mono ?_
    rintro e w8 ⟨rfl, hb8⟩
    clear v0 vf0 v1 vf1 g0 gf0 g1 gf1
    have Vv := Lib.hid (((Vv.out).alloc (.cells (List.toArray [.slice (some ⟨ah, 0, none⟩) m m, .slice ph 0 0]) 27) (by omega)).below hb8 (by simp; omega))
    have Vg := Lib.hid (((Vg.out).alloc (.cells (List.toArray [.slice (some ⟨ah, 0, none⟩) m m, .slice ph 0 0]) 27) (by omega)).below hb8 (by simp; omega))
    have Vh := Lib.hid ((VarN.new_at (w := w7) (d := w7.heap.size) (by simp) [.slice (some ⟨ah, 0, none⟩) m m, .slice ph 0 0] 27).below hb8 (by simp))
    have HB8 := Lib.hid (((HB7.out).alloc (Nat.le_trans HB7.out.size (by exact Nat.le_refl _)) (.cells (List.toArray [.slice (some ⟨ah, 0, none⟩) m m, .slice ph 0 0]) 27)).trans (hb8.mono (Nat.le_trans HB7.out.size (by simp <;> omega))))
    have ltv : w2.heap.size < w8.heap.size := lt_of_cell (Vv.out 0 _ rfl).1
    have ltg : w3.heap.size < w8.heap.size := lt_of_cell (Vg.out 0 _ rfl).1
    have lth : w7.heap.size < w8.heap.size := lt_of_cell (Vh.out 0 _ rfl).1
    have nev : ¬ w2.heap.size = w8.heap.size := by omega
    have neg : ¬ w3.heap.size = w8.heap.size := by omega
    have neh : ¬ w7.heap.size = w8.heap.size := by omega
    have GW := Lib.hid (((GW.out).below (below_box (.cells (List.toArray [.slice (some ⟨ah, 0, none⟩) m m, .slice ph 0 0]) 27) (Nat.le_refl _))).below hb8)
    have GM := Lib.hid (((GM.out).below (below_box (.cells (List.toArray [.slice (some ⟨ah, 0, none⟩) m m, .slice ph 0 0]) 27) (Nat.le_refl _))).below hb8)
    have GH := Lib.hid (((GH.out).below (below_box (.cells (List.toArray [.slice (some ⟨ah, 0, none⟩) m m, .slice ph 0 0]) 27) (Nat.le_refl _))).below hb8)
    have hsz8 : w7.heap.size + 1 ≤ w8.heap.size := by have h := hb8.size; simp at h; omega
    clear hb8
    have v0 := (Vv.out 0 _ rfl).1
    have vf0 := (Vv.out 0 _ rfl).2
    have v1 := (Vv.out 1 _ rfl).1
    have vf1 := (Vv.out 1 _ rfl).2
    have g0 := (Vg.out 0 _ rfl).1
    have gf0 := (Vg.out 0 _ rfl).2
    have g1 := (Vg.out 1 _ rfl).1
    have gf1 := (Vg.out 1 _ rfl).2
    have h0 := (Vh.out 0 _ rfl).1
    have hf0 := (Vh.out 0 _ rfl).2
    have h1 := (Vh.out 1 _ rfl).1
    have hf1 := (Vh.out 1 _ rfl).2
    go_wp2_with fail
    refine (heldNewA _ m m pg _ hk1 GM.out).mono ?_
    rintro e w9 ⟨rfl, hb9⟩
    clear v0 vf0 v1 vf1 g0 gf0 g1 gf1 h0 hf0 h1 hf1
    have Vv := Lib.hid ((Vv.out).below hb9 ltv)
    have Vg := Lib.hid ((Vg.out).below hb9 ltg)
    have Vh := Lib.hid ((Vh.out).below hb9 lth)
    have HB9 := Lib.hid (HB8.out.trans (hb9.mono HB8.out.size))
    have ltv : w2.heap.size < w9.heap.size := lt_of_cell (Vv.out 0 _ rfl).1
    have ltg : w3.heap.size < w9.heap.size := lt_of_cell (Vg.out 0 _ rfl).1
    have lth : w7.heap.size < w9.heap.size := lt_of_cell (Vh.out 0 _ rfl).1
    have nev : ¬ w2.heap.size = w9.heap.size := by omega
    have neg : ¬ w3.heap.size = w9.heap.size := by omega
    have neh : ¬ w7.heap.size = w9.heap.size := by omega
    have GW := Lib.hid ((GW.out).below hb9)
    have GM := Lib.hid ((GM.out).below hb9)
    have GH := Lib.hid ((GH.out).below hb9)
    have hsz9 : w8.heap.size + 0 ≤ w9.heap.size := by have h := hb9.size; omega
    clear hb9
    have v0 := (Vv.out 0 _ rfl).1
    have vf0 := (Vv.out 0 _ rfl).2
    have v1 := (Vv.out 1 _ rfl).1
    have vf1 := (Vv.out 1 _ rfl).2
    have g0 := (Vg.out 0 _ rfl).1
    have gf0 := (Vg.out 0 _ rfl).2
    have g1 := (Vg.out 1 _ rfl).1
    have gf1 := (Vg.out 1 _ rfl).2
    have h0 := (Vh.out 0 _ rfl).1
    have hf0 := (Vh.out 0 _ rfl).2
    have h1 := (Vh.out 1 _ rfl).1
    have hf1 := (Vh.out 1 _ rfl).2
    go_wp2
    go_ret
    exact ⟨rfl, HB9.out⟩
  · have HN := Lib.hid hn
    clear hn
    go_enter Try.func9, Try.ntmps9
    go_wp2_with fail
    refine (sAsmNew_no n _ HN.out).mono ?_
    rintro e w2 ⟨rfl, hb2⟩
    have HB2 := Lib.hid (hb1.trans (hb2.mono hb1.size))
    have hsz2 : w1.heap.size + 0 ≤ w2.heap.size := by have h := hb2.size; omega
    clear hb2
    go_wp2_with fail
    refine (asmNew_no n _ HN.out).mono ?_
    rintro e w3 ⟨rfl, hb3⟩
    have Vv := Lib.hid ((VarN.new_at (w := w2) (d := w2.heap.size) (by simp) [.slice none 0 0, .slice none 0 0] 27).below hb3 (by simp))
    have HB3 := Lib.hid (((HB2.out).alloc (Nat.le_trans HB2.out.size (by exact Nat.le_refl _)) (.cells (List.toArray [.slice none 0 0, .slice none 0 0]) 27)).trans (hb3.mono (Nat.le_trans HB2.out.size (by simp <;> omega))))
    have ltv : w2.heap.size < w3.heap.size := lt_of_cell (Vv.out 0 _ rfl).1
    have nev : ¬ w2.heap.size = w3.heap.size := by omega
    have hsz3 : w2.heap.size + 1 ≤ w3.heap.size := by have h := hb3.size; simp at h; omega
    clear hb3
    have v0 := (Vv.out 0 _ rfl).1
    have vf0 := (Vv.out 0 _ rfl).2
    have v1 := (Vv.out 1 _ rfl).1
    have vf1 := (Vv.out 1 _ rfl).2
    go_wp2_with fail
    refine (eqAssembly_same none none none none 0 0 0 0 0 0 [] [] _ (Ns.nil _) (Ns.nil _) (Pts.nil _) (Pts.nil _)).mono ?_
    rintro e w4 ⟨rfl, hb4⟩
    clear v0 vf0 v1 vf1
    have Vv := Lib.hid (((Vv.out).alloc (.cells (List.toArray [.slice none 0 0, .slice none 0 0]) 27) (by omega)).below hb4 (by simp; omega))
    have Vg := Lib.hid ((VarN.new_at (w := w3) (d := w3.heap.size) (by simp) [.slice none 0 0, .slice none 0 0] 27).below hb4 (by simp))
    have HB4 := Lib.hid (((HB3.out).alloc (Nat.le_trans HB3.out.size (by exact Nat.le_refl _)) (.cells (List.toArray [.slice none 0 0, .slice none 0 0]) 27)).trans (hb4.mono (Nat.le_trans HB3.out.size (by simp <;> omega))))
    have ltv : w2.heap.size < w4.heap.size := lt_of_cell (Vv.out 0 _ rfl).1
    have ltg : w3.heap.size < w4.heap.size := lt_of_cell (Vg.out 0 _ rfl).1
    have nev : ¬ w2.heap.size = w4.heap.size := by omega
    have neg : ¬ w3.heap.size = w4.heap.size := by omega
    have hsz4 : w3.heap.size + 1 ≤ w4.heap.size := by have h := hb4.size; simp at h; omega
    clear hb4
    have v0 := (Vv.out 0 _ rfl).1
    have vf0 := (Vv.out 0 _ rfl).2
    have v1 := (Vv.out 1 _ rfl).1
    have vf1 := (Vv.out 1 _ rfl).2
    have g0 := (Vg.out 0 _ rfl).1
    have gf0 := (Vg.out 0 _ rfl).2
    have g1 := (Vg.out 1 _ rfl).1
    have gf1 := (Vg.out 1 _ rfl).2
    go_wp2_with fail
    refine (markNilA _).mono ?_
    rintro e w5 ⟨rfl, hb5⟩
    clear v0 vf0 v1 vf1 g0 gf0 g1 gf1
    have Vv := Lib.hid ((Vv.out).below hb5 ltv)
    have Vg := Lib.hid ((Vg.out).below hb5 ltg)
    have HB5 := Lib.hid (HB4.out.trans (hb5.mono HB4.out.size))
    have ltv : w2.heap.size < w5.heap.size := lt_of_cell (Vv.out 0 _ rfl).1
    have ltg : w3.heap.size < w5.heap.size := lt_of_cell (Vg.out 0 _ rfl).1
    have nev : ¬ w2.heap.size = w5.heap.size := by omega
    have neg : ¬ w3.heap.size = w5.heap.size := by omega
    have hsz5 : w4.heap.size + 0 ≤ w5.heap.size := by have h := hb5.size; omega
    clear hb5
    have v0 := (Vv.out 0 _ rfl).1
    have vf0 := (Vv.out 0 _ rfl).2
    have v1 := (Vv.out 1 _ rfl).1
    have vf1 := (Vv.out 1 _ rfl).2
    have g0 := (Vg.out 0 _ rfl).1
    have gf0 := (Vg.out 0 _ rfl).2
    have g1 := (Vg.out 1 _ rfl).1
    have gf1 := (Vg.out 1 _ rfl).2
    go_wp2_with fail
    refine (heldNilA _).mono ?_
    rintro e w6 ⟨rfl, hb6⟩
    clear v0 vf0 v1 vf1 g0 gf0 g1 gf1
    have Vv := Lib.hid ((Vv.out).below hb6 ltv)
    have Vg := Lib.hid ((Vg.out).below hb6 ltg)
    have HB6 := Lib.hid (HB5.out.trans (hb6.mono HB5.out.size))
    have ltv : w2.heap.size < w6.heap.size := lt_of_cell (Vv.out 0 _ rfl).1
    have ltg : w3.heap.size < w6.heap.size := lt_of_cell (Vg.out 0 _ rfl).1
    have nev : ¬ w2.heap.size = w6.heap.size := by omega
    have neg : ¬ w3.heap.size = w6.heap.size := by omega
    have hsz6 : w5.heap.size + 0 ≤ w6.heap.size := by have h := hb6.size; omega
    clear hb6
    have v0 := (Vv.out 0 _ rfl).1
    have vf0 := (Vv.out 0 _ rfl).2
    have v1 := (Vv.out 1 _ rfl).1
    have vf1 := (Vv.out 1 _ rfl).2
    have g0 := (Vg.out 0 _ rfl).1
    have gf0 := (Vg.out 0 _ rfl).2
    have g1 := (Vg.out 1 _ rfl).1
    have gf1 := (Vg.out 1 _ rfl).2
    go_wp2_with fail
    refine (asmNew_no n _ HN.out).mono ?_
    rintro e w7 ⟨rfl, hb7⟩
    clear v0 vf0 v1 vf1 g0 gf0 g1 gf1
    have Vv := Lib.hid ((Vv.out).below hb7 ltv)
    have Vg := Lib.hid ((Vg.out).below hb7 ltg)
    have HB7 := Lib.hid (HB6.out.trans (hb7.mono HB6.out.size))
    have ltv : w2.heap.size < w7.heap.size := lt_of_cell (Vv.out 0 _ rfl).1
    have ltg : w3.heap.size < w7.heap.size := lt_of_cell (Vg.out 0 _ rfl).1
    have nev : ¬ w2.heap.size = w7.heap.size := by omega
    have neg : ¬ w3.heap.size = w7.heap.size := by omega
    have hsz7 : w6.heap.size + 0 ≤ w7.heap.size := by have h := hb7.size; omega
    clear hb7
    have v0 := (Vv.out 0 _ rfl).1
    have vf0 := (Vv.out 0 _ rfl).2
    have v1 := (Vv.out 1 _ rfl).1
    have vf1 := (Vv.out 1 _ rfl).2
    have g0 := (Vg.out 0 _ rfl).1
    have gf0 := (Vg.out 0 _ rfl).2
    have g1 := (Vg.out 1 _ rfl).1
    have gf1 := (Vg.out 1 _ rfl).2
    go_wp2_with fail
    refine (eqAssembly_same none none none none 0 0 0 0 0 0 [] [] _ (Ns.nil _) (Ns.nil _) (Pts.nil _) (Pts.nil _)).mono ?_
    rintro e w8 ⟨rfl, hb8⟩
    clear v0 vf0 v1 vf1 g0 gf0 g1 gf1
    have Vv := Lib.hid (((Vv.out).alloc (.cells (List.toArray [.slice none 0 0, .slice none 0 0]) 27) (by omega)).below hb8 (by simp; omega))
    have Vg := Lib.hid (((Vg.out).alloc (.cells (List.toArray [.slice none 0 0, .slice none 0 0]) 27) (by omega)).below hb8 (by simp; omega))
    have Vh := Lib.hid ((VarN.new_at (w := w7) (d := w7.heap.size) (by simp) [.slice none 0 0, .slice none 0 0] 27).below hb8 (by simp))
    have HB8 := Lib.hid (((HB7.out).alloc (Nat.le_trans HB7.out.size (by exact Nat.le_refl _)) (.cells (List.toArray [.slice none 0 0, .slice none 0 0]) 27)).trans (hb8.mono (Nat.le_trans HB7.out.size (by simp <;> omega))))
    have ltv : w2.heap.size < w8.heap.size := lt_of_cell (Vv.out 0 _ rfl).1
    have ltg : w3.heap.size < w8.heap.size := lt_of_cell (Vg.out 0 _ rfl).1
    have lth : w7.heap.size < w8.heap.size := lt_of_cell (Vh.out 0 _ rfl).1
    have nev : ¬ w2.heap.size = w8.heap.size := by omega
    have neg : ¬ w3.heap.size = w8.heap.size := by omega
    have neh : ¬ w7.heap.size = w8.heap.size := by omega
    have hsz8 : w7.heap.size + 1 ≤ w8.heap.size := by have h := hb8.size; simp at h; omega
    clear hb8
    have v0 := (Vv.out 0 _ rfl).1
    have vf0 := (Vv.out 0 _ rfl).2
    have v1 := (Vv.out 1 _ rfl).1
    have vf1 := (Vv.out 1 _ rfl).2
    have g0 := (Vg.out 0 _ rfl).1
    have gf0 := (Vg.out 0 _ rfl).2
    have g1 := (Vg.out 1 _ rfl).1
    have gf1 := (Vg.out 1 _ rfl).2
    have h0 := (Vh.out 0 _ rfl).1
    have hf0 := (Vh.out 0 _ rfl).2
    have h1 := (Vh.out 1 _ rfl).1
    have hf1 := (Vh.out 1 _ rfl).2
    go_wp2_with fail
    refine (heldNilA _).mono ?_
    rintro e w9 ⟨rfl, hb9⟩
    clear v0 vf0 v1 vf1 g0 gf0 g1 gf1 h0 hf0 h1 hf1
    have Vv := Lib.hid ((Vv.out).below hb9 ltv)
    have Vg := Lib.hid ((Vg.out).below hb9 ltg)
    have Vh := Lib.hid ((Vh.out).below hb9 lth)
    have HB9 := Lib.hid (HB8.out.trans (hb9.mono HB8.out.size))
    have ltv : w2.heap.size < w9.heap.size := lt_of_cell (Vv.out 0 _ rfl).1
    have ltg : w3.heap.size < w9.heap.size := lt_of_cell (Vg.out 0 _ rfl).1
    have lth : w7.heap.size < w9.heap.size := lt_of_cell (Vh.out 0 _ rfl).1
    have nev : ¬ w2.heap.size = w9.heap.size := by omega
    have neg : ¬ w3.heap.size = w9.heap.size := by omega
    have neh : ¬ w7.heap.size = w9.heap.size := by omega
    have hsz9 : w8.heap.size + 0 ≤ w9.heap.size := by have h := hb9.size; omega
    clear hb9
    have v0 := (Vv.out 0 _ rfl).1
    have vf0 := (Vv.out 0 _ rfl).2
    have v1 := (Vv.out 1 _ rfl).1
    have vf1 := (Vv.out 1 _ rfl).2
    have g0 := (Vg.out 0 _ rfl).1
    have gf0 := (Vg.out 0 _ rfl).2
    have g1 := (Vg.out 1 _ rfl).1
    have gf1 := (Vg.out 1 _ rfl).2
    have h0 := (Vh.out 0 _ rfl).1
    have hf0 := (Vh.out 0 _ rfl).2
    have h1 := (Vh.out 1 _ rfl).1
    have hf1 := (Vh.out 1 _ rfl).2
    go_wp2
    go_ret
    exact ⟨rfl, HB9.out⟩

end Go.Proofs.Ytncbgejggfkdmab
