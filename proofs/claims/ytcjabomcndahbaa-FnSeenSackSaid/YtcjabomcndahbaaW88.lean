/- The walk of the law on a receipt that tells what has arrived. -/
import Derived.Test.YtcjabomcndahbaaK108
import Derived.Test.YtcjabomcndahbaaK32
import Derived.Test.YtcjabomcndahbaaK94
import Derived.Test.YtcjabomcndahbaaK31
import Derived.Deep.RegionHeldLaw
import Derived.Handy
namespace Go.Proofs.Ytcjabomcndahbaa
open Go.RowKit Go.PlainAid

theorem keptR {p q p' q' : Addr} {x y x' y' : Value} {a b : Option Addr} {l1 c1 l2 c2 : Nat} {es : List Int} {gs : List (Int × Int)} {w W W' : World}
    (h : W.cell? p = some x ∧ W.cell? q = some y ∧ W.cell? p' = some x' ∧ W.cell? q' = some y' ∧ Ns W a l1 c1 es ∧ Gaps W b l2 c2 gs ∧ Below w.heap.size w W) (hb : Below W.heap.size W W') :
    W'.cell? p = some x ∧ W'.cell? q = some y ∧ W'.cell? p' = some x' ∧ W'.cell? q' = some y' ∧ Ns W' a l1 c1 es ∧ Gaps W' b l2 c2 gs ∧ Below w.heap.size w W' := by
  obtain ⟨h1, h2, h3, h4, h5, h6, h7⟩ := h
  exact ⟨(hb.cell (World.block_lt_of_cell? W _ h1)).trans h1, (hb.cell (World.block_lt_of_cell? W _ h2)).trans h2, (hb.cell (World.block_lt_of_cell? W _ h3)).trans h3, (hb.cell (World.block_lt_of_cell? W _ h4)).trans h4, h5.below hb, h6.below hb, h7.trans (hb.mono h7.size)⟩

set_option maxHeartbeats 4000000 in
theorem walk_fnSeenSack (a0 : Option Addr) (len0 cap0 : Nat) (z0 : List Int) (w : World) (w0 : IsRow .u8 w a0 len0 cap0 z0) :
    Calls Try.prog 6 #[.slice a0 len0 cap0] w fun e w' => e = .returned (.bool true) ∧ Below w.heap.size w w' := by
  have H := Lib.hid w0
  clear w0
  by_cases hl : (1048576 : Int) < len0
  · go_enter Try.func6, Try.ntmps6
    go_wp2
    go_ret
    exact ⟨rfl, Below.refl _ _⟩
  · go_enter Try.func6, Try.ntmps6
    go_wp2_with fail
    refine (drawSeenSack_any a0 len0 cap0 z0 _ H.out).mono ?_
    rintro e w1 ⟨c, a, k, cap, es, rfl, nk, nc, ne, hown⟩
    have hb1 := hown.b
    have GA := Lib.hid hown.ns
    clear hown ne nc
    by_cases hs : SeenOk c es
    · obtain ⟨gs, htl⟩ := told_seen_some hs.2
      obtain ⟨m, hm⟩ : ∃ m, gs.length = m := ⟨_, rfl⟩
      have HO := Lib.hid hs
      have HT := Lib.hid htl
      have HM := Lib.hid hm
      have HK := Lib.hid ((told_ok htl).1 hs)
      have HL := Lib.hid (show es.length = k from GA.out.length)
      clear hs htl hm
      go_wp2_with fail
      refine (seenSack_is c a k cap es gs m _ ((GA.out).below (below_box (.cells (List.toArray [.int .i64 c, .slice a k cap]) 26) (Nat.le_refl _))) HO.out HT.out HM.out).mono ?_
      rintro e w2 ⟨a1, cap1, rfl, hg1, hb2⟩
      have Vs := Lib.hid ((VarN.new_at (w := w1) (d := w1.heap.size) (by simp) [.int .i64 c, .slice a k cap] 26).below hb2 (by simp))
      have HB2 := Lib.hid (((hb1).alloc (Nat.le_trans hb1.size (by exact Nat.le_refl _)) (.cells (List.toArray [.int .i64 c, .slice a k cap]) 26)).trans (hb2.mono (Nat.le_trans hb1.size (by simp <;> omega))))
      have lts : w1.heap.size < w2.heap.size := lt_of_cell (Vs.out 0 _ rfl).1
      have nes : ¬ w1.heap.size = w2.heap.size := by omega
      have GA := Lib.hid (((GA.out).below (below_box (.cells (List.toArray [.int .i64 c, .slice a k cap]) 26) (Nat.le_refl _))).below hb2)
      clear hb2
      have G1 := Lib.hid hg1
      clear hg1
      have s0 := (Vs.out 0 _ rfl).1
      have sf0 := (Vs.out 0 _ rfl).2
      have s1 := (Vs.out 1 _ rfl).1
      have sf1 := (Vs.out 1 _ rfl).2
      go_wp2_with fail
      refine (sSeenSack_is c a k cap es gs m _ ((GA.out).below (below_box (.cells (List.toArray [.int .i64 c, .slice a1 m cap1]) 41) (Nat.le_refl _))) HO.out HT.out HM.out).mono ?_
      rintro e w3 ⟨a2, cap2, rfl, hg2, hb3⟩
      clear s0 sf0 s1 sf1
      have Vs := Lib.hid (((Vs.out).alloc (.cells (List.toArray [.int .i64 c, .slice a1 m cap1]) 41) (by omega)).below hb3 (by simp; omega))
      have Vo := Lib.hid ((VarN.new_at (w := w2) (d := w2.heap.size) (by simp) [.int .i64 c, .slice a1 m cap1] 41).below hb3 (by simp))
      have HB3 := Lib.hid (((HB2.out).alloc (Nat.le_trans HB2.out.size (by exact Nat.le_refl _)) (.cells (List.toArray [.int .i64 c, .slice a1 m cap1]) 41)).trans (hb3.mono (Nat.le_trans HB2.out.size (by simp <;> omega))))
      have lts : w1.heap.size < w3.heap.size := lt_of_cell (Vs.out 0 _ rfl).1
      have lto : w2.heap.size < w3.heap.size := lt_of_cell (Vo.out 0 _ rfl).1
      have nes : ¬ w1.heap.size = w3.heap.size := by omega
      have neo : ¬ w2.heap.size = w3.heap.size := by omega
      have GA := Lib.hid (((GA.out).below (below_box (.cells (List.toArray [.int .i64 c, .slice a1 m cap1]) 41) (Nat.le_refl _))).below hb3)
      have G1 := Lib.hid (((G1.out).below (below_box (.cells (List.toArray [.int .i64 c, .slice a1 m cap1]) 41) (Nat.le_refl _))).below hb3)
      clear hb3
      have G2 := Lib.hid hg2
      clear hg2
      have s0 := (Vs.out 0 _ rfl).1
      have sf0 := (Vs.out 0 _ rfl).2
      have s1 := (Vs.out 1 _ rfl).1
      have sf1 := (Vs.out 1 _ rfl).2
      have o0 := (Vo.out 0 _ rfl).1
      have of0 := (Vo.out 0 _ rfl).2
      have o1 := (Vo.out 1 _ rfl).1
      have of1 := (Vo.out 1 _ rfl).2
      go_wp2_with fail
      refine (sameSack_same c _ _ m cap1 cap2 gs _ ((G1.out).below (below_box (.cells (List.toArray [.int .i64 c, .slice a2 m cap2]) 41) (Nat.le_refl _))) ((G2.out).below (below_box (.cells (List.toArray [.int .i64 c, .slice a2 m cap2]) 41) (Nat.le_refl _)))).mono ?_
      rintro e w4 ⟨rfl, hb4⟩
      clear s0 sf0 s1 sf1 o0 of0 o1 of1
      have Vs := Lib.hid (((Vs.out).alloc (.cells (List.toArray [.int .i64 c, .slice a2 m cap2]) 41) (by omega)).below hb4 (by simp; omega))
      have Vo := Lib.hid (((Vo.out).alloc (.cells (List.toArray [.int .i64 c, .slice a2 m cap2]) 41) (by omega)).below hb4 (by simp; omega))
      have Vv := Lib.hid ((VarN.new_at (w := w3) (d := w3.heap.size) (by simp) [.int .i64 c, .slice a2 m cap2] 41).below hb4 (by simp))
      have HB4 := Lib.hid (((HB3.out).alloc (Nat.le_trans HB3.out.size (by exact Nat.le_refl _)) (.cells (List.toArray [.int .i64 c, .slice a2 m cap2]) 41)).trans (hb4.mono (Nat.le_trans HB3.out.size (by simp <;> omega))))
      have lts : w1.heap.size < w4.heap.size := lt_of_cell (Vs.out 0 _ rfl).1
      have lto : w2.heap.size < w4.heap.size := lt_of_cell (Vo.out 0 _ rfl).1
      have ltv : w3.heap.size < w4.heap.size := lt_of_cell (Vv.out 0 _ rfl).1
      have nes : ¬ w1.heap.size = w4.heap.size := by omega
      have neo : ¬ w2.heap.size = w4.heap.size := by omega
      have nev : ¬ w3.heap.size = w4.heap.size := by omega
      have GA := Lib.hid (((GA.out).below (below_box (.cells (List.toArray [.int .i64 c, .slice a2 m cap2]) 41) (Nat.le_refl _))).below hb4)
      have G1 := Lib.hid (((G1.out).below (below_box (.cells (List.toArray [.int .i64 c, .slice a2 m cap2]) 41) (Nat.le_refl _))).below hb4)
      have G2 := Lib.hid (((G2.out).below (below_box (.cells (List.toArray [.int .i64 c, .slice a2 m cap2]) 41) (Nat.le_refl _))).below hb4)
      clear hb4
      have s0 := (Vs.out 0 _ rfl).1
      have sf0 := (Vs.out 0 _ rfl).2
      have s1 := (Vs.out 1 _ rfl).1
      have sf1 := (Vs.out 1 _ rfl).2
      have o0 := (Vo.out 0 _ rfl).1
      have of0 := (Vo.out 0 _ rfl).2
      have o1 := (Vo.out 1 _ rfl).1
      have of1 := (Vo.out 1 _ rfl).2
      have HC := Lib.hid (seen_ser HO.out)
      have S0 := Lib.hid (show w4.cell? ⟨w1.heap.size, 0, none⟩ = some (.int .i64 c) ∧ w4.cell? ⟨w1.heap.size, 1, none⟩ = some (.slice a k cap) ∧ w4.cell? ⟨w2.heap.size, 0, none⟩ = some (.int .i64 c) ∧ w4.cell? ⟨w2.heap.size, 1, none⟩ = some (.slice a1 m cap1) ∧ Ns w4 a k cap es ∧ Gaps w4 a1 m cap1 gs ∧ Below w4.heap.size w4 w4 from ⟨s0, s1, o0, o1, GA.out, G1.out, Below.refl _ _⟩)
      clear s0 sf0 s1 sf1 o0 of0 o1 of1
      go_wp2
      go_loopw [8] (fun v wr => ∃ d : Int, (-3 ≤ d ∧ d ≤ 18) ∧ v = .int .i64 d ∧ Hid (wr.cell? ⟨w1.heap.size, 0, none⟩ = some (.int .i64 c) ∧ wr.cell? ⟨w1.heap.size, 1, none⟩ = some (.slice a k cap) ∧ wr.cell? ⟨w2.heap.size, 0, none⟩ = some (.int .i64 c) ∧ wr.cell? ⟨w2.heap.size, 1, none⟩ = some (.slice a1 m cap1) ∧ Ns wr a k cap es ∧ Gaps wr a1 m cap1 gs ∧ Below w4.heap.size w4 wr)) (fun v _ => (18 - intOf v).toNat)
      case atStart => exact ⟨-3, by omega, rfl, S0⟩
      case round =>
        obtain ⟨d, hd, rfl, hS⟩ := hrel
        clear S0
        by_cases hlt : d ≤ 17
        · have wd : IntKind.i64.wrap (d + 1) = d + 1 := IntWalk.i64_in _ ⟨by omega, by omega⟩
          have s0 := hS.out.1
          have HA := Lib.hid (addV_yes d HC.out)
          obtain ⟨y, hy⟩ : ∃ y, addS c d = y := ⟨_, rfl⟩
          rw [hy] at HA
          have E := Lib.hid (told_has (x := y) HO.out HT.out)
          clear hy
          go_wp2_with fail
          refine (serialAdd_any c d _).mono ?_
          rw [HA.out]
          rintro e w' ⟨rfl, rfl⟩
          have HSd := Lib.hid (keptR hS.out (Below.drew (Below.refl _ _)))
          clear s0
          go_wp2_with fail
          go_region_held_law (fun W => W.cell? ⟨w1.heap.size, 0, none⟩ = some (.int .i64 c) ∧ W.cell? ⟨w1.heap.size, 1, none⟩ = some (.slice a k cap) ∧ W.cell? ⟨w2.heap.size, 0, none⟩ = some (.int .i64 c) ∧ W.cell? ⟨w2.heap.size, 1, none⟩ = some (.slice a1 m cap1) ∧ Ns W a k cap es ∧ Gaps W a1 m cap1 gs ∧ Below w4.heap.size w4 W)
            (first | with_reducible assumption | with_reducible exact HSd.out | exact keptR (by assumption) (by assumption))
            (first | (go_simp; go_at_call 32; refine (sackHas_any c y a1 m cap1 gs _ (by go_split_ands; assumption)).mono ?_; rw [E.out]; rintro e w' ⟨rfl, hbn⟩) | (go_simp; go_at_call 19; refine (seenHas_any c a k cap es y _ (by go_split_ands; assumption)).mono ?_; rintro e w' ⟨rfl, hbn⟩))
          all_goals
            rename_i hHeld
            have HW := Lib.hid hHeld
            clear hHeld
            go_wp2
            go_roundw
            case rel => exact ⟨d + 1, by omega, by go_num, HW⟩
            case measure => simp [intOf]; omega
        · have HW := Lib.hid hS.out.2.2.2.2.2.2
          have s0 := hS.out.1
          have o0 := hS.out.2.2.1
          have o1 := hS.out.2.2.2.1
          go_wp2_with fail
          refine (sackPut_yes c a1 m cap1 gs _ hS.out.2.2.2.2.2.1 HK.out).mono ?_
          unfold madeV
          rintro e w9 ⟨rfl, hb9⟩
          have s9 : ∀ o, (w9.alloc o).cell? ⟨w1.heap.size, 0, none⟩ = some (.int .i64 c) := fun o => past_cell ((hb9.cell (World.block_lt_of_cell? _ _ s0)).trans s0) o
          have o9 : ∀ o, (w9.alloc o).cell? ⟨w2.heap.size, 0, none⟩ = some (.int .i64 c) := fun o => past_cell ((hb9.cell (World.block_lt_of_cell? _ _ o0)).trans o0) o
          have H9 := Lib.hid (HB4.out.trans ((HW.out.trans (hb9.mono HW.out.size)).mono HB4.out.size))
          clear s0 o0 o1 hb9
          go_wp2
          go_ret
          exact ⟨rfl, H9.out.alloc H9.out.size _⟩
    · have HO := Lib.hid hs
      clear hs
      go_wp2_with fail
      refine (seenSack_not c a k cap es _ ((GA.out).below (below_box (.cells (List.toArray [.int .i64 c, .slice a k cap]) 26) (Nat.le_refl _))) HO.out).mono ?_
      rintro e w2 ⟨rfl, hb2⟩
      have Vs := Lib.hid ((VarN.new_at (w := w1) (d := w1.heap.size) (by simp) [.int .i64 c, .slice a k cap] 26).below hb2 (by simp))
      have HB2 := Lib.hid (((hb1).alloc (Nat.le_trans hb1.size (by exact Nat.le_refl _)) (.cells (List.toArray [.int .i64 c, .slice a k cap]) 26)).trans (hb2.mono (Nat.le_trans hb1.size (by simp <;> omega))))
      have lts : w1.heap.size < w2.heap.size := lt_of_cell (Vs.out 0 _ rfl).1
      have nes : ¬ w1.heap.size = w2.heap.size := by omega
      have GA := Lib.hid (((GA.out).below (below_box (.cells (List.toArray [.int .i64 c, .slice a k cap]) 26) (Nat.le_refl _))).below hb2)
      clear hb2
      have s0 := (Vs.out 0 _ rfl).1
      have sf0 := (Vs.out 0 _ rfl).2
      have s1 := (Vs.out 1 _ rfl).1
      have sf1 := (Vs.out 1 _ rfl).2
      go_wp2_with fail
      refine (sSeenSack_not c a k cap es _ ((GA.out).below (below_box (.cells (List.toArray [.int .i64 0, .slice none 0 0]) 41) (Nat.le_refl _))) HO.out).mono ?_
      rintro e w3 ⟨rfl, hb3⟩
      clear s0 sf0 s1 sf1
      have Vs := Lib.hid (((Vs.out).alloc (.cells (List.toArray [.int .i64 0, .slice none 0 0]) 41) (by omega)).below hb3 (by simp; omega))
      have Vo := Lib.hid ((VarN.new_at (w := w2) (d := w2.heap.size) (by simp) [.int .i64 0, .slice none 0 0] 41).below hb3 (by simp))
      have HB3 := Lib.hid (((HB2.out).alloc (Nat.le_trans HB2.out.size (by exact Nat.le_refl _)) (.cells (List.toArray [.int .i64 0, .slice none 0 0]) 41)).trans (hb3.mono (Nat.le_trans HB2.out.size (by simp <;> omega))))
      have lts : w1.heap.size < w3.heap.size := lt_of_cell (Vs.out 0 _ rfl).1
      have lto : w2.heap.size < w3.heap.size := lt_of_cell (Vo.out 0 _ rfl).1
      have nes : ¬ w1.heap.size = w3.heap.size := by omega
      have neo : ¬ w2.heap.size = w3.heap.size := by omega
      have GA := Lib.hid (((GA.out).below (below_box (.cells (List.toArray [.int .i64 0, .slice none 0 0]) 41) (Nat.le_refl _))).below hb3)
      clear hb3
      have s0 := (Vs.out 0 _ rfl).1
      have sf0 := (Vs.out 0 _ rfl).2
      have s1 := (Vs.out 1 _ rfl).1
      have sf1 := (Vs.out 1 _ rfl).2
      have o0 := (Vo.out 0 _ rfl).1
      have of0 := (Vo.out 0 _ rfl).2
      have o1 := (Vo.out 1 _ rfl).1
      have of1 := (Vo.out 1 _ rfl).2
      go_wp2_with fail
      refine (sameSack_same 0 none none 0 0 0 [] _ (.inl ⟨rfl, rfl, rfl, rfl⟩) (.inl ⟨rfl, rfl, rfl, rfl⟩)).mono ?_
      rintro e w4 ⟨rfl, hb4⟩
      clear s0 sf0 s1 sf1 o0 of0 o1 of1
      have Vs := Lib.hid (((Vs.out).alloc (.cells (List.toArray [.int .i64 0, .slice none 0 0]) 41) (by omega)).below hb4 (by simp; omega))
      have Vo := Lib.hid (((Vo.out).alloc (.cells (List.toArray [.int .i64 0, .slice none 0 0]) 41) (by omega)).below hb4 (by simp; omega))
      have Vv := Lib.hid ((VarN.new_at (w := w3) (d := w3.heap.size) (by simp) [.int .i64 0, .slice none 0 0] 41).below hb4 (by simp))
      have HB4 := Lib.hid (((HB3.out).alloc (Nat.le_trans HB3.out.size (by exact Nat.le_refl _)) (.cells (List.toArray [.int .i64 0, .slice none 0 0]) 41)).trans (hb4.mono (Nat.le_trans HB3.out.size (by simp <;> omega))))
      have lts : w1.heap.size < w4.heap.size := lt_of_cell (Vs.out 0 _ rfl).1
      have lto : w2.heap.size < w4.heap.size := lt_of_cell (Vo.out 0 _ rfl).1
      have ltv : w3.heap.size < w4.heap.size := lt_of_cell (Vv.out 0 _ rfl).1
      have nes : ¬ w1.heap.size = w4.heap.size := by omega
      have neo : ¬ w2.heap.size = w4.heap.size := by omega
      have nev : ¬ w3.heap.size = w4.heap.size := by omega
      have GA := Lib.hid (((GA.out).below (below_box (.cells (List.toArray [.int .i64 0, .slice none 0 0]) 41) (Nat.le_refl _))).below hb4)
      clear hb4
      have s0 := (Vs.out 0 _ rfl).1
      have sf0 := (Vs.out 0 _ rfl).2
      have s1 := (Vs.out 1 _ rfl).1
      have sf1 := (Vs.out 1 _ rfl).2
      have o0 := (Vo.out 0 _ rfl).1
      have of0 := (Vo.out 0 _ rfl).2
      have o1 := (Vo.out 1 _ rfl).1
      have of1 := (Vo.out 1 _ rfl).2
      have v0 := (Vv.out 0 _ rfl).1
      have vf0 := (Vv.out 0 _ rfl).2
      have v1 := (Vv.out 1 _ rfl).1
      have vf1 := (Vv.out 1 _ rfl).2
      go_wp2_with fail
      refine (sameSack_same 0 none none 0 0 0 [] _ (.inl ⟨rfl, rfl, rfl, rfl⟩) (.inl ⟨rfl, rfl, rfl, rfl⟩)).mono ?_
      rintro e w5 ⟨rfl, hb5⟩
      clear s0 sf0 s1 sf1 o0 of0 o1 of1 v0 vf0 v1 vf1
      have Vs := Lib.hid ((Vs.out).below hb5 lts)
      have Vo := Lib.hid ((Vo.out).below hb5 lto)
      have Vv := Lib.hid ((Vv.out).below hb5 ltv)
      have HB5 := Lib.hid (HB4.out.trans (hb5.mono HB4.out.size))
      have lts : w1.heap.size < w5.heap.size := lt_of_cell (Vs.out 0 _ rfl).1
      have lto : w2.heap.size < w5.heap.size := lt_of_cell (Vo.out 0 _ rfl).1
      have ltv : w3.heap.size < w5.heap.size := lt_of_cell (Vv.out 0 _ rfl).1
      have nes : ¬ w1.heap.size = w5.heap.size := by omega
      have neo : ¬ w2.heap.size = w5.heap.size := by omega
      have nev : ¬ w3.heap.size = w5.heap.size := by omega
      have GA := Lib.hid ((GA.out).below hb5)
      clear hb5
      have s0 := (Vs.out 0 _ rfl).1
      have sf0 := (Vs.out 0 _ rfl).2
      have s1 := (Vs.out 1 _ rfl).1
      have sf1 := (Vs.out 1 _ rfl).2
      have o0 := (Vo.out 0 _ rfl).1
      have of0 := (Vo.out 0 _ rfl).2
      have o1 := (Vo.out 1 _ rfl).1
      have of1 := (Vo.out 1 _ rfl).2
      have v0 := (Vv.out 0 _ rfl).1
      have vf0 := (Vv.out 0 _ rfl).2
      have v1 := (Vv.out 1 _ rfl).1
      have vf1 := (Vv.out 1 _ rfl).2
      go_wp2
      go_ret
      exact ⟨rfl, HB5.out⟩

end Go.Proofs.Ytcjabomcndahbaa
