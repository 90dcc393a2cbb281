/- The walk of the law on other parts. -/
import Derived.Test.YtcjabomcndahbabK117
import Derived.Test.YtcjabomcndahbabK94
import Derived.Test.YtcjabomcndahbabK99
import Derived.Deep.RegionHeldLaw
import Derived.Handy
namespace Go.Proofs.Ytcjabomcndahbab
open Go.RowKit Go.PlainAid

theorem keptO {p q p' q' : Addr} {x y x' y' : Value} {a b : Option Addr} {l1 c1 l2 c2 : Nat} {es ds : List Int} {w W W' : World}
    (h : W.cell? p = some x ∧ W.cell? q = some y ∧ W.cell? p' = some x' ∧ W.cell? q' = some y' ∧ Ns W a l1 c1 es ∧ Ns W b l2 c2 ds ∧ Below w.heap.size w W) (hb : Below W.heap.size W W') :
    W'.cell? p = some x ∧ W'.cell? q = some y ∧ W'.cell? p' = some x' ∧ W'.cell? q' = some y' ∧ Ns W' a l1 c1 es ∧ Ns W' b l2 c2 ds ∧ Below w.heap.size w W' := by
  obtain ⟨h1, h2, h3, h4, h5, h6, h7⟩ := h
  exact ⟨(hb.cell (World.block_lt_of_cell? W _ h1)).trans h1, (hb.cell (World.block_lt_of_cell? W _ h2)).trans h2, (hb.cell (World.block_lt_of_cell? W _ h3)).trans h3, (hb.cell (World.block_lt_of_cell? W _ h4)).trans h4, h5.below hb, h6.below hb, h7.trans (hb.mono h7.size)⟩

set_option maxHeartbeats 4000000 in
theorem walk_fnSeenAddOthers (a0 : Option Addr) (len0 cap0 : Nat) (z0 : List Int) (w : World) (w0 : IsRow .u8 w a0 len0 cap0 z0) :
    Calls Try.prog 5 #[.slice a0 len0 cap0] w fun e w' => e = .returned (.bool true) ∧ Below w.heap.size w w' := by
  have H := Lib.hid w0
  clear w0
  by_cases hl : (1048576 : Int) < len0
  · go_enter Try.func5, Try.ntmps5
    go_wp2
    go_ret
    exact ⟨rfl, Below.refl _ _⟩
  · go_enter Try.func5, Try.ntmps5
    go_wp2_with fail
    refine (drawSeenAdd_any a0 len0 cap0 z0 _ H.out).mono ?_
    rintro e w1 ⟨c, a, k, cap, es, t, rfl, nk, nc, ne, nt, hown⟩
    have hb1 := hown.b
    have GA := Lib.hid hown.ns
    clear hown ne nt nc
    obtain ⟨c1, e1, code, hv⟩ := addV_some c es t
    obtain ⟨k1, hk1⟩ : ∃ k1, e1.length = k1 := ⟨_, rfl⟩
    have HV := Lib.hid hv
    have HK := Lib.hid hk1
    clear hv hk1
    go_wp2_with fail
    refine (seenAdd_is c a k cap es t c1 code e1 k1 _ ((GA.out).below (below_box (.cells (List.toArray [.int .i64 c, .slice a k cap]) 25) (Nat.le_refl _))) HV.out HK.out).mono ?_
    rintro e w2 ⟨a1, cap1, rfl, hg1, hb2⟩
    have Vs := Lib.hid ((VarN.new_at (w := w1) (d := w1.heap.size) (by simp) [.int .i64 c, .slice a k cap] 25).below hb2 (by simp))
    have HB2 := Lib.hid (((hb1).alloc (Nat.le_trans hb1.size (by exact Nat.le_refl _)) (.cells (List.toArray [.int .i64 c, .slice a k cap]) 25)).trans (hb2.mono (Nat.le_trans hb1.size (by simp <;> omega))))
    have lts : w1.heap.size < w2.heap.size := lt_of_cell (Vs.out 0 _ rfl).1
    have nes : ¬ w1.heap.size = w2.heap.size := by omega
    have GA := Lib.hid (((GA.out).below (below_box (.cells (List.toArray [.int .i64 c, .slice a k cap]) 25) (Nat.le_refl _))).below hb2)
    clear hb2
    have G1 := Lib.hid hg1
    clear hg1
    have s0 := (Vs.out 0 _ rfl).1
    have sf0 := (Vs.out 0 _ rfl).2
    have s1 := (Vs.out 1 _ rfl).1
    have sf1 := (Vs.out 1 _ rfl).2
    go_wp2_with fail
    refine (sSeenAdd_is c a k cap es t c1 code e1 k1 _ ((GA.out).below (below_box (.cells (List.toArray [.int .i64 c1, .slice a1 k1 cap1]) 25) (Nat.le_refl _))) HV.out HK.out).mono ?_
    rintro e w3 ⟨a2, cap2, rfl, hg2, hb3⟩
    clear s0 sf0 s1 sf1
    have Vs := Lib.hid (((Vs.out).alloc (.cells (List.toArray [.int .i64 c1, .slice a1 k1 cap1]) 25) (by omega)).below hb3 (by simp; omega))
    have Vo := Lib.hid ((VarN.new_at (w := w2) (d := w2.heap.size) (by simp) [.int .i64 c1, .slice a1 k1 cap1] 25).below hb3 (by simp))
    have HB3 := Lib.hid (((HB2.out).alloc (Nat.le_trans HB2.out.size (by exact Nat.le_refl _)) (.cells (List.toArray [.int .i64 c1, .slice a1 k1 cap1]) 25)).trans (hb3.mono (Nat.le_trans HB2.out.size (by simp <;> omega))))
    have lts : w1.heap.size < w3.heap.size := lt_of_cell (Vs.out 0 _ rfl).1
    have lto : w2.heap.size < w3.heap.size := lt_of_cell (Vo.out 0 _ rfl).1
    have nes : ¬ w1.heap.size = w3.heap.size := by omega
    have neo : ¬ w2.heap.size = w3.heap.size := by omega
    have GA := Lib.hid (((GA.out).below (below_box (.cells (List.toArray [.int .i64 c1, .slice a1 k1 cap1]) 25) (Nat.le_refl _))).below hb3)
    have G1 := Lib.hid (((G1.out).below (below_box (.cells (List.toArray [.int .i64 c1, .slice a1 k1 cap1]) 25) (Nat.le_refl _))).below hb3)
    clear hb3
    have G2 := Lib.hid hg2
    clear hg2
    have s0 := (Vs.out 0 _ rfl).1
    have sf0 := (Vs.out 0 _ rfl).2
    have s1 := (Vs.out 1 _ rfl).1
    have sf1 := (Vs.out 1 _ rfl).2
    have o0 := (Vo.out 0 _ rfl).1
    have of0 := (Vo.out 0 _ rfl).2
    have o1 := (Vo.out 1 _ rfl).1
    have of1 := (Vo.out 1 _ rfl).2
    go_wp2_with fail
    refine (sameSeen_same c1 _ _ k1 cap1 cap2 e1 _ ((G1.out).below (below_box (.cells (List.toArray [.int .i64 c1, .slice a2 k1 cap2]) 25) (Nat.le_refl _))) ((G2.out).below (below_box (.cells (List.toArray [.int .i64 c1, .slice a2 k1 cap2]) 25) (Nat.le_refl _)))).mono ?_
    rintro e w4 ⟨rfl, hb4⟩
    clear s0 sf0 s1 sf1 o0 of0 o1 of1
    have Vs := Lib.hid (((Vs.out).alloc (.cells (List.toArray [.int .i64 c1, .slice a2 k1 cap2]) 25) (by omega)).below hb4 (by simp; omega))
    have Vo := Lib.hid (((Vo.out).alloc (.cells (List.toArray [.int .i64 c1, .slice a2 k1 cap2]) 25) (by omega)).below hb4 (by simp; omega))
    have Vv := Lib.hid ((VarN.new_at (w := w3) (d := w3.heap.size) (by simp) [.int .i64 c1, .slice a2 k1 cap2] 25).below hb4 (by simp))
    have HB4 := Lib.hid (((HB3.out).alloc (Nat.le_trans HB3.out.size (by exact Nat.le_refl _)) (.cells (List.toArray [.int .i64 c1, .slice a2 k1 cap2]) 25)).trans (hb4.mono (Nat.le_trans HB3.out.size (by simp <;> omega))))
    have lts : w1.heap.size < w4.heap.size := lt_of_cell (Vs.out 0 _ rfl).1
    have lto : w2.heap.size < w4.heap.size := lt_of_cell (Vo.out 0 _ rfl).1
    have ltv : w3.heap.size < w4.heap.size := lt_of_cell (Vv.out 0 _ rfl).1
    have nes : ¬ w1.heap.size = w4.heap.size := by omega
    have neo : ¬ w2.heap.size = w4.heap.size := by omega
    have nev : ¬ w3.heap.size = w4.heap.size := by omega
    have GA := Lib.hid (((GA.out).below (below_box (.cells (List.toArray [.int .i64 c1, .slice a2 k1 cap2]) 25) (Nat.le_refl _))).below hb4)
    have G1 := Lib.hid (((G1.out).below (below_box (.cells (List.toArray [.int .i64 c1, .slice a2 k1 cap2]) 25) (Nat.le_refl _))).below hb4)
    have G2 := Lib.hid (((G2.out).below (below_box (.cells (List.toArray [.int .i64 c1, .slice a2 k1 cap2]) 25) (Nat.le_refl _))).below hb4)
    clear hb4
    by_cases hc0 : code = 0
    · subst hc0
      have s0 := (Vs.out 0 _ rfl).1
      have sf0 := (Vs.out 0 _ rfl).2
      have s1 := (Vs.out 1 _ rfl).1
      have sf1 := (Vs.out 1 _ rfl).2
      have o0 := (Vo.out 0 _ rfl).1
      have of0 := (Vo.out 0 _ rfl).2
      have o1 := (Vo.out 1 _ rfl).1
      have of1 := (Vo.out 1 _ rfl).2
      have HC := Lib.hid (seen_ser (addV_fresh HV.out).1)
      have S0 := Lib.hid (show w4.cell? ⟨w2.heap.size, 0, none⟩ = some (.int .i64 c1) ∧ w4.cell? ⟨w2.heap.size, 1, none⟩ = some (.slice a1 k1 cap1) ∧ w4.cell? ⟨w1.heap.size, 0, none⟩ = some (.int .i64 c) ∧ w4.cell? ⟨w1.heap.size, 1, none⟩ = some (.slice a k cap) ∧ Ns w4 a1 k1 cap1 e1 ∧ Ns w4 a k cap es ∧ Below w4.heap.size w4 w4 from ⟨o0, o1, s0, s1, G1.out, GA.out, Below.refl _ _⟩)
      clear s0 sf0 s1 sf1 o0 of0 o1 of1
      go_wp2
      go_loopw [9] (fun v wr => ∃ d : Int, (-3 ≤ d ∧ d ≤ 17) ∧ v = .int .i64 d ∧ Hid (wr.cell? ⟨w2.heap.size, 0, none⟩ = some (.int .i64 c1) ∧ wr.cell? ⟨w2.heap.size, 1, none⟩ = some (.slice a1 k1 cap1) ∧ wr.cell? ⟨w1.heap.size, 0, none⟩ = some (.int .i64 c) ∧ wr.cell? ⟨w1.heap.size, 1, none⟩ = some (.slice a k cap) ∧ Ns wr a1 k1 cap1 e1 ∧ Ns wr a k cap es ∧ Below w4.heap.size w4 wr)) (fun v _ => (17 - intOf v).toNat)
      case atStart => exact ⟨-3, by omega, rfl, S0⟩
      case round =>
        obtain ⟨d, hd, rfl, hS⟩ := hrel
        clear S0
        by_cases hlt : d ≤ 16
        · have wd : IntKind.i64.wrap (d + 1) = d + 1 := IntWalk.i64_in _ ⟨by omega, by omega⟩
          have s0 := hS.out.2.2.1
          have HA := Lib.hid (addV_yes d HC.out)
          obtain ⟨y, hy⟩ : ∃ y, addS c d = y := ⟨_, rfl⟩
          rw [hy] at HA
          have HY := Lib.hid hy
          by_cases hyt : y = t
          · go_wp2_with fail
            refine (serialAdd_any c d _).mono ?_
            rw [HA.out]
            rintro e w' ⟨rfl, rfl⟩
            have ht1 : (y == t) = true := beq_iff_eq.2 hyt
            have HSd := Lib.hid (keptO hS.out (Below.drew (Below.refl _ _)))
            go_wp2_with fail
            go_quiet (fail)
            have HS9 := Lib.hid (keptO hS.out (below_drewN (Below.refl _ _) nq))
            go_wp2
            go_roundw
            case rel => exact ⟨d + 1, by omega, by go_num, HS9⟩
            case measure => simp [intOf]; omega
          · have ht1 : (y == t) = false := by simpa using hyt
            have ht2 : decide (y = t) = false := decide_eq_false hyt
            have ht3 : (y != t) = true := by simpa using hyt
            have E := Lib.hid (show hasSV c1 e1 y = hasSV c es y by
              have := others_facts HV.out (k := d) (by omega) (by rw [HY.out]; exact hyt)
              rwa [HY.out] at this)
            go_wp2_with fail
            refine (serialAdd_any c d _).mono ?_
            rw [HA.out]
            rintro e w' ⟨rfl, rfl⟩
            have HSd := Lib.hid (keptO hS.out (Below.drew (Below.refl _ _)))
            clear s0
            go_wp2_with fail
            go_region_held_law (fun W => W.cell? ⟨w2.heap.size, 0, none⟩ = some (.int .i64 c1) ∧ W.cell? ⟨w2.heap.size, 1, none⟩ = some (.slice a1 k1 cap1) ∧ W.cell? ⟨w1.heap.size, 0, none⟩ = some (.int .i64 c) ∧ W.cell? ⟨w1.heap.size, 1, none⟩ = some (.slice a k cap) ∧ Ns W a1 k1 cap1 e1 ∧ Ns W a k cap es ∧ Below w4.heap.size w4 W)
              (first | with_reducible assumption | with_reducible exact HSd.out | exact keptO (by assumption) (by assumption))
              (first | (go_simp; go_at_call_of 15 (Value.slice a1 k1 cap1); refine (seenHas_any c1 a1 k1 cap1 e1 y _ (by go_split_ands; assumption)).mono ?_; rw [E.out]; rintro e w' ⟨rfl, hbn⟩) | (go_simp; go_at_call_of 15 (Value.slice a k cap); refine (seenHas_any c a k cap es y _ (by go_split_ands; assumption)).mono ?_; rintro e w' ⟨rfl, hbn⟩))
            all_goals
              rename_i hHeld
              have HW := Lib.hid hHeld
              clear hHeld
              go_wp2
              go_roundw
              case rel => exact ⟨d + 1, by omega, by go_num, HW⟩
              case measure => simp [intOf]; omega
        · have HW := Lib.hid hS.out.2.2.2.2.2.2
          go_wp2
          go_ret
          exact ⟨rfl, HB4.out.trans (HW.out.mono HB4.out.size)⟩
    · have s0 := (Vs.out 0 _ rfl).1
      have sf0 := (Vs.out 0 _ rfl).2
      have s1 := (Vs.out 1 _ rfl).1
      have sf1 := (Vs.out 1 _ rfl).2
      have o0 := (Vo.out 0 _ rfl).1
      have of0 := (Vo.out 0 _ rfl).2
      have o1 := (Vo.out 1 _ rfl).1
      have of1 := (Vo.out 1 _ rfl).2
      have v0 := (Vv.out 0 _ rfl).1
      have vf0 := (Vv.out 0 _ rfl).2
      have v1 := (Vv.out 1 _ rfl).1
      have vf1 := (Vv.out 1 _ rfl).2
      go_wp2_with fail
      refine (sameSeen_same c1 _ _ k1 cap1 cap2 e1 _ G1.out G2.out).mono ?_
      rintro e w5 ⟨rfl, hb5⟩
      clear s0 sf0 s1 sf1 o0 of0 o1 of1 v0 vf0 v1 vf1
      have Vs := Lib.hid ((Vs.out).below hb5 lts)
      have Vo := Lib.hid ((Vo.out).below hb5 lto)
      have Vv := Lib.hid ((Vv.out).below hb5 ltv)
      have HB5 := Lib.hid (HB4.out.trans (hb5.mono HB4.out.size))
      have lts : w1.heap.size < w5.heap.size := lt_of_cell (Vs.out 0 _ rfl).1
      have lto : w2.heap.size < w5.heap.size := lt_of_cell (Vo.out 0 _ rfl).1
      have ltv : w3.heap.size < w5.heap.size := lt_of_cell (Vv.out 0 _ rfl).1
      have nes : ¬ w1.heap.size = w5.heap.size := by omega
      have neo : ¬ w2.heap.size = w5.heap.size := by omega
      have nev : ¬ w3.heap.size = w5.heap.size := by omega
      have GA := Lib.hid ((GA.out).below hb5)
      have G1 := Lib.hid ((G1.out).below hb5)
      have G2 := Lib.hid ((G2.out).below hb5)
      clear hb5
      have s0 := (Vs.out 0 _ rfl).1
      have sf0 := (Vs.out 0 _ rfl).2
      have s1 := (Vs.out 1 _ rfl).1
      have sf1 := (Vs.out 1 _ rfl).2
      have o0 := (Vo.out 0 _ rfl).1
      have of0 := (Vo.out 0 _ rfl).2
      have o1 := (Vo.out 1 _ rfl).1
      have of1 := (Vo.out 1 _ rfl).2
      have v0 := (Vv.out 0 _ rfl).1
      have vf0 := (Vv.out 0 _ rfl).2
      have v1 := (Vv.out 1 _ rfl).1
      have vf1 := (Vv.out 1 _ rfl).2
      go_wp2
      go_ret
      exact ⟨rfl, HB5.out⟩

end Go.Proofs.Ytcjabomcndahbab
