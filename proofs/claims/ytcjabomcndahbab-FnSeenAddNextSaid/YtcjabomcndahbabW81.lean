/- The walk of the law on the next part. -/
import Derived.Test.YtcjabomcndahbabK117
import Derived.Test.YtcjabomcndahbabK94
import Derived.Test.YtcjabomcndahbabK99
import Derived.Deep.RegionLaw
import Derived.Handy
namespace Go.Proofs.Ytcjabomcndahbab
open Go.RowKit Go.PlainAid

theorem past_b {w : World} {b i : Nat} {v : Value} (h : w.cell? ⟨b, i, none⟩ = some v) (o : Obj) : (w.alloc o).cell? ⟨b, i, none⟩ = some v := (World.cell?_alloc_lt _ _ _ (World.block_lt_of_cell? w _ h)).trans h

set_option maxHeartbeats 4000000 in
theorem walk_fnSeenAddNext (a0 : Option Addr) (len0 cap0 : Nat) (z0 : List Int) (w : World) (w0 : IsRow .u8 w a0 len0 cap0 z0) :
    Calls Try.prog 7 #[.slice a0 len0 cap0] w fun e w' => e = .returned (.bool true) ∧ Below w.heap.size w w' := by
  have H := Lib.hid w0
  clear w0
  by_cases hl : (1048576 : Int) < len0
  · go_enter Try.func7, Try.ntmps7
    go_wp2
    go_ret
    exact ⟨rfl, Below.refl _ _⟩
  · go_enter Try.func7, Try.ntmps7
    go_wp2_with fail
    refine (drawSeenAdd_any a0 len0 cap0 z0 _ H.out).mono ?_
    rintro e w1 ⟨c, a, k, cap, es, t, rfl, nk, nc, ne, nt, hown⟩
    have hb1 := hown.b
    have GA := Lib.hid hown.ns
    clear hown ne nt nc
    obtain ⟨c1, e1, code, hv⟩ := addV_some c es t
    obtain ⟨k1, hk1⟩ : ∃ k1, e1.length = k1 := ⟨_, rfl⟩
    have HV := Lib.hid hv
    have HK := Lib.hid hk1
    clear hv hk1
    go_wp2_with fail
    refine (seenAdd_is c a k cap es t c1 code e1 k1 _ ((GA.out).below (below_box (.cells (List.toArray [.int .i64 c, .slice a k cap]) 25) (Nat.le_refl _))) HV.out HK.out).mono ?_
    rintro e w2 ⟨a1, cap1, rfl, hg1, hb2⟩
    have Vs := Lib.hid ((VarN.new_at (w := w1) (d := w1.heap.size) (by simp) [.int .i64 c, .slice a k cap] 25).below hb2 (by simp))
    have HB2 := Lib.hid (((hb1).alloc (Nat.le_trans hb1.size (by exact Nat.le_refl _)) (.cells (List.toArray [.int .i64 c, .slice a k cap]) 25)).trans (hb2.mono (Nat.le_trans hb1.size (by simp <;> omega))))
    have lts : w1.heap.size < w2.heap.size := lt_of_cell (Vs.out 0 _ rfl).1
    have nes : ¬ w1.heap.size = w2.heap.size := by omega
    have GA := Lib.hid (((GA.out).below (below_box (.cells (List.toArray [.int .i64 c, .slice a k cap]) 25) (Nat.le_refl _))).below hb2)
    clear hb2
    have G1 := Lib.hid hg1
    clear hg1
    have s0 := (Vs.out 0 _ rfl).1
    have sf0 := (Vs.out 0 _ rfl).2
    have s1 := (Vs.out 1 _ rfl).1
    have sf1 := (Vs.out 1 _ rfl).2
    go_wp2_with fail
    refine (sSeenAdd_is c a k cap es t c1 code e1 k1 _ ((GA.out).below (below_box (.cells (List.toArray [.int .i64 c1, .slice a1 k1 cap1]) 25) (Nat.le_refl _))) HV.out HK.out).mono ?_
    rintro e w3 ⟨a2, cap2, rfl, hg2, hb3⟩
    clear s0 sf0 s1 sf1
    have Vs := Lib.hid (((Vs.out).alloc (.cells (List.toArray [.int .i64 c1, .slice a1 k1 cap1]) 25) (by omega)).below hb3 (by simp; omega))
    have Vo := Lib.hid ((VarN.new_at (w := w2) (d := w2.heap.size) (by simp) [.int .i64 c1, .slice a1 k1 cap1] 25).below hb3 (by simp))
    have HB3 := Lib.hid (((HB2.out).alloc (Nat.le_trans HB2.out.size (by exact Nat.le_refl _)) (.cells (List.toArray [.int .i64 c1, .slice a1 k1 cap1]) 25)).trans (hb3.mono (Nat.le_trans HB2.out.size (by simp <;> omega))))
    have lts : w1.heap.size < w3.heap.size := lt_of_cell (Vs.out 0 _ rfl).1
    have lto : w2.heap.size < w3.heap.size := lt_of_cell (Vo.out 0 _ rfl).1
    have nes : ¬ w1.heap.size = w3.heap.size := by omega
    have neo : ¬ w2.heap.size = w3.heap.size := by omega
    have GA := Lib.hid (((GA.out).below (below_box (.cells (List.toArray [.int .i64 c1, .slice a1 k1 cap1]) 25) (Nat.le_refl _))).below hb3)
    have G1 := Lib.hid (((G1.out).below (below_box (.cells (List.toArray [.int .i64 c1, .slice a1 k1 cap1]) 25) (Nat.le_refl _))).below hb3)
    clear hb3
    have G2 := Lib.hid hg2
    clear hg2
    have s0 := (Vs.out 0 _ rfl).1
    have sf0 := (Vs.out 0 _ rfl).2
    have s1 := (Vs.out 1 _ rfl).1
    have sf1 := (Vs.out 1 _ rfl).2
    have o0 := (Vo.out 0 _ rfl).1
    have of0 := (Vo.out 0 _ rfl).2
    have o1 := (Vo.out 1 _ rfl).1
    have of1 := (Vo.out 1 _ rfl).2
    go_wp2_with fail
    refine (sameSeen_same c1 _ _ k1 cap1 cap2 e1 _ ((G1.out).below (below_box (.cells (List.toArray [.int .i64 c1, .slice a2 k1 cap2]) 25) (Nat.le_refl _))) ((G2.out).below (below_box (.cells (List.toArray [.int .i64 c1, .slice a2 k1 cap2]) 25) (Nat.le_refl _)))).mono ?_
    rintro e w4 ⟨rfl, hb4⟩
    clear s0 sf0 s1 sf1 o0 of0 o1 of1
    have Vs := Lib.hid (((Vs.out).alloc (.cells (List.toArray [.int .i64 c1, .slice a2 k1 cap2]) 25) (by omega)).below hb4 (by simp; omega))
    have Vo := Lib.hid (((Vo.out).alloc (.cells (List.toArray [.int .i64 c1, .slice a2 k1 cap2]) 25) (by omega)).below hb4 (by simp; omega))
    have Vv := Lib.hid ((VarN.new_at (w := w3) (d := w3.heap.size) (by simp) [.int .i64 c1, .slice a2 k1 cap2] 25).below hb4 (by simp))
    have HB4 := Lib.hid (((HB3.out).alloc (Nat.le_trans HB3.out.size (by exact Nat.le_refl _)) (.cells (List.toArray [.int .i64 c1, .slice a2 k1 cap2]) 25)).trans (hb4.mono (Nat.le_trans HB3.out.size (by simp <;> omega))))
    have lts : w1.heap.size < w4.heap.size := lt_of_cell (Vs.out 0 _ rfl).1
    have lto : w2.heap.size < w4.heap.size := lt_of_cell (Vo.out 0 _ rfl).1
    have ltv : w3.heap.size < w4.heap.size := lt_of_cell (Vv.out 0 _ rfl).1
    have nes : ¬ w1.heap.size = w4.heap.size := by omega
    have neo : ¬ w2.heap.size = w4.heap.size := by omega
    have nev : ¬ w3.heap.size = w4.heap.size := by omega
    have GA := Lib.hid (((GA.out).below (below_box (.cells (List.toArray [.int .i64 c1, .slice a2 k1 cap2]) 25) (Nat.le_refl _))).below hb4)
    have G1 := Lib.hid (((G1.out).below (below_box (.cells (List.toArray [.int .i64 c1, .slice a2 k1 cap2]) 25) (Nat.le_refl _))).below hb4)
    have G2 := Lib.hid (((G2.out).below (below_box (.cells (List.toArray [.int .i64 c1, .slice a2 k1 cap2]) 25) (Nat.le_refl _))).below hb4)
    clear hb4
    by_cases hc3 : ¬ code = 3
    · obtain ⟨c5, e5, hv5, hl5⟩ := next_facts (addV_ok3 HV.out hc3).1
      obtain ⟨k5, hk5⟩ : ∃ k5, e5.length = k5 := ⟨_, rfl⟩
      have HV5 := Lib.hid hv5
      have HK5 := Lib.hid hk5
      have HL5 := Lib.hid hl5
      have HA := Lib.hid (addV_yes 1 (seen_ser (addV_ok3 HV.out hc3).1))
      clear hv5 hk5 hl5
      have s0 := (Vs.out 0 _ rfl).1
      have sf0 := (Vs.out 0 _ rfl).2
      have s1 := (Vs.out 1 _ rfl).1
      have sf1 := (Vs.out 1 _ rfl).2
      have hS := Lib.hid (keptS (W := w4) (w := w4) (p := ⟨w1.heap.size, 0, none⟩) (q := ⟨w1.heap.size, 1, none⟩) ⟨s0, s1, GA.out, Below.refl _ _⟩ (Below.drew (Below.refl _ _)))
      have hS2 := Lib.hid (keptS (keptS (W := w4) (w := w4) (p := ⟨w1.heap.size, 0, none⟩) (q := ⟨w1.heap.size, 1, none⟩) ⟨s0, s1, GA.out, Below.refl _ _⟩ (below_box (.cells #[.int .i64 0, .slice none 0 0] 25) (Nat.le_refl _))) (Below.drew (Below.refl _ _)))
      have NV := Lib.hid (vp_drew (VarN.new w4 [.int .i64 0, .slice none 0 0] 25))
      have hbk : ¬ w4.heap.size = w1.heap.size := by omega
      go_wp2_with fail
      go_region_law (first
        | (go_simp; go_at_call 17; refine (serialAdd_any c 1 _).mono ?_; rw [HA.out]; rintro e w' ⟨rfl, rfl⟩; dsimp only)
        | (go_simp; go_at_call 12; refine (seenAdd_is c a k cap es _ c5 0 e5 k5 _ hS.out.2.2.1 HV5.out HK5.out).mono ?_; rintro e w5 ⟨a5, cap5, rfl, hg5, hb5⟩; have S5 := keptS hS.out hb5; have u0 := past_b S5.1 (.cells (List.toArray [.int .i64 c5, .slice a5 k5 cap5]) 25); have HBE := Lib.hid (S5.2.2.2.alloc S5.2.2.2.size (.cells (List.toArray [.int .i64 c5, .slice a5 k5 cap5]) 25)); clear hg5 hb5 S5; dsimp only)
        | (go_simp; go_at_call 12; refine (seenAdd_is c a k cap es _ c5 0 e5 k5 _ hS2.out.2.2.1 HV5.out HK5.out).mono ?_; rintro e w5 ⟨a5, cap5, rfl, hg5, hb5⟩; have S5 := keptS hS2.out hb5; have V5 := NV.out.below hb5 (by simp); have x0 := (V5 0 _ rfl).1; have x1 := (V5 1 _ rfl).1; have f0 := (V5 0 _ rfl).2; have f1 := (V5 1 _ rfl).2; have u0 := cell_far (v := .slice a5 k5 cap5) (i := 1) hbk (cell_far (v := .int .i64 c5) (i := 0) hbk S5.1); have HBE := Lib.hid ((S5.2.2.2.setCell (p := ⟨w4.heap.size, 0, none⟩) (Nat.le_refl _) (.int .i64 c5)).setCell (p := ⟨w4.heap.size, 1, none⟩) (Nat.le_refl _) (.slice a5 k5 cap5)); clear hg5 hb5 S5 V5; dsimp only))
      all_goals
        have HBF := Lib.hid (HB4.out.trans (HBE.out.mono HB4.out.size))
        go_wp2_with fail
        refine (serialLess_any c c5 _).mono ?_
        rw [HL5.out]
        rintro e w' ⟨rfl, hb6⟩
        go_wp2
        go_ret
        exact ⟨rfl, HBF.out.trans (hb6.mono HBF.out.size)⟩
    · have hc4 : code = 3 := Classical.byContradiction hc3
      subst hc4
      clear hc3
      have s0 := (Vs.out 0 _ rfl).1
      have sf0 := (Vs.out 0 _ rfl).2
      have s1 := (Vs.out 1 _ rfl).1
      have sf1 := (Vs.out 1 _ rfl).2
      have o0 := (Vo.out 0 _ rfl).1
      have of0 := (Vo.out 0 _ rfl).2
      have o1 := (Vo.out 1 _ rfl).1
      have of1 := (Vo.out 1 _ rfl).2
      have v0 := (Vv.out 0 _ rfl).1
      have vf0 := (Vv.out 0 _ rfl).2
      have v1 := (Vv.out 1 _ rfl).1
      have vf1 := (Vv.out 1 _ rfl).2
      go_wp2_with fail
      refine (sameSeen_same c1 _ _ k1 cap1 cap2 e1 _ G1.out G2.out).mono ?_
      rintro e w5 ⟨rfl, hb5⟩
      clear s0 sf0 s1 sf1 o0 of0 o1 of1 v0 vf0 v1 vf1
      have Vs := Lib.hid ((Vs.out).below hb5 lts)
      have Vo := Lib.hid ((Vo.out).below hb5 lto)
      have Vv := Lib.hid ((Vv.out).below hb5 ltv)
      have HB5 := Lib.hid (HB4.out.trans (hb5.mono HB4.out.size))
      have lts : w1.heap.size < w5.heap.size := lt_of_cell (Vs.out 0 _ rfl).1
      have lto : w2.heap.size < w5.heap.size := lt_of_cell (Vo.out 0 _ rfl).1
      have ltv : w3.heap.size < w5.heap.size := lt_of_cell (Vv.out 0 _ rfl).1
      have nes : ¬ w1.heap.size = w5.heap.size := by omega
      have neo : ¬ w2.heap.size = w5.heap.size := by omega
      have nev : ¬ w3.heap.size = w5.heap.size := by omega
      have GA := Lib.hid ((GA.out).below hb5)
      have G1 := Lib.hid ((G1.out).below hb5)
      have G2 := Lib.hid ((G2.out).below hb5)
      clear hb5
      have s0 := (Vs.out 0 _ rfl).1
      have sf0 := (Vs.out 0 _ rfl).2
      have s1 := (Vs.out 1 _ rfl).1
      have sf1 := (Vs.out 1 _ rfl).2
      have o0 := (Vo.out 0 _ rfl).1
      have of0 := (Vo.out 0 _ rfl).2
      have o1 := (Vo.out 1 _ rfl).1
      have of1 := (Vo.out 1 _ rfl).2
      have v0 := (Vv.out 0 _ rfl).1
      have vf0 := (Vv.out 0 _ rfl).2
      have v1 := (Vv.out 1 _ rfl).1
      have vf1 := (Vv.out 1 _ rfl).2
      go_wp2
      go_ret
      exact ⟨rfl, HB5.out⟩

end Go.Proofs.Ytcjabomcndahbab
