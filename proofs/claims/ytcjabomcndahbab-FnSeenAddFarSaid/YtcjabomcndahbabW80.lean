/- The walks of the laws on a part that arrives: Add, Twice, Far, Old, Next. -/
import Derived.Test.YtcjabomcndahbabK117
import Derived.Test.YtcjabomcndahbabK94
import Derived.Test.YtcjabomcndahbabK99
import Derived.Handy
namespace Go.Proofs.Ytcjabomcndahbab
open Go.RowKit Go.PlainAid

set_option maxHeartbeats 4000000 in
theorem walk_fnSeenAdd (a0 : Option Addr) (len0 cap0 : Nat) (z0 : List Int) (w : World) (w0 : IsRow .u8 w a0 len0 cap0 z0) :
    Calls Try.prog 3 #[.slice a0 len0 cap0] w fun e w' => e = .returned (.bool true) ∧ Below w.heap.size w w' := by
  have H := Lib.hid w0
  clear w0
  by_cases hl : (1048576 : Int) < len0
  · go_enter Try.func3, Try.ntmps3
    go_wp2
    go_ret
    exact ⟨rfl, Below.refl _ _⟩
  · go_enter Try.func3, Try.ntmps3
    go_wp2_with fail
    refine (drawSeenAdd_any a0 len0 cap0 z0 _ H.out).mono ?_
    rintro e w1 ⟨c, a, k, cap, es, t, rfl, nk, nc, ne, nt, hown⟩
    have hb1 := hown.b
    have GA := Lib.hid hown.ns
    clear hown ne nt nc
    obtain ⟨c1, e1, code, hv⟩ := addV_some c es t
    obtain ⟨k1, hk1⟩ : ∃ k1, e1.length = k1 := ⟨_, rfl⟩
    have HV := Lib.hid hv
    have HK := Lib.hid hk1
    clear hv hk1
    go_wp2_with fail
    refine (seenAdd_is c a k cap es t c1 code e1 k1 _ ((GA.out).below (below_box (.cells (List.toArray [.int .i64 c, .slice a k cap]) 25) (Nat.le_refl _))) HV.out HK.out).mono ?_
    rintro e w2 ⟨a1, cap1, rfl, hg1, hb2⟩
    have Vs := Lib.hid ((VarN.new_at (w := w1) (d := w1.heap.size) (by simp) [.int .i64 c, .slice a k cap] 25).below hb2 (by simp))
    have HB2 := Lib.hid (((hb1).alloc (Nat.le_trans hb1.size (by exact Nat.le_refl _)) (.cells (List.toArray [.int .i64 c, .slice a k cap]) 25)).trans (hb2.mono (Nat.le_trans hb1.size (by simp <;> omega))))
    have lts : w1.heap.size < w2.heap.size := lt_of_cell (Vs.out 0 _ rfl).1
    have nes : ¬ w1.heap.size = w2.heap.size := by omega
    have GA := Lib.hid (((GA.out).below (below_box (.cells (List.toArray [.int .i64 c, .slice a k cap]) 25) (Nat.le_refl _))).below hb2)
    clear hb2
    have G1 := Lib.hid hg1
    clear hg1
    have s0 := (Vs.out 0 _ rfl).1
    have sf0 := (Vs.out 0 _ rfl).2
    have s1 := (Vs.out 1 _ rfl).1
    have sf1 := (Vs.out 1 _ rfl).2
    go_wp2_with fail
    refine (sSeenAdd_is c a k cap es t c1 code e1 k1 _ ((GA.out).below (below_box (.cells (List.toArray [.int .i64 c1, .slice a1 k1 cap1]) 25) (Nat.le_refl _))) HV.out HK.out).mono ?_
    rintro e w3 ⟨a2, cap2, rfl, hg2, hb3⟩
    clear s0 sf0 s1 sf1
    have Vs := Lib.hid (((Vs.out).alloc (.cells (List.toArray [.int .i64 c1, .slice a1 k1 cap1]) 25) (by omega)).below hb3 (by simp; omega))
    have Vo := Lib.hid ((VarN.new_at (w := w2) (d := w2.heap.size) (by simp) [.int .i64 c1, .slice a1 k1 cap1] 25).below hb3 (by simp))
    have HB3 := Lib.hid (((HB2.out).alloc (Nat.le_trans HB2.out.size (by exact Nat.le_refl _)) (.cells (List.toArray [.int .i64 c1, .slice a1 k1 cap1]) 25)).trans (hb3.mono (Nat.le_trans HB2.out.size (by simp <;> omega))))
    have lts : w1.heap.size < w3.heap.size := lt_of_cell (Vs.out 0 _ rfl).1
    have lto : w2.heap.size < w3.heap.size := lt_of_cell (Vo.out 0 _ rfl).1
    have nes : ¬ w1.heap.size = w3.heap.size := by omega
    have neo : ¬ w2.heap.size = w3.heap.size := by omega
    have GA := Lib.hid (((GA.out).below (below_box (.cells (List.toArray [.int .i64 c1, .slice a1 k1 cap1]) 25) (Nat.le_refl _))).below hb3)
    have G1 := Lib.hid (((G1.out).below (below_box (.cells (List.toArray [.int .i64 c1, .slice a1 k1 cap1]) 25) (Nat.le_refl _))).below hb3)
    clear hb3
    have G2 := Lib.hid hg2
    clear hg2
    have s0 := (Vs.out 0 _ rfl).1
    have sf0 := (Vs.out 0 _ rfl).2
    have s1 := (Vs.out 1 _ rfl).1
    have sf1 := (Vs.out 1 _ rfl).2
    have o0 := (Vo.out 0 _ rfl).1
    have of0 := (Vo.out 0 _ rfl).2
    have o1 := (Vo.out 1 _ rfl).1
    have of1 := (Vo.out 1 _ rfl).2
    go_wp2_with fail
    refine (sameSeen_same c1 _ _ k1 cap1 cap2 e1 _ ((G1.out).below (below_box (.cells (List.toArray [.int .i64 c1, .slice a2 k1 cap2]) 25) (Nat.le_refl _))) ((G2.out).below (below_box (.cells (List.toArray [.int .i64 c1, .slice a2 k1 cap2]) 25) (Nat.le_refl _)))).mono ?_
    rintro e w4 ⟨rfl, hb4⟩
    clear s0 sf0 s1 sf1 o0 of0 o1 of1
    have Vs := Lib.hid (((Vs.out).alloc (.cells (List.toArray [.int .i64 c1, .slice a2 k1 cap2]) 25) (by omega)).below hb4 (by simp; omega))
    have Vo := Lib.hid (((Vo.out).alloc (.cells (List.toArray [.int .i64 c1, .slice a2 k1 cap2]) 25) (by omega)).below hb4 (by simp; omega))
    have Vv := Lib.hid ((VarN.new_at (w := w3) (d := w3.heap.size) (by simp) [.int .i64 c1, .slice a2 k1 cap2] 25).below hb4 (by simp))
    have HB4 := Lib.hid (((HB3.out).alloc (Nat.le_trans HB3.out.size (by exact Nat.le_refl _)) (.cells (List.toArray [.int .i64 c1, .slice a2 k1 cap2]) 25)).trans (hb4.mono (Nat.le_trans HB3.out.size (by simp <;> omega))))
    have lts : w1.heap.size < w4.heap.size := lt_of_cell (Vs.out 0 _ rfl).1
    have lto : w2.heap.size < w4.heap.size := lt_of_cell (Vo.out 0 _ rfl).1
    have ltv : w3.heap.size < w4.heap.size := lt_of_cell (Vv.out 0 _ rfl).1
    have nes : ¬ w1.heap.size = w4.heap.size := by omega
    have neo : ¬ w2.heap.size = w4.heap.size := by omega
    have nev : ¬ w3.heap.size = w4.heap.size := by omega
    have GA := Lib.hid (((GA.out).below (below_box (.cells (List.toArray [.int .i64 c1, .slice a2 k1 cap2]) 25) (Nat.le_refl _))).below hb4)
    have G1 := Lib.hid (((G1.out).below (below_box (.cells (List.toArray [.int .i64 c1, .slice a2 k1 cap2]) 25) (Nat.le_refl _))).below hb4)
    have G2 := Lib.hid (((G2.out).below (below_box (.cells (List.toArray [.int .i64 c1, .slice a2 k1 cap2]) 25) (Nat.le_refl _))).below hb4)
    clear hb4
    by_cases hc0 : code = 0
    · subst hc0
      have HF := Lib.hid (fresh_facts HV.out)
      have s0 := (Vs.out 0 _ rfl).1
      have sf0 := (Vs.out 0 _ rfl).2
      have s1 := (Vs.out 1 _ rfl).1
      have sf1 := (Vs.out 1 _ rfl).2
      have o0 := (Vo.out 0 _ rfl).1
      have of0 := (Vo.out 0 _ rfl).2
      have o1 := (Vo.out 1 _ rfl).1
      have of1 := (Vo.out 1 _ rfl).2
      have v0 := (Vv.out 0 _ rfl).1
      have vf0 := (Vv.out 0 _ rfl).2
      have v1 := (Vv.out 1 _ rfl).1
      have vf1 := (Vv.out 1 _ rfl).2
      go_wp2_with fail
      refine (seenHas_any c a k cap es t _ GA.out).mono ?_
      rw [HF.out.1]
      rintro e w5 ⟨rfl, hb5⟩
      clear s0 sf0 s1 sf1 o0 of0 o1 of1 v0 vf0 v1 vf1
      have Vs := Lib.hid ((Vs.out).below hb5 lts)
      have Vo := Lib.hid ((Vo.out).below hb5 lto)
      have Vv := Lib.hid ((Vv.out).below hb5 ltv)
      have HB5 := Lib.hid (HB4.out.trans (hb5.mono HB4.out.size))
      have lts : w1.heap.size < w5.heap.size := lt_of_cell (Vs.out 0 _ rfl).1
      have lto : w2.heap.size < w5.heap.size := lt_of_cell (Vo.out 0 _ rfl).1
      have ltv : w3.heap.size < w5.heap.size := lt_of_cell (Vv.out 0 _ rfl).1
      have nes : ¬ w1.heap.size = w5.heap.size := by omega
      have neo : ¬ w2.heap.size = w5.heap.size := by omega
      have nev : ¬ w3.heap.size = w5.heap.size := by omega
      have GA := Lib.hid ((GA.out).below hb5)
      have G1 := Lib.hid ((G1.out).below hb5)
      have G2 := Lib.hid ((G2.out).below hb5)
      clear hb5
      have s0 := (Vs.out 0 _ rfl).1
      have sf0 := (Vs.out 0 _ rfl).2
      have s1 := (Vs.out 1 _ rfl).1
      have sf1 := (Vs.out 1 _ rfl).2
      have o0 := (Vo.out 0 _ rfl).1
      have of0 := (Vo.out 0 _ rfl).2
      have o1 := (Vo.out 1 _ rfl).1
      have of1 := (Vo.out 1 _ rfl).2
      have v0 := (Vv.out 0 _ rfl).1
      have vf0 := (Vv.out 0 _ rfl).2
      have v1 := (Vv.out 1 _ rfl).1
      have vf1 := (Vv.out 1 _ rfl).2
      go_wp2_with fail
      refine (seenHas_any c1 a1 k1 cap1 e1 t _ G1.out).mono ?_
      rw [HF.out.2.1]
      rintro e w6 ⟨rfl, hb6⟩
      clear s0 sf0 s1 sf1 o0 of0 o1 of1 v0 vf0 v1 vf1
      have Vs := Lib.hid ((Vs.out).below hb6 lts)
      have Vo := Lib.hid ((Vo.out).below hb6 lto)
      have Vv := Lib.hid ((Vv.out).below hb6 ltv)
      have HB6 := Lib.hid (HB5.out.trans (hb6.mono HB5.out.size))
      have lts : w1.heap.size < w6.heap.size := lt_of_cell (Vs.out 0 _ rfl).1
      have lto : w2.heap.size < w6.heap.size := lt_of_cell (Vo.out 0 _ rfl).1
      have ltv : w3.heap.size < w6.heap.size := lt_of_cell (Vv.out 0 _ rfl).1
      have nes : ¬ w1.heap.size = w6.heap.size := by omega
      have neo : ¬ w2.heap.size = w6.heap.size := by omega
      have nev : ¬ w3.heap.size = w6.heap.size := by omega
      have GA := Lib.hid ((GA.out).below hb6)
      have G1 := Lib.hid ((G1.out).below hb6)
      have G2 := Lib.hid ((G2.out).below hb6)
      clear hb6
      have s0 := (Vs.out 0 _ rfl).1
      have sf0 := (Vs.out 0 _ rfl).2
      have s1 := (Vs.out 1 _ rfl).1
      have sf1 := (Vs.out 1 _ rfl).2
      have o0 := (Vo.out 0 _ rfl).1
      have of0 := (Vo.out 0 _ rfl).2
      have o1 := (Vo.out 1 _ rfl).1
      have of1 := (Vo.out 1 _ rfl).2
      have v0 := (Vv.out 0 _ rfl).1
      have vf0 := (Vv.out 0 _ rfl).2
      have v1 := (Vv.out 1 _ rfl).1
      have vf1 := (Vv.out 1 _ rfl).2
      go_wp2_with fail
      refine (seenValid_any c1 a1 k1 cap1 e1 _ G1.out).mono ?_
      rw [HF.out.2.2.1]
      rintro e w7 ⟨rfl, hb7⟩
      clear s0 sf0 s1 sf1 o0 of0 o1 of1 v0 vf0 v1 vf1
      have Vs := Lib.hid ((Vs.out).below hb7 lts)
      have Vo := Lib.hid ((Vo.out).below hb7 lto)
      have Vv := Lib.hid ((Vv.out).below hb7 ltv)
      have HB7 := Lib.hid (HB6.out.trans (hb7.mono HB6.out.size))
      have lts : w1.heap.size < w7.heap.size := lt_of_cell (Vs.out 0 _ rfl).1
      have lto : w2.heap.size < w7.heap.size := lt_of_cell (Vo.out 0 _ rfl).1
      have ltv : w3.heap.size < w7.heap.size := lt_of_cell (Vv.out 0 _ rfl).1
      have nes : ¬ w1.heap.size = w7.heap.size := by omega
      have neo : ¬ w2.heap.size = w7.heap.size := by omega
      have nev : ¬ w3.heap.size = w7.heap.size := by omega
      have GA := Lib.hid ((GA.out).below hb7)
      have G1 := Lib.hid ((G1.out).below hb7)
      have G2 := Lib.hid ((G2.out).below hb7)
      clear hb7
      have s0 := (Vs.out 0 _ rfl).1
      have sf0 := (Vs.out 0 _ rfl).2
      have s1 := (Vs.out 1 _ rfl).1
      have sf1 := (Vs.out 1 _ rfl).2
      have o0 := (Vo.out 0 _ rfl).1
      have of0 := (Vo.out 0 _ rfl).2
      have o1 := (Vo.out 1 _ rfl).1
      have of1 := (Vo.out 1 _ rfl).2
      have v0 := (Vv.out 0 _ rfl).1
      have vf0 := (Vv.out 0 _ rfl).2
      have v1 := (Vv.out 1 _ rfl).1
      have vf1 := (Vv.out 1 _ rfl).2
      go_wp2
      go_ret
      exact ⟨rfl, HB7.out⟩
    · have s0 := (Vs.out 0 _ rfl).1
      have sf0 := (Vs.out 0 _ rfl).2
      have s1 := (Vs.out 1 _ rfl).1
      have sf1 := (Vs.out 1 _ rfl).2
      have o0 := (Vo.out 0 _ rfl).1
      have of0 := (Vo.out 0 _ rfl).2
      have o1 := (Vo.out 1 _ rfl).1
      have of1 := (Vo.out 1 _ rfl).2
      have v0 := (Vv.out 0 _ rfl).1
      have vf0 := (Vv.out 0 _ rfl).2
      have v1 := (Vv.out 1 _ rfl).1
      have vf1 := (Vv.out 1 _ rfl).2
      go_wp2_with fail
      refine (sameSeen_same c1 _ _ k1 cap1 cap2 e1 _ G1.out G2.out).mono ?_
      rintro e w5 ⟨rfl, hb5⟩
      clear s0 sf0 s1 sf1 o0 of0 o1 of1 v0 vf0 v1 vf1
      have Vs := Lib.hid ((Vs.out).below hb5 lts)
      have Vo := Lib.hid ((Vo.out).below hb5 lto)
      have Vv := Lib.hid ((Vv.out).below hb5 ltv)
      have HB5 := Lib.hid (HB4.out.trans (hb5.mono HB4.out.size))
      have lts : w1.heap.size < w5.heap.size := lt_of_cell (Vs.out 0 _ rfl).1
      have lto : w2.heap.size < w5.heap.size := lt_of_cell (Vo.out 0 _ rfl).1
      have ltv : w3.heap.size < w5.heap.size := lt_of_cell (Vv.out 0 _ rfl).1
      have nes : ¬ w1.heap.size = w5.heap.size := by omega
      have neo : ¬ w2.heap.size = w5.heap.size := by omega
      have nev : ¬ w3.heap.size = w5.heap.size := by omega
      have GA := Lib.hid ((GA.out).below hb5)
      have G1 := Lib.hid ((G1.out).below hb5)
      have G2 := Lib.hid ((G2.out).below hb5)
      clear hb5
      have s0 := (Vs.out 0 _ rfl).1
      have sf0 := (Vs.out 0 _ rfl).2
      have s1 := (Vs.out 1 _ rfl).1
      have sf1 := (Vs.out 1 _ rfl).2
      have o0 := (Vo.out 0 _ rfl).1
      have of0 := (Vo.out 0 _ rfl).2
      have o1 := (Vo.out 1 _ rfl).1
      have of1 := (Vo.out 1 _ rfl).2
      have v0 := (Vv.out 0 _ rfl).1
      have vf0 := (Vv.out 0 _ rfl).2
      have v1 := (Vv.out 1 _ rfl).1
      have vf1 := (Vv.out 1 _ rfl).2
      go_wp2
      go_ret
      exact ⟨rfl, HB5.out⟩

set_option maxHeartbeats 4000000 in
theorem walk_fnSeenAddTwice (a0 : Option Addr) (len0 cap0 : Nat) (z0 : List Int) (w : World) (w0 : IsRow .u8 w a0 len0 cap0 z0) :
    Calls Try.prog 4 #[.slice a0 len0 cap0] w fun e w' => e = .returned (.bool true) ∧ Below w.heap.size w w' := by
  have H := Lib.hid w0
  clear w0
  by_cases hl : (1048576 : Int) < len0
  · go_enter Try.func4, Try.ntmps4
    go_wp2
    go_ret
    exact ⟨rfl, Below.refl _ _⟩
  · go_enter Try.func4, Try.ntmps4
    go_wp2_with fail
    refine (drawSeenAdd_any a0 len0 cap0 z0 _ H.out).mono ?_
    rintro e w1 ⟨c, a, k, cap, es, t, rfl, nk, nc, ne, nt, hown⟩
    have hb1 := hown.b
    have GA := Lib.hid hown.ns
    clear hown ne nt nc
    obtain ⟨c1, e1, code, hv⟩ := addV_some c es t
    obtain ⟨k1, hk1⟩ : ∃ k1, e1.length = k1 := ⟨_, rfl⟩
    have HV := Lib.hid hv
    have HK := Lib.hid hk1
    clear hv hk1
    go_wp2_with fail
    refine (seenAdd_is c a k cap es t c1 code e1 k1 _ ((GA.out).below (below_box (.cells (List.toArray [.int .i64 c, .slice a k cap]) 25) (Nat.le_refl _))) HV.out HK.out).mono ?_
    rintro e w2 ⟨a1, cap1, rfl, hg1, hb2⟩
    have Vs := Lib.hid ((VarN.new_at (w := w1) (d := w1.heap.size) (by simp) [.int .i64 c, .slice a k cap] 25).below hb2 (by simp))
    have HB2 := Lib.hid (((hb1).alloc (Nat.le_trans hb1.size (by exact Nat.le_refl _)) (.cells (List.toArray [.int .i64 c, .slice a k cap]) 25)).trans (hb2.mono (Nat.le_trans hb1.size (by simp <;> omega))))
    have lts : w1.heap.size < w2.heap.size := lt_of_cell (Vs.out 0 _ rfl).1
    have nes : ¬ w1.heap.size = w2.heap.size := by omega
    have GA := Lib.hid (((GA.out).below (below_box (.cells (List.toArray [.int .i64 c, .slice a k cap]) 25) (Nat.le_refl _))).below hb2)
    clear hb2
    have G1 := Lib.hid hg1
    clear hg1
    have s0 := (Vs.out 0 _ rfl).1
    have sf0 := (Vs.out 0 _ rfl).2
    have s1 := (Vs.out 1 _ rfl).1
    have sf1 := (Vs.out 1 _ rfl).2
    go_wp2_with fail
    refine (sSeenAdd_is c a k cap es t c1 code e1 k1 _ ((GA.out).below (below_box (.cells (List.toArray [.int .i64 c1, .slice a1 k1 cap1]) 25) (Nat.le_refl _))) HV.out HK.out).mono ?_
    rintro e w3 ⟨a2, cap2, rfl, hg2, hb3⟩
    clear s0 sf0 s1 sf1
    have Vs := Lib.hid (((Vs.out).alloc (.cells (List.toArray [.int .i64 c1, .slice a1 k1 cap1]) 25) (by omega)).below hb3 (by simp; omega))
    have Vo := Lib.hid ((VarN.new_at (w := w2) (d := w2.heap.size) (by simp) [.int .i64 c1, .slice a1 k1 cap1] 25).below hb3 (by simp))
    have HB3 := Lib.hid (((HB2.out).alloc (Nat.le_trans HB2.out.size (by exact Nat.le_refl _)) (.cells (List.toArray [.int .i64 c1, .slice a1 k1 cap1]) 25)).trans (hb3.mono (Nat.le_trans HB2.out.size (by simp <;> omega))))
    have lts : w1.heap.size < w3.heap.size := lt_of_cell (Vs.out 0 _ rfl).1
    have lto : w2.heap.size < w3.heap.size := lt_of_cell (Vo.out 0 _ rfl).1
    have nes : ¬ w1.heap.size = w3.heap.size := by omega
    have neo : ¬ w2.heap.size = w3.heap.size := by omega
    have GA := Lib.hid (((GA.out).below (below_box (.cells (List.toArray [.int .i64 c1, .slice a1 k1 cap1]) 25) (Nat.le_refl _))).below hb3)
    have G1 := Lib.hid (((G1.out).below (below_box (.cells (List.toArray [.int .i64 c1, .slice a1 k1 cap1]) 25) (Nat.le_refl _))).below hb3)
    clear hb3
    have G2 := Lib.hid hg2
    clear hg2
    have s0 := (Vs.out 0 _ rfl).1
    have sf0 := (Vs.out 0 _ rfl).2
    have s1 := (Vs.out 1 _ rfl).1
    have sf1 := (Vs.out 1 _ rfl).2
    have o0 := (Vo.out 0 _ rfl).1
    have of0 := (Vo.out 0 _ rfl).2
    have o1 := (Vo.out 1 _ rfl).1
    have of1 := (Vo.out 1 _ rfl).2
    go_wp2_with fail
    refine (sameSeen_same c1 _ _ k1 cap1 cap2 e1 _ ((G1.out).below (below_box (.cells (List.toArray [.int .i64 c1, .slice a2 k1 cap2]) 25) (Nat.le_refl _))) ((G2.out).below (below_box (.cells (List.toArray [.int .i64 c1, .slice a2 k1 cap2]) 25) (Nat.le_refl _)))).mono ?_
    rintro e w4 ⟨rfl, hb4⟩
    clear s0 sf0 s1 sf1 o0 of0 o1 of1
    have Vs := Lib.hid (((Vs.out).alloc (.cells (List.toArray [.int .i64 c1, .slice a2 k1 cap2]) 25) (by omega)).below hb4 (by simp; omega))
    have Vo := Lib.hid (((Vo.out).alloc (.cells (List.toArray [.int .i64 c1, .slice a2 k1 cap2]) 25) (by omega)).below hb4 (by simp; omega))
    have Vv := Lib.hid ((VarN.new_at (w := w3) (d := w3.heap.size) (by simp) [.int .i64 c1, .slice a2 k1 cap2] 25).below hb4 (by simp))
    have HB4 := Lib.hid (((HB3.out).alloc (Nat.le_trans HB3.out.size (by exact Nat.le_refl _)) (.cells (List.toArray [.int .i64 c1, .slice a2 k1 cap2]) 25)).trans (hb4.mono (Nat.le_trans HB3.out.size (by simp <;> omega))))
    have lts : w1.heap.size < w4.heap.size := lt_of_cell (Vs.out 0 _ rfl).1
    have lto : w2.heap.size < w4.heap.size := lt_of_cell (Vo.out 0 _ rfl).1
    have ltv : w3.heap.size < w4.heap.size := lt_of_cell (Vv.out 0 _ rfl).1
    have nes : ¬ w1.heap.size = w4.heap.size := by omega
    have neo : ¬ w2.heap.size = w4.heap.size := by omega
    have nev : ¬ w3.heap.size = w4.heap.size := by omega
    have GA := Lib.hid (((GA.out).below (below_box (.cells (List.toArray [.int .i64 c1, .slice a2 k1 cap2]) 25) (Nat.le_refl _))).below hb4)
    have G1 := Lib.hid (((G1.out).below (below_box (.cells (List.toArray [.int .i64 c1, .slice a2 k1 cap2]) 25) (Nat.le_refl _))).below hb4)
    have G2 := Lib.hid (((G2.out).below (below_box (.cells (List.toArray [.int .i64 c1, .slice a2 k1 cap2]) 25) (Nat.le_refl _))).below hb4)
    clear hb4
    by_cases hc0 : code = 0
    · subst hc0
      have HF := Lib.hid (fresh_facts HV.out)
      have s0 := (Vs.out 0 _ rfl).1
      have sf0 := (Vs.out 0 _ rfl).2
      have s1 := (Vs.out 1 _ rfl).1
      have sf1 := (Vs.out 1 _ rfl).2
      have o0 := (Vo.out 0 _ rfl).1
      have of0 := (Vo.out 0 _ rfl).2
      have o1 := (Vo.out 1 _ rfl).1
      have of1 := (Vo.out 1 _ rfl).2
      have v0 := (Vv.out 0 _ rfl).1
      have vf0 := (Vv.out 0 _ rfl).2
      have v1 := (Vv.out 1 _ rfl).1
      have vf1 := (Vv.out 1 _ rfl).2
      go_wp2_with fail
      refine (seenAdd_is c1 a1 k1 cap1 e1 t c1 1 e1 k1 _ G1.out HF.out.2.2.2 HK.out).mono ?_
      rintro e w5 ⟨a3, cap3, rfl, hg3, hb5⟩
      clear s0 sf0 s1 sf1 o0 of0 o1 of1 v0 vf0 v1 vf1
      have Vs := Lib.hid ((Vs.out).below hb5 lts)
      have Vo := Lib.hid ((Vo.out).below hb5 lto)
      have Vv := Lib.hid ((Vv.out).below hb5 ltv)
      have HB5 := Lib.hid (HB4.out.trans (hb5.mono HB4.out.size))
      have lts : w1.heap.size < w5.heap.size := lt_of_cell (Vs.out 0 _ rfl).1
      have lto : w2.heap.size < w5.heap.size := lt_of_cell (Vo.out 0 _ rfl).1
      have ltv : w3.heap.size < w5.heap.size := lt_of_cell (Vv.out 0 _ rfl).1
      have nes : ¬ w1.heap.size = w5.heap.size := by omega
      have neo : ¬ w2.heap.size = w5.heap.size := by omega
      have nev : ¬ w3.heap.size = w5.heap.size := by omega
      have GA := Lib.hid ((GA.out).below hb5)
      have G1 := Lib.hid ((G1.out).below hb5)
      have G2 := Lib.hid ((G2.out).below hb5)
      clear hb5
      have G3 := Lib.hid hg3
      clear hg3
      have s0 := (Vs.out 0 _ rfl).1
      have sf0 := (Vs.out 0 _ rfl).2
      have s1 := (Vs.out 1 _ rfl).1
      have sf1 := (Vs.out 1 _ rfl).2
      have o0 := (Vo.out 0 _ rfl).1
      have of0 := (Vo.out 0 _ rfl).2
      have o1 := (Vo.out 1 _ rfl).1
      have of1 := (Vo.out 1 _ rfl).2
      have v0 := (Vv.out 0 _ rfl).1
      have vf0 := (Vv.out 0 _ rfl).2
      have v1 := (Vv.out 1 _ rfl).1
      have vf1 := (Vv.out 1 _ rfl).2
      go_wp2_with fail
      refine (sameSeen_same c1 _ _ k1 cap3 cap1 e1 _ ((G3.out).below (below_box (.cells (List.toArray [.int .i64 c1, .slice a3 k1 cap3]) 25) (Nat.le_refl _))) ((G1.out).below (below_box (.cells (List.toArray [.int .i64 c1, .slice a3 k1 cap3]) 25) (Nat.le_refl _)))).mono ?_
      rintro e w6 ⟨rfl, hb6⟩
      clear s0 sf0 s1 sf1 o0 of0 o1 of1 v0 vf0 v1 vf1
      have Vs := Lib.hid (((Vs.out).alloc (.cells (List.toArray [.int .i64 c1, .slice a3 k1 cap3]) 25) (by omega)).below hb6 (by simp; omega))
      have Vo := Lib.hid (((Vo.out).alloc (.cells (List.toArray [.int .i64 c1, .slice a3 k1 cap3]) 25) (by omega)).below hb6 (by simp; omega))
      have Vv := Lib.hid (((Vv.out).alloc (.cells (List.toArray [.int .i64 c1, .slice a3 k1 cap3]) 25) (by omega)).below hb6 (by simp; omega))
      have Vx := Lib.hid ((VarN.new_at (w := w5) (d := w5.heap.size) (by simp) [.int .i64 c1, .slice a3 k1 cap3] 25).below hb6 (by simp))
      have HB6 := Lib.hid (((HB5.out).alloc (Nat.le_trans HB5.out.size (by exact Nat.le_refl _)) (.cells (List.toArray [.int .i64 c1, .slice a3 k1 cap3]) 25)).trans (hb6.mono (Nat.le_trans HB5.out.size (by simp <;> omega))))
      have lts : w1.heap.size < w6.heap.size := lt_of_cell (Vs.out 0 _ rfl).1
      have lto : w2.heap.size < w6.heap.size := lt_of_cell (Vo.out 0 _ rfl).1
      have ltv : w3.heap.size < w6.heap.size := lt_of_cell (Vv.out 0 _ rfl).1
      have ltx : w5.heap.size < w6.heap.size := lt_of_cell (Vx.out 0 _ rfl).1
      have nes : ¬ w1.heap.size = w6.heap.size := by omega
      have neo : ¬ w2.heap.size = w6.heap.size := by omega
      have nev : ¬ w3.heap.size = w6.heap.size := by omega
      have nex : ¬ w5.heap.size = w6.heap.size := by omega
      have GA := Lib.hid (((GA.out).below (below_box (.cells (List.toArray [.int .i64 c1, .slice a3 k1 cap3]) 25) (Nat.le_refl _))).below hb6)
      have G1 := Lib.hid (((G1.out).below (below_box (.cells (List.toArray [.int .i64 c1, .slice a3 k1 cap3]) 25) (Nat.le_refl _))).below hb6)
      have G2 := Lib.hid (((G2.out).below (below_box (.cells (List.toArray [.int .i64 c1, .slice a3 k1 cap3]) 25) (Nat.le_refl _))).below hb6)
      have G3 := Lib.hid (((G3.out).below (below_box (.cells (List.toArray [.int .i64 c1, .slice a3 k1 cap3]) 25) (Nat.le_refl _))).below hb6)
      clear hb6
      have s0 := (Vs.out 0 _ rfl).1
      have sf0 := (Vs.out 0 _ rfl).2
      have s1 := (Vs.out 1 _ rfl).1
      have sf1 := (Vs.out 1 _ rfl).2
      have o0 := (Vo.out 0 _ rfl).1
      have of0 := (Vo.out 0 _ rfl).2
      have o1 := (Vo.out 1 _ rfl).1
      have of1 := (Vo.out 1 _ rfl).2
      have v0 := (Vv.out 0 _ rfl).1
      have vf0 := (Vv.out 0 _ rfl).2
      have v1 := (Vv.out 1 _ rfl).1
      have vf1 := (Vv.out 1 _ rfl).2
      have x0 := (Vx.out 0 _ rfl).1
      have xf0 := (Vx.out 0 _ rfl).2
      have x1 := (Vx.out 1 _ rfl).1
      have xf1 := (Vx.out 1 _ rfl).2
      go_wp2
      go_ret
      exact ⟨rfl, HB6.out⟩
    · have s0 := (Vs.out 0 _ rfl).1
      have sf0 := (Vs.out 0 _ rfl).2
      have s1 := (Vs.out 1 _ rfl).1
      have sf1 := (Vs.out 1 _ rfl).2
      have o0 := (Vo.out 0 _ rfl).1
      have of0 := (Vo.out 0 _ rfl).2
      have o1 := (Vo.out 1 _ rfl).1
      have of1 := (Vo.out 1 _ rfl).2
      have v0 := (Vv.out 0 _ rfl).1
      have vf0 := (Vv.out 0 _ rfl).2
      have v1 := (Vv.out 1 _ rfl).1
      have vf1 := (Vv.out 1 _ rfl).2
      go_wp2_with fail
      refine (sameSeen_same c1 _ _ k1 cap1 cap2 e1 _ G1.out G2.out).mono ?_
      rintro e w5 ⟨rfl, hb5⟩
      clear s0 sf0 s1 sf1 o0 of0 o1 of1 v0 vf0 v1 vf1
      have Vs := Lib.hid ((Vs.out).below hb5 lts)
      have Vo := Lib.hid ((Vo.out).below hb5 lto)
      have Vv := Lib.hid ((Vv.out).below hb5 ltv)
      have HB5 := Lib.hid (HB4.out.trans (hb5.mono HB4.out.size))
      have lts : w1.heap.size < w5.heap.size := lt_of_cell (Vs.out 0 _ rfl).1
      have lto : w2.heap.size < w5.heap.size := lt_of_cell (Vo.out 0 _ rfl).1
      have ltv : w3.heap.size < w5.heap.size := lt_of_cell (Vv.out 0 _ rfl).1
      have nes : ¬ w1.heap.size = w5.heap.size := by omega
      have neo : ¬ w2.heap.size = w5.heap.size := by omega
      have nev : ¬ w3.heap.size = w5.heap.size := by omega
      have GA := Lib.hid ((GA.out).below hb5)
      have G1 := Lib.hid ((G1.out).below hb5)
      have G2 := Lib.hid ((G2.out).below hb5)
      clear hb5
      have s0 := (Vs.out 0 _ rfl).1
      have sf0 := (Vs.out 0 _ rfl).2
      have s1 := (Vs.out 1 _ rfl).1
      have sf1 := (Vs.out 1 _ rfl).2
      have o0 := (Vo.out 0 _ rfl).1
      have of0 := (Vo.out 0 _ rfl).2
      have o1 := (Vo.out 1 _ rfl).1
      have of1 := (Vo.out 1 _ rfl).2
      have v0 := (Vv.out 0 _ rfl).1
      have vf0 := (Vv.out 0 _ rfl).2
      have v1 := (Vv.out 1 _ rfl).1
      have vf1 := (Vv.out 1 _ rfl).2
      go_wp2
      go_ret
      exact ⟨rfl, HB5.out⟩

set_option maxHeartbeats 4000000 in
theorem walk_fnSeenAddOld (a0 : Option Addr) (len0 cap0 : Nat) (z0 : List Int) (w : World) (w0 : IsRow .u8 w a0 len0 cap0 z0) :
    Calls Try.prog 9 #[.slice a0 len0 cap0] w fun e w' => e = .returned (.bool true) ∧ Below w.heap.size w w' := by
  have H := Lib.hid w0
  clear w0
  by_cases hl : (1048576 : Int) < len0
  · go_enter Try.func9, Try.ntmps9
    go_wp2
    go_ret
    exact ⟨rfl, Below.refl _ _⟩
  · go_enter Try.func9, Try.ntmps9
    go_wp2_with fail
    refine (drawSeenAdd_any a0 len0 cap0 z0 _ H.out).mono ?_
    rintro e w1 ⟨c, a, k, cap, es, t, rfl, nk, nc, ne, nt, hown⟩
    have hb1 := hown.b
    have GA := Lib.hid hown.ns
    clear hown ne nt nc
    obtain ⟨c1, e1, code, hv⟩ := addV_some c es t
    obtain ⟨k1, hk1⟩ : ∃ k1, e1.length = k1 := ⟨_, rfl⟩
    have HV := Lib.hid hv
    have HK := Lib.hid hk1
    clear hv hk1
    go_wp2_with fail
    refine (seenAdd_is c a k cap es t c1 code e1 k1 _ ((GA.out).below (below_box (.cells (List.toArray [.int .i64 c, .slice a k cap]) 25) (Nat.le_refl _))) HV.out HK.out).mono ?_
    rintro e w2 ⟨a1, cap1, rfl, hg1, hb2⟩
    have Vs := Lib.hid ((VarN.new_at (w := w1) (d := w1.heap.size) (by simp) [.int .i64 c, .slice a k cap] 25).below hb2 (by simp))
    have HB2 := Lib.hid (((hb1).alloc (Nat.le_trans hb1.size (by exact Nat.le_refl _)) (.cells (List.toArray [.int .i64 c, .slice a k cap]) 25)).trans (hb2.mono (Nat.le_trans hb1.size (by simp <;> omega))))
    have lts : w1.heap.size < w2.heap.size := lt_of_cell (Vs.out 0 _ rfl).1
    have nes : ¬ w1.heap.size = w2.heap.size := by omega
    have GA := Lib.hid (((GA.out).below (below_box (.cells (List.toArray [.int .i64 c, .slice a k cap]) 25) (Nat.le_refl _))).below hb2)
    clear hb2
    have G1 := Lib.hid hg1
    clear hg1
    have s0 := (Vs.out 0 _ rfl).1
    have sf0 := (Vs.out 0 _ rfl).2
    have s1 := (Vs.out 1 _ rfl).1
    have sf1 := (Vs.out 1 _ rfl).2
    go_wp2_with fail
    refine (sSeenAdd_is c a k cap es t c1 code e1 k1 _ ((GA.out).below (below_box (.cells (List.toArray [.int .i64 c1, .slice a1 k1 cap1]) 25) (Nat.le_refl _))) HV.out HK.out).mono ?_
    rintro e w3 ⟨a2, cap2, rfl, hg2, hb3⟩
    clear s0 sf0 s1 sf1
    have Vs := Lib.hid (((Vs.out).alloc (.cells (List.toArray [.int .i64 c1, .slice a1 k1 cap1]) 25) (by omega)).below hb3 (by simp; omega))
    have Vo := Lib.hid ((VarN.new_at (w := w2) (d := w2.heap.size) (by simp) [.int .i64 c1, .slice a1 k1 cap1] 25).below hb3 (by simp))
    have HB3 := Lib.hid (((HB2.out).alloc (Nat.le_trans HB2.out.size (by exact Nat.le_refl _)) (.cells (List.toArray [.int .i64 c1, .slice a1 k1 cap1]) 25)).trans (hb3.mono (Nat.le_trans HB2.out.size (by simp <;> omega))))
    have lts : w1.heap.size < w3.heap.size := lt_of_cell (Vs.out 0 _ rfl).1
    have lto : w2.heap.size < w3.heap.size := lt_of_cell (Vo.out 0 _ rfl).1
    have nes : ¬ w1.heap.size = w3.heap.size := by omega
    have neo : ¬ w2.heap.size = w3.heap.size := by omega
    have GA := Lib.hid (((GA.out).below (below_box (.cells (List.toArray [.int .i64 c1, .slice a1 k1 cap1]) 25) (Nat.le_refl _))).below hb3)
    have G1 := Lib.hid (((G1.out).below (below_box (.cells (List.toArray [.int .i64 c1, .slice a1 k1 cap1]) 25) (Nat.le_refl _))).below hb3)
    clear hb3
    have G2 := Lib.hid hg2
    clear hg2
    have s0 := (Vs.out 0 _ rfl).1
    have sf0 := (Vs.out 0 _ rfl).2
    have s1 := (Vs.out 1 _ rfl).1
    have sf1 := (Vs.out 1 _ rfl).2
    have o0 := (Vo.out 0 _ rfl).1
    have of0 := (Vo.out 0 _ rfl).2
    have o1 := (Vo.out 1 _ rfl).1
    have of1 := (Vo.out 1 _ rfl).2
    go_wp2_with fail
    refine (sameSeen_same c1 _ _ k1 cap1 cap2 e1 _ ((G1.out).below (below_box (.cells (List.toArray [.int .i64 c1, .slice a2 k1 cap2]) 25) (Nat.le_refl _))) ((G2.out).below (below_box (.cells (List.toArray [.int .i64 c1, .slice a2 k1 cap2]) 25) (Nat.le_refl _)))).mono ?_
    rintro e w4 ⟨rfl, hb4⟩
    clear s0 sf0 s1 sf1 o0 of0 o1 of1
    have Vs := Lib.hid (((Vs.out).alloc (.cells (List.toArray [.int .i64 c1, .slice a2 k1 cap2]) 25) (by omega)).below hb4 (by simp; omega))
    have Vo := Lib.hid (((Vo.out).alloc (.cells (List.toArray [.int .i64 c1, .slice a2 k1 cap2]) 25) (by omega)).below hb4 (by simp; omega))
    have Vv := Lib.hid ((VarN.new_at (w := w3) (d := w3.heap.size) (by simp) [.int .i64 c1, .slice a2 k1 cap2] 25).below hb4 (by simp))
    have HB4 := Lib.hid (((HB3.out).alloc (Nat.le_trans HB3.out.size (by exact Nat.le_refl _)) (.cells (List.toArray [.int .i64 c1, .slice a2 k1 cap2]) 25)).trans (hb4.mono (Nat.le_trans HB3.out.size (by simp <;> omega))))
    have lts : w1.heap.size < w4.heap.size := lt_of_cell (Vs.out 0 _ rfl).1
    have lto : w2.heap.size < w4.heap.size := lt_of_cell (Vo.out 0 _ rfl).1
    have ltv : w3.heap.size < w4.heap.size := lt_of_cell (Vv.out 0 _ rfl).1
    have nes : ¬ w1.heap.size = w4.heap.size := by omega
    have neo : ¬ w2.heap.size = w4.heap.size := by omega
    have nev : ¬ w3.heap.size = w4.heap.size := by omega
    have GA := Lib.hid (((GA.out).below (below_box (.cells (List.toArray [.int .i64 c1, .slice a2 k1 cap2]) 25) (Nat.le_refl _))).below hb4)
    have G1 := Lib.hid (((G1.out).below (below_box (.cells (List.toArray [.int .i64 c1, .slice a2 k1 cap2]) 25) (Nat.le_refl _))).below hb4)
    have G2 := Lib.hid (((G2.out).below (below_box (.cells (List.toArray [.int .i64 c1, .slice a2 k1 cap2]) 25) (Nat.le_refl _))).below hb4)
    clear hb4
    by_cases hc3 : ¬ code = 3
    · have HF := Lib.hid (old_facts HV.out hc3)
      have s0 := (Vs.out 0 _ rfl).1
      have sf0 := (Vs.out 0 _ rfl).2
      have s1 := (Vs.out 1 _ rfl).1
      have sf1 := (Vs.out 1 _ rfl).2
      have o0 := (Vo.out 0 _ rfl).1
      have of0 := (Vo.out 0 _ rfl).2
      have o1 := (Vo.out 1 _ rfl).1
      have of1 := (Vo.out 1 _ rfl).2
      have v0 := (Vv.out 0 _ rfl).1
      have vf0 := (Vv.out 0 _ rfl).2
      have v1 := (Vv.out 1 _ rfl).1
      have vf1 := (Vv.out 1 _ rfl).2
      go_wp2_with fail
      refine (seenHas_any c a k cap es t _ GA.out).mono ?_
      rw [HF.out.1]
      rintro e w5 ⟨rfl, hb5⟩
      clear s0 sf0 s1 sf1 o0 of0 o1 of1 v0 vf0 v1 vf1
      have Vs := Lib.hid ((Vs.out).below hb5 lts)
      have Vo := Lib.hid ((Vo.out).below hb5 lto)
      have Vv := Lib.hid ((Vv.out).below hb5 ltv)
      have HB5 := Lib.hid (HB4.out.trans (hb5.mono HB4.out.size))
      have lts : w1.heap.size < w5.heap.size := lt_of_cell (Vs.out 0 _ rfl).1
      have lto : w2.heap.size < w5.heap.size := lt_of_cell (Vo.out 0 _ rfl).1
      have ltv : w3.heap.size < w5.heap.size := lt_of_cell (Vv.out 0 _ rfl).1
      have nes : ¬ w1.heap.size = w5.heap.size := by omega
      have neo : ¬ w2.heap.size = w5.heap.size := by omega
      have nev : ¬ w3.heap.size = w5.heap.size := by omega
      have GA := Lib.hid ((GA.out).below hb5)
      have G1 := Lib.hid ((G1.out).below hb5)
      have G2 := Lib.hid ((G2.out).below hb5)
      clear hb5
      by_cases hc1 : code = 1
      · subst hc1
        obtain ⟨rfl, rfl⟩ := HF.out.2 rfl
        obtain rfl : k = k1 := by have := GA.out.length; have := HK.out; omega
        have s0 := (Vs.out 0 _ rfl).1
        have sf0 := (Vs.out 0 _ rfl).2
        have s1 := (Vs.out 1 _ rfl).1
        have sf1 := (Vs.out 1 _ rfl).2
        have o0 := (Vo.out 0 _ rfl).1
        have of0 := (Vo.out 0 _ rfl).2
        have o1 := (Vo.out 1 _ rfl).1
        have of1 := (Vo.out 1 _ rfl).2
        have v0 := (Vv.out 0 _ rfl).1
        have vf0 := (Vv.out 0 _ rfl).2
        have v1 := (Vv.out 1 _ rfl).1
        have vf1 := (Vv.out 1 _ rfl).2
        go_wp2_with fail
        refine (sameSeen_same _ _ _ k cap1 cap _ _ G1.out GA.out).mono ?_
        rintro e w6 ⟨rfl, hb6⟩
        clear s0 sf0 s1 sf1 o0 of0 o1 of1 v0 vf0 v1 vf1
        have Vs := Lib.hid ((Vs.out).below hb6 lts)
        have Vo := Lib.hid ((Vo.out).below hb6 lto)
        have Vv := Lib.hid ((Vv.out).below hb6 ltv)
        have HB6 := Lib.hid (HB5.out.trans (hb6.mono HB5.out.size))
        have lts : w1.heap.size < w6.heap.size := lt_of_cell (Vs.out 0 _ rfl).1
        have lto : w2.heap.size < w6.heap.size := lt_of_cell (Vo.out 0 _ rfl).1
        have ltv : w3.heap.size < w6.heap.size := lt_of_cell (Vv.out 0 _ rfl).1
        have nes : ¬ w1.heap.size = w6.heap.size := by omega
        have neo : ¬ w2.heap.size = w6.heap.size := by omega
        have nev : ¬ w3.heap.size = w6.heap.size := by omega
        have GA := Lib.hid ((GA.out).below hb6)
        have G1 := Lib.hid ((G1.out).below hb6)
        have G2 := Lib.hid ((G2.out).below hb6)
        clear hb6
        have s0 := (Vs.out 0 _ rfl).1
        have sf0 := (Vs.out 0 _ rfl).2
        have s1 := (Vs.out 1 _ rfl).1
        have sf1 := (Vs.out 1 _ rfl).2
        have o0 := (Vo.out 0 _ rfl).1
        have of0 := (Vo.out 0 _ rfl).2
        have o1 := (Vo.out 1 _ rfl).1
        have of1 := (Vo.out 1 _ rfl).2
        have v0 := (Vv.out 0 _ rfl).1
        have vf0 := (Vv.out 0 _ rfl).2
        have v1 := (Vv.out 1 _ rfl).1
        have vf1 := (Vv.out 1 _ rfl).2
        go_wp2
        go_ret
        exact ⟨rfl, HB6.out⟩
      · have d1 : decide (code = 1) = false := decide_eq_false hc1
        have s0 := (Vs.out 0 _ rfl).1
        have sf0 := (Vs.out 0 _ rfl).2
        have s1 := (Vs.out 1 _ rfl).1
        have sf1 := (Vs.out 1 _ rfl).2
        have o0 := (Vo.out 0 _ rfl).1
        have of0 := (Vo.out 0 _ rfl).2
        have o1 := (Vo.out 1 _ rfl).1
        have of1 := (Vo.out 1 _ rfl).2
        have v0 := (Vv.out 0 _ rfl).1
        have vf0 := (Vv.out 0 _ rfl).2
        have v1 := (Vv.out 1 _ rfl).1
        have vf1 := (Vv.out 1 _ rfl).2
        go_wp2
        go_ret
        exact ⟨ret_b (by simp [hc1]), HB5.out⟩
    · have hc4 : code = 3 := Classical.byContradiction hc3
      subst hc4
      clear hc3
      have s0 := (Vs.out 0 _ rfl).1
      have sf0 := (Vs.out 0 _ rfl).2
      have s1 := (Vs.out 1 _ rfl).1
      have sf1 := (Vs.out 1 _ rfl).2
      have o0 := (Vo.out 0 _ rfl).1
      have of0 := (Vo.out 0 _ rfl).2
      have o1 := (Vo.out 1 _ rfl).1
      have of1 := (Vo.out 1 _ rfl).2
      have v0 := (Vv.out 0 _ rfl).1
      have vf0 := (Vv.out 0 _ rfl).2
      have v1 := (Vv.out 1 _ rfl).1
      have vf1 := (Vv.out 1 _ rfl).2
      go_wp2_with fail
      refine (sameSeen_same c1 _ _ k1 cap1 cap2 e1 _ G1.out G2.out).mono ?_
      rintro e w5 ⟨rfl, hb5⟩
      clear s0 sf0 s1 sf1 o0 of0 o1 of1 v0 vf0 v1 vf1
      have Vs := Lib.hid ((Vs.out).below hb5 lts)
      have Vo := Lib.hid ((Vo.out).below hb5 lto)
      have Vv := Lib.hid ((Vv.out).below hb5 ltv)
      have HB5 := Lib.hid (HB4.out.trans (hb5.mono HB4.out.size))
      have lts : w1.heap.size < w5.heap.size := lt_of_cell (Vs.out 0 _ rfl).1
      have lto : w2.heap.size < w5.heap.size := lt_of_cell (Vo.out 0 _ rfl).1
      have ltv : w3.heap.size < w5.heap.size := lt_of_cell (Vv.out 0 _ rfl).1
      have nes : ¬ w1.heap.size = w5.heap.size := by omega
      have neo : ¬ w2.heap.size = w5.heap.size := by omega
      have nev : ¬ w3.heap.size = w5.heap.size := by omega
      have GA := Lib.hid ((GA.out).below hb5)
      have G1 := Lib.hid ((G1.out).below hb5)
      have G2 := Lib.hid ((G2.out).below hb5)
      clear hb5
      have s0 := (Vs.out 0 _ rfl).1
      have sf0 := (Vs.out 0 _ rfl).2
      have s1 := (Vs.out 1 _ rfl).1
      have sf1 := (Vs.out 1 _ rfl).2
      have o0 := (Vo.out 0 _ rfl).1
      have of0 := (Vo.out 0 _ rfl).2
      have o1 := (Vo.out 1 _ rfl).1
      have of1 := (Vo.out 1 _ rfl).2
      have v0 := (Vv.out 0 _ rfl).1
      have vf0 := (Vv.out 0 _ rfl).2
      have v1 := (Vv.out 1 _ rfl).1
      have vf1 := (Vv.out 1 _ rfl).2
      go_wp2
      go_ret
      exact ⟨rfl, HB5.out⟩

set_option maxHeartbeats 4000000 in
theorem walk_fnSeenAddFar (a0 : Option Addr) (len0 cap0 : Nat) (z0 : List Int) (w : World) (w0 : IsRow .u8 w a0 len0 cap0 z0) :
    Calls Try.prog 8 #[.slice a0 len0 cap0] w fun e w' => e = .returned (.bool true) ∧ Below w.heap.size w w' := by
  have H := Lib.hid w0
  clear w0
  by_cases hl : (1048576 : Int) < len0
  · go_enter Try.func8, Try.ntmps8
    go_wp2
    go_ret
    exact ⟨rfl, Below.refl _ _⟩
  · go_enter Try.func8, Try.ntmps8
    go_wp2_with fail
    refine (drawSeenAdd_any a0 len0 cap0 z0 _ H.out).mono ?_
    rintro e w1 ⟨c, a, k, cap, es, t, rfl, nk, nc, ne, nt, hown⟩
    have hb1 := hown.b
    have GA := Lib.hid hown.ns
    clear hown ne nt nc
    obtain ⟨c1, e1, code, hv⟩ := addV_some c es t
    obtain ⟨k1, hk1⟩ : ∃ k1, e1.length = k1 := ⟨_, rfl⟩
    have HV := Lib.hid hv
    have HK := Lib.hid hk1
    clear hv hk1
    go_wp2_with fail
    refine (seenAdd_is c a k cap es t c1 code e1 k1 _ ((GA.out).below (below_box (.cells (List.toArray [.int .i64 c, .slice a k cap]) 25) (Nat.le_refl _))) HV.out HK.out).mono ?_
    rintro e w2 ⟨a1, cap1, rfl, hg1, hb2⟩
    have Vs := Lib.hid ((VarN.new_at (w := w1) (d := w1.heap.size) (by simp) [.int .i64 c, .slice a k cap] 25).below hb2 (by simp))
    have HB2 := Lib.hid (((hb1).alloc (Nat.le_trans hb1.size (by exact Nat.le_refl _)) (.cells (List.toArray [.int .i64 c, .slice a k cap]) 25)).trans (hb2.mono (Nat.le_trans hb1.size (by simp <;> omega))))
    have lts : w1.heap.size < w2.heap.size := lt_of_cell (Vs.out 0 _ rfl).1
    have nes : ¬ w1.heap.size = w2.heap.size := by omega
    have GA := Lib.hid (((GA.out).below (below_box (.cells (List.toArray [.int .i64 c, .slice a k cap]) 25) (Nat.le_refl _))).below hb2)
    clear hb2
    have G1 := Lib.hid hg1
    clear hg1
    have s0 := (Vs.out 0 _ rfl).1
    have sf0 := (Vs.out 0 _ rfl).2
    have s1 := (Vs.out 1 _ rfl).1
    have sf1 := (Vs.out 1 _ rfl).2
    go_wp2_with fail
    refine (sSeenAdd_is c a k cap es t c1 code e1 k1 _ ((GA.out).below (below_box (.cells (List.toArray [.int .i64 c1, .slice a1 k1 cap1]) 25) (Nat.le_refl _))) HV.out HK.out).mono ?_
    rintro e w3 ⟨a2, cap2, rfl, hg2, hb3⟩
    clear s0 sf0 s1 sf1
    have Vs := Lib.hid (((Vs.out).alloc (.cells (List.toArray [.int .i64 c1, .slice a1 k1 cap1]) 25) (by omega)).below hb3 (by simp; omega))
    have Vo := Lib.hid ((VarN.new_at (w := w2) (d := w2.heap.size) (by simp) [.int .i64 c1, .slice a1 k1 cap1] 25).below hb3 (by simp))
    have HB3 := Lib.hid (((HB2.out).alloc (Nat.le_trans HB2.out.size (by exact Nat.le_refl _)) (.cells (List.toArray [.int .i64 c1, .slice a1 k1 cap1]) 25)).trans (hb3.mono (Nat.le_trans HB2.out.size (by simp <;> omega))))
    have lts : w1.heap.size < w3.heap.size := lt_of_cell (Vs.out 0 _ rfl).1
    have lto : w2.heap.size < w3.heap.size := lt_of_cell (Vo.out 0 _ rfl).1
    have nes : ¬ w1.heap.size = w3.heap.size := by omega
    have neo : ¬ w2.heap.size = w3.heap.size := by omega
    have GA := Lib.hid (((GA.out).below (below_box (.cells (List.toArray [.int .i64 c1, .slice a1 k1 cap1]) 25) (Nat.le_refl _))).below hb3)
    have G1 := Lib.hid (((G1.out).below (below_box (.cells (List.toArray [.int .i64 c1, .slice a1 k1 cap1]) 25) (Nat.le_refl _))).below hb3)
    clear hb3
    have G2 := Lib.hid hg2
    clear hg2
    have s0 := (Vs.out 0 _ rfl).1
    have sf0 := (Vs.out 0 _ rfl).2
    have s1 := (Vs.out 1 _ rfl).1
    have sf1 := (Vs.out 1 _ rfl).2
    have o0 := (Vo.out 0 _ rfl).1
    have of0 := (Vo.out 0 _ rfl).2
    have o1 := (Vo.out 1 _ rfl).1
    have of1 := (Vo.out 1 _ rfl).2
    go_wp2_with fail
    refine (sameSeen_same c1 _ _ k1 cap1 cap2 e1 _ ((G1.out).below (below_box (.cells (List.toArray [.int .i64 c1, .slice a2 k1 cap2]) 25) (Nat.le_refl _))) ((G2.out).below (below_box (.cells (List.toArray [.int .i64 c1, .slice a2 k1 cap2]) 25) (Nat.le_refl _)))).mono ?_
    rintro e w4 ⟨rfl, hb4⟩
    clear s0 sf0 s1 sf1 o0 of0 o1 of1
    have Vs := Lib.hid (((Vs.out).alloc (.cells (List.toArray [.int .i64 c1, .slice a2 k1 cap2]) 25) (by omega)).below hb4 (by simp; omega))
    have Vo := Lib.hid (((Vo.out).alloc (.cells (List.toArray [.int .i64 c1, .slice a2 k1 cap2]) 25) (by omega)).below hb4 (by simp; omega))
    have Vv := Lib.hid ((VarN.new_at (w := w3) (d := w3.heap.size) (by simp) [.int .i64 c1, .slice a2 k1 cap2] 25).below hb4 (by simp))
    have HB4 := Lib.hid (((HB3.out).alloc (Nat.le_trans HB3.out.size (by exact Nat.le_refl _)) (.cells (List.toArray [.int .i64 c1, .slice a2 k1 cap2]) 25)).trans (hb4.mono (Nat.le_trans HB3.out.size (by simp <;> omega))))
    have lts : w1.heap.size < w4.heap.size := lt_of_cell (Vs.out 0 _ rfl).1
    have lto : w2.heap.size < w4.heap.size := lt_of_cell (Vo.out 0 _ rfl).1
    have ltv : w3.heap.size < w4.heap.size := lt_of_cell (Vv.out 0 _ rfl).1
    have nes : ¬ w1.heap.size = w4.heap.size := by omega
    have neo : ¬ w2.heap.size = w4.heap.size := by omega
    have nev : ¬ w3.heap.size = w4.heap.size := by omega
    have GA := Lib.hid (((GA.out).below (below_box (.cells (List.toArray [.int .i64 c1, .slice a2 k1 cap2]) 25) (Nat.le_refl _))).below hb4)
    have G1 := Lib.hid (((G1.out).below (below_box (.cells (List.toArray [.int .i64 c1, .slice a2 k1 cap2]) 25) (Nat.le_refl _))).below hb4)
    have G2 := Lib.hid (((G2.out).below (below_box (.cells (List.toArray [.int .i64 c1, .slice a2 k1 cap2]) 25) (Nat.le_refl _))).below hb4)
    clear hb4
    by_cases hc3 : ¬ code = 3
    · obtain ⟨d, hd⟩ : ∃ d, diffS c t = d := ⟨_, rfl⟩
      have HF := far_facts HV.out hc3
      rw [hd] at HF
      have HF := Lib.hid HF
      clear hd
      by_cases hc1 : code = 2
      · subst hc1
        have d1 : 16 < d := HF.out.2.1.2 rfl
        have HD := Lib.hid HF.out.1
        obtain ⟨rfl, rfl⟩ := HF.out.2.2 rfl
        obtain rfl : k = k1 := by have := GA.out.length; have := HK.out; omega
        have s0 := (Vs.out 0 _ rfl).1
        have sf0 := (Vs.out 0 _ rfl).2
        have s1 := (Vs.out 1 _ rfl).1
        have sf1 := (Vs.out 1 _ rfl).2
        have o0 := (Vo.out 0 _ rfl).1
        have of0 := (Vo.out 0 _ rfl).2
        have o1 := (Vo.out 1 _ rfl).1
        have of1 := (Vo.out 1 _ rfl).2
        have v0 := (Vv.out 0 _ rfl).1
        have vf0 := (Vv.out 0 _ rfl).2
        have v1 := (Vv.out 1 _ rfl).1
        have vf1 := (Vv.out 1 _ rfl).2
        go_wp2_with fail
        refine (serialDiff_any _ t _).mono ?_
        rw [HD.out]
        rintro e w5 ⟨rfl, hb5⟩
        clear s0 sf0 s1 sf1 o0 of0 o1 of1 v0 vf0 v1 vf1
        have Vs := Lib.hid ((Vs.out).below hb5 lts)
        have Vo := Lib.hid ((Vo.out).below hb5 lto)
        have Vv := Lib.hid ((Vv.out).below hb5 ltv)
        have HB5 := Lib.hid (HB4.out.trans (hb5.mono HB4.out.size))
        have lts : w1.heap.size < w5.heap.size := lt_of_cell (Vs.out 0 _ rfl).1
        have lto : w2.heap.size < w5.heap.size := lt_of_cell (Vo.out 0 _ rfl).1
        have ltv : w3.heap.size < w5.heap.size := lt_of_cell (Vv.out 0 _ rfl).1
        have nes : ¬ w1.heap.size = w5.heap.size := by omega
        have neo : ¬ w2.heap.size = w5.heap.size := by omega
        have nev : ¬ w3.heap.size = w5.heap.size := by omega
        have GA := Lib.hid ((GA.out).below hb5)
        have G1 := Lib.hid ((G1.out).below hb5)
        have G2 := Lib.hid ((G2.out).below hb5)
        clear hb5
        have s0 := (Vs.out 0 _ rfl).1
        have sf0 := (Vs.out 0 _ rfl).2
        have s1 := (Vs.out 1 _ rfl).1
        have sf1 := (Vs.out 1 _ rfl).2
        have o0 := (Vo.out 0 _ rfl).1
        have of0 := (Vo.out 0 _ rfl).2
        have o1 := (Vo.out 1 _ rfl).1
        have of1 := (Vo.out 1 _ rfl).2
        have v0 := (Vv.out 0 _ rfl).1
        have vf0 := (Vv.out 0 _ rfl).2
        have v1 := (Vv.out 1 _ rfl).1
        have vf1 := (Vv.out 1 _ rfl).2
        go_wp2_with fail
        refine (sameSeen_same _ _ _ k cap1 cap _ _ G1.out GA.out).mono ?_
        rintro e w6 ⟨rfl, hb6⟩
        clear s0 sf0 s1 sf1 o0 of0 o1 of1 v0 vf0 v1 vf1
        have Vs := Lib.hid ((Vs.out).below hb6 lts)
        have Vo := Lib.hid ((Vo.out).below hb6 lto)
        have Vv := Lib.hid ((Vv.out).below hb6 ltv)
        have HB6 := Lib.hid (HB5.out.trans (hb6.mono HB5.out.size))
        have lts : w1.heap.size < w6.heap.size := lt_of_cell (Vs.out 0 _ rfl).1
        have lto : w2.heap.size < w6.heap.size := lt_of_cell (Vo.out 0 _ rfl).1
        have ltv : w3.heap.size < w6.heap.size := lt_of_cell (Vv.out 0 _ rfl).1
        have nes : ¬ w1.heap.size = w6.heap.size := by omega
        have neo : ¬ w2.heap.size = w6.heap.size := by omega
        have nev : ¬ w3.heap.size = w6.heap.size := by omega
        have GA := Lib.hid ((GA.out).below hb6)
        have G1 := Lib.hid ((G1.out).below hb6)
        have G2 := Lib.hid ((G2.out).below hb6)
        clear hb6
        have s0 := (Vs.out 0 _ rfl).1
        have sf0 := (Vs.out 0 _ rfl).2
        have s1 := (Vs.out 1 _ rfl).1
        have sf1 := (Vs.out 1 _ rfl).2
        have o0 := (Vo.out 0 _ rfl).1
        have of0 := (Vo.out 0 _ rfl).2
        have o1 := (Vo.out 1 _ rfl).1
        have of1 := (Vo.out 1 _ rfl).2
        have v0 := (Vv.out 0 _ rfl).1
        have vf0 := (Vv.out 0 _ rfl).2
        have v1 := (Vv.out 1 _ rfl).1
        have vf1 := (Vv.out 1 _ rfl).2
        go_wp2
        go_ret
        exact ⟨rfl, HB6.out⟩
      · have d1 : ¬ 16 < d := fun h => hc1 (HF.out.2.1.1 h)
        have s0 := (Vs.out 0 _ rfl).1
        have sf0 := (Vs.out 0 _ rfl).2
        have s1 := (Vs.out 1 _ rfl).1
        have sf1 := (Vs.out 1 _ rfl).2
        have o0 := (Vo.out 0 _ rfl).1
        have of0 := (Vo.out 0 _ rfl).2
        have o1 := (Vo.out 1 _ rfl).1
        have of1 := (Vo.out 1 _ rfl).2
        have v0 := (Vv.out 0 _ rfl).1
        have vf0 := (Vv.out 0 _ rfl).2
        have v1 := (Vv.out 1 _ rfl).1
        have vf1 := (Vv.out 1 _ rfl).2
        go_wp2_with fail
        refine (serialDiff_any c t _).mono ?_
        rw [HF.out.1]
        rintro e w5 ⟨rfl, hb5⟩
        clear s0 sf0 s1 sf1 o0 of0 o1 of1 v0 vf0 v1 vf1
        have Vs := Lib.hid ((Vs.out).below hb5 lts)
        have Vo := Lib.hid ((Vo.out).below hb5 lto)
        have Vv := Lib.hid ((Vv.out).below hb5 ltv)
        have HB5 := Lib.hid (HB4.out.trans (hb5.mono HB4.out.size))
        have lts : w1.heap.size < w5.heap.size := lt_of_cell (Vs.out 0 _ rfl).1
        have lto : w2.heap.size < w5.heap.size := lt_of_cell (Vo.out 0 _ rfl).1
        have ltv : w3.heap.size < w5.heap.size := lt_of_cell (Vv.out 0 _ rfl).1
        have nes : ¬ w1.heap.size = w5.heap.size := by omega
        have neo : ¬ w2.heap.size = w5.heap.size := by omega
        have nev : ¬ w3.heap.size = w5.heap.size := by omega
        have GA := Lib.hid ((GA.out).below hb5)
        have G1 := Lib.hid ((G1.out).below hb5)
        have G2 := Lib.hid ((G2.out).below hb5)
        clear hb5
        have s0 := (Vs.out 0 _ rfl).1
        have sf0 := (Vs.out 0 _ rfl).2
        have s1 := (Vs.out 1 _ rfl).1
        have sf1 := (Vs.out 1 _ rfl).2
        have o0 := (Vo.out 0 _ rfl).1
        have of0 := (Vo.out 0 _ rfl).2
        have o1 := (Vo.out 1 _ rfl).1
        have of1 := (Vo.out 1 _ rfl).2
        have v0 := (Vv.out 0 _ rfl).1
        have vf0 := (Vv.out 0 _ rfl).2
        have v1 := (Vv.out 1 _ rfl).1
        have vf1 := (Vv.out 1 _ rfl).2
        go_wp2
        go_ret
        exact ⟨ret_b (by simp [hc1]), HB5.out⟩
    · have hc4 : code = 3 := Classical.byContradiction hc3
      subst hc4
      clear hc3
      have s0 := (Vs.out 0 _ rfl).1
      have sf0 := (Vs.out 0 _ rfl).2
      have s1 := (Vs.out 1 _ rfl).1
      have sf1 := (Vs.out 1 _ rfl).2
      have o0 := (Vo.out 0 _ rfl).1
      have of0 := (Vo.out 0 _ rfl).2
      have o1 := (Vo.out 1 _ rfl).1
      have of1 := (Vo.out 1 _ rfl).2
      have v0 := (Vv.out 0 _ rfl).1
      have vf0 := (Vv.out 0 _ rfl).2
      have v1 := (Vv.out 1 _ rfl).1
      have vf1 := (Vv.out 1 _ rfl).2
      go_wp2_with fail
      refine (sameSeen_same c1 _ _ k1 cap1 cap2 e1 _ G1.out G2.out).mono ?_
      rintro e w5 ⟨rfl, hb5⟩
      clear s0 sf0 s1 sf1 o0 of0 o1 of1 v0 vf0 v1 vf1
      have Vs := Lib.hid ((Vs.out).below hb5 lts)
      have Vo := Lib.hid ((Vo.out).below hb5 lto)
      have Vv := Lib.hid ((Vv.out).below hb5 ltv)
      have HB5 := Lib.hid (HB4.out.trans (hb5.mono HB4.out.size))
      have lts : w1.heap.size < w5.heap.size := lt_of_cell (Vs.out 0 _ rfl).1
      have lto : w2.heap.size < w5.heap.size := lt_of_cell (Vo.out 0 _ rfl).1
      have ltv : w3.heap.size < w5.heap.size := lt_of_cell (Vv.out 0 _ rfl).1
      have nes : ¬ w1.heap.size = w5.heap.size := by omega
      have neo : ¬ w2.heap.size = w5.heap.size := by omega
      have nev : ¬ w3.heap.size = w5.heap.size := by omega
      have GA := Lib.hid ((GA.out).below hb5)
      have G1 := Lib.hid ((G1.out).below hb5)
      have G2 := Lib.hid ((G2.out).below hb5)
      clear hb5
      have s0 := (Vs.out 0 _ rfl).1
      have sf0 := (Vs.out 0 _ rfl).2
      have s1 := (Vs.out 1 _ rfl).1
      have sf1 := (Vs.out 1 _ rfl).2
      have o0 := (Vo.out 0 _ rfl).1
      have of0 := (Vo.out 0 _ rfl).2
      have o1 := (Vo.out 1 _ rfl).1
      have of1 := (Vo.out 1 _ rfl).2
      have v0 := (Vv.out 0 _ rfl).1
      have vf0 := (Vv.out 0 _ rfl).2
      have v1 := (Vv.out 1 _ rfl).1
      have vf1 := (Vv.out 1 _ rfl).2
      go_wp2
      go_ret
      exact ⟨rfl, HB5.out⟩

end Go.Proofs.Ytcjabomcndahbab
