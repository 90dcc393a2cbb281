/- The walk of the law on the order of arrival. -/
import Derived.Test.YtcjabomcndahbabK117
import Derived.Test.YtcjabomcndahbabK94
import Derived.Test.YtcjabomcndahbabK99
import Derived.Handy
namespace Go.Proofs.Ytcjabomcndahbab
open Go.RowKit Go.PlainAid

set_option maxHeartbeats 4000000 in
theorem walk_fnSeenAddOrder (a0 : Option Addr) (len0 cap0 : Nat) (z0 : List Int) (b0 : Option Addr) (blen bcap : Nat) (bz : List Int) (w : World) (w0 : IsRow .u8 w a0 len0 cap0 z0) (_w1 : IsRow .u8 w b0 blen bcap bz) :
    Calls Try.prog 6 #[.slice a0 len0 cap0, .slice b0 blen bcap] w fun e w' => e = .returned (.bool true) ∧ Below w.heap.size w w' := by
  have H := Lib.hid w0
  clear w0 _w1
  by_cases hl : (1048576 : Int) < len0
  · go_enter Try.func6, Try.ntmps6
    go_wp2
    go_ret
    exact ⟨rfl, Below.refl _ _⟩
  by_cases hl1 : (1048576 : Int) < blen
  · go_enter Try.func6, Try.ntmps6
    go_wp2
    go_ret
    exact ⟨rfl, Below.refl _ _⟩
  · go_enter Try.func6, Try.ntmps6
    go_wp2_with fail
    refine (drawSeenAdd_any a0 len0 cap0 z0 _ H.out).mono ?_
    rintro e w1 ⟨c, a, k, cap, es, t, rfl, nk, nc, ne, nt, hown⟩
    have hb1 := hown.b
    have GA := Lib.hid hown.ns
    clear hown ne nt nc
    obtain ⟨c1, e1, code, hv⟩ := addV_some c es t
    obtain ⟨k1, hk1⟩ : ∃ k1, e1.length = k1 := ⟨_, rfl⟩
    have HV := Lib.hid hv
    have HK := Lib.hid hk1
    clear hv hk1
    go_wp2_with fail
    refine (seenAdd_is c a k cap es t c1 code e1 k1 _ ((GA.out).below (below_box (.cells (List.toArray [.int .i64 c, .slice a k cap]) 25) (Nat.le_refl _))) HV.out HK.out).mono ?_
    rintro e w2 ⟨a1, cap1, rfl, hg1, hb2⟩
    have Vs := Lib.hid ((VarN.new_at (w := w1) (d := w1.heap.size) (by simp) [.int .i64 c, .slice a k cap] 25).below hb2 (by simp))
    have HB2 := Lib.hid (((hb1).alloc (Nat.le_trans hb1.size (by exact Nat.le_refl _)) (.cells (List.toArray [.int .i64 c, .slice a k cap]) 25)).trans (hb2.mono (Nat.le_trans hb1.size (by simp <;> omega))))
    have lts : w1.heap.size < w2.heap.size := lt_of_cell (Vs.out 0 _ rfl).1
    have nes : ¬ w1.heap.size = w2.heap.size := by omega
    have GA := Lib.hid (((GA.out).below (below_box (.cells (List.toArray [.int .i64 c, .slice a k cap]) 25) (Nat.le_refl _))).below hb2)
    clear hb2
    have G1 := Lib.hid hg1
    clear hg1
    have s0 := (Vs.out 0 _ rfl).1
    have sf0 := (Vs.out 0 _ rfl).2
    have s1 := (Vs.out 1 _ rfl).1
    have sf1 := (Vs.out 1 _ rfl).2
    go_wp2_with fail
    refine (sSeenAdd_is c a k cap es t c1 code e1 k1 _ ((GA.out).below (below_box (.cells (List.toArray [.int .i64 c1, .slice a1 k1 cap1]) 25) (Nat.le_refl _))) HV.out HK.out).mono ?_
    rintro e w3 ⟨a2, cap2, rfl, hg2, hb3⟩
    clear s0 sf0 s1 sf1
    have Vs := Lib.hid (((Vs.out).alloc (.cells (List.toArray [.int .i64 c1, .slice a1 k1 cap1]) 25) (by omega)).below hb3 (by simp; omega))
    have Vo := Lib.hid ((VarN.new_at (w := w2) (d := w2.heap.size) (by simp) [.int .i64 c1, .slice a1 k1 cap1] 25).below hb3 (by simp))
    have HB3 := Lib.hid (((HB2.out).alloc (Nat.le_trans HB2.out.size (by exact Nat.le_refl _)) (.cells (List.toArray [.int .i64 c1, .slice a1 k1 cap1]) 25)).trans (hb3.mono (Nat.le_trans HB2.out.size (by simp <;> omega))))
    have lts : w1.heap.size < w3.heap.size := lt_of_cell (Vs.out 0 _ rfl).1
    have lto : w2.heap.size < w3.heap.size := lt_of_cell (Vo.out 0 _ rfl).1
    have nes : ¬ w1.heap.size = w3.heap.size := by omega
    have neo : ¬ w2.heap.size = w3.heap.size := by omega
    have GA := Lib.hid (((GA.out).below (below_box (.cells (List.toArray [.int .i64 c1, .slice a1 k1 cap1]) 25) (Nat.le_refl _))).below hb3)
    have G1 := Lib.hid (((G1.out).below (below_box (.cells (List.toArray [.int .i64 c1, .slice a1 k1 cap1]) 25) (Nat.le_refl _))).below hb3)
    clear hb3
    have G2 := Lib.hid hg2
    clear hg2
    have s0 := (Vs.out 0 _ rfl).1
    have sf0 := (Vs.out 0 _ rfl).2
    have s1 := (Vs.out 1 _ rfl).1
    have sf1 := (Vs.out 1 _ rfl).2
    have o0 := (Vo.out 0 _ rfl).1
    have of0 := (Vo.out 0 _ rfl).2
    have o1 := (Vo.out 1 _ rfl).1
    have of1 := (Vo.out 1 _ rfl).2
    go_wp2_with fail
    refine (sameSeen_same c1 _ _ k1 cap1 cap2 e1 _ ((G1.out).below (below_box (.cells (List.toArray [.int .i64 c1, .slice a2 k1 cap2]) 25) (Nat.le_refl _))) ((G2.out).below (below_box (.cells (List.toArray [.int .i64 c1, .slice a2 k1 cap2]) 25) (Nat.le_refl _)))).mono ?_
    rintro e w4 ⟨rfl, hb4⟩
    clear s0 sf0 s1 sf1 o0 of0 o1 of1
    have Vs := Lib.hid (((Vs.out).alloc (.cells (List.toArray [.int .i64 c1, .slice a2 k1 cap2]) 25) (by omega)).below hb4 (by simp; omega))
    have Vo := Lib.hid (((Vo.out).alloc (.cells (List.toArray [.int .i64 c1, .slice a2 k1 cap2]) 25) (by omega)).below hb4 (by simp; omega))
    have Vv := Lib.hid ((VarN.new_at (w := w3) (d := w3.heap.size) (by simp) [.int .i64 c1, .slice a2 k1 cap2] 25).below hb4 (by simp))
    have HB4 := Lib.hid (((HB3.out).alloc (Nat.le_trans HB3.out.size (by exact Nat.le_refl _)) (.cells (List.toArray [.int .i64 c1, .slice a2 k1 cap2]) 25)).trans (hb4.mono (Nat.le_trans HB3.out.size (by simp <;> omega))))
    have lts : w1.heap.size < w4.heap.size := lt_of_cell (Vs.out 0 _ rfl).1
    have lto : w2.heap.size < w4.heap.size := lt_of_cell (Vo.out 0 _ rfl).1
    have ltv : w3.heap.size < w4.heap.size := lt_of_cell (Vv.out 0 _ rfl).1
    have nes : ¬ w1.heap.size = w4.heap.size := by omega
    have neo : ¬ w2.heap.size = w4.heap.size := by omega
    have nev : ¬ w3.heap.size = w4.heap.size := by omega
    have GA := Lib.hid (((GA.out).below (below_box (.cells (List.toArray [.int .i64 c1, .slice a2 k1 cap2]) 25) (Nat.le_refl _))).below hb4)
    have G1 := Lib.hid (((G1.out).below (below_box (.cells (List.toArray [.int .i64 c1, .slice a2 k1 cap2]) 25) (Nat.le_refl _))).below hb4)
    have G2 := Lib.hid (((G2.out).below (below_box (.cells (List.toArray [.int .i64 c1, .slice a2 k1 cap2]) 25) (Nat.le_refl _))).below hb4)
    clear hb4
    by_cases hc0 : code = 0
    · subst hc0
      obtain ⟨K, hK⟩ : ∃ K : Nat, blen % 16 = K := ⟨_, rfl⟩
      have K16 : K < 16 := by omega
      have eK : (blen : Int) % 16 = (K : Int) := by omega
      have eK' : Int.tmod (blen : Int) 16 = (K : Int) := by rw [Int.tmod_eq_emod_of_nonneg (by omega)]; exact eK
      have wK : IntKind.i64.wrap (1 + (K : Int)) = 1 + (K : Int) := IntWalk.i64_in _ ⟨by omega, by omega⟩
      clear hK
      obtain ⟨y, hy⟩ : ∃ y, addS c (1 + (K : Int)) = y := ⟨_, rfl⟩
      obtain ⟨ca, ea, one, hva⟩ := addV_some c1 e1 y
      obtain ⟨cb, eb, two, hvb⟩ := addV_some c es y
      obtain ⟨ka, hka⟩ : ∃ ka, ea.length = ka := ⟨_, rfl⟩
      obtain ⟨kb, hkb⟩ : ∃ kb, eb.length = kb := ⟨_, rfl⟩
      have HO := Lib.hid (order_facts HV.out (d := 1 + (K : Int)) (by omega) (hy ▸ hva) (hy ▸ hvb))
      have HA := Lib.hid ((addV_yes (1 + (K : Int)) (seen_ser (addV_fresh HV.out).1)).trans hy)
      have HVA := Lib.hid hva
      have HVB := Lib.hid hvb
      have HKA := Lib.hid hka
      have HKB := Lib.hid hkb
      clear hva hvb hka hkb hy
      by_cases hboth : one = 0 ∧ two = 0
      · obtain ⟨rfl, rfl⟩ := hboth
        have HVC := Lib.hid (HO.out.2 rfl rfl)
        have s0 := (Vs.out 0 _ rfl).1
        have sf0 := (Vs.out 0 _ rfl).2
        have s1 := (Vs.out 1 _ rfl).1
        have sf1 := (Vs.out 1 _ rfl).2
        have o0 := (Vo.out 0 _ rfl).1
        have of0 := (Vo.out 0 _ rfl).2
        have o1 := (Vo.out 1 _ rfl).1
        have of1 := (Vo.out 1 _ rfl).2
        have v0 := (Vv.out 0 _ rfl).1
        have vf0 := (Vv.out 0 _ rfl).2
        have v1 := (Vv.out 1 _ rfl).1
        have vf1 := (Vv.out 1 _ rfl).2
        go_wp2_with fail
        refine (serialAdd_any c (1 + (K : Int)) _).mono ?_
        rw [HA.out]
        rintro e w' ⟨rfl, rfl⟩
        have s0 := (Vs.out 0 _ rfl).1
        have sf0 := (Vs.out 0 _ rfl).2
        have s1 := (Vs.out 1 _ rfl).1
        have sf1 := (Vs.out 1 _ rfl).2
        have o0 := (Vo.out 0 _ rfl).1
        have of0 := (Vo.out 0 _ rfl).2
        have o1 := (Vo.out 1 _ rfl).1
        have of1 := (Vo.out 1 _ rfl).2
        have v0 := (Vv.out 0 _ rfl).1
        have vf0 := (Vv.out 0 _ rfl).2
        have v1 := (Vv.out 1 _ rfl).1
        have vf1 := (Vv.out 1 _ rfl).2
        go_wp2_with fail
        refine (seenAdd_is c1 a1 k1 cap1 e1 y ca 0 ea ka _ G1.out HVA.out HKA.out).mono ?_
        rintro e w5 ⟨a3, cap3, rfl, hg3, hb5⟩
        clear s0 sf0 s1 sf1 o0 of0 o1 of1 v0 vf0 v1 vf1
        have Vs := Lib.hid ((Vs.out).below hb5 lts)
        have Vo := Lib.hid ((Vo.out).below hb5 lto)
        have Vv := Lib.hid ((Vv.out).below hb5 ltv)
        have HB5 := Lib.hid (HB4.out.trans (hb5.mono HB4.out.size))
        have lts : w1.heap.size < w5.heap.size := lt_of_cell (Vs.out 0 _ rfl).1
        have lto : w2.heap.size < w5.heap.size := lt_of_cell (Vo.out 0 _ rfl).1
        have ltv : w3.heap.size < w5.heap.size := lt_of_cell (Vv.out 0 _ rfl).1
        have nes : ¬ w1.heap.size = w5.heap.size := by omega
        have neo : ¬ w2.heap.size = w5.heap.size := by omega
        have nev : ¬ w3.heap.size = w5.heap.size := by omega
        have GA := Lib.hid ((GA.out).below hb5)
        have G1 := Lib.hid ((G1.out).below hb5)
        have G2 := Lib.hid ((G2.out).below hb5)
        clear hb5
        have G3 := Lib.hid hg3
        clear hg3
        have s0 := (Vs.out 0 _ rfl).1
        have sf0 := (Vs.out 0 _ rfl).2
        have s1 := (Vs.out 1 _ rfl).1
        have sf1 := (Vs.out 1 _ rfl).2
        have o0 := (Vo.out 0 _ rfl).1
        have of0 := (Vo.out 0 _ rfl).2
        have o1 := (Vo.out 1 _ rfl).1
        have of1 := (Vo.out 1 _ rfl).2
        have v0 := (Vv.out 0 _ rfl).1
        have vf0 := (Vv.out 0 _ rfl).2
        have v1 := (Vv.out 1 _ rfl).1
        have vf1 := (Vv.out 1 _ rfl).2
        go_wp2_with fail
        refine (seenAdd_is c a k cap es y cb 0 eb kb _ ((GA.out).below (below_box (.cells (List.toArray [.int .i64 ca, .slice a3 ka cap3]) 25) (Nat.le_refl _))) HVB.out HKB.out).mono ?_
        rintro e w6 ⟨a4, cap4, rfl, hg4, hb6⟩
        clear s0 sf0 s1 sf1 o0 of0 o1 of1 v0 vf0 v1 vf1
        have Vs := Lib.hid (((Vs.out).alloc (.cells (List.toArray [.int .i64 ca, .slice a3 ka cap3]) 25) (by omega)).below hb6 (by simp; omega))
        have Vo := Lib.hid (((Vo.out).alloc (.cells (List.toArray [.int .i64 ca, .slice a3 ka cap3]) 25) (by omega)).below hb6 (by simp; omega))
        have Vv := Lib.hid (((Vv.out).alloc (.cells (List.toArray [.int .i64 ca, .slice a3 ka cap3]) 25) (by omega)).below hb6 (by simp; omega))
        have Va := Lib.hid ((VarN.new_at (w := w5) (d := w5.heap.size) (by simp) [.int .i64 ca, .slice a3 ka cap3] 25).below hb6 (by simp))
        have HB6 := Lib.hid (((HB5.out).alloc (Nat.le_trans HB5.out.size (by exact Nat.le_refl _)) (.cells (List.toArray [.int .i64 ca, .slice a3 ka cap3]) 25)).trans (hb6.mono (Nat.le_trans HB5.out.size (by simp <;> omega))))
        have lts : w1.heap.size < w6.heap.size := lt_of_cell (Vs.out 0 _ rfl).1
        have lto : w2.heap.size < w6.heap.size := lt_of_cell (Vo.out 0 _ rfl).1
        have ltv : w3.heap.size < w6.heap.size := lt_of_cell (Vv.out 0 _ rfl).1
        have lta : w5.heap.size < w6.heap.size := lt_of_cell (Va.out 0 _ rfl).1
        have nes : ¬ w1.heap.size = w6.heap.size := by omega
        have neo : ¬ w2.heap.size = w6.heap.size := by omega
        have nev : ¬ w3.heap.size = w6.heap.size := by omega
        have nea : ¬ w5.heap.size = w6.heap.size := by omega
        have GA := Lib.hid (((GA.out).below (below_box (.cells (List.toArray [.int .i64 ca, .slice a3 ka cap3]) 25) (Nat.le_refl _))).below hb6)
        have G1 := Lib.hid (((G1.out).below (below_box (.cells (List.toArray [.int .i64 ca, .slice a3 ka cap3]) 25) (Nat.le_refl _))).below hb6)
        have G2 := Lib.hid (((G2.out).below (below_box (.cells (List.toArray [.int .i64 ca, .slice a3 ka cap3]) 25) (Nat.le_refl _))).below hb6)
        have G3 := Lib.hid (((G3.out).below (below_box (.cells (List.toArray [.int .i64 ca, .slice a3 ka cap3]) 25) (Nat.le_refl _))).below hb6)
        clear hb6
        have G4 := Lib.hid hg4
        clear hg4
        have s0 := (Vs.out 0 _ rfl).1
        have sf0 := (Vs.out 0 _ rfl).2
        have s1 := (Vs.out 1 _ rfl).1
        have sf1 := (Vs.out 1 _ rfl).2
        have o0 := (Vo.out 0 _ rfl).1
        have of0 := (Vo.out 0 _ rfl).2
        have o1 := (Vo.out 1 _ rfl).1
        have of1 := (Vo.out 1 _ rfl).2
        have v0 := (Vv.out 0 _ rfl).1
        have vf0 := (Vv.out 0 _ rfl).2
        have v1 := (Vv.out 1 _ rfl).1
        have vf1 := (Vv.out 1 _ rfl).2
        have a0 := (Va.out 0 _ rfl).1
        have af0 := (Va.out 0 _ rfl).2
        have a1 := (Va.out 1 _ rfl).1
        have af1 := (Va.out 1 _ rfl).2
        go_wp2_with fail
        refine (seenAdd_is cb a4 kb cap4 eb t ca 0 ea ka _ ((G4.out).below (below_box (.cells (List.toArray [.int .i64 cb, .slice a4 kb cap4]) 25) (Nat.le_refl _))) HVC.out HKA.out).mono ?_
        rintro e w7 ⟨a5, cap5, rfl, hg5, hb7⟩
        clear s0 sf0 s1 sf1 o0 of0 o1 of1 v0 vf0 v1 vf1 a0 af0 a1 af1
        have Vs := Lib.hid (((Vs.out).alloc (.cells (List.toArray [.int .i64 cb, .slice a4 kb cap4]) 25) (by omega)).below hb7 (by simp; omega))
        have Vo := Lib.hid (((Vo.out).alloc (.cells (List.toArray [.int .i64 cb, .slice a4 kb cap4]) 25) (by omega)).below hb7 (by simp; omega))
        have Vv := Lib.hid (((Vv.out).alloc (.cells (List.toArray [.int .i64 cb, .slice a4 kb cap4]) 25) (by omega)).below hb7 (by simp; omega))
        have Va := Lib.hid (((Va.out).alloc (.cells (List.toArray [.int .i64 cb, .slice a4 kb cap4]) 25) (by omega)).below hb7 (by simp; omega))
        have Vb := Lib.hid ((VarN.new_at (w := w6) (d := w6.heap.size) (by simp) [.int .i64 cb, .slice a4 kb cap4] 25).below hb7 (by simp))
        have HB7 := Lib.hid (((HB6.out).alloc (Nat.le_trans HB6.out.size (by exact Nat.le_refl _)) (.cells (List.toArray [.int .i64 cb, .slice a4 kb cap4]) 25)).trans (hb7.mono (Nat.le_trans HB6.out.size (by simp <;> omega))))
        have lts : w1.heap.size < w7.heap.size := lt_of_cell (Vs.out 0 _ rfl).1
        have lto : w2.heap.size < w7.heap.size := lt_of_cell (Vo.out 0 _ rfl).1
        have ltv : w3.heap.size < w7.heap.size := lt_of_cell (Vv.out 0 _ rfl).1
        have lta : w5.heap.size < w7.heap.size := lt_of_cell (Va.out 0 _ rfl).1
        have ltb : w6.heap.size < w7.heap.size := lt_of_cell (Vb.out 0 _ rfl).1
        have nes : ¬ w1.heap.size = w7.heap.size := by omega
        have neo : ¬ w2.heap.size = w7.heap.size := by omega
        have nev : ¬ w3.heap.size = w7.heap.size := by omega
        have nea : ¬ w5.heap.size = w7.heap.size := by omega
        have neb : ¬ w6.heap.size = w7.heap.size := by omega
        have GA := Lib.hid (((GA.out).below (below_box (.cells (List.toArray [.int .i64 cb, .slice a4 kb cap4]) 25) (Nat.le_refl _))).below hb7)
        have G1 := Lib.hid (((G1.out).below (below_box (.cells (List.toArray [.int .i64 cb, .slice a4 kb cap4]) 25) (Nat.le_refl _))).below hb7)
        have G2 := Lib.hid (((G2.out).below (below_box (.cells (List.toArray [.int .i64 cb, .slice a4 kb cap4]) 25) (Nat.le_refl _))).below hb7)
        have G3 := Lib.hid (((G3.out).below (below_box (.cells (List.toArray [.int .i64 cb, .slice a4 kb cap4]) 25) (Nat.le_refl _))).below hb7)
        have G4 := Lib.hid (((G4.out).below (below_box (.cells (List.toArray [.int .i64 cb, .slice a4 kb cap4]) 25) (Nat.le_refl _))).below hb7)
        clear hb7
        have G5 := Lib.hid hg5
        clear hg5
        have s0 := (Vs.out 0 _ rfl).1
        have sf0 := (Vs.out 0 _ rfl).2
        have s1 := (Vs.out 1 _ rfl).1
        have sf1 := (Vs.out 1 _ rfl).2
        have o0 := (Vo.out 0 _ rfl).1
        have of0 := (Vo.out 0 _ rfl).2
        have o1 := (Vo.out 1 _ rfl).1
        have of1 := (Vo.out 1 _ rfl).2
        have v0 := (Vv.out 0 _ rfl).1
        have vf0 := (Vv.out 0 _ rfl).2
        have v1 := (Vv.out 1 _ rfl).1
        have vf1 := (Vv.out 1 _ rfl).2
        have a0 := (Va.out 0 _ rfl).1
        have af0 := (Va.out 0 _ rfl).2
        have a1 := (Va.out 1 _ rfl).1
        have af1 := (Va.out 1 _ rfl).2
        have b0 := (Vb.out 0 _ rfl).1
        have bf0 := (Vb.out 0 _ rfl).2
        have b1 := (Vb.out 1 _ rfl).1
        have bf1 := (Vb.out 1 _ rfl).2
        go_wp2_with fail
        refine (sameSeen_same ca _ _ ka cap3 cap5 ea _ ((G3.out).below (below_box (.cells (List.toArray [.int .i64 ca, .slice a5 ka cap5]) 25) (Nat.le_refl _))) ((G5.out).below (below_box (.cells (List.toArray [.int .i64 ca, .slice a5 ka cap5]) 25) (Nat.le_refl _)))).mono ?_
        rintro e w8 ⟨rfl, hb8⟩
        clear s0 sf0 s1 sf1 o0 of0 o1 of1 v0 vf0 v1 vf1 a0 af0 a1 af1 b0 bf0 b1 bf1
        have Vs := Lib.hid (((Vs.out).alloc (.cells (List.toArray [.int .i64 ca, .slice a5 ka cap5]) 25) (by omega)).below hb8 (by simp; omega))
        have Vo := Lib.hid (((Vo.out).alloc (.cells (List.toArray [.int .i64 ca, .slice a5 ka cap5]) 25) (by omega)).below hb8 (by simp; omega))
        have Vv := Lib.hid (((Vv.out).alloc (.cells (List.toArray [.int .i64 ca, .slice a5 ka cap5]) 25) (by omega)).below hb8 (by simp; omega))
        have Va := Lib.hid (((Va.out).alloc (.cells (List.toArray [.int .i64 ca, .slice a5 ka cap5]) 25) (by omega)).below hb8 (by simp; omega))
        have Vb := Lib.hid (((Vb.out).alloc (.cells (List.toArray [.int .i64 ca, .slice a5 ka cap5]) 25) (by omega)).below hb8 (by simp; omega))
        have Vd := Lib.hid ((VarN.new_at (w := w7) (d := w7.heap.size) (by simp) [.int .i64 ca, .slice a5 ka cap5] 25).below hb8 (by simp))
        have HB8 := Lib.hid (((HB7.out).alloc (Nat.le_trans HB7.out.size (by exact Nat.le_refl _)) (.cells (List.toArray [.int .i64 ca, .slice a5 ka cap5]) 25)).trans (hb8.mono (Nat.le_trans HB7.out.size (by simp <;> omega))))
        have lts : w1.heap.size < w8.heap.size := lt_of_cell (Vs.out 0 _ rfl).1
        have lto : w2.heap.size < w8.heap.size := lt_of_cell (Vo.out 0 _ rfl).1
        have ltv : w3.heap.size < w8.heap.size := lt_of_cell (Vv.out 0 _ rfl).1
        have lta : w5.heap.size < w8.heap.size := lt_of_cell (Va.out 0 _ rfl).1
        have ltb : w6.heap.size < w8.heap.size := lt_of_cell (Vb.out 0 _ rfl).1
        have ltd : w7.heap.size < w8.heap.size := lt_of_cell (Vd.out 0 _ rfl).1
        have nes : ¬ w1.heap.size = w8.heap.size := by omega
        have neo : ¬ w2.heap.size = w8.heap.size := by omega
        have nev : ¬ w3.heap.size = w8.heap.size := by omega
        have nea : ¬ w5.heap.size = w8.heap.size := by omega
        have neb : ¬ w6.heap.size = w8.heap.size := by omega
        have ned : ¬ w7.heap.size = w8.heap.size := by omega
        have GA := Lib.hid (((GA.out).below (below_box (.cells (List.toArray [.int .i64 ca, .slice a5 ka cap5]) 25) (Nat.le_refl _))).below hb8)
        have G1 := Lib.hid (((G1.out).below (below_box (.cells (List.toArray [.int .i64 ca, .slice a5 ka cap5]) 25) (Nat.le_refl _))).below hb8)
        have G2 := Lib.hid (((G2.out).below (below_box (.cells (List.toArray [.int .i64 ca, .slice a5 ka cap5]) 25) (Nat.le_refl _))).below hb8)
        have G3 := Lib.hid (((G3.out).below (below_box (.cells (List.toArray [.int .i64 ca, .slice a5 ka cap5]) 25) (Nat.le_refl _))).below hb8)
        have G4 := Lib.hid (((G4.out).below (below_box (.cells (List.toArray [.int .i64 ca, .slice a5 ka cap5]) 25) (Nat.le_refl _))).below hb8)
        have G5 := Lib.hid (((G5.out).below (below_box (.cells (List.toArray [.int .i64 ca, .slice a5 ka cap5]) 25) (Nat.le_refl _))).below hb8)
        clear hb8
        have s0 := (Vs.out 0 _ rfl).1
        have sf0 := (Vs.out 0 _ rfl).2
        have s1 := (Vs.out 1 _ rfl).1
        have sf1 := (Vs.out 1 _ rfl).2
        have o0 := (Vo.out 0 _ rfl).1
        have of0 := (Vo.out 0 _ rfl).2
        have o1 := (Vo.out 1 _ rfl).1
        have of1 := (Vo.out 1 _ rfl).2
        have v0 := (Vv.out 0 _ rfl).1
        have vf0 := (Vv.out 0 _ rfl).2
        have v1 := (Vv.out 1 _ rfl).1
        have vf1 := (Vv.out 1 _ rfl).2
        have a0 := (Va.out 0 _ rfl).1
        have af0 := (Va.out 0 _ rfl).2
        have a1 := (Va.out 1 _ rfl).1
        have af1 := (Va.out 1 _ rfl).2
        have b0 := (Vb.out 0 _ rfl).1
        have bf0 := (Vb.out 0 _ rfl).2
        have b1 := (Vb.out 1 _ rfl).1
        have bf1 := (Vb.out 1 _ rfl).2
        have d0 := (Vd.out 0 _ rfl).1
        have df0 := (Vd.out 0 _ rfl).2
        have d1 := (Vd.out 1 _ rfl).1
        have df1 := (Vd.out 1 _ rfl).2
        go_wp2
        go_ret
        exact ⟨rfl, HB8.out⟩
      · obtain rfl : one = 1 := HO.out.1 hboth
        obtain ⟨cc, ec, three, hvc⟩ := addV_some cb eb t
        obtain ⟨kc, hkc⟩ : ∃ kc, ec.length = kc := ⟨_, rfl⟩
        have HVC := Lib.hid hvc
        have HKC := Lib.hid hkc
        clear hvc hkc hboth HO
        have s0 := (Vs.out 0 _ rfl).1
        have sf0 := (Vs.out 0 _ rfl).2
        have s1 := (Vs.out 1 _ rfl).1
        have sf1 := (Vs.out 1 _ rfl).2
        have o0 := (Vo.out 0 _ rfl).1
        have of0 := (Vo.out 0 _ rfl).2
        have o1 := (Vo.out 1 _ rfl).1
        have of1 := (Vo.out 1 _ rfl).2
        have v0 := (Vv.out 0 _ rfl).1
        have vf0 := (Vv.out 0 _ rfl).2
        have v1 := (Vv.out 1 _ rfl).1
        have vf1 := (Vv.out 1 _ rfl).2
        go_wp2_with fail
        refine (serialAdd_any c (1 + (K : Int)) _).mono ?_
        rw [HA.out]
        rintro e w' ⟨rfl, rfl⟩
        have s0 := (Vs.out 0 _ rfl).1
        have sf0 := (Vs.out 0 _ rfl).2
        have s1 := (Vs.out 1 _ rfl).1
        have sf1 := (Vs.out 1 _ rfl).2
        have o0 := (Vo.out 0 _ rfl).1
        have of0 := (Vo.out 0 _ rfl).2
        have o1 := (Vo.out 1 _ rfl).1
        have of1 := (Vo.out 1 _ rfl).2
        have v0 := (Vv.out 0 _ rfl).1
        have vf0 := (Vv.out 0 _ rfl).2
        have v1 := (Vv.out 1 _ rfl).1
        have vf1 := (Vv.out 1 _ rfl).2
        go_wp2_with fail
        refine (seenAdd_is c1 a1 k1 cap1 e1 y ca 1 ea ka _ G1.out HVA.out HKA.out).mono ?_
        rintro e w5 ⟨a3, cap3, rfl, hg3, hb5⟩
        clear s0 sf0 s1 sf1 o0 of0 o1 of1 v0 vf0 v1 vf1
        have Vs := Lib.hid ((Vs.out).below hb5 lts)
        have Vo := Lib.hid ((Vo.out).below hb5 lto)
        have Vv := Lib.hid ((Vv.out).below hb5 ltv)
        have HB5 := Lib.hid (HB4.out.trans (hb5.mono HB4.out.size))
        have lts : w1.heap.size < w5.heap.size := lt_of_cell (Vs.out 0 _ rfl).1
        have lto : w2.heap.size < w5.heap.size := lt_of_cell (Vo.out 0 _ rfl).1
        have ltv : w3.heap.size < w5.heap.size := lt_of_cell (Vv.out 0 _ rfl).1
        have nes : ¬ w1.heap.size = w5.heap.size := by omega
        have neo : ¬ w2.heap.size = w5.heap.size := by omega
        have nev : ¬ w3.heap.size = w5.heap.size := by omega
        have GA := Lib.hid ((GA.out).below hb5)
        have G1 := Lib.hid ((G1.out).below hb5)
        have G2 := Lib.hid ((G2.out).below hb5)
        clear hb5
        have G3 := Lib.hid hg3
        clear hg3
        have s0 := (Vs.out 0 _ rfl).1
        have sf0 := (Vs.out 0 _ rfl).2
        have s1 := (Vs.out 1 _ rfl).1
        have sf1 := (Vs.out 1 _ rfl).2
        have o0 := (Vo.out 0 _ rfl).1
        have of0 := (Vo.out 0 _ rfl).2
        have o1 := (Vo.out 1 _ rfl).1
        have of1 := (Vo.out 1 _ rfl).2
        have v0 := (Vv.out 0 _ rfl).1
        have vf0 := (Vv.out 0 _ rfl).2
        have v1 := (Vv.out 1 _ rfl).1
        have vf1 := (Vv.out 1 _ rfl).2
        go_wp2_with fail
        refine (seenAdd_is c a k cap es y cb two eb kb _ ((GA.out).below (below_box (.cells (List.toArray [.int .i64 ca, .slice a3 ka cap3]) 25) (Nat.le_refl _))) HVB.out HKB.out).mono ?_
        rintro e w6 ⟨a4, cap4, rfl, hg4, hb6⟩
        clear s0 sf0 s1 sf1 o0 of0 o1 of1 v0 vf0 v1 vf1
        have Vs := Lib.hid (((Vs.out).alloc (.cells (List.toArray [.int .i64 ca, .slice a3 ka cap3]) 25) (by omega)).below hb6 (by simp; omega))
        have Vo := Lib.hid (((Vo.out).alloc (.cells (List.toArray [.int .i64 ca, .slice a3 ka cap3]) 25) (by omega)).below hb6 (by simp; omega))
        have Vv := Lib.hid (((Vv.out).alloc (.cells (List.toArray [.int .i64 ca, .slice a3 ka cap3]) 25) (by omega)).below hb6 (by simp; omega))
        have Va := Lib.hid ((VarN.new_at (w := w5) (d := w5.heap.size) (by simp) [.int .i64 ca, .slice a3 ka cap3] 25).below hb6 (by simp))
        have HB6 := Lib.hid (((HB5.out).alloc (Nat.le_trans HB5.out.size (by exact Nat.le_refl _)) (.cells (List.toArray [.int .i64 ca, .slice a3 ka cap3]) 25)).trans (hb6.mono (Nat.le_trans HB5.out.size (by simp <;> omega))))
        have lts : w1.heap.size < w6.heap.size := lt_of_cell (Vs.out 0 _ rfl).1
        have lto : w2.heap.size < w6.heap.size := lt_of_cell (Vo.out 0 _ rfl).1
        have ltv : w3.heap.size < w6.heap.size := lt_of_cell (Vv.out 0 _ rfl).1
        have lta : w5.heap.size < w6.heap.size := lt_of_cell (Va.out 0 _ rfl).1
        have nes : ¬ w1.heap.size = w6.heap.size := by omega
        have neo : ¬ w2.heap.size = w6.heap.size := by omega
        have nev : ¬ w3.heap.size = w6.heap.size := by omega
        have nea : ¬ w5.heap.size = w6.heap.size := by omega
        have GA := Lib.hid (((GA.out).below (below_box (.cells (List.toArray [.int .i64 ca, .slice a3 ka cap3]) 25) (Nat.le_refl _))).below hb6)
        have G1 := Lib.hid (((G1.out).below (below_box (.cells (List.toArray [.int .i64 ca, .slice a3 ka cap3]) 25) (Nat.le_refl _))).below hb6)
        have G2 := Lib.hid (((G2.out).below (below_box (.cells (List.toArray [.int .i64 ca, .slice a3 ka cap3]) 25) (Nat.le_refl _))).below hb6)
        have G3 := Lib.hid (((G3.out).below (below_box (.cells (List.toArray [.int .i64 ca, .slice a3 ka cap3]) 25) (Nat.le_refl _))).below hb6)
        clear hb6
        have G4 := Lib.hid hg4
        clear hg4
        have s0 := (Vs.out 0 _ rfl).1
        have sf0 := (Vs.out 0 _ rfl).2
        have s1 := (Vs.out 1 _ rfl).1
        have sf1 := (Vs.out 1 _ rfl).2
        have o0 := (Vo.out 0 _ rfl).1
        have of0 := (Vo.out 0 _ rfl).2
        have o1 := (Vo.out 1 _ rfl).1
        have of1 := (Vo.out 1 _ rfl).2
        have v0 := (Vv.out 0 _ rfl).1
        have vf0 := (Vv.out 0 _ rfl).2
        have v1 := (Vv.out 1 _ rfl).1
        have vf1 := (Vv.out 1 _ rfl).2
        have a0 := (Va.out 0 _ rfl).1
        have af0 := (Va.out 0 _ rfl).2
        have a1 := (Va.out 1 _ rfl).1
        have af1 := (Va.out 1 _ rfl).2
        go_wp2_with fail
        refine (seenAdd_is cb a4 kb cap4 eb t cc three ec kc _ ((G4.out).below (below_box (.cells (List.toArray [.int .i64 cb, .slice a4 kb cap4]) 25) (Nat.le_refl _))) HVC.out HKC.out).mono ?_
        rintro e w7 ⟨a5, cap5, rfl, hg5, hb7⟩
        clear s0 sf0 s1 sf1 o0 of0 o1 of1 v0 vf0 v1 vf1 a0 af0 a1 af1
        have Vs := Lib.hid (((Vs.out).alloc (.cells (List.toArray [.int .i64 cb, .slice a4 kb cap4]) 25) (by omega)).below hb7 (by simp; omega))
        have Vo := Lib.hid (((Vo.out).alloc (.cells (List.toArray [.int .i64 cb, .slice a4 kb cap4]) 25) (by omega)).below hb7 (by simp; omega))
        have Vv := Lib.hid (((Vv.out).alloc (.cells (List.toArray [.int .i64 cb, .slice a4 kb cap4]) 25) (by omega)).below hb7 (by simp; omega))
        have Va := Lib.hid (((Va.out).alloc (.cells (List.toArray [.int .i64 cb, .slice a4 kb cap4]) 25) (by omega)).below hb7 (by simp; omega))
        have Vb := Lib.hid ((VarN.new_at (w := w6) (d := w6.heap.size) (by simp) [.int .i64 cb, .slice a4 kb cap4] 25).below hb7 (by simp))
        have HB7 := Lib.hid (((HB6.out).alloc (Nat.le_trans HB6.out.size (by exact Nat.le_refl _)) (.cells (List.toArray [.int .i64 cb, .slice a4 kb cap4]) 25)).trans (hb7.mono (Nat.le_trans HB6.out.size (by simp <;> omega))))
        have lts : w1.heap.size < w7.heap.size := lt_of_cell (Vs.out 0 _ rfl).1
        have lto : w2.heap.size < w7.heap.size := lt_of_cell (Vo.out 0 _ rfl).1
        have ltv : w3.heap.size < w7.heap.size := lt_of_cell (Vv.out 0 _ rfl).1
        have lta : w5.heap.size < w7.heap.size := lt_of_cell (Va.out 0 _ rfl).1
        have ltb : w6.heap.size < w7.heap.size := lt_of_cell (Vb.out 0 _ rfl).1
        have nes : ¬ w1.heap.size = w7.heap.size := by omega
        have neo : ¬ w2.heap.size = w7.heap.size := by omega
        have nev : ¬ w3.heap.size = w7.heap.size := by omega
        have nea : ¬ w5.heap.size = w7.heap.size := by omega
        have neb : ¬ w6.heap.size = w7.heap.size := by omega
        have GA := Lib.hid (((GA.out).below (below_box (.cells (List.toArray [.int .i64 cb, .slice a4 kb cap4]) 25) (Nat.le_refl _))).below hb7)
        have G1 := Lib.hid (((G1.out).below (below_box (.cells (List.toArray [.int .i64 cb, .slice a4 kb cap4]) 25) (Nat.le_refl _))).below hb7)
        have G2 := Lib.hid (((G2.out).below (below_box (.cells (List.toArray [.int .i64 cb, .slice a4 kb cap4]) 25) (Nat.le_refl _))).below hb7)
        have G3 := Lib.hid (((G3.out).below (below_box (.cells (List.toArray [.int .i64 cb, .slice a4 kb cap4]) 25) (Nat.le_refl _))).below hb7)
        have G4 := Lib.hid (((G4.out).below (below_box (.cells (List.toArray [.int .i64 cb, .slice a4 kb cap4]) 25) (Nat.le_refl _))).below hb7)
        clear hb7
        have G5 := Lib.hid hg5
        clear hg5
        have s0 := (Vs.out 0 _ rfl).1
        have sf0 := (Vs.out 0 _ rfl).2
        have s1 := (Vs.out 1 _ rfl).1
        have sf1 := (Vs.out 1 _ rfl).2
        have o0 := (Vo.out 0 _ rfl).1
        have of0 := (Vo.out 0 _ rfl).2
        have o1 := (Vo.out 1 _ rfl).1
        have of1 := (Vo.out 1 _ rfl).2
        have v0 := (Vv.out 0 _ rfl).1
        have vf0 := (Vv.out 0 _ rfl).2
        have v1 := (Vv.out 1 _ rfl).1
        have vf1 := (Vv.out 1 _ rfl).2
        have a0 := (Va.out 0 _ rfl).1
        have af0 := (Va.out 0 _ rfl).2
        have a1 := (Va.out 1 _ rfl).1
        have af1 := (Va.out 1 _ rfl).2
        have b0 := (Vb.out 0 _ rfl).1
        have bf0 := (Vb.out 0 _ rfl).2
        have b1 := (Vb.out 1 _ rfl).1
        have bf1 := (Vb.out 1 _ rfl).2
        go_wp2
        go_ret
        exact ⟨rfl, (HB7.out).alloc (Nat.le_trans HB7.out.size (by exact Nat.le_refl _)) _⟩
    · have s0 := (Vs.out 0 _ rfl).1
      have sf0 := (Vs.out 0 _ rfl).2
      have s1 := (Vs.out 1 _ rfl).1
      have sf1 := (Vs.out 1 _ rfl).2
      have o0 := (Vo.out 0 _ rfl).1
      have of0 := (Vo.out 0 _ rfl).2
      have o1 := (Vo.out 1 _ rfl).1
      have of1 := (Vo.out 1 _ rfl).2
      have v0 := (Vv.out 0 _ rfl).1
      have vf0 := (Vv.out 0 _ rfl).2
      have v1 := (Vv.out 1 _ rfl).1
      have vf1 := (Vv.out 1 _ rfl).2
      go_wp2_with fail
      refine (sameSeen_same c1 _ _ k1 cap1 cap2 e1 _ G1.out G2.out).mono ?_
      rintro e w5 ⟨rfl, hb5⟩
      clear s0 sf0 s1 sf1 o0 of0 o1 of1 v0 vf0 v1 vf1
      have Vs := Lib.hid ((Vs.out).below hb5 lts)
      have Vo := Lib.hid ((Vo.out).below hb5 lto)
      have Vv := Lib.hid ((Vv.out).below hb5 ltv)
      have HB5 := Lib.hid (HB4.out.trans (hb5.mono HB4.out.size))
      have lts : w1.heap.size < w5.heap.size := lt_of_cell (Vs.out 0 _ rfl).1
      have lto : w2.heap.size < w5.heap.size := lt_of_cell (Vo.out 0 _ rfl).1
      have ltv : w3.heap.size < w5.heap.size := lt_of_cell (Vv.out 0 _ rfl).1
      have nes : ¬ w1.heap.size = w5.heap.size := by omega
      have neo : ¬ w2.heap.size = w5.heap.size := by omega
      have nev : ¬ w3.heap.size = w5.heap.size := by omega
      have GA := Lib.hid ((GA.out).below hb5)
      have G1 := Lib.hid ((G1.out).below hb5)
      have G2 := Lib.hid ((G2.out).below hb5)
      clear hb5
      have s0 := (Vs.out 0 _ rfl).1
      have sf0 := (Vs.out 0 _ rfl).2
      have s1 := (Vs.out 1 _ rfl).1
      have sf1 := (Vs.out 1 _ rfl).2
      have o0 := (Vo.out 0 _ rfl).1
      have of0 := (Vo.out 0 _ rfl).2
      have o1 := (Vo.out 1 _ rfl).1
      have of1 := (Vo.out 1 _ rfl).2
      have v0 := (Vv.out 0 _ rfl).1
      have vf0 := (Vv.out 0 _ rfl).2
      have v1 := (Vv.out 1 _ rfl).1
      have vf1 := (Vv.out 1 _ rfl).2
      go_wp2
      go_ret
      exact ⟨rfl, HB5.out⟩

end Go.Proofs.Ytcjabomcndahbab
