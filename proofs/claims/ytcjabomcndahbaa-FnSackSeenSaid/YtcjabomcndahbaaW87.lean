/- The walks of the laws on a receipt of what has arrived, and back. -/
import Derived.Test.YtcjabomcndahbaaK108
import Derived.Test.YtcjabomcndahbaaK32
import Derived.Test.YtcjabomcndahbaaK94
import Derived.Handy
namespace Go.Proofs.Ytcjabomcndahbaa
open Go.RowKit Go.PlainAid

set_option maxHeartbeats 4000000 in
theorem walk_fnSeenSackBack (a0 : Option Addr) (len0 cap0 : Nat) (z0 : List Int) (w : World) (w0 : IsRow .u8 w a0 len0 cap0 z0) :
    Calls Try.prog 7 #[.slice a0 len0 cap0] w fun e w' => e = .returned (.bool true) ∧ Below w.heap.size w w' := by
  have H := Lib.hid w0
  clear w0
  by_cases hl : (1048576 : Int) < len0
  · go_enter Try.func7, Try.ntmps7
    go_wp2
    go_ret
    exact ⟨rfl, Below.refl _ _⟩
  · go_enter Try.func7, Try.ntmps7
    go_wp2_with fail
    refine (drawSeenSack_any a0 len0 cap0 z0 _ H.out).mono ?_
    rintro e w1 ⟨c, a, k, cap, es, rfl, nk, nc, ne, hown⟩
    have hb1 := hown.b
    have GA := Lib.hid hown.ns
    clear hown ne nc
    by_cases hs : SeenOk c es
    · obtain ⟨gs, htl⟩ := told_seen_some hs.2
      obtain ⟨m, hm⟩ : ∃ m, gs.length = m := ⟨_, rfl⟩
      have HO := Lib.hid hs
      have HT := Lib.hid htl
      have HM := Lib.hid hm
      have HK := Lib.hid ((told_ok htl).1 hs)
      have HL := Lib.hid (show es.length = k from GA.out.length)
      clear hs htl hm
      go_wp2_with fail
      refine (seenSack_is c a k cap es gs m _ ((GA.out).below (below_box (.cells (List.toArray [.int .i64 c, .slice a k cap]) 26) (Nat.le_refl _))) HO.out HT.out HM.out).mono ?_
      rintro e w2 ⟨a1, cap1, rfl, hg1, hb2⟩
      have Vs := Lib.hid ((VarN.new_at (w := w1) (d := w1.heap.size) (by simp) [.int .i64 c, .slice a k cap] 26).below hb2 (by simp))
      have HB2 := Lib.hid (((hb1).alloc (Nat.le_trans hb1.size (by exact Nat.le_refl _)) (.cells (List.toArray [.int .i64 c, .slice a k cap]) 26)).trans (hb2.mono (Nat.le_trans hb1.size (by simp <;> omega))))
      have lts : w1.heap.size < w2.heap.size := lt_of_cell (Vs.out 0 _ rfl).1
      have nes : ¬ w1.heap.size = w2.heap.size := by omega
      have GA := Lib.hid (((GA.out).below (below_box (.cells (List.toArray [.int .i64 c, .slice a k cap]) 26) (Nat.le_refl _))).below hb2)
      clear hb2
      have G1 := Lib.hid hg1
      clear hg1
      have s0 := (Vs.out 0 _ rfl).1
      have sf0 := (Vs.out 0 _ rfl).2
      have s1 := (Vs.out 1 _ rfl).1
      have sf1 := (Vs.out 1 _ rfl).2
      go_wp2_with fail
      refine (sSeenSack_is c a k cap es gs m _ ((GA.out).below (below_box (.cells (List.toArray [.int .i64 c, .slice a1 m cap1]) 41) (Nat.le_refl _))) HO.out HT.out HM.out).mono ?_
      rintro e w3 ⟨a2, cap2, rfl, hg2, hb3⟩
      clear s0 sf0 s1 sf1
      have Vs := Lib.hid (((Vs.out).alloc (.cells (List.toArray [.int .i64 c, .slice a1 m cap1]) 41) (by omega)).below hb3 (by simp; omega))
      have Vo := Lib.hid ((VarN.new_at (w := w2) (d := w2.heap.size) (by simp) [.int .i64 c, .slice a1 m cap1] 41).below hb3 (by simp))
      have HB3 := Lib.hid (((HB2.out).alloc (Nat.le_trans HB2.out.size (by exact Nat.le_refl _)) (.cells (List.toArray [.int .i64 c, .slice a1 m cap1]) 41)).trans (hb3.mono (Nat.le_trans HB2.out.size (by simp <;> omega))))
      have lts : w1.heap.size < w3.heap.size := lt_of_cell (Vs.out 0 _ rfl).1
      have lto : w2.heap.size < w3.heap.size := lt_of_cell (Vo.out 0 _ rfl).1
      have nes : ¬ w1.heap.size = w3.heap.size := by omega
      have neo : ¬ w2.heap.size = w3.heap.size := by omega
      have GA := Lib.hid (((GA.out).below (below_box (.cells (List.toArray [.int .i64 c, .slice a1 m cap1]) 41) (Nat.le_refl _))).below hb3)
      have G1 := Lib.hid (((G1.out).below (below_box (.cells (List.toArray [.int .i64 c, .slice a1 m cap1]) 41) (Nat.le_refl _))).below hb3)
      clear hb3
      have G2 := Lib.hid hg2
      clear hg2
      have s0 := (Vs.out 0 _ rfl).1
      have sf0 := (Vs.out 0 _ rfl).2
      have s1 := (Vs.out 1 _ rfl).1
      have sf1 := (Vs.out 1 _ rfl).2
      have o0 := (Vo.out 0 _ rfl).1
      have of0 := (Vo.out 0 _ rfl).2
      have o1 := (Vo.out 1 _ rfl).1
      have of1 := (Vo.out 1 _ rfl).2
      go_wp2_with fail
      refine (sameSack_same c _ _ m cap1 cap2 gs _ ((G1.out).below (below_box (.cells (List.toArray [.int .i64 c, .slice a2 m cap2]) 41) (Nat.le_refl _))) ((G2.out).below (below_box (.cells (List.toArray [.int .i64 c, .slice a2 m cap2]) 41) (Nat.le_refl _)))).mono ?_
      rintro e w4 ⟨rfl, hb4⟩
      clear s0 sf0 s1 sf1 o0 of0 o1 of1
      have Vs := Lib.hid (((Vs.out).alloc (.cells (List.toArray [.int .i64 c, .slice a2 m cap2]) 41) (by omega)).below hb4 (by simp; omega))
      have Vo := Lib.hid (((Vo.out).alloc (.cells (List.toArray [.int .i64 c, .slice a2 m cap2]) 41) (by omega)).below hb4 (by simp; omega))
      have Vv := Lib.hid ((VarN.new_at (w := w3) (d := w3.heap.size) (by simp) [.int .i64 c, .slice a2 m cap2] 41).below hb4 (by simp))
      have HB4 := Lib.hid (((HB3.out).alloc (Nat.le_trans HB3.out.size (by exact Nat.le_refl _)) (.cells (List.toArray [.int .i64 c, .slice a2 m cap2]) 41)).trans (hb4.mono (Nat.le_trans HB3.out.size (by simp <;> omega))))
      have lts : w1.heap.size < w4.heap.size := lt_of_cell (Vs.out 0 _ rfl).1
      have lto : w2.heap.size < w4.heap.size := lt_of_cell (Vo.out 0 _ rfl).1
      have ltv : w3.heap.size < w4.heap.size := lt_of_cell (Vv.out 0 _ rfl).1
      have nes : ¬ w1.heap.size = w4.heap.size := by omega
      have neo : ¬ w2.heap.size = w4.heap.size := by omega
      have nev : ¬ w3.heap.size = w4.heap.size := by omega
      have GA := Lib.hid (((GA.out).below (below_box (.cells (List.toArray [.int .i64 c, .slice a2 m cap2]) 41) (Nat.le_refl _))).below hb4)
      have G1 := Lib.hid (((G1.out).below (below_box (.cells (List.toArray [.int .i64 c, .slice a2 m cap2]) 41) (Nat.le_refl _))).below hb4)
      have G2 := Lib.hid (((G2.out).below (below_box (.cells (List.toArray [.int .i64 c, .slice a2 m cap2]) 41) (Nat.le_refl _))).below hb4)
      clear hb4
      have s0 := (Vs.out 0 _ rfl).1
      have sf0 := (Vs.out 0 _ rfl).2
      have s1 := (Vs.out 1 _ rfl).1
      have sf1 := (Vs.out 1 _ rfl).2
      have o0 := (Vo.out 0 _ rfl).1
      have of0 := (Vo.out 0 _ rfl).2
      have o1 := (Vo.out 1 _ rfl).1
      have of1 := (Vo.out 1 _ rfl).2
      have v0 := (Vv.out 0 _ rfl).1
      have vf0 := (Vv.out 0 _ rfl).2
      have v1 := (Vv.out 1 _ rfl).1
      have vf1 := (Vv.out 1 _ rfl).2
      go_wp2_with fail
      refine (sackSeen_is c a1 m cap1 es gs k _ G1.out HK.out HT.out HL.out).mono ?_
      rintro e w5 ⟨a3, cap3, rfl, hg3, hb5⟩
      clear s0 sf0 s1 sf1 o0 of0 o1 of1 v0 vf0 v1 vf1
      have Vs := Lib.hid ((Vs.out).below hb5 lts)
      have Vo := Lib.hid ((Vo.out).below hb5 lto)
      have Vv := Lib.hid ((Vv.out).below hb5 ltv)
      have HB5 := Lib.hid (HB4.out.trans (hb5.mono HB4.out.size))
      have lts : w1.heap.size < w5.heap.size := lt_of_cell (Vs.out 0 _ rfl).1
      have lto : w2.heap.size < w5.heap.size := lt_of_cell (Vo.out 0 _ rfl).1
      have ltv : w3.heap.size < w5.heap.size := lt_of_cell (Vv.out 0 _ rfl).1
      have nes : ¬ w1.heap.size = w5.heap.size := by omega
      have neo : ¬ w2.heap.size = w5.heap.size := by omega
      have nev : ¬ w3.heap.size = w5.heap.size := by omega
      have GA := Lib.hid ((GA.out).below hb5)
      have G1 := Lib.hid ((G1.out).below hb5)
      have G2 := Lib.hid ((G2.out).below hb5)
      clear hb5
      have G3 := Lib.hid hg3
      clear hg3
      have s0 := (Vs.out 0 _ rfl).1
      have sf0 := (Vs.out 0 _ rfl).2
      have s1 := (Vs.out 1 _ rfl).1
      have sf1 := (Vs.out 1 _ rfl).2
      have o0 := (Vo.out 0 _ rfl).1
      have of0 := (Vo.out 0 _ rfl).2
      have o1 := (Vo.out 1 _ rfl).1
      have of1 := (Vo.out 1 _ rfl).2
      have v0 := (Vv.out 0 _ rfl).1
      have vf0 := (Vv.out 0 _ rfl).2
      have v1 := (Vv.out 1 _ rfl).1
      have vf1 := (Vv.out 1 _ rfl).2
      go_wp2_with fail
      refine (sameSeen_same c _ _ k cap3 cap es _ ((G3.out).below (below_box (.cells (List.toArray [.int .i64 c, .slice a3 k cap3]) 26) (Nat.le_refl _))) ((GA.out).below (below_box (.cells (List.toArray [.int .i64 c, .slice a3 k cap3]) 26) (Nat.le_refl _)))).mono ?_
      rintro e w6 ⟨rfl, hb6⟩
      clear s0 sf0 s1 sf1 o0 of0 o1 of1 v0 vf0 v1 vf1
      have Vs := Lib.hid (((Vs.out).alloc (.cells (List.toArray [.int .i64 c, .slice a3 k cap3]) 26) (by omega)).below hb6 (by simp; omega))
      have Vo := Lib.hid (((Vo.out).alloc (.cells (List.toArray [.int .i64 c, .slice a3 k cap3]) 26) (by omega)).below hb6 (by simp; omega))
      have Vv := Lib.hid (((Vv.out).alloc (.cells (List.toArray [.int .i64 c, .slice a3 k cap3]) 26) (by omega)).below hb6 (by simp; omega))
      have Vx := Lib.hid ((VarN.new_at (w := w5) (d := w5.heap.size) (by simp) [.int .i64 c, .slice a3 k cap3] 26).below hb6 (by simp))
      have HB6 := Lib.hid (((HB5.out).alloc (Nat.le_trans HB5.out.size (by exact Nat.le_refl _)) (.cells (List.toArray [.int .i64 c, .slice a3 k cap3]) 26)).trans (hb6.mono (Nat.le_trans HB5.out.size (by simp <;> omega))))
      have lts : w1.heap.size < w6.heap.size := lt_of_cell (Vs.out 0 _ rfl).1
      have lto : w2.heap.size < w6.heap.size := lt_of_cell (Vo.out 0 _ rfl).1
      have ltv : w3.heap.size < w6.heap.size := lt_of_cell (Vv.out 0 _ rfl).1
      have ltx : w5.heap.size < w6.heap.size := lt_of_cell (Vx.out 0 _ rfl).1
      have nes : ¬ w1.heap.size = w6.heap.size := by omega
      have neo : ¬ w2.heap.size = w6.heap.size := by omega
      have nev : ¬ w3.heap.size = w6.heap.size := by omega
      have nex : ¬ w5.heap.size = w6.heap.size := by omega
      have GA := Lib.hid (((GA.out).below (below_box (.cells (List.toArray [.int .i64 c, .slice a3 k cap3]) 26) (Nat.le_refl _))).below hb6)
      have G1 := Lib.hid (((G1.out).below (below_box (.cells (List.toArray [.int .i64 c, .slice a3 k cap3]) 26) (Nat.le_refl _))).below hb6)
      have G2 := Lib.hid (((G2.out).below (below_box (.cells (List.toArray [.int .i64 c, .slice a3 k cap3]) 26) (Nat.le_refl _))).below hb6)
      have G3 := Lib.hid (((G3.out).below (below_box (.cells (List.toArray [.int .i64 c, .slice a3 k cap3]) 26) (Nat.le_refl _))).below hb6)
      clear hb6
      have s0 := (Vs.out 0 _ rfl).1
      have sf0 := (Vs.out 0 _ rfl).2
      have s1 := (Vs.out 1 _ rfl).1
      have sf1 := (Vs.out 1 _ rfl).2
      have o0 := (Vo.out 0 _ rfl).1
      have of0 := (Vo.out 0 _ rfl).2
      have o1 := (Vo.out 1 _ rfl).1
      have of1 := (Vo.out 1 _ rfl).2
      have v0 := (Vv.out 0 _ rfl).1
      have vf0 := (Vv.out 0 _ rfl).2
      have v1 := (Vv.out 1 _ rfl).1
      have vf1 := (Vv.out 1 _ rfl).2
      have x0 := (Vx.out 0 _ rfl).1
      have xf0 := (Vx.out 0 _ rfl).2
      have x1 := (Vx.out 1 _ rfl).1
      have xf1 := (Vx.out 1 _ rfl).2
      go_wp2
      go_ret
      exact ⟨rfl, HB6.out⟩
    · have HO := Lib.hid hs
      clear hs
      go_wp2_with fail
      refine (seenSack_not c a k cap es _ ((GA.out).below (below_box (.cells (List.toArray [.int .i64 c, .slice a k cap]) 26) (Nat.le_refl _))) HO.out).mono ?_
      rintro e w2 ⟨rfl, hb2⟩
      have Vs := Lib.hid ((VarN.new_at (w := w1) (d := w1.heap.size) (by simp) [.int .i64 c, .slice a k cap] 26).below hb2 (by simp))
      have HB2 := Lib.hid (((hb1).alloc (Nat.le_trans hb1.size (by exact Nat.le_refl _)) (.cells (List.toArray [.int .i64 c, .slice a k cap]) 26)).trans (hb2.mono (Nat.le_trans hb1.size (by simp <;> omega))))
      have lts : w1.heap.size < w2.heap.size := lt_of_cell (Vs.out 0 _ rfl).1
      have nes : ¬ w1.heap.size = w2.heap.size := by omega
      have GA := Lib.hid (((GA.out).below (below_box (.cells (List.toArray [.int .i64 c, .slice a k cap]) 26) (Nat.le_refl _))).below hb2)
      clear hb2
      have s0 := (Vs.out 0 _ rfl).1
      have sf0 := (Vs.out 0 _ rfl).2
      have s1 := (Vs.out 1 _ rfl).1
      have sf1 := (Vs.out 1 _ rfl).2
      go_wp2_with fail
      refine (sSeenSack_not c a k cap es _ ((GA.out).below (below_box (.cells (List.toArray [.int .i64 0, .slice none 0 0]) 41) (Nat.le_refl _))) HO.out).mono ?_
      rintro e w3 ⟨rfl, hb3⟩
      clear s0 sf0 s1 sf1
      have Vs := Lib.hid (((Vs.out).alloc (.cells (List.toArray [.int .i64 0, .slice none 0 0]) 41) (by omega)).below hb3 (by simp; omega))
      have Vo := Lib.hid ((VarN.new_at (w := w2) (d := w2.heap.size) (by simp) [.int .i64 0, .slice none 0 0] 41).below hb3 (by simp))
      have HB3 := Lib.hid (((HB2.out).alloc (Nat.le_trans HB2.out.size (by exact Nat.le_refl _)) (.cells (List.toArray [.int .i64 0, .slice none 0 0]) 41)).trans (hb3.mono (Nat.le_trans HB2.out.size (by simp <;> omega))))
      have lts : w1.heap.size < w3.heap.size := lt_of_cell (Vs.out 0 _ rfl).1
      have lto : w2.heap.size < w3.heap.size := lt_of_cell (Vo.out 0 _ rfl).1
      have nes : ¬ w1.heap.size = w3.heap.size := by omega
      have neo : ¬ w2.heap.size = w3.heap.size := by omega
      have GA := Lib.hid (((GA.out).below (below_box (.cells (List.toArray [.int .i64 0, .slice none 0 0]) 41) (Nat.le_refl _))).below hb3)
      clear hb3
      have s0 := (Vs.out 0 _ rfl).1
      have sf0 := (Vs.out 0 _ rfl).2
      have s1 := (Vs.out 1 _ rfl).1
      have sf1 := (Vs.out 1 _ rfl).2
      have o0 := (Vo.out 0 _ rfl).1
      have of0 := (Vo.out 0 _ rfl).2
      have o1 := (Vo.out 1 _ rfl).1
      have of1 := (Vo.out 1 _ rfl).2
      go_wp2_with fail
      refine (sameSack_same 0 none none 0 0 0 [] _ (.inl ⟨rfl, rfl, rfl, rfl⟩) (.inl ⟨rfl, rfl, rfl, rfl⟩)).mono ?_
      rintro e w4 ⟨rfl, hb4⟩
      clear s0 sf0 s1 sf1 o0 of0 o1 of1
      have Vs := Lib.hid (((Vs.out).alloc (.cells (List.toArray [.int .i64 0, .slice none 0 0]) 41) (by omega)).below hb4 (by simp; omega))
      have Vo := Lib.hid (((Vo.out).alloc (.cells (List.toArray [.int .i64 0, .slice none 0 0]) 41) (by omega)).below hb4 (by simp; omega))
      have Vv := Lib.hid ((VarN.new_at (w := w3) (d := w3.heap.size) (by simp) [.int .i64 0, .slice none 0 0] 41).below hb4 (by simp))
      have HB4 := Lib.hid (((HB3.out).alloc (Nat.le_trans HB3.out.size (by exact Nat.le_refl _)) (.cells (List.toArray [.int .i64 0, .slice none 0 0]) 41)).trans (hb4.mono (Nat.le_trans HB3.out.size (by simp <;> omega))))
      have lts : w1.heap.size < w4.heap.size := lt_of_cell (Vs.out 0 _ rfl).1
      have lto : w2.heap.size < w4.heap.size := lt_of_cell (Vo.out 0 _ rfl).1
      have ltv : w3.heap.size < w4.heap.size := lt_of_cell (Vv.out 0 _ rfl).1
      have nes : ¬ w1.heap.size = w4.heap.size := by omega
      have neo : ¬ w2.heap.size = w4.heap.size := by omega
      have nev : ¬ w3.heap.size = w4.heap.size := by omega
      have GA := Lib.hid (((GA.out).below (below_box (.cells (List.toArray [.int .i64 0, .slice none 0 0]) 41) (Nat.le_refl _))).below hb4)
      clear hb4
      have s0 := (Vs.out 0 _ rfl).1
      have sf0 := (Vs.out 0 _ rfl).2
      have s1 := (Vs.out 1 _ rfl).1
      have sf1 := (Vs.out 1 _ rfl).2
      have o0 := (Vo.out 0 _ rfl).1
      have of0 := (Vo.out 0 _ rfl).2
      have o1 := (Vo.out 1 _ rfl).1
      have of1 := (Vo.out 1 _ rfl).2
      have v0 := (Vv.out 0 _ rfl).1
      have vf0 := (Vv.out 0 _ rfl).2
      have v1 := (Vv.out 1 _ rfl).1
      have vf1 := (Vv.out 1 _ rfl).2
      go_wp2_with fail
      refine (sameSack_same 0 none none 0 0 0 [] _ (.inl ⟨rfl, rfl, rfl, rfl⟩) (.inl ⟨rfl, rfl, rfl, rfl⟩)).mono ?_
      rintro e w5 ⟨rfl, hb5⟩
      clear s0 sf0 s1 sf1 o0 of0 o1 of1 v0 vf0 v1 vf1
      have Vs := Lib.hid ((Vs.out).below hb5 lts)
      have Vo := Lib.hid ((Vo.out).below hb5 lto)
      have Vv := Lib.hid ((Vv.out).below hb5 ltv)
      have HB5 := Lib.hid (HB4.out.trans (hb5.mono HB4.out.size))
      have lts : w1.heap.size < w5.heap.size := lt_of_cell (Vs.out 0 _ rfl).1
      have lto : w2.heap.size < w5.heap.size := lt_of_cell (Vo.out 0 _ rfl).1
      have ltv : w3.heap.size < w5.heap.size := lt_of_cell (Vv.out 0 _ rfl).1
      have nes : ¬ w1.heap.size = w5.heap.size := by omega
      have neo : ¬ w2.heap.size = w5.heap.size := by omega
      have nev : ¬ w3.heap.size = w5.heap.size := by omega
      have GA := Lib.hid ((GA.out).below hb5)
      clear hb5
      have s0 := (Vs.out 0 _ rfl).1
      have sf0 := (Vs.out 0 _ rfl).2
      have s1 := (Vs.out 1 _ rfl).1
      have sf1 := (Vs.out 1 _ rfl).2
      have o0 := (Vo.out 0 _ rfl).1
      have of0 := (Vo.out 0 _ rfl).2
      have o1 := (Vo.out 1 _ rfl).1
      have of1 := (Vo.out 1 _ rfl).2
      have v0 := (Vv.out 0 _ rfl).1
      have vf0 := (Vv.out 0 _ rfl).2
      have v1 := (Vv.out 1 _ rfl).1
      have vf1 := (Vv.out 1 _ rfl).2
      go_wp2
      go_ret
      exact ⟨rfl, HB5.out⟩

set_option maxHeartbeats 4000000 in
theorem walk_fnSackSeen (a0 : Option Addr) (len0 cap0 : Nat) (z0 : List Int) (w : World) (w0 : IsRow .u8 w a0 len0 cap0 z0) :
    Calls Try.prog 8 #[.slice a0 len0 cap0] w fun e w' => e = .returned (.bool true) ∧ Below w.heap.size w w' := by
  have H := Lib.hid w0
  clear w0
  by_cases hl : (1048576 : Int) < len0
  · go_enter Try.func8, Try.ntmps8
    go_wp2
    go_ret
    exact ⟨rfl, Below.refl _ _⟩
  · go_enter Try.func8, Try.ntmps8
    go_wp2_with fail
    refine (drawSackSeen_any a0 len0 cap0 z0 _ H.out).mono ?_
    rintro e w1 ⟨c, g, k, cap, gs, rfl, nc, nk, hg0, hsm, hb1⟩
    have GA := Lib.hid hg0
    clear hg0 hsm nc
    by_cases hs : SackOk c gs
    · obtain ⟨es, htl⟩ := told_sack hs.2
      obtain ⟨m, hm⟩ : ∃ m, es.length = m := ⟨_, rfl⟩
      have HO := Lib.hid hs
      have HT := Lib.hid htl
      have HM := Lib.hid hm
      have HK := Lib.hid ((told_ok htl).2 hs)
      have HL := Lib.hid (show gs.length = k from GA.out.length)
      clear hs htl hm
      go_wp2_with fail
      refine (sackSeen_is c _ k cap es gs m _ ((GA.out).below (below_box (.cells (List.toArray [.int .i64 c, .slice (some ⟨g, 0, none⟩) k cap]) 41) (Nat.le_refl _))) HO.out HT.out HM.out).mono ?_
      rintro e w2 ⟨a1, cap1, rfl, hg1, hb2⟩
      have Vs := Lib.hid ((VarN.new_at (w := w1) (d := w1.heap.size) (by simp) [.int .i64 c, .slice (some ⟨g, 0, none⟩) k cap] 41).below hb2 (by simp))
      have HB2 := Lib.hid (((hb1).alloc (Nat.le_trans hb1.size (by exact Nat.le_refl _)) (.cells (List.toArray [.int .i64 c, .slice (some ⟨g, 0, none⟩) k cap]) 41)).trans (hb2.mono (Nat.le_trans hb1.size (by simp <;> omega))))
      have lts : w1.heap.size < w2.heap.size := lt_of_cell (Vs.out 0 _ rfl).1
      have nes : ¬ w1.heap.size = w2.heap.size := by omega
      have GA := Lib.hid (((GA.out).below (below_box (.cells (List.toArray [.int .i64 c, .slice (some ⟨g, 0, none⟩) k cap]) 41) (Nat.le_refl _))).below hb2)
      clear hb2
      have G1 := Lib.hid hg1
      clear hg1
      have s0 := (Vs.out 0 _ rfl).1
      have sf0 := (Vs.out 0 _ rfl).2
      have s1 := (Vs.out 1 _ rfl).1
      have sf1 := (Vs.out 1 _ rfl).2
      go_wp2_with fail
      refine (sSackSeen_is c _ k cap es gs m _ ((GA.out).below (below_box (.cells (List.toArray [.int .i64 c, .slice a1 m cap1]) 26) (Nat.le_refl _))) HO.out HT.out HM.out).mono ?_
      rintro e w3 ⟨a2, cap2, rfl, hg2, hb3⟩
      clear s0 sf0 s1 sf1
      have Vs := Lib.hid (((Vs.out).alloc (.cells (List.toArray [.int .i64 c, .slice a1 m cap1]) 26) (by omega)).below hb3 (by simp; omega))
      have Vo := Lib.hid ((VarN.new_at (w := w2) (d := w2.heap.size) (by simp) [.int .i64 c, .slice a1 m cap1] 26).below hb3 (by simp))
      have HB3 := Lib.hid (((HB2.out).alloc (Nat.le_trans HB2.out.size (by exact Nat.le_refl _)) (.cells (List.toArray [.int .i64 c, .slice a1 m cap1]) 26)).trans (hb3.mono (Nat.le_trans HB2.out.size (by simp <;> omega))))
      have lts : w1.heap.size < w3.heap.size := lt_of_cell (Vs.out 0 _ rfl).1
      have lto : w2.heap.size < w3.heap.size := lt_of_cell (Vo.out 0 _ rfl).1
      have nes : ¬ w1.heap.size = w3.heap.size := by omega
      have neo : ¬ w2.heap.size = w3.heap.size := by omega
      have GA := Lib.hid (((GA.out).below (below_box (.cells (List.toArray [.int .i64 c, .slice a1 m cap1]) 26) (Nat.le_refl _))).below hb3)
      have G1 := Lib.hid (((G1.out).below (below_box (.cells (List.toArray [.int .i64 c, .slice a1 m cap1]) 26) (Nat.le_refl _))).below hb3)
      clear hb3
      have G2 := Lib.hid hg2
      clear hg2
      have s0 := (Vs.out 0 _ rfl).1
      have sf0 := (Vs.out 0 _ rfl).2
      have s1 := (Vs.out 1 _ rfl).1
      have sf1 := (Vs.out 1 _ rfl).2
      have o0 := (Vo.out 0 _ rfl).1
      have of0 := (Vo.out 0 _ rfl).2
      have o1 := (Vo.out 1 _ rfl).1
      have of1 := (Vo.out 1 _ rfl).2
      go_wp2_with fail
      refine (sameSeen_same c _ _ m cap1 cap2 es _ ((G1.out).below (below_box (.cells (List.toArray [.int .i64 c, .slice a2 m cap2]) 26) (Nat.le_refl _))) ((G2.out).below (below_box (.cells (List.toArray [.int .i64 c, .slice a2 m cap2]) 26) (Nat.le_refl _)))).mono ?_
      rintro e w4 ⟨rfl, hb4⟩
      clear s0 sf0 s1 sf1 o0 of0 o1 of1
      have Vs := Lib.hid (((Vs.out).alloc (.cells (List.toArray [.int .i64 c, .slice a2 m cap2]) 26) (by omega)).below hb4 (by simp; omega))
      have Vo := Lib.hid (((Vo.out).alloc (.cells (List.toArray [.int .i64 c, .slice a2 m cap2]) 26) (by omega)).below hb4 (by simp; omega))
      have Vv := Lib.hid ((VarN.new_at (w := w3) (d := w3.heap.size) (by simp) [.int .i64 c, .slice a2 m cap2] 26).below hb4 (by simp))
      have HB4 := Lib.hid (((HB3.out).alloc (Nat.le_trans HB3.out.size (by exact Nat.le_refl _)) (.cells (List.toArray [.int .i64 c, .slice a2 m cap2]) 26)).trans (hb4.mono (Nat.le_trans HB3.out.size (by simp <;> omega))))
      have lts : w1.heap.size < w4.heap.size := lt_of_cell (Vs.out 0 _ rfl).1
      have lto : w2.heap.size < w4.heap.size := lt_of_cell (Vo.out 0 _ rfl).1
      have ltv : w3.heap.size < w4.heap.size := lt_of_cell (Vv.out 0 _ rfl).1
      have nes : ¬ w1.heap.size = w4.heap.size := by omega
      have neo : ¬ w2.heap.size = w4.heap.size := by omega
      have nev : ¬ w3.heap.size = w4.heap.size := by omega
      have GA := Lib.hid (((GA.out).below (below_box (.cells (List.toArray [.int .i64 c, .slice a2 m cap2]) 26) (Nat.le_refl _))).below hb4)
      have G1 := Lib.hid (((G1.out).below (below_box (.cells (List.toArray [.int .i64 c, .slice a2 m cap2]) 26) (Nat.le_refl _))).below hb4)
      have G2 := Lib.hid (((G2.out).below (below_box (.cells (List.toArray [.int .i64 c, .slice a2 m cap2]) 26) (Nat.le_refl _))).below hb4)
      clear hb4
      have s0 := (Vs.out 0 _ rfl).1
      have sf0 := (Vs.out 0 _ rfl).2
      have s1 := (Vs.out 1 _ rfl).1
      have sf1 := (Vs.out 1 _ rfl).2
      have o0 := (Vo.out 0 _ rfl).1
      have of0 := (Vo.out 0 _ rfl).2
      have o1 := (Vo.out 1 _ rfl).1
      have of1 := (Vo.out 1 _ rfl).2
      have v0 := (Vv.out 0 _ rfl).1
      have vf0 := (Vv.out 0 _ rfl).2
      have v1 := (Vv.out 1 _ rfl).1
      have vf1 := (Vv.out 1 _ rfl).2
      go_wp2_with fail
      refine (seenSack_is c a1 m cap1 es gs k _ G1.out HK.out HT.out HL.out).mono ?_
      rintro e w5 ⟨a3, cap3, rfl, hg3, hb5⟩
      clear s0 sf0 s1 sf1 o0 of0 o1 of1 v0 vf0 v1 vf1
      have Vs := Lib.hid ((Vs.out).below hb5 lts)
      have Vo := Lib.hid ((Vo.out).below hb5 lto)
      have Vv := Lib.hid ((Vv.out).below hb5 ltv)
      have HB5 := Lib.hid (HB4.out.trans (hb5.mono HB4.out.size))
      have lts : w1.heap.size < w5.heap.size := lt_of_cell (Vs.out 0 _ rfl).1
      have lto : w2.heap.size < w5.heap.size := lt_of_cell (Vo.out 0 _ rfl).1
      have ltv : w3.heap.size < w5.heap.size := lt_of_cell (Vv.out 0 _ rfl).1
      have nes : ¬ w1.heap.size = w5.heap.size := by omega
      have neo : ¬ w2.heap.size = w5.heap.size := by omega
      have nev : ¬ w3.heap.size = w5.heap.size := by omega
      have GA := Lib.hid ((GA.out).below hb5)
      have G1 := Lib.hid ((G1.out).below hb5)
      have G2 := Lib.hid ((G2.out).below hb5)
      clear hb5
      have G3 := Lib.hid hg3
      clear hg3
      have s0 := (Vs.out 0 _ rfl).1
      have sf0 := (Vs.out 0 _ rfl).2
      have s1 := (Vs.out 1 _ rfl).1
      have sf1 := (Vs.out 1 _ rfl).2
      have o0 := (Vo.out 0 _ rfl).1
      have of0 := (Vo.out 0 _ rfl).2
      have o1 := (Vo.out 1 _ rfl).1
      have of1 := (Vo.out 1 _ rfl).2
      have v0 := (Vv.out 0 _ rfl).1
      have vf0 := (Vv.out 0 _ rfl).2
      have v1 := (Vv.out 1 _ rfl).1
      have vf1 := (Vv.out 1 _ rfl).2
      go_wp2_with fail
      refine (sameSack_same c _ _ k cap3 cap gs _ ((G3.out).below (below_box (.cells (List.toArray [.int .i64 c, .slice a3 k cap3]) 41) (Nat.le_refl _))) ((GA.out).below (below_box (.cells (List.toArray [.int .i64 c, .slice a3 k cap3]) 41) (Nat.le_refl _)))).mono ?_
      rintro e w6 ⟨rfl, hb6⟩
      clear s0 sf0 s1 sf1 o0 of0 o1 of1 v0 vf0 v1 vf1
      have Vs := Lib.hid (((Vs.out).alloc (.cells (List.toArray [.int .i64 c, .slice a3 k cap3]) 41) (by omega)).below hb6 (by simp; omega))
      have Vo := Lib.hid (((Vo.out).alloc (.cells (List.toArray [.int .i64 c, .slice a3 k cap3]) 41) (by omega)).below hb6 (by simp; omega))
      have Vv := Lib.hid (((Vv.out).alloc (.cells (List.toArray [.int .i64 c, .slice a3 k cap3]) 41) (by omega)).below hb6 (by simp; omega))
      have Vx := Lib.hid ((VarN.new_at (w := w5) (d := w5.heap.size) (by simp) [.int .i64 c, .slice a3 k cap3] 41).below hb6 (by simp))
      have HB6 := Lib.hid (((HB5.out).alloc (Nat.le_trans HB5.out.size (by exact Nat.le_refl _)) (.cells (List.toArray [.int .i64 c, .slice a3 k cap3]) 41)).trans (hb6.mono (Nat.le_trans HB5.out.size (by simp <;> omega))))
      have lts : w1.heap.size < w6.heap.size := lt_of_cell (Vs.out 0 _ rfl).1
      have lto : w2.heap.size < w6.heap.size := lt_of_cell (Vo.out 0 _ rfl).1
      have ltv : w3.heap.size < w6.heap.size := lt_of_cell (Vv.out 0 _ rfl).1
      have ltx : w5.heap.size < w6.heap.size := lt_of_cell (Vx.out 0 _ rfl).1
      have nes : ¬ w1.heap.size = w6.heap.size := by omega
      have neo : ¬ w2.heap.size = w6.heap.size := by omega
      have nev : ¬ w3.heap.size = w6.heap.size := by omega
      have nex : ¬ w5.heap.size = w6.heap.size := by omega
      have GA := Lib.hid (((GA.out).below (below_box (.cells (List.toArray [.int .i64 c, .slice a3 k cap3]) 41) (Nat.le_refl _))).below hb6)
      have G1 := Lib.hid (((G1.out).below (below_box (.cells (List.toArray [.int .i64 c, .slice a3 k cap3]) 41) (Nat.le_refl _))).below hb6)
      have G2 := Lib.hid (((G2.out).below (below_box (.cells (List.toArray [.int .i64 c, .slice a3 k cap3]) 41) (Nat.le_refl _))).below hb6)
      have G3 := Lib.hid (((G3.out).below (below_box (.cells (List.toArray [.int .i64 c, .slice a3 k cap3]) 41) (Nat.le_refl _))).below hb6)
      clear hb6
      have s0 := (Vs.out 0 _ rfl).1
      have sf0 := (Vs.out 0 _ rfl).2
      have s1 := (Vs.out 1 _ rfl).1
      have sf1 := (Vs.out 1 _ rfl).2
      have o0 := (Vo.out 0 _ rfl).1
      have of0 := (Vo.out 0 _ rfl).2
      have o1 := (Vo.out 1 _ rfl).1
      have of1 := (Vo.out 1 _ rfl).2
      have v0 := (Vv.out 0 _ rfl).1
      have vf0 := (Vv.out 0 _ rfl).2
      have v1 := (Vv.out 1 _ rfl).1
      have vf1 := (Vv.out 1 _ rfl).2
      have x0 := (Vx.out 0 _ rfl).1
      have xf0 := (Vx.out 0 _ rfl).2
      have x1 := (Vx.out 1 _ rfl).1
      have xf1 := (Vx.out 1 _ rfl).2
      go_wp2
      go_ret
      exact ⟨rfl, HB6.out⟩
    · have HO := Lib.hid hs
      clear hs
      go_wp2_with fail
      refine (sackSeen_not c _ k cap gs _ ((GA.out).below (below_box (.cells (List.toArray [.int .i64 c, .slice (some ⟨g, 0, none⟩) k cap]) 41) (Nat.le_refl _))) HO.out).mono ?_
      rintro e w2 ⟨rfl, hb2⟩
      have Vs := Lib.hid ((VarN.new_at (w := w1) (d := w1.heap.size) (by simp) [.int .i64 c, .slice (some ⟨g, 0, none⟩) k cap] 41).below hb2 (by simp))
      have HB2 := Lib.hid (((hb1).alloc (Nat.le_trans hb1.size (by exact Nat.le_refl _)) (.cells (List.toArray [.int .i64 c, .slice (some ⟨g, 0, none⟩) k cap]) 41)).trans (hb2.mono (Nat.le_trans hb1.size (by simp <;> omega))))
      have lts : w1.heap.size < w2.heap.size := lt_of_cell (Vs.out 0 _ rfl).1
      have nes : ¬ w1.heap.size = w2.heap.size := by omega
      have GA := Lib.hid (((GA.out).below (below_box (.cells (List.toArray [.int .i64 c, .slice (some ⟨g, 0, none⟩) k cap]) 41) (Nat.le_refl _))).below hb2)
      clear hb2
      have s0 := (Vs.out 0 _ rfl).1
      have sf0 := (Vs.out 0 _ rfl).2
      have s1 := (Vs.out 1 _ rfl).1
      have sf1 := (Vs.out 1 _ rfl).2
      go_wp2_with fail
      refine (sSackSeen_not c _ k cap gs _ ((GA.out).below (below_box (.cells (List.toArray [.int .i64 0, .slice none 0 0]) 26) (Nat.le_refl _))) HO.out).mono ?_
      rintro e w3 ⟨rfl, hb3⟩
      clear s0 sf0 s1 sf1
      have Vs := Lib.hid (((Vs.out).alloc (.cells (List.toArray [.int .i64 0, .slice none 0 0]) 26) (by omega)).below hb3 (by simp; omega))
      have Vo := Lib.hid ((VarN.new_at (w := w2) (d := w2.heap.size) (by simp) [.int .i64 0, .slice none 0 0] 26).below hb3 (by simp))
      have HB3 := Lib.hid (((HB2.out).alloc (Nat.le_trans HB2.out.size (by exact Nat.le_refl _)) (.cells (List.toArray [.int .i64 0, .slice none 0 0]) 26)).trans (hb3.mono (Nat.le_trans HB2.out.size (by simp <;> omega))))
      have lts : w1.heap.size < w3.heap.size := lt_of_cell (Vs.out 0 _ rfl).1
      have lto : w2.heap.size < w3.heap.size := lt_of_cell (Vo.out 0 _ rfl).1
      have nes : ¬ w1.heap.size = w3.heap.size := by omega
      have neo : ¬ w2.heap.size = w3.heap.size := by omega
      have GA := Lib.hid (((GA.out).below (below_box (.cells (List.toArray [.int .i64 0, .slice none 0 0]) 26) (Nat.le_refl _))).below hb3)
      clear hb3
      have s0 := (Vs.out 0 _ rfl).1
      have sf0 := (Vs.out 0 _ rfl).2
      have s1 := (Vs.out 1 _ rfl).1
      have sf1 := (Vs.out 1 _ rfl).2
      have o0 := (Vo.out 0 _ rfl).1
      have of0 := (Vo.out 0 _ rfl).2
      have o1 := (Vo.out 1 _ rfl).1
      have of1 := (Vo.out 1 _ rfl).2
      go_wp2_with fail
      refine (sameSeen_same 0 none none 0 0 0 [] _ (Ns.nil _) (Ns.nil _)).mono ?_
      rintro e w4 ⟨rfl, hb4⟩
      clear s0 sf0 s1 sf1 o0 of0 o1 of1
      have Vs := Lib.hid (((Vs.out).alloc (.cells (List.toArray [.int .i64 0, .slice none 0 0]) 26) (by omega)).below hb4 (by simp; omega))
      have Vo := Lib.hid (((Vo.out).alloc (.cells (List.toArray [.int .i64 0, .slice none 0 0]) 26) (by omega)).below hb4 (by simp; omega))
      have Vv := Lib.hid ((VarN.new_at (w := w3) (d := w3.heap.size) (by simp) [.int .i64 0, .slice none 0 0] 26).below hb4 (by simp))
      have HB4 := Lib.hid (((HB3.out).alloc (Nat.le_trans HB3.out.size (by exact Nat.le_refl _)) (.cells (List.toArray [.int .i64 0, .slice none 0 0]) 26)).trans (hb4.mono (Nat.le_trans HB3.out.size (by simp <;> omega))))
      have lts : w1.heap.size < w4.heap.size := lt_of_cell (Vs.out 0 _ rfl).1
      have lto : w2.heap.size < w4.heap.size := lt_of_cell (Vo.out 0 _ rfl).1
      have ltv : w3.heap.size < w4.heap.size := lt_of_cell (Vv.out 0 _ rfl).1
      have nes : ¬ w1.heap.size = w4.heap.size := by omega
      have neo : ¬ w2.heap.size = w4.heap.size := by omega
      have nev : ¬ w3.heap.size = w4.heap.size := by omega
      have GA := Lib.hid (((GA.out).below (below_box (.cells (List.toArray [.int .i64 0, .slice none 0 0]) 26) (Nat.le_refl _))).below hb4)
      clear hb4
      have s0 := (Vs.out 0 _ rfl).1
      have sf0 := (Vs.out 0 _ rfl).2
      have s1 := (Vs.out 1 _ rfl).1
      have sf1 := (Vs.out 1 _ rfl).2
      have o0 := (Vo.out 0 _ rfl).1
      have of0 := (Vo.out 0 _ rfl).2
      have o1 := (Vo.out 1 _ rfl).1
      have of1 := (Vo.out 1 _ rfl).2
      have v0 := (Vv.out 0 _ rfl).1
      have vf0 := (Vv.out 0 _ rfl).2
      have v1 := (Vv.out 1 _ rfl).1
      have vf1 := (Vv.out 1 _ rfl).2
      go_wp2_with fail
      refine (sameSeen_same 0 none none 0 0 0 [] _ (Ns.nil _) (Ns.nil _)).mono ?_
      rintro e w5 ⟨rfl, hb5⟩
      clear s0 sf0 s1 sf1 o0 of0 o1 of1 v0 vf0 v1 vf1
      have Vs := Lib.hid ((Vs.out).below hb5 lts)
      have Vo := Lib.hid ((Vo.out).below hb5 lto)
      have Vv := Lib.hid ((Vv.out).below hb5 ltv)
      have HB5 := Lib.hid (HB4.out.trans (hb5.mono HB4.out.size))
      have lts : w1.heap.size < w5.heap.size := lt_of_cell (Vs.out 0 _ rfl).1
      have lto : w2.heap.size < w5.heap.size := lt_of_cell (Vo.out 0 _ rfl).1
      have ltv : w3.heap.size < w5.heap.size := lt_of_cell (Vv.out 0 _ rfl).1
      have nes : ¬ w1.heap.size = w5.heap.size := by omega
      have neo : ¬ w2.heap.size = w5.heap.size := by omega
      have nev : ¬ w3.heap.size = w5.heap.size := by omega
      have GA := Lib.hid ((GA.out).below hb5)
      clear hb5
      have s0 := (Vs.out 0 _ rfl).1
      have sf0 := (Vs.out 0 _ rfl).2
      have s1 := (Vs.out 1 _ rfl).1
      have sf1 := (Vs.out 1 _ rfl).2
      have o0 := (Vo.out 0 _ rfl).1
      have of0 := (Vo.out 0 _ rfl).2
      have o1 := (Vo.out 1 _ rfl).1
      have of1 := (Vo.out 1 _ rfl).2
      have v0 := (Vv.out 0 _ rfl).1
      have vf0 := (Vv.out 0 _ rfl).2
      have v1 := (Vv.out 1 _ rfl).1
      have vf1 := (Vv.out 1 _ rfl).2
      go_wp2
      go_ret
      exact ⟨rfl, HB5.out⟩

end Go.Proofs.Ytcjabomcndahbaa
