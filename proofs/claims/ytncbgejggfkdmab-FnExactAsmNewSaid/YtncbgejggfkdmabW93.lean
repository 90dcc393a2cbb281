/- The walks of the laws on a new assembly. -/
import Derived.Test.YtncbgejggfkdmabK165
import Derived.Test.YtncbgejggfkdmabK166
import Derived.Test.YtncbgejggfkdmabK153
import Derived.Handy
namespace Go.Proofs.Ytncbgejggfkdmab
open Go.RowKit Go.PlainAid

theorem asmNew_at (m : Nat) (w : World) (h : 1 ≤ m ∧ m ≤ 4) : Calls Try.prog 13 #[.int .i64 (m : Int)] w (NewA m w) := asmNew_yes (m : Int) w (by omega)

theorem sAsmNew_at (m : Nat) (w : World) (h : 1 ≤ m ∧ m ≤ 4) : Calls Try.prog 14 #[.int .i64 (m : Int)] w (NewA m w) := sAsmNew_yes (m : Int) w (by omega)

set_option maxHeartbeats 4000000 in
theorem walk_fnAsmNewBad (a0 : Option Addr) (len0 cap0 : Nat) (z0 : List Int) (w : World) (w0 : IsRow .u8 w a0 len0 cap0 z0) :
    Calls Try.prog 4 #[.slice a0 len0 cap0] w fun e w' => e = .returned (.bool true) ∧ Below w.heap.size w w' := by
  have H := Lib.hid w0
  clear w0
  by_cases hl : (1048576 : Int) < len0
  · go_enter Try.func4, Try.ntmps4
    go_wp2
    go_ret
    exact ⟨rfl, Below.refl _ _⟩
  · go_enter Try.func4, Try.ntmps4
    go_wp2_with fail
    refine (drawAsmNew_any a0 len0 cap0 z0 _ H.out).mono ?_
    rintro e w1 ⟨n, rfl, ⟨n0, n1⟩, hb1⟩
    by_cases hn : 1 ≤ n ∧ n ≤ 4
    · obtain ⟨m, rfl⟩ : ∃ m : Nat, n = (m : Int) := ⟨n.toNat, by omega⟩
      have HM := Lib.hid (show 1 ≤ m ∧ m ≤ 4 by omega)
      have i1 : (1 : Int) ≤ (m : Int) := by omega
      have i4 : (m : Int) ≤ 4 := by omega
      clear hn
      go_wp2_with fail
      refine (asmNew_at m _ HM.out).mono ?_
      rintro e w2 ⟨g, p, rfl, o1, o2, hb2⟩
      have HB2 := Lib.hid (hb1.trans (hb2.mono hb1.size))
      clear hb2
      have NA := Lib.hid (own_ns o1)
      have PA := Lib.hid (own_pts o2)
      clear o1 o2
      go_wp2_with fail
      refine (sAsmNew_at m _ HM.out).mono ?_
      rintro e w3 ⟨g2, p2, rfl, o3, o4, hb3⟩
      have Vo := Lib.hid ((VarN.new_at (w := w2) (d := w2.heap.size) (by simp) [.slice (some ⟨g, 0, none⟩) m m, .slice p 0 0] 27).below hb3 (by simp))
      have HB3 := Lib.hid (((HB2.out).alloc (Nat.le_trans HB2.out.size (by exact Nat.le_refl _)) (.cells (List.toArray [.slice (some ⟨g, 0, none⟩) m m, .slice p 0 0]) 27)).trans (hb3.mono (Nat.le_trans HB2.out.size (by simp <;> omega))))
      have lto : w2.heap.size < w3.heap.size := lt_of_cell (Vo.out 0 _ rfl).1
      have neo : ¬ w2.heap.size = w3.heap.size := by omega
      have NA := Lib.hid (((NA.out).below (below_box (.cells (List.toArray [.slice (some ⟨g, 0, none⟩) m m, .slice p 0 0]) 27) (Nat.le_refl _))).below hb3)
      have PA := Lib.hid (((PA.out).below (below_box (.cells (List.toArray [.slice (some ⟨g, 0, none⟩) m m, .slice p 0 0]) 27) (Nat.le_refl _))).below hb3)
      clear hb3
      have NB := Lib.hid (own_ns o3)
      have PB := Lib.hid (own_pts o4)
      clear o3 o4
      have o0 := (Vo.out 0 _ rfl).1
      have of0 := (Vo.out 0 _ rfl).2
      have o1 := (Vo.out 1 _ rfl).1
      have of1 := (Vo.out 1 _ rfl).2
      go_wp2_with fail
      refine (sameAsm_same _ _ _ _ m m m 0 0 0 (List.replicate m 0) [] _ ((NA.out).below (below_box (.cells (List.toArray [.slice (some ⟨g2, 0, none⟩) m m, .slice p2 0 0]) 27) (Nat.le_refl _))) ((NB.out).below (below_box (.cells (List.toArray [.slice (some ⟨g2, 0, none⟩) m m, .slice p2 0 0]) 27) (Nat.le_refl _))) ((PA.out).below (below_box (.cells (List.toArray [.slice (some ⟨g2, 0, none⟩) m m, .slice p2 0 0]) 27) (Nat.le_refl _))) ((PB.out).below (below_box (.cells (List.toArray [.slice (some ⟨g2, 0, none⟩) m m, .slice p2 0 0]) 27) (Nat.le_refl _)))).mono ?_
      rintro e w4 ⟨rfl, hb4⟩
      clear o0 of0 o1 of1
      have Vo := Lib.hid (((Vo.out).alloc (.cells (List.toArray [.slice (some ⟨g2, 0, none⟩) m m, .slice p2 0 0]) 27) (by omega)).below hb4 (by simp; omega))
      have Vv := Lib.hid ((VarN.new_at (w := w3) (d := w3.heap.size) (by simp) [.slice (some ⟨g2, 0, none⟩) m m, .slice p2 0 0] 27).below hb4 (by simp))
      have HB4 := Lib.hid (((HB3.out).alloc (Nat.le_trans HB3.out.size (by exact Nat.le_refl _)) (.cells (List.toArray [.slice (some ⟨g2, 0, none⟩) m m, .slice p2 0 0]) 27)).trans (hb4.mono (Nat.le_trans HB3.out.size (by simp <;> omega))))
      have lto : w2.heap.size < w4.heap.size := lt_of_cell (Vo.out 0 _ rfl).1
      have ltv : w3.heap.size < w4.heap.size := lt_of_cell (Vv.out 0 _ rfl).1
      have neo : ¬ w2.heap.size = w4.heap.size := by omega
      have nev : ¬ w3.heap.size = w4.heap.size := by omega
      have NA := Lib.hid (((NA.out).below (below_box (.cells (List.toArray [.slice (some ⟨g2, 0, none⟩) m m, .slice p2 0 0]) 27) (Nat.le_refl _))).below hb4)
      have PA := Lib.hid (((PA.out).below (below_box (.cells (List.toArray [.slice (some ⟨g2, 0, none⟩) m m, .slice p2 0 0]) 27) (Nat.le_refl _))).below hb4)
      have NB := Lib.hid (((NB.out).below (below_box (.cells (List.toArray [.slice (some ⟨g2, 0, none⟩) m m, .slice p2 0 0]) 27) (Nat.le_refl _))).below hb4)
      have PB := Lib.hid (((PB.out).below (below_box (.cells (List.toArray [.slice (some ⟨g2, 0, none⟩) m m, .slice p2 0 0]) 27) (Nat.le_refl _))).below hb4)
      clear hb4
      have o0 := (Vo.out 0 _ rfl).1
      have of0 := (Vo.out 0 _ rfl).2
      have o1 := (Vo.out 1 _ rfl).1
      have of1 := (Vo.out 1 _ rfl).2
      have v0 := (Vv.out 0 _ rfl).1
      have vf0 := (Vv.out 0 _ rfl).2
      have v1 := (Vv.out 1 _ rfl).1
      have vf1 := (Vv.out 1 _ rfl).2
      go_wp2
      go_ret
      exact ⟨rfl, HB4.out⟩
    · have HN := Lib.hid hn
      clear hn
      go_wp2_with fail
      refine (asmNew_no n _ HN.out).mono ?_
      rintro e w2 ⟨rfl, hb2⟩
      have HB2 := Lib.hid (hb1.trans (hb2.mono hb1.size))
      clear hb2
      go_wp2_with fail
      refine (sAsmNew_no n _ HN.out).mono ?_
      rintro e w3 ⟨rfl, hb3⟩
      have Vo := Lib.hid ((VarN.new_at (w := w2) (d := w2.heap.size) (by simp) [.slice none 0 0, .slice none 0 0] 27).below hb3 (by simp))
      have HB3 := Lib.hid (((HB2.out).alloc (Nat.le_trans HB2.out.size (by exact Nat.le_refl _)) (.cells (List.toArray [.slice none 0 0, .slice none 0 0]) 27)).trans (hb3.mono (Nat.le_trans HB2.out.size (by simp <;> omega))))
      have lto : w2.heap.size < w3.heap.size := lt_of_cell (Vo.out 0 _ rfl).1
      have neo : ¬ w2.heap.size = w3.heap.size := by omega
      clear hb3
      have o0 := (Vo.out 0 _ rfl).1
      have of0 := (Vo.out 0 _ rfl).2
      have o1 := (Vo.out 1 _ rfl).1
      have of1 := (Vo.out 1 _ rfl).2
      go_wp2_with fail
      refine (sameAsm_same none none none none 0 0 0 0 0 0 [] [] _ (Ns.nil _) (Ns.nil _) (Pts.nil _) (Pts.nil _)).mono ?_
      rintro e w4 ⟨rfl, hb4⟩
      clear o0 of0 o1 of1
      have Vo := Lib.hid (((Vo.out).alloc (.cells (List.toArray [.slice none 0 0, .slice none 0 0]) 27) (by omega)).below hb4 (by simp; omega))
      have Vv := Lib.hid ((VarN.new_at (w := w3) (d := w3.heap.size) (by simp) [.slice none 0 0, .slice none 0 0] 27).below hb4 (by simp))
      have HB4 := Lib.hid (((HB3.out).alloc (Nat.le_trans HB3.out.size (by exact Nat.le_refl _)) (.cells (List.toArray [.slice none 0 0, .slice none 0 0]) 27)).trans (hb4.mono (Nat.le_trans HB3.out.size (by simp <;> omega))))
      have lto : w2.heap.size < w4.heap.size := lt_of_cell (Vo.out 0 _ rfl).1
      have ltv : w3.heap.size < w4.heap.size := lt_of_cell (Vv.out 0 _ rfl).1
      have neo : ¬ w2.heap.size = w4.heap.size := by omega
      have nev : ¬ w3.heap.size = w4.heap.size := by omega
      clear hb4
      by_cases h1n : 1 ≤ n
      · have n4 : ¬ n ≤ 4 := by have := HN.out; omega
        have o0 := (Vo.out 0 _ rfl).1
        have of0 := (Vo.out 0 _ rfl).2
        have o1 := (Vo.out 1 _ rfl).1
        have of1 := (Vo.out 1 _ rfl).2
        have v0 := (Vv.out 0 _ rfl).1
        have vf0 := (Vv.out 0 _ rfl).2
        have v1 := (Vv.out 1 _ rfl).1
        have vf1 := (Vv.out 1 _ rfl).2
        go_wp2
        go_ret
        exact ⟨ret_b (by simp [n4]), HB4.out⟩
      · have o0 := (Vo.out 0 _ rfl).1
        have of0 := (Vo.out 0 _ rfl).2
        have o1 := (Vo.out 1 _ rfl).1
        have of1 := (Vo.out 1 _ rfl).2
        have v0 := (Vv.out 0 _ rfl).1
        have vf0 := (Vv.out 0 _ rfl).2
        have v1 := (Vv.out 1 _ rfl).1
        have vf1 := (Vv.out 1 _ rfl).2
        go_wp2
        go_ret
        exact ⟨rfl, HB4.out⟩

end Go.Proofs.Ytncbgejggfkdmab
