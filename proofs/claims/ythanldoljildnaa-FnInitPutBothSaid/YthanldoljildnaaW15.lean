/- The walks of the laws on inits: each call returns true and touches nothing that was there. -/
import Derived.Test.YthanldoljildnaaK25
import Derived.Test.YthanldoljildnaaK24
import Derived.Test.YthanldoljildnaaK27
import Derived.Test.YthanldoljildnaaK11
import Derived.Test.YthanldoljildnaaK17
import Derived.Handy
namespace Go.Proofs.Ythanldoljildnaa
open Go.RowKit Go.PlainAid

theorem ser_of {a : Int} (h : 0 ≤ a ∧ a ≤ 65535) : Ser a := ⟨h.1, by omega⟩
theorem addV_zero {a : Int} (h : Ser a) : (0 : Int) ≤ addV a 0 := by
  rw [addV_yes 0 h]
  unfold addS
  omega
theorem addV_not {a : Int} (h : ¬ Ser a) : ¬ (0 : Int) ≤ addV a 0 := by
  rw [addV_no 0 h]
  decide
theorem init_read {a b c d : Int} (h : InitOk a b c d) : gotInitV (be (initS a b c d) 0 4) (be (initS a b c d) 4 2) (be (initS a b c d) 6 2) (be (initS a b c d) 8 2) = gotInitV a b c d := by
  rw [init_tag h, init_window h, init_streams h, init_tsn h]

set_option maxHeartbeats 1000000 in
theorem walk_fnInitPut (a0 : Option Addr) (len0 cap0 : Nat) (z0 : List Int) (w : World) (w0 : IsRow .u8 w a0 len0 cap0 z0) :
    Calls Try.prog 3 #[.slice a0 len0 cap0] w fun e w' => e = .returned (.bool true) ∧ Below w.heap.size w w' := by
  have H := Lib.hid w0
  clear w0
  by_cases hl : (1048576 : Int) < len0
  · go_enter Try.func3, Try.ntmps3
    go_wp2
    go_ret
    exact ⟨rfl, Below.refl _ _⟩
  · go_enter Try.func3, Try.ntmps3
    go_wp2_with fail
    refine (drawInitPut_any a0 len0 cap0 z0 _ H.out).mono ?_
    rintro e w1 ⟨a, b, c, d, y, rfl, np, hb1⟩
    have NP := Lib.hid np
    clear np
    by_cases hc : InitOk a b c d
    · have HC := Lib.hid hc
      clear hc
      cases y
      · go_wp2_with fail
        refine (initPut_yes a b c d false _ HC.out).mono ?_
        rw [if_neg (by decide)]
        rintro e w2 ⟨rfl, hb2⟩
        have Vd := Lib.hid ((VarN.new_at (w := w1) (d := w1.heap.size) (by simp) [.int .i64 a, .int .i64 b, .int .i64 c, .int .i64 d] 24).below hb2 (by simp))
        have HB2 := Lib.hid (((hb1).alloc (Nat.le_trans hb1.size (by exact Nat.le_refl _)) (.cells (List.toArray [.int .i64 a, .int .i64 b, .int .i64 c, .int .i64 d]) 24)).trans (hb2.mono (Nat.le_trans hb1.size (by simp <;> omega))))
        have ltd : w1.heap.size < w2.heap.size := lt_of_cell (Vd.out 0 _ rfl).1
        have ned : ¬ w1.heap.size = w2.heap.size := by omega
        clear hb2
        unfold madeV
        have d0 := (Vd.out 0 _ rfl).1
        have df0 := (Vd.out 0 _ rfl).2
        have d1 := (Vd.out 1 _ rfl).1
        have df1 := (Vd.out 1 _ rfl).2
        have d2 := (Vd.out 2 _ rfl).1
        have df2 := (Vd.out 2 _ rfl).2
        have d3 := (Vd.out 3 _ rfl).1
        have df3 := (Vd.out 3 _ rfl).2
        go_wp2_with fail
        refine (sInitPut_yes a b c d false _ HC.out).mono ?_
        rw [if_neg (by decide)]
        rintro e w3 ⟨rfl, hb3⟩
        clear d0 df0 d1 df1 d2 df2 d3 df3
        have Vd := Lib.hid (((Vd.out).alloc (.cells (List.toArray [.int .i64 1, .int .i64 0, .string (initS a b c d)]) 28) (by omega)).below hb3 (by simp; omega))
        have Vo := Lib.hid ((VarN.new_at (w := w2) (d := w2.heap.size) (by simp) [.int .i64 1, .int .i64 0, .string (initS a b c d)] 28).below hb3 (by simp))
        have HB3 := Lib.hid (((HB2.out).alloc (Nat.le_trans HB2.out.size (by exact Nat.le_refl _)) (.cells (List.toArray [.int .i64 1, .int .i64 0, .string (initS a b c d)]) 28)).trans (hb3.mono (Nat.le_trans HB2.out.size (by simp <;> omega))))
        have ltd : w1.heap.size < w3.heap.size := lt_of_cell (Vd.out 0 _ rfl).1
        have lto : w2.heap.size < w3.heap.size := lt_of_cell (Vo.out 0 _ rfl).1
        have ned : ¬ w1.heap.size = w3.heap.size := by omega
        have neo : ¬ w2.heap.size = w3.heap.size := by omega
        clear hb3
        unfold madeV
        have E := Lib.hid (init_read HC.out)
        have G := Lib.hid (hasInit_put (k := 1) (by decide) HC.out)
        have d0 := (Vd.out 0 _ rfl).1
        have df0 := (Vd.out 0 _ rfl).2
        have d1 := (Vd.out 1 _ rfl).1
        have df1 := (Vd.out 1 _ rfl).2
        have d2 := (Vd.out 2 _ rfl).1
        have df2 := (Vd.out 2 _ rfl).2
        have d3 := (Vd.out 3 _ rfl).1
        have df3 := (Vd.out 3 _ rfl).2
        have o0 := (Vo.out 0 _ rfl).1
        have of0 := (Vo.out 0 _ rfl).2
        have o1 := (Vo.out 1 _ rfl).1
        have of1 := (Vo.out 1 _ rfl).2
        have o2 := (Vo.out 2 _ rfl).1
        have of2 := (Vo.out 2 _ rfl).2
        go_wp2_with fail
        refine (initGet_yes 1 0 (initS a b c d) _ G.out).mono ?_
        rw [E.out]
        rintro e w4 ⟨rfl, hb4⟩
        clear d0 df0 d1 df1 d2 df2 d3 df3 o0 of0 o1 of1 o2 of2
        have Vd := Lib.hid (((Vd.out).alloc (.cells (List.toArray [.int .i64 1, .int .i64 0, .string (initS a b c d)]) 28) (by omega)).below hb4 (by simp; omega))
        have Vo := Lib.hid (((Vo.out).alloc (.cells (List.toArray [.int .i64 1, .int .i64 0, .string (initS a b c d)]) 28) (by omega)).below hb4 (by simp; omega))
        have Vs := Lib.hid ((VarN.new_at (w := w3) (d := w3.heap.size) (by simp) [.int .i64 1, .int .i64 0, .string (initS a b c d)] 28).below hb4 (by simp))
        have HB4 := Lib.hid (((HB3.out).alloc (Nat.le_trans HB3.out.size (by exact Nat.le_refl _)) (.cells (List.toArray [.int .i64 1, .int .i64 0, .string (initS a b c d)]) 28)).trans (hb4.mono (Nat.le_trans HB3.out.size (by simp <;> omega))))
        have ltd : w1.heap.size < w4.heap.size := lt_of_cell (Vd.out 0 _ rfl).1
        have lto : w2.heap.size < w4.heap.size := lt_of_cell (Vo.out 0 _ rfl).1
        have lts : w3.heap.size < w4.heap.size := lt_of_cell (Vs.out 0 _ rfl).1
        have ned : ¬ w1.heap.size = w4.heap.size := by omega
        have neo : ¬ w2.heap.size = w4.heap.size := by omega
        have nes : ¬ w3.heap.size = w4.heap.size := by omega
        clear hb4
        unfold gotInitV
        have d0 := (Vd.out 0 _ rfl).1
        have df0 := (Vd.out 0 _ rfl).2
        have d1 := (Vd.out 1 _ rfl).1
        have df1 := (Vd.out 1 _ rfl).2
        have d2 := (Vd.out 2 _ rfl).1
        have df2 := (Vd.out 2 _ rfl).2
        have d3 := (Vd.out 3 _ rfl).1
        have df3 := (Vd.out 3 _ rfl).2
        have o0 := (Vo.out 0 _ rfl).1
        have of0 := (Vo.out 0 _ rfl).2
        have o1 := (Vo.out 1 _ rfl).1
        have of1 := (Vo.out 1 _ rfl).2
        have o2 := (Vo.out 2 _ rfl).1
        have of2 := (Vo.out 2 _ rfl).2
        have zi : ((initS a b c d).size : Int) = 10 := by rw [initS_size]; rfl
        go_wp2
        go_ret
        exact ⟨rfl, (HB4.out).alloc (Nat.le_trans HB4.out.size (by exact Nat.le_refl _)) _⟩
      · go_wp2_with fail
        refine (initPut_yes a b c d true _ HC.out).mono ?_
        rw [if_pos rfl]
        rintro e w2 ⟨rfl, hb2⟩
        have Vd := Lib.hid ((VarN.new_at (w := w1) (d := w1.heap.size) (by simp) [.int .i64 a, .int .i64 b, .int .i64 c, .int .i64 d] 24).below hb2 (by simp))
        have HB2 := Lib.hid (((hb1).alloc (Nat.le_trans hb1.size (by exact Nat.le_refl _)) (.cells (List.toArray [.int .i64 a, .int .i64 b, .int .i64 c, .int .i64 d]) 24)).trans (hb2.mono (Nat.le_trans hb1.size (by simp <;> omega))))
        have ltd : w1.heap.size < w2.heap.size := lt_of_cell (Vd.out 0 _ rfl).1
        have ned : ¬ w1.heap.size = w2.heap.size := by omega
        clear hb2
        unfold madeV
        have d0 := (Vd.out 0 _ rfl).1
        have df0 := (Vd.out 0 _ rfl).2
        have d1 := (Vd.out 1 _ rfl).1
        have df1 := (Vd.out 1 _ rfl).2
        have d2 := (Vd.out 2 _ rfl).1
        have df2 := (Vd.out 2 _ rfl).2
        have d3 := (Vd.out 3 _ rfl).1
        have df3 := (Vd.out 3 _ rfl).2
        go_wp2_with fail
        refine (sInitPut_yes a b c d true _ HC.out).mono ?_
        rw [if_pos rfl]
        rintro e w3 ⟨rfl, hb3⟩
        clear d0 df0 d1 df1 d2 df2 d3 df3
        have Vd := Lib.hid (((Vd.out).alloc (.cells (List.toArray [.int .i64 2, .int .i64 0, .string (initS a b c d)]) 28) (by omega)).below hb3 (by simp; omega))
        have Vo := Lib.hid ((VarN.new_at (w := w2) (d := w2.heap.size) (by simp) [.int .i64 2, .int .i64 0, .string (initS a b c d)] 28).below hb3 (by simp))
        have HB3 := Lib.hid (((HB2.out).alloc (Nat.le_trans HB2.out.size (by exact Nat.le_refl _)) (.cells (List.toArray [.int .i64 2, .int .i64 0, .string (initS a b c d)]) 28)).trans (hb3.mono (Nat.le_trans HB2.out.size (by simp <;> omega))))
        have ltd : w1.heap.size < w3.heap.size := lt_of_cell (Vd.out 0 _ rfl).1
        have lto : w2.heap.size < w3.heap.size := lt_of_cell (Vo.out 0 _ rfl).1
        have ned : ¬ w1.heap.size = w3.heap.size := by omega
        have neo : ¬ w2.heap.size = w3.heap.size := by omega
        clear hb3
        unfold madeV
        have E := Lib.hid (init_read HC.out)
        have G := Lib.hid (hasInit_put (k := 2) (by decide) HC.out)
        have d0 := (Vd.out 0 _ rfl).1
        have df0 := (Vd.out 0 _ rfl).2
        have d1 := (Vd.out 1 _ rfl).1
        have df1 := (Vd.out 1 _ rfl).2
        have d2 := (Vd.out 2 _ rfl).1
        have df2 := (Vd.out 2 _ rfl).2
        have d3 := (Vd.out 3 _ rfl).1
        have df3 := (Vd.out 3 _ rfl).2
        have o0 := (Vo.out 0 _ rfl).1
        have of0 := (Vo.out 0 _ rfl).2
        have o1 := (Vo.out 1 _ rfl).1
        have of1 := (Vo.out 1 _ rfl).2
        have o2 := (Vo.out 2 _ rfl).1
        have of2 := (Vo.out 2 _ rfl).2
        go_wp2_with fail
        refine (initGet_yes 2 0 (initS a b c d) _ G.out).mono ?_
        rw [E.out]
        rintro e w4 ⟨rfl, hb4⟩
        clear d0 df0 d1 df1 d2 df2 d3 df3 o0 of0 o1 of1 o2 of2
        have Vd := Lib.hid (((Vd.out).alloc (.cells (List.toArray [.int .i64 2, .int .i64 0, .string (initS a b c d)]) 28) (by omega)).below hb4 (by simp; omega))
        have Vo := Lib.hid (((Vo.out).alloc (.cells (List.toArray [.int .i64 2, .int .i64 0, .string (initS a b c d)]) 28) (by omega)).below hb4 (by simp; omega))
        have Vs := Lib.hid ((VarN.new_at (w := w3) (d := w3.heap.size) (by simp) [.int .i64 2, .int .i64 0, .string (initS a b c d)] 28).below hb4 (by simp))
        have HB4 := Lib.hid (((HB3.out).alloc (Nat.le_trans HB3.out.size (by exact Nat.le_refl _)) (.cells (List.toArray [.int .i64 2, .int .i64 0, .string (initS a b c d)]) 28)).trans (hb4.mono (Nat.le_trans HB3.out.size (by simp <;> omega))))
        have ltd : w1.heap.size < w4.heap.size := lt_of_cell (Vd.out 0 _ rfl).1
        have lto : w2.heap.size < w4.heap.size := lt_of_cell (Vo.out 0 _ rfl).1
        have lts : w3.heap.size < w4.heap.size := lt_of_cell (Vs.out 0 _ rfl).1
        have ned : ¬ w1.heap.size = w4.heap.size := by omega
        have neo : ¬ w2.heap.size = w4.heap.size := by omega
        have nes : ¬ w3.heap.size = w4.heap.size := by omega
        clear hb4
        unfold gotInitV
        have d0 := (Vd.out 0 _ rfl).1
        have df0 := (Vd.out 0 _ rfl).2
        have d1 := (Vd.out 1 _ rfl).1
        have df1 := (Vd.out 1 _ rfl).2
        have d2 := (Vd.out 2 _ rfl).1
        have df2 := (Vd.out 2 _ rfl).2
        have d3 := (Vd.out 3 _ rfl).1
        have df3 := (Vd.out 3 _ rfl).2
        have o0 := (Vo.out 0 _ rfl).1
        have of0 := (Vo.out 0 _ rfl).2
        have o1 := (Vo.out 1 _ rfl).1
        have of1 := (Vo.out 1 _ rfl).2
        have o2 := (Vo.out 2 _ rfl).1
        have of2 := (Vo.out 2 _ rfl).2
        have zi : ((initS a b c d).size : Int) = 10 := by rw [initS_size]; rfl
        go_wp2
        go_ret
        exact ⟨rfl, (HB4.out).alloc (Nat.le_trans HB4.out.size (by exact Nat.le_refl _)) _⟩
    · have HC := Lib.hid hc
      clear hc
      cases y
      · go_wp2_with fail
        refine (initPut_no a b c d false _ HC.out).mono ?_
        rintro e w2 ⟨rfl, hb2⟩
        have Vd := Lib.hid ((VarN.new_at (w := w1) (d := w1.heap.size) (by simp) [.int .i64 a, .int .i64 b, .int .i64 c, .int .i64 d] 24).below hb2 (by simp))
        have HB2 := Lib.hid (((hb1).alloc (Nat.le_trans hb1.size (by exact Nat.le_refl _)) (.cells (List.toArray [.int .i64 a, .int .i64 b, .int .i64 c, .int .i64 d]) 24)).trans (hb2.mono (Nat.le_trans hb1.size (by simp <;> omega))))
        have ltd : w1.heap.size < w2.heap.size := lt_of_cell (Vd.out 0 _ rfl).1
        have ned : ¬ w1.heap.size = w2.heap.size := by omega
        clear hb2
        unfold notMadeV
        have d0 := (Vd.out 0 _ rfl).1
        have df0 := (Vd.out 0 _ rfl).2
        have d1 := (Vd.out 1 _ rfl).1
        have df1 := (Vd.out 1 _ rfl).2
        have d2 := (Vd.out 2 _ rfl).1
        have df2 := (Vd.out 2 _ rfl).2
        have d3 := (Vd.out 3 _ rfl).1
        have df3 := (Vd.out 3 _ rfl).2
        go_wp2_with fail
        refine (sInitPut_no a b c d false _ HC.out).mono ?_
        rintro e w3 ⟨rfl, hb3⟩
        clear d0 df0 d1 df1 d2 df2 d3 df3
        have Vd := Lib.hid (((Vd.out).alloc (.cells (List.toArray [.int .i64 0, .int .i64 0, .string (ByteArray.mk #[])]) 28) (by omega)).below hb3 (by simp; omega))
        have Vo := Lib.hid ((VarN.new_at (w := w2) (d := w2.heap.size) (by simp) [.int .i64 0, .int .i64 0, .string (ByteArray.mk #[])] 28).below hb3 (by simp))
        have HB3 := Lib.hid (((HB2.out).alloc (Nat.le_trans HB2.out.size (by exact Nat.le_refl _)) (.cells (List.toArray [.int .i64 0, .int .i64 0, .string (ByteArray.mk #[])]) 28)).trans (hb3.mono (Nat.le_trans HB2.out.size (by simp <;> omega))))
        have ltd : w1.heap.size < w3.heap.size := lt_of_cell (Vd.out 0 _ rfl).1
        have lto : w2.heap.size < w3.heap.size := lt_of_cell (Vo.out 0 _ rfl).1
        have ned : ¬ w1.heap.size = w3.heap.size := by omega
        have neo : ¬ w2.heap.size = w3.heap.size := by omega
        clear hb3
        unfold notMadeV
        have d0 := (Vd.out 0 _ rfl).1
        have df0 := (Vd.out 0 _ rfl).2
        have d1 := (Vd.out 1 _ rfl).1
        have df1 := (Vd.out 1 _ rfl).2
        have d2 := (Vd.out 2 _ rfl).1
        have df2 := (Vd.out 2 _ rfl).2
        have d3 := (Vd.out 3 _ rfl).1
        have df3 := (Vd.out 3 _ rfl).2
        have o0 := (Vo.out 0 _ rfl).1
        have of0 := (Vo.out 0 _ rfl).2
        have o1 := (Vo.out 1 _ rfl).1
        have of1 := (Vo.out 1 _ rfl).2
        have o2 := (Vo.out 2 _ rfl).1
        have of2 := (Vo.out 2 _ rfl).2
        go_wp2
        go_ret
        exact ⟨rfl, (HB3.out).alloc (Nat.le_trans HB3.out.size (by exact Nat.le_refl _)) _⟩
      · go_wp2_with fail
        refine (initPut_no a b c d true _ HC.out).mono ?_
        rintro e w2 ⟨rfl, hb2⟩
        have Vd := Lib.hid ((VarN.new_at (w := w1) (d := w1.heap.size) (by simp) [.int .i64 a, .int .i64 b, .int .i64 c, .int .i64 d] 24).below hb2 (by simp))
        have HB2 := Lib.hid (((hb1).alloc (Nat.le_trans hb1.size (by exact Nat.le_refl _)) (.cells (List.toArray [.int .i64 a, .int .i64 b, .int .i64 c, .int .i64 d]) 24)).trans (hb2.mono (Nat.le_trans hb1.size (by simp <;> omega))))
        have ltd : w1.heap.size < w2.heap.size := lt_of_cell (Vd.out 0 _ rfl).1
        have ned : ¬ w1.heap.size = w2.heap.size := by omega
        clear hb2
        unfold notMadeV
        have d0 := (Vd.out 0 _ rfl).1
        have df0 := (Vd.out 0 _ rfl).2
        have d1 := (Vd.out 1 _ rfl).1
        have df1 := (Vd.out 1 _ rfl).2
        have d2 := (Vd.out 2 _ rfl).1
        have df2 := (Vd.out 2 _ rfl).2
        have d3 := (Vd.out 3 _ rfl).1
        have df3 := (Vd.out 3 _ rfl).2
        go_wp2_with fail
        refine (sInitPut_no a b c d true _ HC.out).mono ?_
        rintro e w3 ⟨rfl, hb3⟩
        clear d0 df0 d1 df1 d2 df2 d3 df3
        have Vd := Lib.hid (((Vd.out).alloc (.cells (List.toArray [.int .i64 0, .int .i64 0, .string (ByteArray.mk #[])]) 28) (by omega)).below hb3 (by simp; omega))
        have Vo := Lib.hid ((VarN.new_at (w := w2) (d := w2.heap.size) (by simp) [.int .i64 0, .int .i64 0, .string (ByteArray.mk #[])] 28).below hb3 (by simp))
        have HB3 := Lib.hid (((HB2.out).alloc (Nat.le_trans HB2.out.size (by exact Nat.le_refl _)) (.cells (List.toArray [.int .i64 0, .int .i64 0, .string (ByteArray.mk #[])]) 28)).trans (hb3.mono (Nat.le_trans HB2.out.size (by simp <;> omega))))
        have ltd : w1.heap.size < w3.heap.size := lt_of_cell (Vd.out 0 _ rfl).1
        have lto : w2.heap.size < w3.heap.size := lt_of_cell (Vo.out 0 _ rfl).1
        have ned : ¬ w1.heap.size = w3.heap.size := by omega
        have neo : ¬ w2.heap.size = w3.heap.size := by omega
        clear hb3
        unfold notMadeV
        have d0 := (Vd.out 0 _ rfl).1
        have df0 := (Vd.out 0 _ rfl).2
        have d1 := (Vd.out 1 _ rfl).1
        have df1 := (Vd.out 1 _ rfl).2
        have d2 := (Vd.out 2 _ rfl).1
        have df2 := (Vd.out 2 _ rfl).2
        have d3 := (Vd.out 3 _ rfl).1
        have df3 := (Vd.out 3 _ rfl).2
        have o0 := (Vo.out 0 _ rfl).1
        have of0 := (Vo.out 0 _ rfl).2
        have o1 := (Vo.out 1 _ rfl).1
        have of1 := (Vo.out 1 _ rfl).2
        have o2 := (Vo.out 2 _ rfl).1
        have of2 := (Vo.out 2 _ rfl).2
        go_wp2
        go_ret
        exact ⟨rfl, (HB3.out).alloc (Nat.le_trans HB3.out.size (by exact Nat.le_refl _)) _⟩

set_option maxHeartbeats 1000000 in
theorem walk_fnInitPutBoth (a0 : Option Addr) (len0 cap0 : Nat) (z0 : List Int) (w : World) (w0 : IsRow .u8 w a0 len0 cap0 z0) :
    Calls Try.prog 4 #[.slice a0 len0 cap0] w fun e w' => e = .returned (.bool true) ∧ Below w.heap.size w w' := by
  have H := Lib.hid w0
  clear w0
  by_cases hl : (1048576 : Int) < len0
  · go_enter Try.func4, Try.ntmps4
    go_wp2
    go_ret
    exact ⟨rfl, Below.refl _ _⟩
  · go_enter Try.func4, Try.ntmps4
    go_wp2_with fail
    refine (drawInitPut_any a0 len0 cap0 z0 _ H.out).mono ?_
    rintro e w1 ⟨a, b, c, d, y, rfl, np, hb1⟩
    have NP := Lib.hid np
    clear np
    by_cases hc : InitOk a b c d
    · have HC := Lib.hid hc
      clear hc
      cases y
      · go_wp2_with fail
        refine (initPut_yes a b c d false _ HC.out).mono ?_
        rw [if_neg (by decide)]
        rintro e w2 ⟨rfl, hb2⟩
        have Vd := Lib.hid ((VarN.new_at (w := w1) (d := w1.heap.size) (by simp) [.int .i64 a, .int .i64 b, .int .i64 c, .int .i64 d] 24).below hb2 (by simp))
        have HB2 := Lib.hid (((hb1).alloc (Nat.le_trans hb1.size (by exact Nat.le_refl _)) (.cells (List.toArray [.int .i64 a, .int .i64 b, .int .i64 c, .int .i64 d]) 24)).trans (hb2.mono (Nat.le_trans hb1.size (by simp <;> omega))))
        have ltd : w1.heap.size < w2.heap.size := lt_of_cell (Vd.out 0 _ rfl).1
        have ned : ¬ w1.heap.size = w2.heap.size := by omega
        clear hb2
        unfold madeV
        have d0 := (Vd.out 0 _ rfl).1
        have df0 := (Vd.out 0 _ rfl).2
        have d1 := (Vd.out 1 _ rfl).1
        have df1 := (Vd.out 1 _ rfl).2
        have d2 := (Vd.out 2 _ rfl).1
        have df2 := (Vd.out 2 _ rfl).2
        have d3 := (Vd.out 3 _ rfl).1
        have df3 := (Vd.out 3 _ rfl).2
        go_wp2_with fail
        refine (sInitPut_yes a b c d false _ HC.out).mono ?_
        rw [if_neg (by decide)]
        rintro e w3 ⟨rfl, hb3⟩
        clear d0 df0 d1 df1 d2 df2 d3 df3
        have Vd := Lib.hid (((Vd.out).alloc (.cells (List.toArray [.int .i64 1, .int .i64 0, .string (initS a b c d)]) 28) (by omega)).below hb3 (by simp; omega))
        have Vo := Lib.hid ((VarN.new_at (w := w2) (d := w2.heap.size) (by simp) [.int .i64 1, .int .i64 0, .string (initS a b c d)] 28).below hb3 (by simp))
        have HB3 := Lib.hid (((HB2.out).alloc (Nat.le_trans HB2.out.size (by exact Nat.le_refl _)) (.cells (List.toArray [.int .i64 1, .int .i64 0, .string (initS a b c d)]) 28)).trans (hb3.mono (Nat.le_trans HB2.out.size (by simp <;> omega))))
        have ltd : w1.heap.size < w3.heap.size := lt_of_cell (Vd.out 0 _ rfl).1
        have lto : w2.heap.size < w3.heap.size := lt_of_cell (Vo.out 0 _ rfl).1
        have ned : ¬ w1.heap.size = w3.heap.size := by omega
        have neo : ¬ w2.heap.size = w3.heap.size := by omega
        clear hb3
        unfold madeV
        have d0 := (Vd.out 0 _ rfl).1
        have df0 := (Vd.out 0 _ rfl).2
        have d1 := (Vd.out 1 _ rfl).1
        have df1 := (Vd.out 1 _ rfl).2
        have d2 := (Vd.out 2 _ rfl).1
        have df2 := (Vd.out 2 _ rfl).2
        have d3 := (Vd.out 3 _ rfl).1
        have df3 := (Vd.out 3 _ rfl).2
        have o0 := (Vo.out 0 _ rfl).1
        have of0 := (Vo.out 0 _ rfl).2
        have o1 := (Vo.out 1 _ rfl).1
        have of1 := (Vo.out 1 _ rfl).2
        have o2 := (Vo.out 2 _ rfl).1
        have of2 := (Vo.out 2 _ rfl).2
        go_wp2_with fail
        refine (initPut_yes a b c d true _ HC.out).mono ?_
        rw [if_pos rfl]
        rintro e w4 ⟨rfl, hb4⟩
        clear d0 df0 d1 df1 d2 df2 d3 df3 o0 of0 o1 of1 o2 of2
        have Vd := Lib.hid (((Vd.out).alloc (.cells (List.toArray [.int .i64 1, .int .i64 0, .string (initS a b c d)]) 28) (by omega)).below hb4 (by simp; omega))
        have Vo := Lib.hid (((Vo.out).alloc (.cells (List.toArray [.int .i64 1, .int .i64 0, .string (initS a b c d)]) 28) (by omega)).below hb4 (by simp; omega))
        have Vs := Lib.hid ((VarN.new_at (w := w3) (d := w3.heap.size) (by simp) [.int .i64 1, .int .i64 0, .string (initS a b c d)] 28).below hb4 (by simp))
        have HB4 := Lib.hid (((HB3.out).alloc (Nat.le_trans HB3.out.size (by exact Nat.le_refl _)) (.cells (List.toArray [.int .i64 1, .int .i64 0, .string (initS a b c d)]) 28)).trans (hb4.mono (Nat.le_trans HB3.out.size (by simp <;> omega))))
        have ltd : w1.heap.size < w4.heap.size := lt_of_cell (Vd.out 0 _ rfl).1
        have lto : w2.heap.size < w4.heap.size := lt_of_cell (Vo.out 0 _ rfl).1
        have lts : w3.heap.size < w4.heap.size := lt_of_cell (Vs.out 0 _ rfl).1
        have ned : ¬ w1.heap.size = w4.heap.size := by omega
        have neo : ¬ w2.heap.size = w4.heap.size := by omega
        have nes : ¬ w3.heap.size = w4.heap.size := by omega
        clear hb4
        unfold madeV
        have o0 := (Vo.out 0 _ rfl).1
        have of0 := (Vo.out 0 _ rfl).2
        have o1 := (Vo.out 1 _ rfl).1
        have of1 := (Vo.out 1 _ rfl).2
        have o2 := (Vo.out 2 _ rfl).1
        have of2 := (Vo.out 2 _ rfl).2
        go_wp2
        go_ret
        exact ⟨rfl, (HB4.out).alloc (Nat.le_trans HB4.out.size (by exact Nat.le_refl _)) _⟩
      · go_wp2_with fail
        refine (initPut_yes a b c d true _ HC.out).mono ?_
        rw [if_pos rfl]
        rintro e w2 ⟨rfl, hb2⟩
        have Vd := Lib.hid ((VarN.new_at (w := w1) (d := w1.heap.size) (by simp) [.int .i64 a, .int .i64 b, .int .i64 c, .int .i64 d] 24).below hb2 (by simp))
        have HB2 := Lib.hid (((hb1).alloc (Nat.le_trans hb1.size (by exact Nat.le_refl _)) (.cells (List.toArray [.int .i64 a, .int .i64 b, .int .i64 c, .int .i64 d]) 24)).trans (hb2.mono (Nat.le_trans hb1.size (by simp <;> omega))))
        have ltd : w1.heap.size < w2.heap.size := lt_of_cell (Vd.out 0 _ rfl).1
        have ned : ¬ w1.heap.size = w2.heap.size := by omega
        clear hb2
        unfold madeV
        have d0 := (Vd.out 0 _ rfl).1
        have df0 := (Vd.out 0 _ rfl).2
        have d1 := (Vd.out 1 _ rfl).1
        have df1 := (Vd.out 1 _ rfl).2
        have d2 := (Vd.out 2 _ rfl).1
        have df2 := (Vd.out 2 _ rfl).2
        have d3 := (Vd.out 3 _ rfl).1
        have df3 := (Vd.out 3 _ rfl).2
        go_wp2_with fail
        refine (sInitPut_yes a b c d true _ HC.out).mono ?_
        rw [if_pos rfl]
        rintro e w3 ⟨rfl, hb3⟩
        clear d0 df0 d1 df1 d2 df2 d3 df3
        have Vd := Lib.hid (((Vd.out).alloc (.cells (List.toArray [.int .i64 2, .int .i64 0, .string (initS a b c d)]) 28) (by omega)).below hb3 (by simp; omega))
        have Vo := Lib.hid ((VarN.new_at (w := w2) (d := w2.heap.size) (by simp) [.int .i64 2, .int .i64 0, .string (initS a b c d)] 28).below hb3 (by simp))
        have HB3 := Lib.hid (((HB2.out).alloc (Nat.le_trans HB2.out.size (by exact Nat.le_refl _)) (.cells (List.toArray [.int .i64 2, .int .i64 0, .string (initS a b c d)]) 28)).trans (hb3.mono (Nat.le_trans HB2.out.size (by simp <;> omega))))
        have ltd : w1.heap.size < w3.heap.size := lt_of_cell (Vd.out 0 _ rfl).1
        have lto : w2.heap.size < w3.heap.size := lt_of_cell (Vo.out 0 _ rfl).1
        have ned : ¬ w1.heap.size = w3.heap.size := by omega
        have neo : ¬ w2.heap.size = w3.heap.size := by omega
        clear hb3
        unfold madeV
        have d0 := (Vd.out 0 _ rfl).1
        have df0 := (Vd.out 0 _ rfl).2
        have d1 := (Vd.out 1 _ rfl).1
        have df1 := (Vd.out 1 _ rfl).2
        have d2 := (Vd.out 2 _ rfl).1
        have df2 := (Vd.out 2 _ rfl).2
        have d3 := (Vd.out 3 _ rfl).1
        have df3 := (Vd.out 3 _ rfl).2
        have o0 := (Vo.out 0 _ rfl).1
        have of0 := (Vo.out 0 _ rfl).2
        have o1 := (Vo.out 1 _ rfl).1
        have of1 := (Vo.out 1 _ rfl).2
        have o2 := (Vo.out 2 _ rfl).1
        have of2 := (Vo.out 2 _ rfl).2
        go_wp2_with fail
        refine (initPut_yes a b c d false _ HC.out).mono ?_
        rw [if_neg (by decide)]
        rintro e w4 ⟨rfl, hb4⟩
        clear d0 df0 d1 df1 d2 df2 d3 df3 o0 of0 o1 of1 o2 of2
        have Vd := Lib.hid (((Vd.out).alloc (.cells (List.toArray [.int .i64 2, .int .i64 0, .string (initS a b c d)]) 28) (by omega)).below hb4 (by simp; omega))
        have Vo := Lib.hid (((Vo.out).alloc (.cells (List.toArray [.int .i64 2, .int .i64 0, .string (initS a b c d)]) 28) (by omega)).below hb4 (by simp; omega))
        have Vs := Lib.hid ((VarN.new_at (w := w3) (d := w3.heap.size) (by simp) [.int .i64 2, .int .i64 0, .string (initS a b c d)] 28).below hb4 (by simp))
        have HB4 := Lib.hid (((HB3.out).alloc (Nat.le_trans HB3.out.size (by exact Nat.le_refl _)) (.cells (List.toArray [.int .i64 2, .int .i64 0, .string (initS a b c d)]) 28)).trans (hb4.mono (Nat.le_trans HB3.out.size (by simp <;> omega))))
        have ltd : w1.heap.size < w4.heap.size := lt_of_cell (Vd.out 0 _ rfl).1
        have lto : w2.heap.size < w4.heap.size := lt_of_cell (Vo.out 0 _ rfl).1
        have lts : w3.heap.size < w4.heap.size := lt_of_cell (Vs.out 0 _ rfl).1
        have ned : ¬ w1.heap.size = w4.heap.size := by omega
        have neo : ¬ w2.heap.size = w4.heap.size := by omega
        have nes : ¬ w3.heap.size = w4.heap.size := by omega
        clear hb4
        unfold madeV
        have o0 := (Vo.out 0 _ rfl).1
        have of0 := (Vo.out 0 _ rfl).2
        have o1 := (Vo.out 1 _ rfl).1
        have of1 := (Vo.out 1 _ rfl).2
        have o2 := (Vo.out 2 _ rfl).1
        have of2 := (Vo.out 2 _ rfl).2
        go_wp2
        go_ret
        exact ⟨rfl, (HB4.out).alloc (Nat.le_trans HB4.out.size (by exact Nat.le_refl _)) _⟩
    · have HC := Lib.hid hc
      clear hc
      cases y
      · go_wp2_with fail
        refine (initPut_no a b c d false _ HC.out).mono ?_
        rintro e w2 ⟨rfl, hb2⟩
        have Vd := Lib.hid ((VarN.new_at (w := w1) (d := w1.heap.size) (by simp) [.int .i64 a, .int .i64 b, .int .i64 c, .int .i64 d] 24).below hb2 (by simp))
        have HB2 := Lib.hid (((hb1).alloc (Nat.le_trans hb1.size (by exact Nat.le_refl _)) (.cells (List.toArray [.int .i64 a, .int .i64 b, .int .i64 c, .int .i64 d]) 24)).trans (hb2.mono (Nat.le_trans hb1.size (by simp <;> omega))))
        have ltd : w1.heap.size < w2.heap.size := lt_of_cell (Vd.out 0 _ rfl).1
        have ned : ¬ w1.heap.size = w2.heap.size := by omega
        clear hb2
        unfold notMadeV
        have d0 := (Vd.out 0 _ rfl).1
        have df0 := (Vd.out 0 _ rfl).2
        have d1 := (Vd.out 1 _ rfl).1
        have df1 := (Vd.out 1 _ rfl).2
        have d2 := (Vd.out 2 _ rfl).1
        have df2 := (Vd.out 2 _ rfl).2
        have d3 := (Vd.out 3 _ rfl).1
        have df3 := (Vd.out 3 _ rfl).2
        go_wp2_with fail
        refine (sInitPut_no a b c d false _ HC.out).mono ?_
        rintro e w3 ⟨rfl, hb3⟩
        clear d0 df0 d1 df1 d2 df2 d3 df3
        have Vd := Lib.hid (((Vd.out).alloc (.cells (List.toArray [.int .i64 0, .int .i64 0, .string (ByteArray.mk #[])]) 28) (by omega)).below hb3 (by simp; omega))
        have Vo := Lib.hid ((VarN.new_at (w := w2) (d := w2.heap.size) (by simp) [.int .i64 0, .int .i64 0, .string (ByteArray.mk #[])] 28).below hb3 (by simp))
        have HB3 := Lib.hid (((HB2.out).alloc (Nat.le_trans HB2.out.size (by exact Nat.le_refl _)) (.cells (List.toArray [.int .i64 0, .int .i64 0, .string (ByteArray.mk #[])]) 28)).trans (hb3.mono (Nat.le_trans HB2.out.size (by simp <;> omega))))
        have ltd : w1.heap.size < w3.heap.size := lt_of_cell (Vd.out 0 _ rfl).1
        have lto : w2.heap.size < w3.heap.size := lt_of_cell (Vo.out 0 _ rfl).1
        have ned : ¬ w1.heap.size = w3.heap.size := by omega
        have neo : ¬ w2.heap.size = w3.heap.size := by omega
        clear hb3
        unfold notMadeV
        have d0 := (Vd.out 0 _ rfl).1
        have df0 := (Vd.out 0 _ rfl).2
        have d1 := (Vd.out 1 _ rfl).1
        have df1 := (Vd.out 1 _ rfl).2
        have d2 := (Vd.out 2 _ rfl).1
        have df2 := (Vd.out 2 _ rfl).2
        have d3 := (Vd.out 3 _ rfl).1
        have df3 := (Vd.out 3 _ rfl).2
        have o0 := (Vo.out 0 _ rfl).1
        have of0 := (Vo.out 0 _ rfl).2
        have o1 := (Vo.out 1 _ rfl).1
        have of1 := (Vo.out 1 _ rfl).2
        have o2 := (Vo.out 2 _ rfl).1
        have of2 := (Vo.out 2 _ rfl).2
        go_wp2
        go_ret
        exact ⟨rfl, (HB3.out).alloc (Nat.le_trans HB3.out.size (by exact Nat.le_refl _)) _⟩
      · go_wp2_with fail
        refine (initPut_no a b c d true _ HC.out).mono ?_
        rintro e w2 ⟨rfl, hb2⟩
        have Vd := Lib.hid ((VarN.new_at (w := w1) (d := w1.heap.size) (by simp) [.int .i64 a, .int .i64 b, .int .i64 c, .int .i64 d] 24).below hb2 (by simp))
        have HB2 := Lib.hid (((hb1).alloc (Nat.le_trans hb1.size (by exact Nat.le_refl _)) (.cells (List.toArray [.int .i64 a, .int .i64 b, .int .i64 c, .int .i64 d]) 24)).trans (hb2.mono (Nat.le_trans hb1.size (by simp <;> omega))))
        have ltd : w1.heap.size < w2.heap.size := lt_of_cell (Vd.out 0 _ rfl).1
        have ned : ¬ w1.heap.size = w2.heap.size := by omega
        clear hb2
        unfold notMadeV
        have d0 := (Vd.out 0 _ rfl).1
        have df0 := (Vd.out 0 _ rfl).2
        have d1 := (Vd.out 1 _ rfl).1
        have df1 := (Vd.out 1 _ rfl).2
        have d2 := (Vd.out 2 _ rfl).1
        have df2 := (Vd.out 2 _ rfl).2
        have d3 := (Vd.out 3 _ rfl).1
        have df3 := (Vd.out 3 _ rfl).2
        go_wp2_with fail
        refine (sInitPut_no a b c d true _ HC.out).mono ?_
        rintro e w3 ⟨rfl, hb3⟩
        clear d0 df0 d1 df1 d2 df2 d3 df3
        have Vd := Lib.hid (((Vd.out).alloc (.cells (List.toArray [.int .i64 0, .int .i64 0, .string (ByteArray.mk #[])]) 28) (by omega)).below hb3 (by simp; omega))
        have Vo := Lib.hid ((VarN.new_at (w := w2) (d := w2.heap.size) (by simp) [.int .i64 0, .int .i64 0, .string (ByteArray.mk #[])] 28).below hb3 (by simp))
        have HB3 := Lib.hid (((HB2.out).alloc (Nat.le_trans HB2.out.size (by exact Nat.le_refl _)) (.cells (List.toArray [.int .i64 0, .int .i64 0, .string (ByteArray.mk #[])]) 28)).trans (hb3.mono (Nat.le_trans HB2.out.size (by simp <;> omega))))
        have ltd : w1.heap.size < w3.heap.size := lt_of_cell (Vd.out 0 _ rfl).1
        have lto : w2.heap.size < w3.heap.size := lt_of_cell (Vo.out 0 _ rfl).1
        have ned : ¬ w1.heap.size = w3.heap.size := by omega
        have neo : ¬ w2.heap.size = w3.heap.size := by omega
        clear hb3
        unfold notMadeV
        have d0 := (Vd.out 0 _ rfl).1
        have df0 := (Vd.out 0 _ rfl).2
        have d1 := (Vd.out 1 _ rfl).1
        have df1 := (Vd.out 1 _ rfl).2
        have d2 := (Vd.out 2 _ rfl).1
        have df2 := (Vd.out 2 _ rfl).2
        have d3 := (Vd.out 3 _ rfl).1
        have df3 := (Vd.out 3 _ rfl).2
        have o0 := (Vo.out 0 _ rfl).1
        have of0 := (Vo.out 0 _ rfl).2
        have o1 := (Vo.out 1 _ rfl).1
        have of1 := (Vo.out 1 _ rfl).2
        have o2 := (Vo.out 2 _ rfl).1
        have of2 := (Vo.out 2 _ rfl).2
        go_wp2
        go_ret
        exact ⟨rfl, (HB3.out).alloc (Nat.le_trans HB3.out.size (by exact Nat.le_refl _)) _⟩

set_option maxHeartbeats 1000000 in
theorem walk_fnInitGet (a0 : Option Addr) (len0 cap0 : Nat) (z0 : List Int) (w : World) (w0 : IsRow .u8 w a0 len0 cap0 z0) :
    Calls Try.prog 6 #[.slice a0 len0 cap0] w fun e w' => e = .returned (.bool true) ∧ Below w.heap.size w w' := by
  have H := Lib.hid w0
  clear w0
  by_cases hl : (1048576 : Int) < len0
  · go_enter Try.func6, Try.ntmps6
    go_wp2
    go_ret
    exact ⟨rfl, Below.refl _ _⟩
  · go_enter Try.func6, Try.ntmps6
    go_wp2_with fail
    refine (drawInitGet_any a0 len0 cap0 z0 _ H.out).mono ?_
    rintro e w1 ⟨k, f, b, rfl, ⟨⟨k0, k1⟩, ⟨f0, f1⟩, nb⟩, hb1⟩
    by_cases hc : HasInit k f b
    · obtain ⟨hk, rfl, hz, h3, h4, h5⟩ := hc
      rcases hk with rfl | rfl
      · have HC := Lib.hid (show HasInit 1 0 b from ⟨by decide, rfl, hz, h3, h4, h5⟩)
        go_wp2_with fail
        refine (initGet_yes 1 0 b _ HC.out).mono ?_
        rintro e w2 ⟨rfl, hb2⟩
        have Vc := Lib.hid ((VarN.new_at (w := w1) (d := w1.heap.size) (by simp) [.int .i64 1, .int .i64 0, .string b] 28).below hb2 (by simp))
        have HB2 := Lib.hid (((hb1).alloc (Nat.le_trans hb1.size (by exact Nat.le_refl _)) (.cells (List.toArray [.int .i64 1, .int .i64 0, .string b]) 28)).trans (hb2.mono (Nat.le_trans hb1.size (by simp <;> omega))))
        have ltc : w1.heap.size < w2.heap.size := lt_of_cell (Vc.out 0 _ rfl).1
        have nec : ¬ w1.heap.size = w2.heap.size := by omega
        clear hb2
        unfold gotInitV
        have c0 := (Vc.out 0 _ rfl).1
        have cf0 := (Vc.out 0 _ rfl).2
        have c1 := (Vc.out 1 _ rfl).1
        have cf1 := (Vc.out 1 _ rfl).2
        have c2 := (Vc.out 2 _ rfl).1
        have cf2 := (Vc.out 2 _ rfl).2
        go_wp2_with fail
        refine (sInitGet_yes 1 0 b _ HC.out).mono ?_
        rintro e w3 ⟨rfl, hb3⟩
        clear c0 cf0 c1 cf1 c2 cf2
        have Vc := Lib.hid (((Vc.out).alloc (.cells (List.toArray [.int .i64 (be b 0 4), .int .i64 (be b 4 2), .int .i64 (be b 6 2), .int .i64 (be b 8 2)]) 24) (by omega)).below hb3 (by simp; omega))
        have Vo := Lib.hid ((VarN.new_at (w := w2) (d := w2.heap.size) (by simp) [.int .i64 (be b 0 4), .int .i64 (be b 4 2), .int .i64 (be b 6 2), .int .i64 (be b 8 2)] 24).below hb3 (by simp))
        have HB3 := Lib.hid (((HB2.out).alloc (Nat.le_trans HB2.out.size (by exact Nat.le_refl _)) (.cells (List.toArray [.int .i64 (be b 0 4), .int .i64 (be b 4 2), .int .i64 (be b 6 2), .int .i64 (be b 8 2)]) 24)).trans (hb3.mono (Nat.le_trans HB2.out.size (by simp <;> omega))))
        have ltc : w1.heap.size < w3.heap.size := lt_of_cell (Vc.out 0 _ rfl).1
        have lto : w2.heap.size < w3.heap.size := lt_of_cell (Vo.out 0 _ rfl).1
        have nec : ¬ w1.heap.size = w3.heap.size := by omega
        have neo : ¬ w2.heap.size = w3.heap.size := by omega
        clear hb3
        unfold gotInitV
        have HO := Lib.hid (init_ok HC.out)
        have E := Lib.hid (init_back HC.out)
        have c0 := (Vc.out 0 _ rfl).1
        have cf0 := (Vc.out 0 _ rfl).2
        have c1 := (Vc.out 1 _ rfl).1
        have cf1 := (Vc.out 1 _ rfl).2
        have c2 := (Vc.out 2 _ rfl).1
        have cf2 := (Vc.out 2 _ rfl).2
        have o0 := (Vo.out 0 _ rfl).1
        have of0 := (Vo.out 0 _ rfl).2
        have o1 := (Vo.out 1 _ rfl).1
        have of1 := (Vo.out 1 _ rfl).2
        have o2 := (Vo.out 2 _ rfl).1
        have of2 := (Vo.out 2 _ rfl).2
        have o3 := (Vo.out 3 _ rfl).1
        have of3 := (Vo.out 3 _ rfl).2
        go_wp2_with fail
        refine (initPut_yes (be b 0 4) (be b 4 2) (be b 6 2) (be b 8 2) false _ HO.out).mono ?_
        rw [E.out, if_neg (by decide)]
        rintro e w4 ⟨rfl, hb4⟩
        clear c0 cf0 c1 cf1 c2 cf2 o0 of0 o1 of1 o2 of2 o3 of3
        have Vc := Lib.hid (((Vc.out).alloc (.cells (List.toArray [.int .i64 (be b 0 4), .int .i64 (be b 4 2), .int .i64 (be b 6 2), .int .i64 (be b 8 2)]) 24) (by omega)).below hb4 (by simp; omega))
        have Vo := Lib.hid (((Vo.out).alloc (.cells (List.toArray [.int .i64 (be b 0 4), .int .i64 (be b 4 2), .int .i64 (be b 6 2), .int .i64 (be b 8 2)]) 24) (by omega)).below hb4 (by simp; omega))
        have Vs := Lib.hid ((VarN.new_at (w := w3) (d := w3.heap.size) (by simp) [.int .i64 (be b 0 4), .int .i64 (be b 4 2), .int .i64 (be b 6 2), .int .i64 (be b 8 2)] 24).below hb4 (by simp))
        have HB4 := Lib.hid (((HB3.out).alloc (Nat.le_trans HB3.out.size (by exact Nat.le_refl _)) (.cells (List.toArray [.int .i64 (be b 0 4), .int .i64 (be b 4 2), .int .i64 (be b 6 2), .int .i64 (be b 8 2)]) 24)).trans (hb4.mono (Nat.le_trans HB3.out.size (by simp <;> omega))))
        have ltc : w1.heap.size < w4.heap.size := lt_of_cell (Vc.out 0 _ rfl).1
        have lto : w2.heap.size < w4.heap.size := lt_of_cell (Vo.out 0 _ rfl).1
        have lts : w3.heap.size < w4.heap.size := lt_of_cell (Vs.out 0 _ rfl).1
        have nec : ¬ w1.heap.size = w4.heap.size := by omega
        have neo : ¬ w2.heap.size = w4.heap.size := by omega
        have nes : ¬ w3.heap.size = w4.heap.size := by omega
        clear hb4
        unfold madeV
        have c0 := (Vc.out 0 _ rfl).1
        have cf0 := (Vc.out 0 _ rfl).2
        have c1 := (Vc.out 1 _ rfl).1
        have cf1 := (Vc.out 1 _ rfl).2
        have c2 := (Vc.out 2 _ rfl).1
        have cf2 := (Vc.out 2 _ rfl).2
        go_wp2
        go_ret
        exact ⟨rfl, (HB4.out).alloc (Nat.le_trans HB4.out.size (by exact Nat.le_refl _)) _⟩
      · have HC := Lib.hid (show HasInit 2 0 b from ⟨by decide, rfl, hz, h3, h4, h5⟩)
        go_wp2_with fail
        refine (initGet_yes 2 0 b _ HC.out).mono ?_
        rintro e w2 ⟨rfl, hb2⟩
        have Vc := Lib.hid ((VarN.new_at (w := w1) (d := w1.heap.size) (by simp) [.int .i64 2, .int .i64 0, .string b] 28).below hb2 (by simp))
        have HB2 := Lib.hid (((hb1).alloc (Nat.le_trans hb1.size (by exact Nat.le_refl _)) (.cells (List.toArray [.int .i64 2, .int .i64 0, .string b]) 28)).trans (hb2.mono (Nat.le_trans hb1.size (by simp <;> omega))))
        have ltc : w1.heap.size < w2.heap.size := lt_of_cell (Vc.out 0 _ rfl).1
        have nec : ¬ w1.heap.size = w2.heap.size := by omega
        clear hb2
        unfold gotInitV
        have c0 := (Vc.out 0 _ rfl).1
        have cf0 := (Vc.out 0 _ rfl).2
        have c1 := (Vc.out 1 _ rfl).1
        have cf1 := (Vc.out 1 _ rfl).2
        have c2 := (Vc.out 2 _ rfl).1
        have cf2 := (Vc.out 2 _ rfl).2
        go_wp2_with fail
        refine (sInitGet_yes 2 0 b _ HC.out).mono ?_
        rintro e w3 ⟨rfl, hb3⟩
        clear c0 cf0 c1 cf1 c2 cf2
        have Vc := Lib.hid (((Vc.out).alloc (.cells (List.toArray [.int .i64 (be b 0 4), .int .i64 (be b 4 2), .int .i64 (be b 6 2), .int .i64 (be b 8 2)]) 24) (by omega)).below hb3 (by simp; omega))
        have Vo := Lib.hid ((VarN.new_at (w := w2) (d := w2.heap.size) (by simp) [.int .i64 (be b 0 4), .int .i64 (be b 4 2), .int .i64 (be b 6 2), .int .i64 (be b 8 2)] 24).below hb3 (by simp))
        have HB3 := Lib.hid (((HB2.out).alloc (Nat.le_trans HB2.out.size (by exact Nat.le_refl _)) (.cells (List.toArray [.int .i64 (be b 0 4), .int .i64 (be b 4 2), .int .i64 (be b 6 2), .int .i64 (be b 8 2)]) 24)).trans (hb3.mono (Nat.le_trans HB2.out.size (by simp <;> omega))))
        have ltc : w1.heap.size < w3.heap.size := lt_of_cell (Vc.out 0 _ rfl).1
        have lto : w2.heap.size < w3.heap.size := lt_of_cell (Vo.out 0 _ rfl).1
        have nec : ¬ w1.heap.size = w3.heap.size := by omega
        have neo : ¬ w2.heap.size = w3.heap.size := by omega
        clear hb3
        unfold gotInitV
        have HO := Lib.hid (init_ok HC.out)
        have E := Lib.hid (init_back HC.out)
        have c0 := (Vc.out 0 _ rfl).1
        have cf0 := (Vc.out 0 _ rfl).2
        have c1 := (Vc.out 1 _ rfl).1
        have cf1 := (Vc.out 1 _ rfl).2
        have c2 := (Vc.out 2 _ rfl).1
        have cf2 := (Vc.out 2 _ rfl).2
        have o0 := (Vo.out 0 _ rfl).1
        have of0 := (Vo.out 0 _ rfl).2
        have o1 := (Vo.out 1 _ rfl).1
        have of1 := (Vo.out 1 _ rfl).2
        have o2 := (Vo.out 2 _ rfl).1
        have of2 := (Vo.out 2 _ rfl).2
        have o3 := (Vo.out 3 _ rfl).1
        have of3 := (Vo.out 3 _ rfl).2
        go_wp2_with fail
        refine (initPut_yes (be b 0 4) (be b 4 2) (be b 6 2) (be b 8 2) true _ HO.out).mono ?_
        rw [E.out, if_pos rfl]
        rintro e w4 ⟨rfl, hb4⟩
        clear c0 cf0 c1 cf1 c2 cf2 o0 of0 o1 of1 o2 of2 o3 of3
        have Vc := Lib.hid (((Vc.out).alloc (.cells (List.toArray [.int .i64 (be b 0 4), .int .i64 (be b 4 2), .int .i64 (be b 6 2), .int .i64 (be b 8 2)]) 24) (by omega)).below hb4 (by simp; omega))
        have Vo := Lib.hid (((Vo.out).alloc (.cells (List.toArray [.int .i64 (be b 0 4), .int .i64 (be b 4 2), .int .i64 (be b 6 2), .int .i64 (be b 8 2)]) 24) (by omega)).below hb4 (by simp; omega))
        have Vs := Lib.hid ((VarN.new_at (w := w3) (d := w3.heap.size) (by simp) [.int .i64 (be b 0 4), .int .i64 (be b 4 2), .int .i64 (be b 6 2), .int .i64 (be b 8 2)] 24).below hb4 (by simp))
        have HB4 := Lib.hid (((HB3.out).alloc (Nat.le_trans HB3.out.size (by exact Nat.le_refl _)) (.cells (List.toArray [.int .i64 (be b 0 4), .int .i64 (be b 4 2), .int .i64 (be b 6 2), .int .i64 (be b 8 2)]) 24)).trans (hb4.mono (Nat.le_trans HB3.out.size (by simp <;> omega))))
        have ltc : w1.heap.size < w4.heap.size := lt_of_cell (Vc.out 0 _ rfl).1
        have lto : w2.heap.size < w4.heap.size := lt_of_cell (Vo.out 0 _ rfl).1
        have lts : w3.heap.size < w4.heap.size := lt_of_cell (Vs.out 0 _ rfl).1
        have nec : ¬ w1.heap.size = w4.heap.size := by omega
        have neo : ¬ w2.heap.size = w4.heap.size := by omega
        have nes : ¬ w3.heap.size = w4.heap.size := by omega
        clear hb4
        unfold madeV
        have c0 := (Vc.out 0 _ rfl).1
        have cf0 := (Vc.out 0 _ rfl).2
        have c1 := (Vc.out 1 _ rfl).1
        have cf1 := (Vc.out 1 _ rfl).2
        have c2 := (Vc.out 2 _ rfl).1
        have cf2 := (Vc.out 2 _ rfl).2
        go_wp2
        go_ret
        exact ⟨rfl, (HB4.out).alloc (Nat.le_trans HB4.out.size (by exact Nat.le_refl _)) _⟩
    · have HC := Lib.hid hc
      clear hc
      go_wp2_with fail
      refine (initGet_no k f b _ (Nat.le_trans nb (by decide)) HC.out).mono ?_
      rintro e w2 ⟨rfl, hb2⟩
      have Vc := Lib.hid ((VarN.new_at (w := w1) (d := w1.heap.size) (by simp) [.int .i64 k, .int .i64 f, .string b] 28).below hb2 (by simp))
      have HB2 := Lib.hid (((hb1).alloc (Nat.le_trans hb1.size (by exact Nat.le_refl _)) (.cells (List.toArray [.int .i64 k, .int .i64 f, .string b]) 28)).trans (hb2.mono (Nat.le_trans hb1.size (by simp <;> omega))))
      have ltc : w1.heap.size < w2.heap.size := lt_of_cell (Vc.out 0 _ rfl).1
      have nec : ¬ w1.heap.size = w2.heap.size := by omega
      clear hb2
      unfold noInitV
      have c0 := (Vc.out 0 _ rfl).1
      have cf0 := (Vc.out 0 _ rfl).2
      have c1 := (Vc.out 1 _ rfl).1
      have cf1 := (Vc.out 1 _ rfl).2
      have c2 := (Vc.out 2 _ rfl).1
      have cf2 := (Vc.out 2 _ rfl).2
      go_wp2_with fail
      refine (sInitGet_no k f b _ HC.out).mono ?_
      rintro e w3 ⟨rfl, hb3⟩
      clear c0 cf0 c1 cf1 c2 cf2
      have Vc := Lib.hid (((Vc.out).alloc (.cells (List.toArray [.int .i64 0, .int .i64 0, .int .i64 0, .int .i64 0]) 24) (by omega)).below hb3 (by simp; omega))
      have Vo := Lib.hid ((VarN.new_at (w := w2) (d := w2.heap.size) (by simp) [.int .i64 0, .int .i64 0, .int .i64 0, .int .i64 0] 24).below hb3 (by simp))
      have HB3 := Lib.hid (((HB2.out).alloc (Nat.le_trans HB2.out.size (by exact Nat.le_refl _)) (.cells (List.toArray [.int .i64 0, .int .i64 0, .int .i64 0, .int .i64 0]) 24)).trans (hb3.mono (Nat.le_trans HB2.out.size (by simp <;> omega))))
      have ltc : w1.heap.size < w3.heap.size := lt_of_cell (Vc.out 0 _ rfl).1
      have lto : w2.heap.size < w3.heap.size := lt_of_cell (Vo.out 0 _ rfl).1
      have nec : ¬ w1.heap.size = w3.heap.size := by omega
      have neo : ¬ w2.heap.size = w3.heap.size := by omega
      clear hb3
      unfold noInitV
      have c0 := (Vc.out 0 _ rfl).1
      have cf0 := (Vc.out 0 _ rfl).2
      have c1 := (Vc.out 1 _ rfl).1
      have cf1 := (Vc.out 1 _ rfl).2
      have c2 := (Vc.out 2 _ rfl).1
      have cf2 := (Vc.out 2 _ rfl).2
      have o0 := (Vo.out 0 _ rfl).1
      have of0 := (Vo.out 0 _ rfl).2
      have o1 := (Vo.out 1 _ rfl).1
      have of1 := (Vo.out 1 _ rfl).2
      have o2 := (Vo.out 2 _ rfl).1
      have of2 := (Vo.out 2 _ rfl).2
      have o3 := (Vo.out 3 _ rfl).1
      have of3 := (Vo.out 3 _ rfl).2
      go_wp2
      go_ret
      exact ⟨rfl, (HB3.out).alloc (Nat.le_trans HB3.out.size (by exact Nat.le_refl _)) _⟩

set_option maxHeartbeats 1000000 in
theorem walk_fnInitGetOther (a0 : Option Addr) (len0 cap0 : Nat) (z0 : List Int) (w : World) (w0 : IsRow .u8 w a0 len0 cap0 z0) :
    Calls Try.prog 7 #[.slice a0 len0 cap0] w fun e w' => e = .returned (.bool true) ∧ Below w.heap.size w w' := by
  have H := Lib.hid w0
  clear w0
  by_cases hl : (1048576 : Int) < len0
  · go_enter Try.func7, Try.ntmps7
    go_wp2
    go_ret
    exact ⟨rfl, Below.refl _ _⟩
  · go_enter Try.func7, Try.ntmps7
    go_wp2_with fail
    refine (drawInitGet_any a0 len0 cap0 z0 _ H.out).mono ?_
    rintro e w1 ⟨k, f, b, rfl, ⟨⟨k0, k1⟩, ⟨f0, f1⟩, nb⟩, hb1⟩
    by_cases hc : HasInit k f b
    · obtain ⟨hk, rfl, hz, h3, h4, h5⟩ := hc
      rcases hk with rfl | rfl
      · have HC := Lib.hid (show HasInit 1 0 b from ⟨by decide, rfl, hz, h3, h4, h5⟩)
        go_wp2_with fail
        refine (initGet_yes 1 0 b _ HC.out).mono ?_
        rintro e w2 ⟨rfl, hb2⟩
        have Vc := Lib.hid ((VarN.new_at (w := w1) (d := w1.heap.size) (by simp) [.int .i64 1, .int .i64 0, .string b] 28).below hb2 (by simp))
        have HB2 := Lib.hid (((hb1).alloc (Nat.le_trans hb1.size (by exact Nat.le_refl _)) (.cells (List.toArray [.int .i64 1, .int .i64 0, .string b]) 28)).trans (hb2.mono (Nat.le_trans hb1.size (by simp <;> omega))))
        have ltc : w1.heap.size < w2.heap.size := lt_of_cell (Vc.out 0 _ rfl).1
        have nec : ¬ w1.heap.size = w2.heap.size := by omega
        clear hb2
        unfold gotInitV
        have c0 := (Vc.out 0 _ rfl).1
        have cf0 := (Vc.out 0 _ rfl).2
        have c1 := (Vc.out 1 _ rfl).1
        have cf1 := (Vc.out 1 _ rfl).2
        have c2 := (Vc.out 2 _ rfl).1
        have cf2 := (Vc.out 2 _ rfl).2
        go_wp2_with fail
        refine (sInitGet_yes 1 0 b _ HC.out).mono ?_
        rintro e w3 ⟨rfl, hb3⟩
        clear c0 cf0 c1 cf1 c2 cf2
        have Vc := Lib.hid (((Vc.out).alloc (.cells (List.toArray [.int .i64 (be b 0 4), .int .i64 (be b 4 2), .int .i64 (be b 6 2), .int .i64 (be b 8 2)]) 24) (by omega)).below hb3 (by simp; omega))
        have Vo := Lib.hid ((VarN.new_at (w := w2) (d := w2.heap.size) (by simp) [.int .i64 (be b 0 4), .int .i64 (be b 4 2), .int .i64 (be b 6 2), .int .i64 (be b 8 2)] 24).below hb3 (by simp))
        have HB3 := Lib.hid (((HB2.out).alloc (Nat.le_trans HB2.out.size (by exact Nat.le_refl _)) (.cells (List.toArray [.int .i64 (be b 0 4), .int .i64 (be b 4 2), .int .i64 (be b 6 2), .int .i64 (be b 8 2)]) 24)).trans (hb3.mono (Nat.le_trans HB2.out.size (by simp <;> omega))))
        have ltc : w1.heap.size < w3.heap.size := lt_of_cell (Vc.out 0 _ rfl).1
        have lto : w2.heap.size < w3.heap.size := lt_of_cell (Vo.out 0 _ rfl).1
        have nec : ¬ w1.heap.size = w3.heap.size := by omega
        have neo : ¬ w2.heap.size = w3.heap.size := by omega
        clear hb3
        unfold gotInitV
        have c0 := (Vc.out 0 _ rfl).1
        have cf0 := (Vc.out 0 _ rfl).2
        have c1 := (Vc.out 1 _ rfl).1
        have cf1 := (Vc.out 1 _ rfl).2
        have c2 := (Vc.out 2 _ rfl).1
        have cf2 := (Vc.out 2 _ rfl).2
        have o0 := (Vo.out 0 _ rfl).1
        have of0 := (Vo.out 0 _ rfl).2
        have o1 := (Vo.out 1 _ rfl).1
        have of1 := (Vo.out 1 _ rfl).2
        have o2 := (Vo.out 2 _ rfl).1
        have of2 := (Vo.out 2 _ rfl).2
        have o3 := (Vo.out 3 _ rfl).1
        have of3 := (Vo.out 3 _ rfl).2
        have N1 := Lib.hid (show ¬ HasInit 1 1 b from fun h => by have := h.2.1; omega)
        have N2 := Lib.hid (show ¬ HasInit 1 0 (b ++ ByteArray.mk #[0]) from fun h => by have := h.2.2.1; rw [ByteArray.size_append, hz] at this; exact absurd this (by decide))
        have N3 := Lib.hid (show ¬ HasInit 1 0 (b.extract 0 9) from fun h => by have := h.2.2.1; rw [ByteArray.size_extract] at this; omega)
        have q9 : (9 : Int) ≤ b.size := by omega
        have zz : ¬ 9223372036854775807 < b.size + (ByteArray.mk #[0]).size := by rw [hz]; decide
        have c0p3 := fun o0 o1 o2 => past_cell (past_cell (past_cell (c0) o0) o1) o2
        have c0p4 := fun o0 o1 o2 o3 => past_cell (past_cell (past_cell (past_cell (c0) o0) o1) o2) o3
        have c1p3 := fun o0 o1 o2 => past_cell (past_cell (past_cell (c1) o0) o1) o2
        have c1p4 := fun o0 o1 o2 o3 => past_cell (past_cell (past_cell (past_cell (c1) o0) o1) o2) o3
        have c2p3 := fun o0 o1 o2 => past_cell (past_cell (past_cell (c2) o0) o1) o2
        have c2p4 := fun o0 o1 o2 o3 => past_cell (past_cell (past_cell (past_cell (c2) o0) o1) o2) o3
        have nec_1 : ¬ w1.heap.size = w3.heap.size + 1 := by omega
        have nec_2 : ¬ w1.heap.size = w3.heap.size + 1 + 1 := by omega
        have nec_3 : ¬ w1.heap.size = w3.heap.size + 1 + 1 + 1 := by omega
        have neo_1 : ¬ w2.heap.size = w3.heap.size + 1 := by omega
        have neo_2 : ¬ w2.heap.size = w3.heap.size + 1 + 1 := by omega
        have neo_3 : ¬ w2.heap.size = w3.heap.size + 1 + 1 + 1 := by omega
        go_wp2_with fail
        refine (initGet_no 1 1 b _ (Nat.le_trans nb (by decide)) N1.out).mono ?_
        rintro e w4 ⟨rfl, hb4⟩
        clear c0 cf0 c1 cf1 c2 cf2 o0 of0 o1 of1 o2 of2 o3 of3
        have Vc := Lib.hid ((((((Vc.out).alloc (.cells (List.toArray [.int .i64 (be b 0 4), .int .i64 (be b 4 2), .int .i64 (be b 6 2), .int .i64 (be b 8 2)]) 24) (by omega)).alloc (.cells (List.toArray [.int .i64 1, .int .i64 1, .string b]) 28) (by simp; omega)).alloc (.cells (List.toArray [.int .i64 1, .int .i64 0, .string (b ++ ByteArray.mk #[0])]) 28) (by simp; omega)).alloc (.cells (List.toArray [.int .i64 1, .int .i64 0, .string (b.extract 0 9)]) 28) (by simp; omega)).below hb4 (by simp; omega))
        have Vo := Lib.hid ((((((Vo.out).alloc (.cells (List.toArray [.int .i64 (be b 0 4), .int .i64 (be b 4 2), .int .i64 (be b 6 2), .int .i64 (be b 8 2)]) 24) (by omega)).alloc (.cells (List.toArray [.int .i64 1, .int .i64 1, .string b]) 28) (by simp; omega)).alloc (.cells (List.toArray [.int .i64 1, .int .i64 0, .string (b ++ ByteArray.mk #[0])]) 28) (by simp; omega)).alloc (.cells (List.toArray [.int .i64 1, .int .i64 0, .string (b.extract 0 9)]) 28) (by simp; omega)).below hb4 (by simp; omega))
        have Vs := Lib.hid (((((VarN.new_at (w := w3) (d := w3.heap.size) (by simp) [.int .i64 (be b 0 4), .int .i64 (be b 4 2), .int .i64 (be b 6 2), .int .i64 (be b 8 2)] 24).alloc (.cells (List.toArray [.int .i64 1, .int .i64 1, .string b]) 28) (by first | omega | (simp <;> omega))).alloc (.cells (List.toArray [.int .i64 1, .int .i64 0, .string (b ++ ByteArray.mk #[0])]) 28) (by first | omega | (simp <;> omega))).alloc (.cells (List.toArray [.int .i64 1, .int .i64 0, .string (b.extract 0 9)]) 28) (by first | omega | (simp <;> omega))).below hb4 (by simp <;> omega))
        have Vx := Lib.hid ((((VarN.new_at (w := (w3.alloc (.cells (List.toArray [.int .i64 (be b 0 4), .int .i64 (be b 4 2), .int .i64 (be b 6 2), .int .i64 (be b 8 2)]) 24))) (d := w3.heap.size + 1) (by simp) [.int .i64 1, .int .i64 1, .string b] 28).alloc (.cells (List.toArray [.int .i64 1, .int .i64 0, .string (b ++ ByteArray.mk #[0])]) 28) (by first | omega | (simp <;> omega))).alloc (.cells (List.toArray [.int .i64 1, .int .i64 0, .string (b.extract 0 9)]) 28) (by first | omega | (simp <;> omega))).below hb4 (by simp <;> omega))
        have Vy := Lib.hid (((VarN.new_at (w := ((w3.alloc (.cells (List.toArray [.int .i64 (be b 0 4), .int .i64 (be b 4 2), .int .i64 (be b 6 2), .int .i64 (be b 8 2)]) 24)).alloc (.cells (List.toArray [.int .i64 1, .int .i64 1, .string b]) 28))) (d := w3.heap.size + 1 + 1) (by simp) [.int .i64 1, .int .i64 0, .string (b ++ ByteArray.mk #[0])] 28).alloc (.cells (List.toArray [.int .i64 1, .int .i64 0, .string (b.extract 0 9)]) 28) (by first | omega | (simp <;> omega))).below hb4 (by simp <;> omega))
        have Vz := Lib.hid ((VarN.new_at (w := (((w3.alloc (.cells (List.toArray [.int .i64 (be b 0 4), .int .i64 (be b 4 2), .int .i64 (be b 6 2), .int .i64 (be b 8 2)]) 24)).alloc (.cells (List.toArray [.int .i64 1, .int .i64 1, .string b]) 28)).alloc (.cells (List.toArray [.int .i64 1, .int .i64 0, .string (b ++ ByteArray.mk #[0])]) 28))) (d := w3.heap.size + 1 + 1 + 1) (by simp) [.int .i64 1, .int .i64 0, .string (b.extract 0 9)] 28).below hb4 (by simp))
        have HB4 := Lib.hid ((((((HB3.out).alloc (Nat.le_trans HB3.out.size (by exact Nat.le_refl _)) (.cells (List.toArray [.int .i64 (be b 0 4), .int .i64 (be b 4 2), .int .i64 (be b 6 2), .int .i64 (be b 8 2)]) 24)).alloc (Nat.le_trans HB3.out.size (by simp <;> omega)) (.cells (List.toArray [.int .i64 1, .int .i64 1, .string b]) 28)).alloc (Nat.le_trans HB3.out.size (by simp <;> omega)) (.cells (List.toArray [.int .i64 1, .int .i64 0, .string (b ++ ByteArray.mk #[0])]) 28)).alloc (Nat.le_trans HB3.out.size (by simp <;> omega)) (.cells (List.toArray [.int .i64 1, .int .i64 0, .string (b.extract 0 9)]) 28)).trans (hb4.mono (Nat.le_trans HB3.out.size (by simp <;> omega))))
        have ltc : w1.heap.size < w4.heap.size := lt_of_cell (Vc.out 0 _ rfl).1
        have lto : w2.heap.size < w4.heap.size := lt_of_cell (Vo.out 0 _ rfl).1
        have lts : w3.heap.size < w4.heap.size := lt_of_cell (Vs.out 0 _ rfl).1
        have ltx : w3.heap.size + 1 < w4.heap.size := lt_of_cell (Vx.out 0 _ rfl).1
        have lty : w3.heap.size + 1 + 1 < w4.heap.size := lt_of_cell (Vy.out 0 _ rfl).1
        have ltz : w3.heap.size + 1 + 1 + 1 < w4.heap.size := lt_of_cell (Vz.out 0 _ rfl).1
        have nec : ¬ w1.heap.size = w4.heap.size := by omega
        have neo : ¬ w2.heap.size = w4.heap.size := by omega
        have nes : ¬ w3.heap.size = w4.heap.size := by omega
        have nex : ¬ w3.heap.size + 1 = w4.heap.size := by omega
        have ney : ¬ w3.heap.size + 1 + 1 = w4.heap.size := by omega
        have nez : ¬ w3.heap.size + 1 + 1 + 1 = w4.heap.size := by omega
        clear hb4
        clear c0p3 c0p4 c1p3 c1p4 c2p3 c2p4
        unfold noInitV
        have y0 := (Vy.out 0 _ rfl).1
        have yf0 := (Vy.out 0 _ rfl).2
        have y1 := (Vy.out 1 _ rfl).1
        have yf1 := (Vy.out 1 _ rfl).2
        have y2 := (Vy.out 2 _ rfl).1
        have yf2 := (Vy.out 2 _ rfl).2
        go_wp2_with fail
        refine (initGet_no 1 0 (b ++ ByteArray.mk #[0]) _ (by rw [ByteArray.size_append]; exact Nat.le_trans (Nat.add_le_add_right nb _) (by decide)) N2.out).mono ?_
        rintro e w5 ⟨rfl, hb5⟩
        clear y0 yf0 y1 yf1 y2 yf2
        have Vc := Lib.hid (((Vc.out).alloc (.cells (List.toArray [.int .i64 0, .int .i64 0, .int .i64 0, .int .i64 0]) 24) (by omega)).below hb5 (by simp; omega))
        have Vo := Lib.hid (((Vo.out).alloc (.cells (List.toArray [.int .i64 0, .int .i64 0, .int .i64 0, .int .i64 0]) 24) (by omega)).below hb5 (by simp; omega))
        have Vs := Lib.hid (((Vs.out).alloc (.cells (List.toArray [.int .i64 0, .int .i64 0, .int .i64 0, .int .i64 0]) 24) (by omega)).below hb5 (by simp; omega))
        have Vx := Lib.hid (((Vx.out).alloc (.cells (List.toArray [.int .i64 0, .int .i64 0, .int .i64 0, .int .i64 0]) 24) (by omega)).below hb5 (by simp; omega))
        have Vy := Lib.hid (((Vy.out).alloc (.cells (List.toArray [.int .i64 0, .int .i64 0, .int .i64 0, .int .i64 0]) 24) (by omega)).below hb5 (by simp; omega))
        have Vz := Lib.hid (((Vz.out).alloc (.cells (List.toArray [.int .i64 0, .int .i64 0, .int .i64 0, .int .i64 0]) 24) (by omega)).below hb5 (by simp; omega))
        have Vn1 := Lib.hid ((VarN.new_at (w := w4) (d := w4.heap.size) (by simp) [.int .i64 0, .int .i64 0, .int .i64 0, .int .i64 0] 24).below hb5 (by simp))
        have HB5 := Lib.hid (((HB4.out).alloc (Nat.le_trans HB4.out.size (by exact Nat.le_refl _)) (.cells (List.toArray [.int .i64 0, .int .i64 0, .int .i64 0, .int .i64 0]) 24)).trans (hb5.mono (Nat.le_trans HB4.out.size (by simp <;> omega))))
        have ltc : w1.heap.size < w5.heap.size := lt_of_cell (Vc.out 0 _ rfl).1
        have lto : w2.heap.size < w5.heap.size := lt_of_cell (Vo.out 0 _ rfl).1
        have lts : w3.heap.size < w5.heap.size := lt_of_cell (Vs.out 0 _ rfl).1
        have ltx : w3.heap.size + 1 < w5.heap.size := lt_of_cell (Vx.out 0 _ rfl).1
        have lty : w3.heap.size + 1 + 1 < w5.heap.size := lt_of_cell (Vy.out 0 _ rfl).1
        have ltz : w3.heap.size + 1 + 1 + 1 < w5.heap.size := lt_of_cell (Vz.out 0 _ rfl).1
        have ltn1 : w4.heap.size < w5.heap.size := lt_of_cell (Vn1.out 0 _ rfl).1
        have nec : ¬ w1.heap.size = w5.heap.size := by omega
        have neo : ¬ w2.heap.size = w5.heap.size := by omega
        have nes : ¬ w3.heap.size = w5.heap.size := by omega
        have nex : ¬ w3.heap.size + 1 = w5.heap.size := by omega
        have ney : ¬ w3.heap.size + 1 + 1 = w5.heap.size := by omega
        have nez : ¬ w3.heap.size + 1 + 1 + 1 = w5.heap.size := by omega
        have nen1 : ¬ w4.heap.size = w5.heap.size := by omega
        clear hb5
        unfold noInitV
        have z0 := (Vz.out 0 _ rfl).1
        have zf0 := (Vz.out 0 _ rfl).2
        have z1 := (Vz.out 1 _ rfl).1
        have zf1 := (Vz.out 1 _ rfl).2
        have z2 := (Vz.out 2 _ rfl).1
        have zf2 := (Vz.out 2 _ rfl).2
        go_wp2_with fail
        refine (initGet_no 1 0 (b.extract 0 9) _ (by rw [ByteArray.size_extract]; exact Nat.le_trans (Nat.sub_le _ _) (Nat.le_trans (Nat.min_le_right _ _) (Nat.le_trans nb (by decide)))) N3.out).mono ?_
        rintro e w6 ⟨rfl, hb6⟩
        clear z0 zf0 z1 zf1 z2 zf2
        have Vc := Lib.hid (((Vc.out).alloc (.cells (List.toArray [.int .i64 0, .int .i64 0, .int .i64 0, .int .i64 0]) 24) (by omega)).below hb6 (by simp; omega))
        have Vo := Lib.hid (((Vo.out).alloc (.cells (List.toArray [.int .i64 0, .int .i64 0, .int .i64 0, .int .i64 0]) 24) (by omega)).below hb6 (by simp; omega))
        have Vs := Lib.hid (((Vs.out).alloc (.cells (List.toArray [.int .i64 0, .int .i64 0, .int .i64 0, .int .i64 0]) 24) (by omega)).below hb6 (by simp; omega))
        have Vx := Lib.hid (((Vx.out).alloc (.cells (List.toArray [.int .i64 0, .int .i64 0, .int .i64 0, .int .i64 0]) 24) (by omega)).below hb6 (by simp; omega))
        have Vy := Lib.hid (((Vy.out).alloc (.cells (List.toArray [.int .i64 0, .int .i64 0, .int .i64 0, .int .i64 0]) 24) (by omega)).below hb6 (by simp; omega))
        have Vz := Lib.hid (((Vz.out).alloc (.cells (List.toArray [.int .i64 0, .int .i64 0, .int .i64 0, .int .i64 0]) 24) (by omega)).below hb6 (by simp; omega))
        have Vn1 := Lib.hid (((Vn1.out).alloc (.cells (List.toArray [.int .i64 0, .int .i64 0, .int .i64 0, .int .i64 0]) 24) (by omega)).below hb6 (by simp; omega))
        have Vn2 := Lib.hid ((VarN.new_at (w := w5) (d := w5.heap.size) (by simp) [.int .i64 0, .int .i64 0, .int .i64 0, .int .i64 0] 24).below hb6 (by simp))
        have HB6 := Lib.hid (((HB5.out).alloc (Nat.le_trans HB5.out.size (by exact Nat.le_refl _)) (.cells (List.toArray [.int .i64 0, .int .i64 0, .int .i64 0, .int .i64 0]) 24)).trans (hb6.mono (Nat.le_trans HB5.out.size (by simp <;> omega))))
        have ltc : w1.heap.size < w6.heap.size := lt_of_cell (Vc.out 0 _ rfl).1
        have lto : w2.heap.size < w6.heap.size := lt_of_cell (Vo.out 0 _ rfl).1
        have lts : w3.heap.size < w6.heap.size := lt_of_cell (Vs.out 0 _ rfl).1
        have ltx : w3.heap.size + 1 < w6.heap.size := lt_of_cell (Vx.out 0 _ rfl).1
        have lty : w3.heap.size + 1 + 1 < w6.heap.size := lt_of_cell (Vy.out 0 _ rfl).1
        have ltz : w3.heap.size + 1 + 1 + 1 < w6.heap.size := lt_of_cell (Vz.out 0 _ rfl).1
        have ltn1 : w4.heap.size < w6.heap.size := lt_of_cell (Vn1.out 0 _ rfl).1
        have ltn2 : w5.heap.size < w6.heap.size := lt_of_cell (Vn2.out 0 _ rfl).1
        have nec : ¬ w1.heap.size = w6.heap.size := by omega
        have neo : ¬ w2.heap.size = w6.heap.size := by omega
        have nes : ¬ w3.heap.size = w6.heap.size := by omega
        have nex : ¬ w3.heap.size + 1 = w6.heap.size := by omega
        have ney : ¬ w3.heap.size + 1 + 1 = w6.heap.size := by omega
        have nez : ¬ w3.heap.size + 1 + 1 + 1 = w6.heap.size := by omega
        have nen1 : ¬ w4.heap.size = w6.heap.size := by omega
        have nen2 : ¬ w5.heap.size = w6.heap.size := by omega
        clear hb6
        unfold noInitV
        go_wp2
        go_ret
        exact ⟨rfl, (HB6.out).alloc (Nat.le_trans HB6.out.size (by exact Nat.le_refl _)) _⟩
      · have HC := Lib.hid (show HasInit 2 0 b from ⟨by decide, rfl, hz, h3, h4, h5⟩)
        go_wp2_with fail
        refine (initGet_yes 2 0 b _ HC.out).mono ?_
        rintro e w2 ⟨rfl, hb2⟩
        have Vc := Lib.hid ((VarN.new_at (w := w1) (d := w1.heap.size) (by simp) [.int .i64 2, .int .i64 0, .string b] 28).below hb2 (by simp))
        have HB2 := Lib.hid (((hb1).alloc (Nat.le_trans hb1.size (by exact Nat.le_refl _)) (.cells (List.toArray [.int .i64 2, .int .i64 0, .string b]) 28)).trans (hb2.mono (Nat.le_trans hb1.size (by simp <;> omega))))
        have ltc : w1.heap.size < w2.heap.size := lt_of_cell (Vc.out 0 _ rfl).1
        have nec : ¬ w1.heap.size = w2.heap.size := by omega
        clear hb2
        unfold gotInitV
        have c0 := (Vc.out 0 _ rfl).1
        have cf0 := (Vc.out 0 _ rfl).2
        have c1 := (Vc.out 1 _ rfl).1
        have cf1 := (Vc.out 1 _ rfl).2
        have c2 := (Vc.out 2 _ rfl).1
        have cf2 := (Vc.out 2 _ rfl).2
        go_wp2_with fail
        refine (sInitGet_yes 2 0 b _ HC.out).mono ?_
        rintro e w3 ⟨rfl, hb3⟩
        clear c0 cf0 c1 cf1 c2 cf2
        have Vc := Lib.hid (((Vc.out).alloc (.cells (List.toArray [.int .i64 (be b 0 4), .int .i64 (be b 4 2), .int .i64 (be b 6 2), .int .i64 (be b 8 2)]) 24) (by omega)).below hb3 (by simp; omega))
        have Vo := Lib.hid ((VarN.new_at (w := w2) (d := w2.heap.size) (by simp) [.int .i64 (be b 0 4), .int .i64 (be b 4 2), .int .i64 (be b 6 2), .int .i64 (be b 8 2)] 24).below hb3 (by simp))
        have HB3 := Lib.hid (((HB2.out).alloc (Nat.le_trans HB2.out.size (by exact Nat.le_refl _)) (.cells (List.toArray [.int .i64 (be b 0 4), .int .i64 (be b 4 2), .int .i64 (be b 6 2), .int .i64 (be b 8 2)]) 24)).trans (hb3.mono (Nat.le_trans HB2.out.size (by simp <;> omega))))
        have ltc : w1.heap.size < w3.heap.size := lt_of_cell (Vc.out 0 _ rfl).1
        have lto : w2.heap.size < w3.heap.size := lt_of_cell (Vo.out 0 _ rfl).1
        have nec : ¬ w1.heap.size = w3.heap.size := by omega
        have neo : ¬ w2.heap.size = w3.heap.size := by omega
        clear hb3
        unfold gotInitV
        have c0 := (Vc.out 0 _ rfl).1
        have cf0 := (Vc.out 0 _ rfl).2
        have c1 := (Vc.out 1 _ rfl).1
        have cf1 := (Vc.out 1 _ rfl).2
        have c2 := (Vc.out 2 _ rfl).1
        have cf2 := (Vc.out 2 _ rfl).2
        have o0 := (Vo.out 0 _ rfl).1
        have of0 := (Vo.out 0 _ rfl).2
        have o1 := (Vo.out 1 _ rfl).1
        have of1 := (Vo.out 1 _ rfl).2
        have o2 := (Vo.out 2 _ rfl).1
        have of2 := (Vo.out 2 _ rfl).2
        have o3 := (Vo.out 3 _ rfl).1
        have of3 := (Vo.out 3 _ rfl).2
        have N1 := Lib.hid (show ¬ HasInit 2 1 b from fun h => by have := h.2.1; omega)
        have N2 := Lib.hid (show ¬ HasInit 2 0 (b ++ ByteArray.mk #[0]) from fun h => by have := h.2.2.1; rw [ByteArray.size_append, hz] at this; exact absurd this (by decide))
        have N3 := Lib.hid (show ¬ HasInit 2 0 (b.extract 0 9) from fun h => by have := h.2.2.1; rw [ByteArray.size_extract] at this; omega)
        have q9 : (9 : Int) ≤ b.size := by omega
        have zz : ¬ 9223372036854775807 < b.size + (ByteArray.mk #[0]).size := by rw [hz]; decide
        have c0p3 := fun o0 o1 o2 => past_cell (past_cell (past_cell (c0) o0) o1) o2
        have c0p4 := fun o0 o1 o2 o3 => past_cell (past_cell (past_cell (past_cell (c0) o0) o1) o2) o3
        have c1p3 := fun o0 o1 o2 => past_cell (past_cell (past_cell (c1) o0) o1) o2
        have c1p4 := fun o0 o1 o2 o3 => past_cell (past_cell (past_cell (past_cell (c1) o0) o1) o2) o3
        have c2p3 := fun o0 o1 o2 => past_cell (past_cell (past_cell (c2) o0) o1) o2
        have c2p4 := fun o0 o1 o2 o3 => past_cell (past_cell (past_cell (past_cell (c2) o0) o1) o2) o3
        have nec_1 : ¬ w1.heap.size = w3.heap.size + 1 := by omega
        have nec_2 : ¬ w1.heap.size = w3.heap.size + 1 + 1 := by omega
        have nec_3 : ¬ w1.heap.size = w3.heap.size + 1 + 1 + 1 := by omega
        have neo_1 : ¬ w2.heap.size = w3.heap.size + 1 := by omega
        have neo_2 : ¬ w2.heap.size = w3.heap.size + 1 + 1 := by omega
        have neo_3 : ¬ w2.heap.size = w3.heap.size + 1 + 1 + 1 := by omega
        go_wp2_with fail
        refine (initGet_no 2 1 b _ (Nat.le_trans nb (by decide)) N1.out).mono ?_
        rintro e w4 ⟨rfl, hb4⟩
        clear c0 cf0 c1 cf1 c2 cf2 o0 of0 o1 of1 o2 of2 o3 of3
        have Vc := Lib.hid ((((((Vc.out).alloc (.cells (List.toArray [.int .i64 (be b 0 4), .int .i64 (be b 4 2), .int .i64 (be b 6 2), .int .i64 (be b 8 2)]) 24) (by omega)).alloc (.cells (List.toArray [.int .i64 2, .int .i64 1, .string b]) 28) (by simp; omega)).alloc (.cells (List.toArray [.int .i64 2, .int .i64 0, .string (b ++ ByteArray.mk #[0])]) 28) (by simp; omega)).alloc (.cells (List.toArray [.int .i64 2, .int .i64 0, .string (b.extract 0 9)]) 28) (by simp; omega)).below hb4 (by simp; omega))
        have Vo := Lib.hid ((((((Vo.out).alloc (.cells (List.toArray [.int .i64 (be b 0 4), .int .i64 (be b 4 2), .int .i64 (be b 6 2), .int .i64 (be b 8 2)]) 24) (by omega)).alloc (.cells (List.toArray [.int .i64 2, .int .i64 1, .string b]) 28) (by simp; omega)).alloc (.cells (List.toArray [.int .i64 2, .int .i64 0, .string (b ++ ByteArray.mk #[0])]) 28) (by simp; omega)).alloc (.cells (List.toArray [.int .i64 2, .int .i64 0, .string (b.extract 0 9)]) 28) (by simp; omega)).below hb4 (by simp; omega))
        have Vs := Lib.hid (((((VarN.new_at (w := w3) (d := w3.heap.size) (by simp) [.int .i64 (be b 0 4), .int .i64 (be b 4 2), .int .i64 (be b 6 2), .int .i64 (be b 8 2)] 24).alloc (.cells (List.toArray [.int .i64 2, .int .i64 1, .string b]) 28) (by first | omega | (simp <;> omega))).alloc (.cells (List.toArray [.int .i64 2, .int .i64 0, .string (b ++ ByteArray.mk #[0])]) 28) (by first | omega | (simp <;> omega))).alloc (.cells (List.toArray [.int .i64 2, .int .i64 0, .string (b.extract 0 9)]) 28) (by first | omega | (simp <;> omega))).below hb4 (by simp <;> omega))
        have Vx := Lib.hid ((((VarN.new_at (w := (w3.alloc (.cells (List.toArray [.int .i64 (be b 0 4), .int .i64 (be b 4 2), .int .i64 (be b 6 2), .int .i64 (be b 8 2)]) 24))) (d := w3.heap.size + 1) (by simp) [.int .i64 2, .int .i64 1, .string b] 28).alloc (.cells (List.toArray [.int .i64 2, .int .i64 0, .string (b ++ ByteArray.mk #[0])]) 28) (by first | omega | (simp <;> omega))).alloc (.cells (List.toArray [.int .i64 2, .int .i64 0, .string (b.extract 0 9)]) 28) (by first | omega | (simp <;> omega))).below hb4 (by simp <;> omega))
        have Vy := Lib.hid (((VarN.new_at (w := ((w3.alloc (.cells (List.toArray [.int .i64 (be b 0 4), .int .i64 (be b 4 2), .int .i64 (be b 6 2), .int .i64 (be b 8 2)]) 24)).alloc (.cells (List.toArray [.int .i64 2, .int .i64 1, .string b]) 28))) (d := w3.heap.size + 1 + 1) (by simp) [.int .i64 2, .int .i64 0, .string (b ++ ByteArray.mk #[0])] 28).alloc (.cells (List.toArray [.int .i64 2, .int .i64 0, .string (b.extract 0 9)]) 28) (by first | omega | (simp <;> omega))).below hb4 (by simp <;> omega))
        have Vz := Lib.hid ((VarN.new_at (w := (((w3.alloc (.cells (List.toArray [.int .i64 (be b 0 4), .int .i64 (be b 4 2), .int .i64 (be b 6 2), .int .i64 (be b 8 2)]) 24)).alloc (.cells (List.toArray [.int .i64 2, .int .i64 1, .string b]) 28)).alloc (.cells (List.toArray [.int .i64 2, .int .i64 0, .string (b ++ ByteArray.mk #[0])]) 28))) (d := w3.heap.size + 1 + 1 + 1) (by simp) [.int .i64 2, .int .i64 0, .string (b.extract 0 9)] 28).below hb4 (by simp))
        have HB4 := Lib.hid ((((((HB3.out).alloc (Nat.le_trans HB3.out.size (by exact Nat.le_refl _)) (.cells (List.toArray [.int .i64 (be b 0 4), .int .i64 (be b 4 2), .int .i64 (be b 6 2), .int .i64 (be b 8 2)]) 24)).alloc (Nat.le_trans HB3.out.size (by simp <;> omega)) (.cells (List.toArray [.int .i64 2, .int .i64 1, .string b]) 28)).alloc (Nat.le_trans HB3.out.size (by simp <;> omega)) (.cells (List.toArray [.int .i64 2, .int .i64 0, .string (b ++ ByteArray.mk #[0])]) 28)).alloc (Nat.le_trans HB3.out.size (by simp <;> omega)) (.cells (List.toArray [.int .i64 2, .int .i64 0, .string (b.extract 0 9)]) 28)).trans (hb4.mono (Nat.le_trans HB3.out.size (by simp <;> omega))))
        have ltc : w1.heap.size < w4.heap.size := lt_of_cell (Vc.out 0 _ rfl).1
        have lto : w2.heap.size < w4.heap.size := lt_of_cell (Vo.out 0 _ rfl).1
        have lts : w3.heap.size < w4.heap.size := lt_of_cell (Vs.out 0 _ rfl).1
        have ltx : w3.heap.size + 1 < w4.heap.size := lt_of_cell (Vx.out 0 _ rfl).1
        have lty : w3.heap.size + 1 + 1 < w4.heap.size := lt_of_cell (Vy.out 0 _ rfl).1
        have ltz : w3.heap.size + 1 + 1 + 1 < w4.heap.size := lt_of_cell (Vz.out 0 _ rfl).1
        have nec : ¬ w1.heap.size = w4.heap.size := by omega
        have neo : ¬ w2.heap.size = w4.heap.size := by omega
        have nes : ¬ w3.heap.size = w4.heap.size := by omega
        have nex : ¬ w3.heap.size + 1 = w4.heap.size := by omega
        have ney : ¬ w3.heap.size + 1 + 1 = w4.heap.size := by omega
        have nez : ¬ w3.heap.size + 1 + 1 + 1 = w4.heap.size := by omega
        clear hb4
        clear c0p3 c0p4 c1p3 c1p4 c2p3 c2p4
        unfold noInitV
        have y0 := (Vy.out 0 _ rfl).1
        have yf0 := (Vy.out 0 _ rfl).2
        have y1 := (Vy.out 1 _ rfl).1
        have yf1 := (Vy.out 1 _ rfl).2
        have y2 := (Vy.out 2 _ rfl).1
        have yf2 := (Vy.out 2 _ rfl).2
        go_wp2_with fail
        refine (initGet_no 2 0 (b ++ ByteArray.mk #[0]) _ (by rw [ByteArray.size_append]; exact Nat.le_trans (Nat.add_le_add_right nb _) (by decide)) N2.out).mono ?_
        rintro e w5 ⟨rfl, hb5⟩
        clear y0 yf0 y1 yf1 y2 yf2
        have Vc := Lib.hid (((Vc.out).alloc (.cells (List.toArray [.int .i64 0, .int .i64 0, .int .i64 0, .int .i64 0]) 24) (by omega)).below hb5 (by simp; omega))
        have Vo := Lib.hid (((Vo.out).alloc (.cells (List.toArray [.int .i64 0, .int .i64 0, .int .i64 0, .int .i64 0]) 24) (by omega)).below hb5 (by simp; omega))
        have Vs := Lib.hid (((Vs.out).alloc (.cells (List.toArray [.int .i64 0, .int .i64 0, .int .i64 0, .int .i64 0]) 24) (by omega)).below hb5 (by simp; omega))
        have Vx := Lib.hid (((Vx.out).alloc (.cells (List.toArray [.int .i64 0, .int .i64 0, .int .i64 0, .int .i64 0]) 24) (by omega)).below hb5 (by simp; omega))
        have Vy := Lib.hid (((Vy.out).alloc (.cells (List.toArray [.int .i64 0, .int .i64 0, .int .i64 0, .int .i64 0]) 24) (by omega)).below hb5 (by simp; omega))
        have Vz := Lib.hid (((Vz.out).alloc (.cells (List.toArray [.int .i64 0, .int .i64 0, .int .i64 0, .int .i64 0]) 24) (by omega)).below hb5 (by simp; omega))
        have Vn1 := Lib.hid ((VarN.new_at (w := w4) (d := w4.heap.size) (by simp) [.int .i64 0, .int .i64 0, .int .i64 0, .int .i64 0] 24).below hb5 (by simp))
        have HB5 := Lib.hid (((HB4.out).alloc (Nat.le_trans HB4.out.size (by exact Nat.le_refl _)) (.cells (List.toArray [.int .i64 0, .int .i64 0, .int .i64 0, .int .i64 0]) 24)).trans (hb5.mono (Nat.le_trans HB4.out.size (by simp <;> omega))))
        have ltc : w1.heap.size < w5.heap.size := lt_of_cell (Vc.out 0 _ rfl).1
        have lto : w2.heap.size < w5.heap.size := lt_of_cell (Vo.out 0 _ rfl).1
        have lts : w3.heap.size < w5.heap.size := lt_of_cell (Vs.out 0 _ rfl).1
        have ltx : w3.heap.size + 1 < w5.heap.size := lt_of_cell (Vx.out 0 _ rfl).1
        have lty : w3.heap.size + 1 + 1 < w5.heap.size := lt_of_cell (Vy.out 0 _ rfl).1
        have ltz : w3.heap.size + 1 + 1 + 1 < w5.heap.size := lt_of_cell (Vz.out 0 _ rfl).1
        have ltn1 : w4.heap.size < w5.heap.size := lt_of_cell (Vn1.out 0 _ rfl).1
        have nec : ¬ w1.heap.size = w5.heap.size := by omega
        have neo : ¬ w2.heap.size = w5.heap.size := by omega
        have nes : ¬ w3.heap.size = w5.heap.size := by omega
        have nex : ¬ w3.heap.size + 1 = w5.heap.size := by omega
        have ney : ¬ w3.heap.size + 1 + 1 = w5.heap.size := by omega
        have nez : ¬ w3.heap.size + 1 + 1 + 1 = w5.heap.size := by omega
        have nen1 : ¬ w4.heap.size = w5.heap.size := by omega
        clear hb5
        unfold noInitV
        have z0 := (Vz.out 0 _ rfl).1
        have zf0 := (Vz.out 0 _ rfl).2
        have z1 := (Vz.out 1 _ rfl).1
        have zf1 := (Vz.out 1 _ rfl).2
        have z2 := (Vz.out 2 _ rfl).1
        have zf2 := (Vz.out 2 _ rfl).2
        go_wp2_with fail
        refine (initGet_no 2 0 (b.extract 0 9) _ (by rw [ByteArray.size_extract]; exact Nat.le_trans (Nat.sub_le _ _) (Nat.le_trans (Nat.min_le_right _ _) (Nat.le_trans nb (by decide)))) N3.out).mono ?_
        rintro e w6 ⟨rfl, hb6⟩
        clear z0 zf0 z1 zf1 z2 zf2
        have Vc := Lib.hid (((Vc.out).alloc (.cells (List.toArray [.int .i64 0, .int .i64 0, .int .i64 0, .int .i64 0]) 24) (by omega)).below hb6 (by simp; omega))
        have Vo := Lib.hid (((Vo.out).alloc (.cells (List.toArray [.int .i64 0, .int .i64 0, .int .i64 0, .int .i64 0]) 24) (by omega)).below hb6 (by simp; omega))
        have Vs := Lib.hid (((Vs.out).alloc (.cells (List.toArray [.int .i64 0, .int .i64 0, .int .i64 0, .int .i64 0]) 24) (by omega)).below hb6 (by simp; omega))
        have Vx := Lib.hid (((Vx.out).alloc (.cells (List.toArray [.int .i64 0, .int .i64 0, .int .i64 0, .int .i64 0]) 24) (by omega)).below hb6 (by simp; omega))
        have Vy := Lib.hid (((Vy.out).alloc (.cells (List.toArray [.int .i64 0, .int .i64 0, .int .i64 0, .int .i64 0]) 24) (by omega)).below hb6 (by simp; omega))
        have Vz := Lib.hid (((Vz.out).alloc (.cells (List.toArray [.int .i64 0, .int .i64 0, .int .i64 0, .int .i64 0]) 24) (by omega)).below hb6 (by simp; omega))
        have Vn1 := Lib.hid (((Vn1.out).alloc (.cells (List.toArray [.int .i64 0, .int .i64 0, .int .i64 0, .int .i64 0]) 24) (by omega)).below hb6 (by simp; omega))
        have Vn2 := Lib.hid ((VarN.new_at (w := w5) (d := w5.heap.size) (by simp) [.int .i64 0, .int .i64 0, .int .i64 0, .int .i64 0] 24).below hb6 (by simp))
        have HB6 := Lib.hid (((HB5.out).alloc (Nat.le_trans HB5.out.size (by exact Nat.le_refl _)) (.cells (List.toArray [.int .i64 0, .int .i64 0, .int .i64 0, .int .i64 0]) 24)).trans (hb6.mono (Nat.le_trans HB5.out.size (by simp <;> omega))))
        have ltc : w1.heap.size < w6.heap.size := lt_of_cell (Vc.out 0 _ rfl).1
        have lto : w2.heap.size < w6.heap.size := lt_of_cell (Vo.out 0 _ rfl).1
        have lts : w3.heap.size < w6.heap.size := lt_of_cell (Vs.out 0 _ rfl).1
        have ltx : w3.heap.size + 1 < w6.heap.size := lt_of_cell (Vx.out 0 _ rfl).1
        have lty : w3.heap.size + 1 + 1 < w6.heap.size := lt_of_cell (Vy.out 0 _ rfl).1
        have ltz : w3.heap.size + 1 + 1 + 1 < w6.heap.size := lt_of_cell (Vz.out 0 _ rfl).1
        have ltn1 : w4.heap.size < w6.heap.size := lt_of_cell (Vn1.out 0 _ rfl).1
        have ltn2 : w5.heap.size < w6.heap.size := lt_of_cell (Vn2.out 0 _ rfl).1
        have nec : ¬ w1.heap.size = w6.heap.size := by omega
        have neo : ¬ w2.heap.size = w6.heap.size := by omega
        have nes : ¬ w3.heap.size = w6.heap.size := by omega
        have nex : ¬ w3.heap.size + 1 = w6.heap.size := by omega
        have ney : ¬ w3.heap.size + 1 + 1 = w6.heap.size := by omega
        have nez : ¬ w3.heap.size + 1 + 1 + 1 = w6.heap.size := by omega
        have nen1 : ¬ w4.heap.size = w6.heap.size := by omega
        have nen2 : ¬ w5.heap.size = w6.heap.size := by omega
        clear hb6
        unfold noInitV
        go_wp2
        go_ret
        exact ⟨rfl, (HB6.out).alloc (Nat.le_trans HB6.out.size (by exact Nat.le_refl _)) _⟩
    · have HC := Lib.hid hc
      clear hc
      go_wp2_with fail
      refine (initGet_no k f b _ (Nat.le_trans nb (by decide)) HC.out).mono ?_
      rintro e w2 ⟨rfl, hb2⟩
      have Vc := Lib.hid ((VarN.new_at (w := w1) (d := w1.heap.size) (by simp) [.int .i64 k, .int .i64 f, .string b] 28).below hb2 (by simp))
      have HB2 := Lib.hid (((hb1).alloc (Nat.le_trans hb1.size (by exact Nat.le_refl _)) (.cells (List.toArray [.int .i64 k, .int .i64 f, .string b]) 28)).trans (hb2.mono (Nat.le_trans hb1.size (by simp <;> omega))))
      have ltc : w1.heap.size < w2.heap.size := lt_of_cell (Vc.out 0 _ rfl).1
      have nec : ¬ w1.heap.size = w2.heap.size := by omega
      clear hb2
      unfold noInitV
      have c0 := (Vc.out 0 _ rfl).1
      have cf0 := (Vc.out 0 _ rfl).2
      have c1 := (Vc.out 1 _ rfl).1
      have cf1 := (Vc.out 1 _ rfl).2
      have c2 := (Vc.out 2 _ rfl).1
      have cf2 := (Vc.out 2 _ rfl).2
      go_wp2_with fail
      refine (sInitGet_no k f b _ HC.out).mono ?_
      rintro e w3 ⟨rfl, hb3⟩
      clear c0 cf0 c1 cf1 c2 cf2
      have Vc := Lib.hid (((Vc.out).alloc (.cells (List.toArray [.int .i64 0, .int .i64 0, .int .i64 0, .int .i64 0]) 24) (by omega)).below hb3 (by simp; omega))
      have Vo := Lib.hid ((VarN.new_at (w := w2) (d := w2.heap.size) (by simp) [.int .i64 0, .int .i64 0, .int .i64 0, .int .i64 0] 24).below hb3 (by simp))
      have HB3 := Lib.hid (((HB2.out).alloc (Nat.le_trans HB2.out.size (by exact Nat.le_refl _)) (.cells (List.toArray [.int .i64 0, .int .i64 0, .int .i64 0, .int .i64 0]) 24)).trans (hb3.mono (Nat.le_trans HB2.out.size (by simp <;> omega))))
      have ltc : w1.heap.size < w3.heap.size := lt_of_cell (Vc.out 0 _ rfl).1
      have lto : w2.heap.size < w3.heap.size := lt_of_cell (Vo.out 0 _ rfl).1
      have nec : ¬ w1.heap.size = w3.heap.size := by omega
      have neo : ¬ w2.heap.size = w3.heap.size := by omega
      clear hb3
      unfold noInitV
      have c0 := (Vc.out 0 _ rfl).1
      have cf0 := (Vc.out 0 _ rfl).2
      have c1 := (Vc.out 1 _ rfl).1
      have cf1 := (Vc.out 1 _ rfl).2
      have c2 := (Vc.out 2 _ rfl).1
      have cf2 := (Vc.out 2 _ rfl).2
      have o0 := (Vo.out 0 _ rfl).1
      have of0 := (Vo.out 0 _ rfl).2
      have o1 := (Vo.out 1 _ rfl).1
      have of1 := (Vo.out 1 _ rfl).2
      have o2 := (Vo.out 2 _ rfl).1
      have of2 := (Vo.out 2 _ rfl).2
      have o3 := (Vo.out 3 _ rfl).1
      have of3 := (Vo.out 3 _ rfl).2
      go_wp2
      go_ret
      exact ⟨rfl, (HB3.out).alloc (Nat.le_trans HB3.out.size (by exact Nat.le_refl _)) _⟩

set_option maxHeartbeats 1000000 in
theorem walk_fnInitPutRange (a0 : Option Addr) (len0 cap0 : Nat) (z0 : List Int) (w : World) (w0 : IsRow .u8 w a0 len0 cap0 z0) :
    Calls Try.prog 5 #[.slice a0 len0 cap0] w fun e w' => e = .returned (.bool true) ∧ Below w.heap.size w w' := by
  have H := Lib.hid w0
  clear w0
  by_cases hl : (1048576 : Int) < len0
  · go_enter Try.func5, Try.ntmps5
    go_wp2
    go_ret
    exact ⟨rfl, Below.refl _ _⟩
  · go_enter Try.func5, Try.ntmps5
    go_wp2_with fail
    refine (drawInitPut_any a0 len0 cap0 z0 _ H.out).mono ?_
    rintro e w1 ⟨a, b, c, d, y, rfl, np, hb1⟩
    have NP := Lib.hid np
    clear np
    by_cases hc : InitOk a b c d
    · have HC := Lib.hid hc
      clear hc
      cases y
      · go_wp2_with fail
        refine (initPut_yes a b c d false _ HC.out).mono ?_
        rw [if_neg (by decide)]
        rintro e w2 ⟨rfl, hb2⟩
        have Vd := Lib.hid ((VarN.new_at (w := w1) (d := w1.heap.size) (by simp) [.int .i64 a, .int .i64 b, .int .i64 c, .int .i64 d] 24).below hb2 (by simp))
        have HB2 := Lib.hid (((hb1).alloc (Nat.le_trans hb1.size (by exact Nat.le_refl _)) (.cells (List.toArray [.int .i64 a, .int .i64 b, .int .i64 c, .int .i64 d]) 24)).trans (hb2.mono (Nat.le_trans hb1.size (by simp <;> omega))))
        have ltd : w1.heap.size < w2.heap.size := lt_of_cell (Vd.out 0 _ rfl).1
        have ned : ¬ w1.heap.size = w2.heap.size := by omega
        clear hb2
        unfold madeV
        have d0 := (Vd.out 0 _ rfl).1
        have df0 := (Vd.out 0 _ rfl).2
        have d1 := (Vd.out 1 _ rfl).1
        have df1 := (Vd.out 1 _ rfl).2
        have d2 := (Vd.out 2 _ rfl).1
        have df2 := (Vd.out 2 _ rfl).2
        have d3 := (Vd.out 3 _ rfl).1
        have df3 := (Vd.out 3 _ rfl).2
        go_wp2_with fail
        refine (sInitPut_yes a b c d false _ HC.out).mono ?_
        rw [if_neg (by decide)]
        rintro e w3 ⟨rfl, hb3⟩
        clear d0 df0 d1 df1 d2 df2 d3 df3
        have Vd := Lib.hid (((Vd.out).alloc (.cells (List.toArray [.int .i64 1, .int .i64 0, .string (initS a b c d)]) 28) (by omega)).below hb3 (by simp; omega))
        have Vo := Lib.hid ((VarN.new_at (w := w2) (d := w2.heap.size) (by simp) [.int .i64 1, .int .i64 0, .string (initS a b c d)] 28).below hb3 (by simp))
        have HB3 := Lib.hid (((HB2.out).alloc (Nat.le_trans HB2.out.size (by exact Nat.le_refl _)) (.cells (List.toArray [.int .i64 1, .int .i64 0, .string (initS a b c d)]) 28)).trans (hb3.mono (Nat.le_trans HB2.out.size (by simp <;> omega))))
        have ltd : w1.heap.size < w3.heap.size := lt_of_cell (Vd.out 0 _ rfl).1
        have lto : w2.heap.size < w3.heap.size := lt_of_cell (Vo.out 0 _ rfl).1
        have ned : ¬ w1.heap.size = w3.heap.size := by omega
        have neo : ¬ w2.heap.size = w3.heap.size := by omega
        clear hb3
        unfold madeV
        have e1 := HC.out.1.1
        have e2 := HC.out.1.2
        have e3 := addV_zero (ser_of HC.out.2.1)
        have e4 := HC.out.2.2.1.1
        have e5 := HC.out.2.2.1.2
        have e6 := addV_zero (ser_of HC.out.2.2.2)
        have d0 := (Vd.out 0 _ rfl).1
        have df0 := (Vd.out 0 _ rfl).2
        have d1 := (Vd.out 1 _ rfl).1
        have df1 := (Vd.out 1 _ rfl).2
        have d2 := (Vd.out 2 _ rfl).1
        have df2 := (Vd.out 2 _ rfl).2
        have d3 := (Vd.out 3 _ rfl).1
        have df3 := (Vd.out 3 _ rfl).2
        have o0 := (Vo.out 0 _ rfl).1
        have of0 := (Vo.out 0 _ rfl).2
        have o1 := (Vo.out 1 _ rfl).1
        have of1 := (Vo.out 1 _ rfl).2
        have o2 := (Vo.out 2 _ rfl).1
        have of2 := (Vo.out 2 _ rfl).2
        go_wp2_with fail
        refine (serialAdd_any b 0 _).mono ?_
        rintro e w' ⟨rfl, rfl⟩
        go_wp2_with fail
        refine (serialAdd_any d 0 _).mono ?_
        rintro e w' ⟨rfl, rfl⟩
        go_wp2
        go_ret
        exact ⟨rfl, (HB3.out).alloc (Nat.le_trans HB3.out.size (by exact Nat.le_refl _)) _⟩
      · go_wp2_with fail
        refine (initPut_yes a b c d true _ HC.out).mono ?_
        rw [if_pos rfl]
        rintro e w2 ⟨rfl, hb2⟩
        have Vd := Lib.hid ((VarN.new_at (w := w1) (d := w1.heap.size) (by simp) [.int .i64 a, .int .i64 b, .int .i64 c, .int .i64 d] 24).below hb2 (by simp))
        have HB2 := Lib.hid (((hb1).alloc (Nat.le_trans hb1.size (by exact Nat.le_refl _)) (.cells (List.toArray [.int .i64 a, .int .i64 b, .int .i64 c, .int .i64 d]) 24)).trans (hb2.mono (Nat.le_trans hb1.size (by simp <;> omega))))
        have ltd : w1.heap.size < w2.heap.size := lt_of_cell (Vd.out 0 _ rfl).1
        have ned : ¬ w1.heap.size = w2.heap.size := by omega
        clear hb2
        unfold madeV
        have d0 := (Vd.out 0 _ rfl).1
        have df0 := (Vd.out 0 _ rfl).2
        have d1 := (Vd.out 1 _ rfl).1
        have df1 := (Vd.out 1 _ rfl).2
        have d2 := (Vd.out 2 _ rfl).1
        have df2 := (Vd.out 2 _ rfl).2
        have d3 := (Vd.out 3 _ rfl).1
        have df3 := (Vd.out 3 _ rfl).2
        go_wp2_with fail
        refine (sInitPut_yes a b c d true _ HC.out).mono ?_
        rw [if_pos rfl]
        rintro e w3 ⟨rfl, hb3⟩
        clear d0 df0 d1 df1 d2 df2 d3 df3
        have Vd := Lib.hid (((Vd.out).alloc (.cells (List.toArray [.int .i64 2, .int .i64 0, .string (initS a b c d)]) 28) (by omega)).below hb3 (by simp; omega))
        have Vo := Lib.hid ((VarN.new_at (w := w2) (d := w2.heap.size) (by simp) [.int .i64 2, .int .i64 0, .string (initS a b c d)] 28).below hb3 (by simp))
        have HB3 := Lib.hid (((HB2.out).alloc (Nat.le_trans HB2.out.size (by exact Nat.le_refl _)) (.cells (List.toArray [.int .i64 2, .int .i64 0, .string (initS a b c d)]) 28)).trans (hb3.mono (Nat.le_trans HB2.out.size (by simp <;> omega))))
        have ltd : w1.heap.size < w3.heap.size := lt_of_cell (Vd.out 0 _ rfl).1
        have lto : w2.heap.size < w3.heap.size := lt_of_cell (Vo.out 0 _ rfl).1
        have ned : ¬ w1.heap.size = w3.heap.size := by omega
        have neo : ¬ w2.heap.size = w3.heap.size := by omega
        clear hb3
        unfold madeV
        have e1 := HC.out.1.1
        have e2 := HC.out.1.2
        have e3 := addV_zero (ser_of HC.out.2.1)
        have e4 := HC.out.2.2.1.1
        have e5 := HC.out.2.2.1.2
        have e6 := addV_zero (ser_of HC.out.2.2.2)
        have d0 := (Vd.out 0 _ rfl).1
        have df0 := (Vd.out 0 _ rfl).2
        have d1 := (Vd.out 1 _ rfl).1
        have df1 := (Vd.out 1 _ rfl).2
        have d2 := (Vd.out 2 _ rfl).1
        have df2 := (Vd.out 2 _ rfl).2
        have d3 := (Vd.out 3 _ rfl).1
        have df3 := (Vd.out 3 _ rfl).2
        have o0 := (Vo.out 0 _ rfl).1
        have of0 := (Vo.out 0 _ rfl).2
        have o1 := (Vo.out 1 _ rfl).1
        have of1 := (Vo.out 1 _ rfl).2
        have o2 := (Vo.out 2 _ rfl).1
        have of2 := (Vo.out 2 _ rfl).2
        go_wp2_with fail
        refine (serialAdd_any b 0 _).mono ?_
        rintro e w' ⟨rfl, rfl⟩
        go_wp2_with fail
        refine (serialAdd_any d 0 _).mono ?_
        rintro e w' ⟨rfl, rfl⟩
        go_wp2
        go_ret
        exact ⟨rfl, (HB3.out).alloc (Nat.le_trans HB3.out.size (by exact Nat.le_refl _)) _⟩
    · by_cases e1 : 1 ≤ a
      · by_cases e2 : a ≤ 4294967295
        · by_cases e3 : Ser b
          · by_cases e4 : 1 ≤ c
            · by_cases e5 : c ≤ 4
              · by_cases e6 : Ser d
                · exact absurd ⟨⟨e1, e2⟩, ser_le e3, ⟨e4, e5⟩, ser_le e6⟩ hc
                · have HC := Lib.hid hc
                  clear hc
                  cases y
                  · go_wp2_with fail
                    refine (initPut_no a b c d false _ HC.out).mono ?_
                    rintro e w2 ⟨rfl, hb2⟩
                    have Vd := Lib.hid ((VarN.new_at (w := w1) (d := w1.heap.size) (by simp) [.int .i64 a, .int .i64 b, .int .i64 c, .int .i64 d] 24).below hb2 (by simp))
                    have HB2 := Lib.hid (((hb1).alloc (Nat.le_trans hb1.size (by exact Nat.le_refl _)) (.cells (List.toArray [.int .i64 a, .int .i64 b, .int .i64 c, .int .i64 d]) 24)).trans (hb2.mono (Nat.le_trans hb1.size (by simp <;> omega))))
                    have ltd : w1.heap.size < w2.heap.size := lt_of_cell (Vd.out 0 _ rfl).1
                    have ned : ¬ w1.heap.size = w2.heap.size := by omega
                    clear hb2
                    unfold notMadeV
                    have d0 := (Vd.out 0 _ rfl).1
                    have df0 := (Vd.out 0 _ rfl).2
                    have d1 := (Vd.out 1 _ rfl).1
                    have df1 := (Vd.out 1 _ rfl).2
                    have d2 := (Vd.out 2 _ rfl).1
                    have df2 := (Vd.out 2 _ rfl).2
                    have d3 := (Vd.out 3 _ rfl).1
                    have df3 := (Vd.out 3 _ rfl).2
                    go_wp2_with fail
                    refine (sInitPut_no a b c d false _ HC.out).mono ?_
                    rintro e w3 ⟨rfl, hb3⟩
                    clear d0 df0 d1 df1 d2 df2 d3 df3
                    have Vd := Lib.hid (((Vd.out).alloc (.cells (List.toArray [.int .i64 0, .int .i64 0, .string (ByteArray.mk #[])]) 28) (by omega)).below hb3 (by simp; omega))
                    have Vo := Lib.hid ((VarN.new_at (w := w2) (d := w2.heap.size) (by simp) [.int .i64 0, .int .i64 0, .string (ByteArray.mk #[])] 28).below hb3 (by simp))
                    have HB3 := Lib.hid (((HB2.out).alloc (Nat.le_trans HB2.out.size (by exact Nat.le_refl _)) (.cells (List.toArray [.int .i64 0, .int .i64 0, .string (ByteArray.mk #[])]) 28)).trans (hb3.mono (Nat.le_trans HB2.out.size (by simp <;> omega))))
                    have ltd : w1.heap.size < w3.heap.size := lt_of_cell (Vd.out 0 _ rfl).1
                    have lto : w2.heap.size < w3.heap.size := lt_of_cell (Vo.out 0 _ rfl).1
                    have ned : ¬ w1.heap.size = w3.heap.size := by omega
                    have neo : ¬ w2.heap.size = w3.heap.size := by omega
                    clear hb3
                    unfold notMadeV
                    have q3 := addV_zero e3
                    have q6 : decide ((0 : Int) ≤ addV d 0) = false := decide_eq_false (addV_not e6)
                    have d0 := (Vd.out 0 _ rfl).1
                    have df0 := (Vd.out 0 _ rfl).2
                    have d1 := (Vd.out 1 _ rfl).1
                    have df1 := (Vd.out 1 _ rfl).2
                    have d2 := (Vd.out 2 _ rfl).1
                    have df2 := (Vd.out 2 _ rfl).2
                    have d3 := (Vd.out 3 _ rfl).1
                    have df3 := (Vd.out 3 _ rfl).2
                    have o0 := (Vo.out 0 _ rfl).1
                    have of0 := (Vo.out 0 _ rfl).2
                    have o1 := (Vo.out 1 _ rfl).1
                    have of1 := (Vo.out 1 _ rfl).2
                    have o2 := (Vo.out 2 _ rfl).1
                    have of2 := (Vo.out 2 _ rfl).2
                    go_wp2_with fail
                    refine (serialAdd_any b 0 _).mono ?_
                    rintro e w' ⟨rfl, rfl⟩
                    go_wp2_with fail
                    refine (serialAdd_any d 0 _).mono ?_
                    rintro e w' ⟨rfl, rfl⟩
                    go_wp2
                    go_ret
                    exact ⟨rfl, (HB3.out).alloc (Nat.le_trans HB3.out.size (by exact Nat.le_refl _)) _⟩
                  · go_wp2_with fail
                    refine (initPut_no a b c d true _ HC.out).mono ?_
                    rintro e w2 ⟨rfl, hb2⟩
                    have Vd := Lib.hid ((VarN.new_at (w := w1) (d := w1.heap.size) (by simp) [.int .i64 a, .int .i64 b, .int .i64 c, .int .i64 d] 24).below hb2 (by simp))
                    have HB2 := Lib.hid (((hb1).alloc (Nat.le_trans hb1.size (by exact Nat.le_refl _)) (.cells (List.toArray [.int .i64 a, .int .i64 b, .int .i64 c, .int .i64 d]) 24)).trans (hb2.mono (Nat.le_trans hb1.size (by simp <;> omega))))
                    have ltd : w1.heap.size < w2.heap.size := lt_of_cell (Vd.out 0 _ rfl).1
                    have ned : ¬ w1.heap.size = w2.heap.size := by omega
                    clear hb2
                    unfold notMadeV
                    have d0 := (Vd.out 0 _ rfl).1
                    have df0 := (Vd.out 0 _ rfl).2
                    have d1 := (Vd.out 1 _ rfl).1
                    have df1 := (Vd.out 1 _ rfl).2
                    have d2 := (Vd.out 2 _ rfl).1
                    have df2 := (Vd.out 2 _ rfl).2
                    have d3 := (Vd.out 3 _ rfl).1
                    have df3 := (Vd.out 3 _ rfl).2
                    go_wp2_with fail
                    refine (sInitPut_no a b c d true _ HC.out).mono ?_
                    rintro e w3 ⟨rfl, hb3⟩
                    clear d0 df0 d1 df1 d2 df2 d3 df3
                    have Vd := Lib.hid (((Vd.out).alloc (.cells (List.toArray [.int .i64 0, .int .i64 0, .string (ByteArray.mk #[])]) 28) (by omega)).below hb3 (by simp; omega))
                    have Vo := Lib.hid ((VarN.new_at (w := w2) (d := w2.heap.size) (by simp) [.int .i64 0, .int .i64 0, .string (ByteArray.mk #[])] 28).below hb3 (by simp))
                    have HB3 := Lib.hid (((HB2.out).alloc (Nat.le_trans HB2.out.size (by exact Nat.le_refl _)) (.cells (List.toArray [.int .i64 0, .int .i64 0, .string (ByteArray.mk #[])]) 28)).trans (hb3.mono (Nat.le_trans HB2.out.size (by simp <;> omega))))
                    have ltd : w1.heap.size < w3.heap.size := lt_of_cell (Vd.out 0 _ rfl).1
                    have lto : w2.heap.size < w3.heap.size := lt_of_cell (Vo.out 0 _ rfl).1
                    have ned : ¬ w1.heap.size = w3.heap.size := by omega
                    have neo : ¬ w2.heap.size = w3.heap.size := by omega
                    clear hb3
                    unfold notMadeV
                    have q3 := addV_zero e3
                    have q6 : decide ((0 : Int) ≤ addV d 0) = false := decide_eq_false (addV_not e6)
                    have d0 := (Vd.out 0 _ rfl).1
                    have df0 := (Vd.out 0 _ rfl).2
                    have d1 := (Vd.out 1 _ rfl).1
                    have df1 := (Vd.out 1 _ rfl).2
                    have d2 := (Vd.out 2 _ rfl).1
                    have df2 := (Vd.out 2 _ rfl).2
                    have d3 := (Vd.out 3 _ rfl).1
                    have df3 := (Vd.out 3 _ rfl).2
                    have o0 := (Vo.out 0 _ rfl).1
                    have of0 := (Vo.out 0 _ rfl).2
                    have o1 := (Vo.out 1 _ rfl).1
                    have of1 := (Vo.out 1 _ rfl).2
                    have o2 := (Vo.out 2 _ rfl).1
                    have of2 := (Vo.out 2 _ rfl).2
                    go_wp2_with fail
                    refine (serialAdd_any b 0 _).mono ?_
                    rintro e w' ⟨rfl, rfl⟩
                    go_wp2_with fail
                    refine (serialAdd_any d 0 _).mono ?_
                    rintro e w' ⟨rfl, rfl⟩
                    go_wp2
                    go_ret
                    exact ⟨rfl, (HB3.out).alloc (Nat.le_trans HB3.out.size (by exact Nat.le_refl _)) _⟩
              · have HC := Lib.hid hc
                clear hc
                cases y
                · go_wp2_with fail
                  refine (initPut_no a b c d false _ HC.out).mono ?_
                  rintro e w2 ⟨rfl, hb2⟩
                  have Vd := Lib.hid ((VarN.new_at (w := w1) (d := w1.heap.size) (by simp) [.int .i64 a, .int .i64 b, .int .i64 c, .int .i64 d] 24).below hb2 (by simp))
                  have HB2 := Lib.hid (((hb1).alloc (Nat.le_trans hb1.size (by exact Nat.le_refl _)) (.cells (List.toArray [.int .i64 a, .int .i64 b, .int .i64 c, .int .i64 d]) 24)).trans (hb2.mono (Nat.le_trans hb1.size (by simp <;> omega))))
                  have ltd : w1.heap.size < w2.heap.size := lt_of_cell (Vd.out 0 _ rfl).1
                  have ned : ¬ w1.heap.size = w2.heap.size := by omega
                  clear hb2
                  unfold notMadeV
                  have d0 := (Vd.out 0 _ rfl).1
                  have df0 := (Vd.out 0 _ rfl).2
                  have d1 := (Vd.out 1 _ rfl).1
                  have df1 := (Vd.out 1 _ rfl).2
                  have d2 := (Vd.out 2 _ rfl).1
                  have df2 := (Vd.out 2 _ rfl).2
                  have d3 := (Vd.out 3 _ rfl).1
                  have df3 := (Vd.out 3 _ rfl).2
                  go_wp2_with fail
                  refine (sInitPut_no a b c d false _ HC.out).mono ?_
                  rintro e w3 ⟨rfl, hb3⟩
                  clear d0 df0 d1 df1 d2 df2 d3 df3
                  have Vd := Lib.hid (((Vd.out).alloc (.cells (List.toArray [.int .i64 0, .int .i64 0, .string (ByteArray.mk #[])]) 28) (by omega)).below hb3 (by simp; omega))
                  have Vo := Lib.hid ((VarN.new_at (w := w2) (d := w2.heap.size) (by simp) [.int .i64 0, .int .i64 0, .string (ByteArray.mk #[])] 28).below hb3 (by simp))
                  have HB3 := Lib.hid (((HB2.out).alloc (Nat.le_trans HB2.out.size (by exact Nat.le_refl _)) (.cells (List.toArray [.int .i64 0, .int .i64 0, .string (ByteArray.mk #[])]) 28)).trans (hb3.mono (Nat.le_trans HB2.out.size (by simp <;> omega))))
                  have ltd : w1.heap.size < w3.heap.size := lt_of_cell (Vd.out 0 _ rfl).1
                  have lto : w2.heap.size < w3.heap.size := lt_of_cell (Vo.out 0 _ rfl).1
                  have ned : ¬ w1.heap.size = w3.heap.size := by omega
                  have neo : ¬ w2.heap.size = w3.heap.size := by omega
                  clear hb3
                  unfold notMadeV
                  have q3 := addV_zero e3
                  have d0 := (Vd.out 0 _ rfl).1
                  have df0 := (Vd.out 0 _ rfl).2
                  have d1 := (Vd.out 1 _ rfl).1
                  have df1 := (Vd.out 1 _ rfl).2
                  have d2 := (Vd.out 2 _ rfl).1
                  have df2 := (Vd.out 2 _ rfl).2
                  have d3 := (Vd.out 3 _ rfl).1
                  have df3 := (Vd.out 3 _ rfl).2
                  have o0 := (Vo.out 0 _ rfl).1
                  have of0 := (Vo.out 0 _ rfl).2
                  have o1 := (Vo.out 1 _ rfl).1
                  have of1 := (Vo.out 1 _ rfl).2
                  have o2 := (Vo.out 2 _ rfl).1
                  have of2 := (Vo.out 2 _ rfl).2
                  go_wp2_with fail
                  refine (serialAdd_any b 0 _).mono ?_
                  rintro e w' ⟨rfl, rfl⟩
                  go_wp2
                  go_ret
                  exact ⟨rfl, (HB3.out).alloc (Nat.le_trans HB3.out.size (by exact Nat.le_refl _)) _⟩
                · go_wp2_with fail
                  refine (initPut_no a b c d true _ HC.out).mono ?_
                  rintro e w2 ⟨rfl, hb2⟩
                  have Vd := Lib.hid ((VarN.new_at (w := w1) (d := w1.heap.size) (by simp) [.int .i64 a, .int .i64 b, .int .i64 c, .int .i64 d] 24).below hb2 (by simp))
                  have HB2 := Lib.hid (((hb1).alloc (Nat.le_trans hb1.size (by exact Nat.le_refl _)) (.cells (List.toArray [.int .i64 a, .int .i64 b, .int .i64 c, .int .i64 d]) 24)).trans (hb2.mono (Nat.le_trans hb1.size (by simp <;> omega))))
                  have ltd : w1.heap.size < w2.heap.size := lt_of_cell (Vd.out 0 _ rfl).1
                  have ned : ¬ w1.heap.size = w2.heap.size := by omega
                  clear hb2
                  unfold notMadeV
                  have d0 := (Vd.out 0 _ rfl).1
                  have df0 := (Vd.out 0 _ rfl).2
                  have d1 := (Vd.out 1 _ rfl).1
                  have df1 := (Vd.out 1 _ rfl).2
                  have d2 := (Vd.out 2 _ rfl).1
                  have df2 := (Vd.out 2 _ rfl).2
                  have d3 := (Vd.out 3 _ rfl).1
                  have df3 := (Vd.out 3 _ rfl).2
                  go_wp2_with fail
                  refine (sInitPut_no a b c d true _ HC.out).mono ?_
                  rintro e w3 ⟨rfl, hb3⟩
                  clear d0 df0 d1 df1 d2 df2 d3 df3
                  have Vd := Lib.hid (((Vd.out).alloc (.cells (List.toArray [.int .i64 0, .int .i64 0, .string (ByteArray.mk #[])]) 28) (by omega)).below hb3 (by simp; omega))
                  have Vo := Lib.hid ((VarN.new_at (w := w2) (d := w2.heap.size) (by simp) [.int .i64 0, .int .i64 0, .string (ByteArray.mk #[])] 28).below hb3 (by simp))
                  have HB3 := Lib.hid (((HB2.out).alloc (Nat.le_trans HB2.out.size (by exact Nat.le_refl _)) (.cells (List.toArray [.int .i64 0, .int .i64 0, .string (ByteArray.mk #[])]) 28)).trans (hb3.mono (Nat.le_trans HB2.out.size (by simp <;> omega))))
                  have ltd : w1.heap.size < w3.heap.size := lt_of_cell (Vd.out 0 _ rfl).1
                  have lto : w2.heap.size < w3.heap.size := lt_of_cell (Vo.out 0 _ rfl).1
                  have ned : ¬ w1.heap.size = w3.heap.size := by omega
                  have neo : ¬ w2.heap.size = w3.heap.size := by omega
                  clear hb3
                  unfold notMadeV
                  have q3 := addV_zero e3
                  have d0 := (Vd.out 0 _ rfl).1
                  have df0 := (Vd.out 0 _ rfl).2
                  have d1 := (Vd.out 1 _ rfl).1
                  have df1 := (Vd.out 1 _ rfl).2
                  have d2 := (Vd.out 2 _ rfl).1
                  have df2 := (Vd.out 2 _ rfl).2
                  have d3 := (Vd.out 3 _ rfl).1
                  have df3 := (Vd.out 3 _ rfl).2
                  have o0 := (Vo.out 0 _ rfl).1
                  have of0 := (Vo.out 0 _ rfl).2
                  have o1 := (Vo.out 1 _ rfl).1
                  have of1 := (Vo.out 1 _ rfl).2
                  have o2 := (Vo.out 2 _ rfl).1
                  have of2 := (Vo.out 2 _ rfl).2
                  go_wp2_with fail
                  refine (serialAdd_any b 0 _).mono ?_
                  rintro e w' ⟨rfl, rfl⟩
                  go_wp2
                  go_ret
                  exact ⟨rfl, (HB3.out).alloc (Nat.le_trans HB3.out.size (by exact Nat.le_refl _)) _⟩
            · have HC := Lib.hid hc
              clear hc
              cases y
              · go_wp2_with fail
                refine (initPut_no a b c d false _ HC.out).mono ?_
                rintro e w2 ⟨rfl, hb2⟩
                have Vd := Lib.hid ((VarN.new_at (w := w1) (d := w1.heap.size) (by simp) [.int .i64 a, .int .i64 b, .int .i64 c, .int .i64 d] 24).below hb2 (by simp))
                have HB2 := Lib.hid (((hb1).alloc (Nat.le_trans hb1.size (by exact Nat.le_refl _)) (.cells (List.toArray [.int .i64 a, .int .i64 b, .int .i64 c, .int .i64 d]) 24)).trans (hb2.mono (Nat.le_trans hb1.size (by simp <;> omega))))
                have ltd : w1.heap.size < w2.heap.size := lt_of_cell (Vd.out 0 _ rfl).1
                have ned : ¬ w1.heap.size = w2.heap.size := by omega
                clear hb2
                unfold notMadeV
                have d0 := (Vd.out 0 _ rfl).1
                have df0 := (Vd.out 0 _ rfl).2
                have d1 := (Vd.out 1 _ rfl).1
                have df1 := (Vd.out 1 _ rfl).2
                have d2 := (Vd.out 2 _ rfl).1
                have df2 := (Vd.out 2 _ rfl).2
                have d3 := (Vd.out 3 _ rfl).1
                have df3 := (Vd.out 3 _ rfl).2
                go_wp2_with fail
                refine (sInitPut_no a b c d false _ HC.out).mono ?_
                rintro e w3 ⟨rfl, hb3⟩
                clear d0 df0 d1 df1 d2 df2 d3 df3
                have Vd := Lib.hid (((Vd.out).alloc (.cells (List.toArray [.int .i64 0, .int .i64 0, .string (ByteArray.mk #[])]) 28) (by omega)).below hb3 (by simp; omega))
                have Vo := Lib.hid ((VarN.new_at (w := w2) (d := w2.heap.size) (by simp) [.int .i64 0, .int .i64 0, .string (ByteArray.mk #[])] 28).below hb3 (by simp))
                have HB3 := Lib.hid (((HB2.out).alloc (Nat.le_trans HB2.out.size (by exact Nat.le_refl _)) (.cells (List.toArray [.int .i64 0, .int .i64 0, .string (ByteArray.mk #[])]) 28)).trans (hb3.mono (Nat.le_trans HB2.out.size (by simp <;> omega))))
                have ltd : w1.heap.size < w3.heap.size := lt_of_cell (Vd.out 0 _ rfl).1
                have lto : w2.heap.size < w3.heap.size := lt_of_cell (Vo.out 0 _ rfl).1
                have ned : ¬ w1.heap.size = w3.heap.size := by omega
                have neo : ¬ w2.heap.size = w3.heap.size := by omega
                clear hb3
                unfold notMadeV
                have q3 := addV_zero e3
                have d0 := (Vd.out 0 _ rfl).1
                have df0 := (Vd.out 0 _ rfl).2
                have d1 := (Vd.out 1 _ rfl).1
                have df1 := (Vd.out 1 _ rfl).2
                have d2 := (Vd.out 2 _ rfl).1
                have df2 := (Vd.out 2 _ rfl).2
                have d3 := (Vd.out 3 _ rfl).1
                have df3 := (Vd.out 3 _ rfl).2
                have o0 := (Vo.out 0 _ rfl).1
                have of0 := (Vo.out 0 _ rfl).2
                have o1 := (Vo.out 1 _ rfl).1
                have of1 := (Vo.out 1 _ rfl).2
                have o2 := (Vo.out 2 _ rfl).1
                have of2 := (Vo.out 2 _ rfl).2
                go_wp2_with fail
                refine (serialAdd_any b 0 _).mono ?_
                rintro e w' ⟨rfl, rfl⟩
                go_wp2
                go_ret
                exact ⟨rfl, (HB3.out).alloc (Nat.le_trans HB3.out.size (by exact Nat.le_refl _)) _⟩
              · go_wp2_with fail
                refine (initPut_no a b c d true _ HC.out).mono ?_
                rintro e w2 ⟨rfl, hb2⟩
                have Vd := Lib.hid ((VarN.new_at (w := w1) (d := w1.heap.size) (by simp) [.int .i64 a, .int .i64 b, .int .i64 c, .int .i64 d] 24).below hb2 (by simp))
                have HB2 := Lib.hid (((hb1).alloc (Nat.le_trans hb1.size (by exact Nat.le_refl _)) (.cells (List.toArray [.int .i64 a, .int .i64 b, .int .i64 c, .int .i64 d]) 24)).trans (hb2.mono (Nat.le_trans hb1.size (by simp <;> omega))))
                have ltd : w1.heap.size < w2.heap.size := lt_of_cell (Vd.out 0 _ rfl).1
                have ned : ¬ w1.heap.size = w2.heap.size := by omega
                clear hb2
                unfold notMadeV
                have d0 := (Vd.out 0 _ rfl).1
                have df0 := (Vd.out 0 _ rfl).2
                have d1 := (Vd.out 1 _ rfl).1
                have df1 := (Vd.out 1 _ rfl).2
                have d2 := (Vd.out 2 _ rfl).1
                have df2 := (Vd.out 2 _ rfl).2
                have d3 := (Vd.out 3 _ rfl).1
                have df3 := (Vd.out 3 _ rfl).2
                go_wp2_with fail
                refine (sInitPut_no a b c d true _ HC.out).mono ?_
                rintro e w3 ⟨rfl, hb3⟩
                clear d0 df0 d1 df1 d2 df2 d3 df3
                have Vd := Lib.hid (((Vd.out).alloc (.cells (List.toArray [.int .i64 0, .int .i64 0, .string (ByteArray.mk #[])]) 28) (by omega)).below hb3 (by simp; omega))
                have Vo := Lib.hid ((VarN.new_at (w := w2) (d := w2.heap.size) (by simp) [.int .i64 0, .int .i64 0, .string (ByteArray.mk #[])] 28).below hb3 (by simp))
                have HB3 := Lib.hid (((HB2.out).alloc (Nat.le_trans HB2.out.size (by exact Nat.le_refl _)) (.cells (List.toArray [.int .i64 0, .int .i64 0, .string (ByteArray.mk #[])]) 28)).trans (hb3.mono (Nat.le_trans HB2.out.size (by simp <;> omega))))
                have ltd : w1.heap.size < w3.heap.size := lt_of_cell (Vd.out 0 _ rfl).1
                have lto : w2.heap.size < w3.heap.size := lt_of_cell (Vo.out 0 _ rfl).1
                have ned : ¬ w1.heap.size = w3.heap.size := by omega
                have neo : ¬ w2.heap.size = w3.heap.size := by omega
                clear hb3
                unfold notMadeV
                have q3 := addV_zero e3
                have d0 := (Vd.out 0 _ rfl).1
                have df0 := (Vd.out 0 _ rfl).2
                have d1 := (Vd.out 1 _ rfl).1
                have df1 := (Vd.out 1 _ rfl).2
                have d2 := (Vd.out 2 _ rfl).1
                have df2 := (Vd.out 2 _ rfl).2
                have d3 := (Vd.out 3 _ rfl).1
                have df3 := (Vd.out 3 _ rfl).2
                have o0 := (Vo.out 0 _ rfl).1
                have of0 := (Vo.out 0 _ rfl).2
                have o1 := (Vo.out 1 _ rfl).1
                have of1 := (Vo.out 1 _ rfl).2
                have o2 := (Vo.out 2 _ rfl).1
                have of2 := (Vo.out 2 _ rfl).2
                go_wp2_with fail
                refine (serialAdd_any b 0 _).mono ?_
                rintro e w' ⟨rfl, rfl⟩
                go_wp2
                go_ret
                exact ⟨rfl, (HB3.out).alloc (Nat.le_trans HB3.out.size (by exact Nat.le_refl _)) _⟩
          · have HC := Lib.hid hc
            clear hc
            cases y
            · go_wp2_with fail
              refine (initPut_no a b c d false _ HC.out).mono ?_
              rintro e w2 ⟨rfl, hb2⟩
              have Vd := Lib.hid ((VarN.new_at (w := w1) (d := w1.heap.size) (by simp) [.int .i64 a, .int .i64 b, .int .i64 c, .int .i64 d] 24).below hb2 (by simp))
              have HB2 := Lib.hid (((hb1).alloc (Nat.le_trans hb1.size (by exact Nat.le_refl _)) (.cells (List.toArray [.int .i64 a, .int .i64 b, .int .i64 c, .int .i64 d]) 24)).trans (hb2.mono (Nat.le_trans hb1.size (by simp <;> omega))))
              have ltd : w1.heap.size < w2.heap.size := lt_of_cell (Vd.out 0 _ rfl).1
              have ned : ¬ w1.heap.size = w2.heap.size := by omega
              clear hb2
              unfold notMadeV
              have d0 := (Vd.out 0 _ rfl).1
              have df0 := (Vd.out 0 _ rfl).2
              have d1 := (Vd.out 1 _ rfl).1
              have df1 := (Vd.out 1 _ rfl).2
              have d2 := (Vd.out 2 _ rfl).1
              have df2 := (Vd.out 2 _ rfl).2
              have d3 := (Vd.out 3 _ rfl).1
              have df3 := (Vd.out 3 _ rfl).2
              go_wp2_with fail
              refine (sInitPut_no a b c d false _ HC.out).mono ?_
              rintro e w3 ⟨rfl, hb3⟩
              clear d0 df0 d1 df1 d2 df2 d3 df3
              have Vd := Lib.hid (((Vd.out).alloc (.cells (List.toArray [.int .i64 0, .int .i64 0, .string (ByteArray.mk #[])]) 28) (by omega)).below hb3 (by simp; omega))
              have Vo := Lib.hid ((VarN.new_at (w := w2) (d := w2.heap.size) (by simp) [.int .i64 0, .int .i64 0, .string (ByteArray.mk #[])] 28).below hb3 (by simp))
              have HB3 := Lib.hid (((HB2.out).alloc (Nat.le_trans HB2.out.size (by exact Nat.le_refl _)) (.cells (List.toArray [.int .i64 0, .int .i64 0, .string (ByteArray.mk #[])]) 28)).trans (hb3.mono (Nat.le_trans HB2.out.size (by simp <;> omega))))
              have ltd : w1.heap.size < w3.heap.size := lt_of_cell (Vd.out 0 _ rfl).1
              have lto : w2.heap.size < w3.heap.size := lt_of_cell (Vo.out 0 _ rfl).1
              have ned : ¬ w1.heap.size = w3.heap.size := by omega
              have neo : ¬ w2.heap.size = w3.heap.size := by omega
              clear hb3
              unfold notMadeV
              have q3 := addV_not e3
              have d0 := (Vd.out 0 _ rfl).1
              have df0 := (Vd.out 0 _ rfl).2
              have d1 := (Vd.out 1 _ rfl).1
              have df1 := (Vd.out 1 _ rfl).2
              have d2 := (Vd.out 2 _ rfl).1
              have df2 := (Vd.out 2 _ rfl).2
              have d3 := (Vd.out 3 _ rfl).1
              have df3 := (Vd.out 3 _ rfl).2
              have o0 := (Vo.out 0 _ rfl).1
              have of0 := (Vo.out 0 _ rfl).2
              have o1 := (Vo.out 1 _ rfl).1
              have of1 := (Vo.out 1 _ rfl).2
              have o2 := (Vo.out 2 _ rfl).1
              have of2 := (Vo.out 2 _ rfl).2
              go_wp2_with fail
              refine (serialAdd_any b 0 _).mono ?_
              rintro e w' ⟨rfl, rfl⟩
              go_wp2
              go_ret
              exact ⟨rfl, (HB3.out).alloc (Nat.le_trans HB3.out.size (by exact Nat.le_refl _)) _⟩
            · go_wp2_with fail
              refine (initPut_no a b c d true _ HC.out).mono ?_
              rintro e w2 ⟨rfl, hb2⟩
              have Vd := Lib.hid ((VarN.new_at (w := w1) (d := w1.heap.size) (by simp) [.int .i64 a, .int .i64 b, .int .i64 c, .int .i64 d] 24).below hb2 (by simp))
              have HB2 := Lib.hid (((hb1).alloc (Nat.le_trans hb1.size (by exact Nat.le_refl _)) (.cells (List.toArray [.int .i64 a, .int .i64 b, .int .i64 c, .int .i64 d]) 24)).trans (hb2.mono (Nat.le_trans hb1.size (by simp <;> omega))))
              have ltd : w1.heap.size < w2.heap.size := lt_of_cell (Vd.out 0 _ rfl).1
              have ned : ¬ w1.heap.size = w2.heap.size := by omega
              clear hb2
              unfold notMadeV
              have d0 := (Vd.out 0 _ rfl).1
              have df0 := (Vd.out 0 _ rfl).2
              have d1 := (Vd.out 1 _ rfl).1
              have df1 := (Vd.out 1 _ rfl).2
              have d2 := (Vd.out 2 _ rfl).1
              have df2 := (Vd.out 2 _ rfl).2
              have d3 := (Vd.out 3 _ rfl).1
              have df3 := (Vd.out 3 _ rfl).2
              go_wp2_with fail
              refine (sInitPut_no a b c d true _ HC.out).mono ?_
              rintro e w3 ⟨rfl, hb3⟩
              clear d0 df0 d1 df1 d2 df2 d3 df3
              have Vd := Lib.hid (((Vd.out).alloc (.cells (List.toArray [.int .i64 0, .int .i64 0, .string (ByteArray.mk #[])]) 28) (by omega)).below hb3 (by simp; omega))
              have Vo := Lib.hid ((VarN.new_at (w := w2) (d := w2.heap.size) (by simp) [.int .i64 0, .int .i64 0, .string (ByteArray.mk #[])] 28).below hb3 (by simp))
              have HB3 := Lib.hid (((HB2.out).alloc (Nat.le_trans HB2.out.size (by exact Nat.le_refl _)) (.cells (List.toArray [.int .i64 0, .int .i64 0, .string (ByteArray.mk #[])]) 28)).trans (hb3.mono (Nat.le_trans HB2.out.size (by simp <;> omega))))
              have ltd : w1.heap.size < w3.heap.size := lt_of_cell (Vd.out 0 _ rfl).1
              have lto : w2.heap.size < w3.heap.size := lt_of_cell (Vo.out 0 _ rfl).1
              have ned : ¬ w1.heap.size = w3.heap.size := by omega
              have neo : ¬ w2.heap.size = w3.heap.size := by omega
              clear hb3
              unfold notMadeV
              have q3 := addV_not e3
              have d0 := (Vd.out 0 _ rfl).1
              have df0 := (Vd.out 0 _ rfl).2
              have d1 := (Vd.out 1 _ rfl).1
              have df1 := (Vd.out 1 _ rfl).2
              have d2 := (Vd.out 2 _ rfl).1
              have df2 := (Vd.out 2 _ rfl).2
              have d3 := (Vd.out 3 _ rfl).1
              have df3 := (Vd.out 3 _ rfl).2
              have o0 := (Vo.out 0 _ rfl).1
              have of0 := (Vo.out 0 _ rfl).2
              have o1 := (Vo.out 1 _ rfl).1
              have of1 := (Vo.out 1 _ rfl).2
              have o2 := (Vo.out 2 _ rfl).1
              have of2 := (Vo.out 2 _ rfl).2
              go_wp2_with fail
              refine (serialAdd_any b 0 _).mono ?_
              rintro e w' ⟨rfl, rfl⟩
              go_wp2
              go_ret
              exact ⟨rfl, (HB3.out).alloc (Nat.le_trans HB3.out.size (by exact Nat.le_refl _)) _⟩
        · have HC := Lib.hid hc
          clear hc
          cases y
          · go_wp2_with fail
            refine (initPut_no a b c d false _ HC.out).mono ?_
            rintro e w2 ⟨rfl, hb2⟩
            have Vd := Lib.hid ((VarN.new_at (w := w1) (d := w1.heap.size) (by simp) [.int .i64 a, .int .i64 b, .int .i64 c, .int .i64 d] 24).below hb2 (by simp))
            have HB2 := Lib.hid (((hb1).alloc (Nat.le_trans hb1.size (by exact Nat.le_refl _)) (.cells (List.toArray [.int .i64 a, .int .i64 b, .int .i64 c, .int .i64 d]) 24)).trans (hb2.mono (Nat.le_trans hb1.size (by simp <;> omega))))
            have ltd : w1.heap.size < w2.heap.size := lt_of_cell (Vd.out 0 _ rfl).1
            have ned : ¬ w1.heap.size = w2.heap.size := by omega
            clear hb2
            unfold notMadeV
            have d0 := (Vd.out 0 _ rfl).1
            have df0 := (Vd.out 0 _ rfl).2
            have d1 := (Vd.out 1 _ rfl).1
            have df1 := (Vd.out 1 _ rfl).2
            have d2 := (Vd.out 2 _ rfl).1
            have df2 := (Vd.out 2 _ rfl).2
            have d3 := (Vd.out 3 _ rfl).1
            have df3 := (Vd.out 3 _ rfl).2
            go_wp2_with fail
            refine (sInitPut_no a b c d false _ HC.out).mono ?_
            rintro e w3 ⟨rfl, hb3⟩
            clear d0 df0 d1 df1 d2 df2 d3 df3
            have Vd := Lib.hid (((Vd.out).alloc (.cells (List.toArray [.int .i64 0, .int .i64 0, .string (ByteArray.mk #[])]) 28) (by omega)).below hb3 (by simp; omega))
            have Vo := Lib.hid ((VarN.new_at (w := w2) (d := w2.heap.size) (by simp) [.int .i64 0, .int .i64 0, .string (ByteArray.mk #[])] 28).below hb3 (by simp))
            have HB3 := Lib.hid (((HB2.out).alloc (Nat.le_trans HB2.out.size (by exact Nat.le_refl _)) (.cells (List.toArray [.int .i64 0, .int .i64 0, .string (ByteArray.mk #[])]) 28)).trans (hb3.mono (Nat.le_trans HB2.out.size (by simp <;> omega))))
            have ltd : w1.heap.size < w3.heap.size := lt_of_cell (Vd.out 0 _ rfl).1
            have lto : w2.heap.size < w3.heap.size := lt_of_cell (Vo.out 0 _ rfl).1
            have ned : ¬ w1.heap.size = w3.heap.size := by omega
            have neo : ¬ w2.heap.size = w3.heap.size := by omega
            clear hb3
            unfold notMadeV
            have d0 := (Vd.out 0 _ rfl).1
            have df0 := (Vd.out 0 _ rfl).2
            have d1 := (Vd.out 1 _ rfl).1
            have df1 := (Vd.out 1 _ rfl).2
            have d2 := (Vd.out 2 _ rfl).1
            have df2 := (Vd.out 2 _ rfl).2
            have d3 := (Vd.out 3 _ rfl).1
            have df3 := (Vd.out 3 _ rfl).2
            have o0 := (Vo.out 0 _ rfl).1
            have of0 := (Vo.out 0 _ rfl).2
            have o1 := (Vo.out 1 _ rfl).1
            have of1 := (Vo.out 1 _ rfl).2
            have o2 := (Vo.out 2 _ rfl).1
            have of2 := (Vo.out 2 _ rfl).2
            go_wp2
            go_ret
            exact ⟨rfl, (HB3.out).alloc (Nat.le_trans HB3.out.size (by exact Nat.le_refl _)) _⟩
          · go_wp2_with fail
            refine (initPut_no a b c d true _ HC.out).mono ?_
            rintro e w2 ⟨rfl, hb2⟩
            have Vd := Lib.hid ((VarN.new_at (w := w1) (d := w1.heap.size) (by simp) [.int .i64 a, .int .i64 b, .int .i64 c, .int .i64 d] 24).below hb2 (by simp))
            have HB2 := Lib.hid (((hb1).alloc (Nat.le_trans hb1.size (by exact Nat.le_refl _)) (.cells (List.toArray [.int .i64 a, .int .i64 b, .int .i64 c, .int .i64 d]) 24)).trans (hb2.mono (Nat.le_trans hb1.size (by simp <;> omega))))
            have ltd : w1.heap.size < w2.heap.size := lt_of_cell (Vd.out 0 _ rfl).1
            have ned : ¬ w1.heap.size = w2.heap.size := by omega
            clear hb2
            unfold notMadeV
            have d0 := (Vd.out 0 _ rfl).1
            have df0 := (Vd.out 0 _ rfl).2
            have d1 := (Vd.out 1 _ rfl).1
            have df1 := (Vd.out 1 _ rfl).2
            have d2 := (Vd.out 2 _ rfl).1
            have df2 := (Vd.out 2 _ rfl).2
            have d3 := (Vd.out 3 _ rfl).1
            have df3 := (Vd.out 3 _ rfl).2
            go_wp2_with fail
            refine (sInitPut_no a b c d true _ HC.out).mono ?_
            rintro e w3 ⟨rfl, hb3⟩
            clear d0 df0 d1 df1 d2 df2 d3 df3
            have Vd := Lib.hid (((Vd.out).alloc (.cells (List.toArray [.int .i64 0, .int .i64 0, .string (ByteArray.mk #[])]) 28) (by omega)).below hb3 (by simp; omega))
            have Vo := Lib.hid ((VarN.new_at (w := w2) (d := w2.heap.size) (by simp) [.int .i64 0, .int .i64 0, .string (ByteArray.mk #[])] 28).below hb3 (by simp))
            have HB3 := Lib.hid (((HB2.out).alloc (Nat.le_trans HB2.out.size (by exact Nat.le_refl _)) (.cells (List.toArray [.int .i64 0, .int .i64 0, .string (ByteArray.mk #[])]) 28)).trans (hb3.mono (Nat.le_trans HB2.out.size (by simp <;> omega))))
            have ltd : w1.heap.size < w3.heap.size := lt_of_cell (Vd.out 0 _ rfl).1
            have lto : w2.heap.size < w3.heap.size := lt_of_cell (Vo.out 0 _ rfl).1
            have ned : ¬ w1.heap.size = w3.heap.size := by omega
            have neo : ¬ w2.heap.size = w3.heap.size := by omega
            clear hb3
            unfold notMadeV
            have d0 := (Vd.out 0 _ rfl).1
            have df0 := (Vd.out 0 _ rfl).2
            have d1 := (Vd.out 1 _ rfl).1
            have df1 := (Vd.out 1 _ rfl).2
            have d2 := (Vd.out 2 _ rfl).1
            have df2 := (Vd.out 2 _ rfl).2
            have d3 := (Vd.out 3 _ rfl).1
            have df3 := (Vd.out 3 _ rfl).2
            have o0 := (Vo.out 0 _ rfl).1
            have of0 := (Vo.out 0 _ rfl).2
            have o1 := (Vo.out 1 _ rfl).1
            have of1 := (Vo.out 1 _ rfl).2
            have o2 := (Vo.out 2 _ rfl).1
            have of2 := (Vo.out 2 _ rfl).2
            go_wp2
            go_ret
            exact ⟨rfl, (HB3.out).alloc (Nat.le_trans HB3.out.size (by exact Nat.le_refl _)) _⟩
      · have HC := Lib.hid hc
        clear hc
        cases y
        · go_wp2_with fail
          refine (initPut_no a b c d false _ HC.out).mono ?_
          rintro e w2 ⟨rfl, hb2⟩
          have Vd := Lib.hid ((VarN.new_at (w := w1) (d := w1.heap.size) (by simp) [.int .i64 a, .int .i64 b, .int .i64 c, .int .i64 d] 24).below hb2 (by simp))
          have HB2 := Lib.hid (((hb1).alloc (Nat.le_trans hb1.size (by exact Nat.le_refl _)) (.cells (List.toArray [.int .i64 a, .int .i64 b, .int .i64 c, .int .i64 d]) 24)).trans (hb2.mono (Nat.le_trans hb1.size (by simp <;> omega))))
          have ltd : w1.heap.size < w2.heap.size := lt_of_cell (Vd.out 0 _ rfl).1
          have ned : ¬ w1.heap.size = w2.heap.size := by omega
          clear hb2
          unfold notMadeV
          have d0 := (Vd.out 0 _ rfl).1
          have df0 := (Vd.out 0 _ rfl).2
          have d1 := (Vd.out 1 _ rfl).1
          have df1 := (Vd.out 1 _ rfl).2
          have d2 := (Vd.out 2 _ rfl).1
          have df2 := (Vd.out 2 _ rfl).2
          have d3 := (Vd.out 3 _ rfl).1
          have df3 := (Vd.out 3 _ rfl).2
          go_wp2_with fail
          refine (sInitPut_no a b c d false _ HC.out).mono ?_
          rintro e w3 ⟨rfl, hb3⟩
          clear d0 df0 d1 df1 d2 df2 d3 df3
          have Vd := Lib.hid (((Vd.out).alloc (.cells (List.toArray [.int .i64 0, .int .i64 0, .string (ByteArray.mk #[])]) 28) (by omega)).below hb3 (by simp; omega))
          have Vo := Lib.hid ((VarN.new_at (w := w2) (d := w2.heap.size) (by simp) [.int .i64 0, .int .i64 0, .string (ByteArray.mk #[])] 28).below hb3 (by simp))
          have HB3 := Lib.hid (((HB2.out).alloc (Nat.le_trans HB2.out.size (by exact Nat.le_refl _)) (.cells (List.toArray [.int .i64 0, .int .i64 0, .string (ByteArray.mk #[])]) 28)).trans (hb3.mono (Nat.le_trans HB2.out.size (by simp <;> omega))))
          have ltd : w1.heap.size < w3.heap.size := lt_of_cell (Vd.out 0 _ rfl).1
          have lto : w2.heap.size < w3.heap.size := lt_of_cell (Vo.out 0 _ rfl).1
          have ned : ¬ w1.heap.size = w3.heap.size := by omega
          have neo : ¬ w2.heap.size = w3.heap.size := by omega
          clear hb3
          unfold notMadeV
          have d0 := (Vd.out 0 _ rfl).1
          have df0 := (Vd.out 0 _ rfl).2
          have d1 := (Vd.out 1 _ rfl).1
          have df1 := (Vd.out 1 _ rfl).2
          have d2 := (Vd.out 2 _ rfl).1
          have df2 := (Vd.out 2 _ rfl).2
          have d3 := (Vd.out 3 _ rfl).1
          have df3 := (Vd.out 3 _ rfl).2
          have o0 := (Vo.out 0 _ rfl).1
          have of0 := (Vo.out 0 _ rfl).2
          have o1 := (Vo.out 1 _ rfl).1
          have of1 := (Vo.out 1 _ rfl).2
          have o2 := (Vo.out 2 _ rfl).1
          have of2 := (Vo.out 2 _ rfl).2
          go_wp2
          go_ret
          exact ⟨rfl, (HB3.out).alloc (Nat.le_trans HB3.out.size (by exact Nat.le_refl _)) _⟩
        · go_wp2_with fail
          refine (initPut_no a b c d true _ HC.out).mono ?_
          rintro e w2 ⟨rfl, hb2⟩
          have Vd := Lib.hid ((VarN.new_at (w := w1) (d := w1.heap.size) (by simp) [.int .i64 a, .int .i64 b, .int .i64 c, .int .i64 d] 24).below hb2 (by simp))
          have HB2 := Lib.hid (((hb1).alloc (Nat.le_trans hb1.size (by exact Nat.le_refl _)) (.cells (List.toArray [.int .i64 a, .int .i64 b, .int .i64 c, .int .i64 d]) 24)).trans (hb2.mono (Nat.le_trans hb1.size (by simp <;> omega))))
          have ltd : w1.heap.size < w2.heap.size := lt_of_cell (Vd.out 0 _ rfl).1
          have ned : ¬ w1.heap.size = w2.heap.size := by omega
          clear hb2
          unfold notMadeV
          have d0 := (Vd.out 0 _ rfl).1
          have df0 := (Vd.out 0 _ rfl).2
          have d1 := (Vd.out 1 _ rfl).1
          have df1 := (Vd.out 1 _ rfl).2
          have d2 := (Vd.out 2 _ rfl).1
          have df2 := (Vd.out 2 _ rfl).2
          have d3 := (Vd.out 3 _ rfl).1
          have df3 := (Vd.out 3 _ rfl).2
          go_wp2_with fail
          refine (sInitPut_no a b c d true _ HC.out).mono ?_
          rintro e w3 ⟨rfl, hb3⟩
          clear d0 df0 d1 df1 d2 df2 d3 df3
          have Vd := Lib.hid (((Vd.out).alloc (.cells (List.toArray [.int .i64 0, .int .i64 0, .string (ByteArray.mk #[])]) 28) (by omega)).below hb3 (by simp; omega))
          have Vo := Lib.hid ((VarN.new_at (w := w2) (d := w2.heap.size) (by simp) [.int .i64 0, .int .i64 0, .string (ByteArray.mk #[])] 28).below hb3 (by simp))
          have HB3 := Lib.hid (((HB2.out).alloc (Nat.le_trans HB2.out.size (by exact Nat.le_refl _)) (.cells (List.toArray [.int .i64 0, .int .i64 0, .string (ByteArray.mk #[])]) 28)).trans (hb3.mono (Nat.le_trans HB2.out.size (by simp <;> omega))))
          have ltd : w1.heap.size < w3.heap.size := lt_of_cell (Vd.out 0 _ rfl).1
          have lto : w2.heap.size < w3.heap.size := lt_of_cell (Vo.out 0 _ rfl).1
          have ned : ¬ w1.heap.size = w3.heap.size := by omega
          have neo : ¬ w2.heap.size = w3.heap.size := by omega
          clear hb3
          unfold notMadeV
          have d0 := (Vd.out 0 _ rfl).1
          have df0 := (Vd.out 0 _ rfl).2
          have d1 := (Vd.out 1 _ rfl).1
          have df1 := (Vd.out 1 _ rfl).2
          have d2 := (Vd.out 2 _ rfl).1
          have df2 := (Vd.out 2 _ rfl).2
          have d3 := (Vd.out 3 _ rfl).1
          have df3 := (Vd.out 3 _ rfl).2
          have o0 := (Vo.out 0 _ rfl).1
          have of0 := (Vo.out 0 _ rfl).2
          have o1 := (Vo.out 1 _ rfl).1
          have of1 := (Vo.out 1 _ rfl).2
          have o2 := (Vo.out 2 _ rfl).1
          have of2 := (Vo.out 2 _ rfl).2
          go_wp2
          go_ret
          exact ⟨rfl, (HB3.out).alloc (Nat.le_trans HB3.out.size (by exact Nat.le_refl _)) _⟩

set_option maxHeartbeats 1000000 in
theorem toInit_any (a b c d : Int) (w : World) :
    Calls Try.prog 17 #[.agg #[.int .i64 a, .int .i64 b, .int .i64 c, .int .i64 d]] w fun e w' => e = .returned (.agg #[.int .i64 a, .int .i64 b, .int .i64 c, .int .i64 d]) ∧ Below w.heap.size w w' := by
  go_enter Try.func17, Try.ntmps17
  go_wp2
  refine bodyPost_ret (v := .agg #[.int .i64 a, .int .i64 b, .int .i64 c, .int .i64 d]) ?_ rfl ?_
  · simp [results, Try.results17, go_sem]
  · exact ⟨rfl, by go_grown⟩

set_option maxHeartbeats 1000000 in
theorem eqInit_same (a b c d : Int) (w : World) :
    Calls Try.prog 21 #[.agg #[.int .i64 a, .int .i64 b, .int .i64 c, .int .i64 d], .agg #[.int .i64 a, .int .i64 b, .int .i64 c, .int .i64 d]] w fun e w' => e = .returned (.bool true) ∧ Below w.heap.size w w' := by
  go_enter Try.func21, Try.ntmps21
  go_wp2
  go_ret
  exact ⟨rfl, (below_box _ (Nat.le_refl _)).alloc (by simp) _⟩

set_option maxHeartbeats 1000000 in
theorem eqChunk_same (k f : Int) (b : ByteArray) (w : World) :
    Calls Try.prog 18 #[.agg #[.int .i64 k, .int .i64 f, .string b], .agg #[.int .i64 k, .int .i64 f, .string b]] w fun e w' => e = .returned (.bool true) ∧ Below w.heap.size w w' := by
  go_enter Try.func18, Try.ntmps18
  go_wp2
  go_ret
  exact ⟨rfl, (below_box _ (Nat.le_refl _)).alloc (by simp) _⟩

set_option maxHeartbeats 1000000 in
theorem walk_fnExactInitPut (a b c d : Int) (y : Bool) (_w0 : (Lit.int .i64 a).wf = true) (_w1 : (Lit.int .i64 b).wf = true) (_w2 : (Lit.int .i64 c).wf = true) (_w3 : (Lit.int .i64 d).wf = true) (w1 : World) :
    Calls Try.prog 8 #[.agg #[.int .i64 a, .int .i64 b, .int .i64 c, .int .i64 d], .bool y] w1 fun e w' => e = .returned (.bool true) ∧ Below w1.heap.size w1 w' := by
  have hb1 := Below.refl w1.heap.size w1
  go_enter Try.func8, Try.ntmps8
  by_cases hc : InitOk a b c d
  · have HC := Lib.hid hc
    clear hc
    cases y
    · go_wp2_with fail
      refine (toInit_any a b c d _).mono ?_
      rintro e w2 ⟨rfl, hb2⟩
      have Vp := Lib.hid ((VarN.new_at (w := w1) (d := w1.heap.size) (by simp) [.int .i64 a, .int .i64 b, .int .i64 c, .int .i64 d] 35).below hb2 (by simp))
      have HB2 := Lib.hid (((hb1).alloc (Nat.le_trans hb1.size (by exact Nat.le_refl _)) (.cells (List.toArray [.int .i64 a, .int .i64 b, .int .i64 c, .int .i64 d]) 35)).trans (hb2.mono (Nat.le_trans hb1.size (by simp <;> omega))))
      have ltp : w1.heap.size < w2.heap.size := lt_of_cell (Vp.out 0 _ rfl).1
      have nep : ¬ w1.heap.size = w2.heap.size := by omega
      clear hb2
      go_wp2_with fail
      refine (sInitPut_yes a b c d false _ HC.out).mono ?_
      rw [if_neg (by decide)]
      rintro e w3 ⟨rfl, hb3⟩
      have Vp := Lib.hid ((Vp.out).below hb3 ltp)
      have HB3 := Lib.hid (HB2.out.trans (hb3.mono HB2.out.size))
      have ltp : w1.heap.size < w3.heap.size := lt_of_cell (Vp.out 0 _ rfl).1
      have nep : ¬ w1.heap.size = w3.heap.size := by omega
      clear hb3
      unfold madeV
      have p0 := (Vp.out 0 _ rfl).1
      have pf0 := (Vp.out 0 _ rfl).2
      have p1 := (Vp.out 1 _ rfl).1
      have pf1 := (Vp.out 1 _ rfl).2
      have p2 := (Vp.out 2 _ rfl).1
      have pf2 := (Vp.out 2 _ rfl).2
      have p3 := (Vp.out 3 _ rfl).1
      have pf3 := (Vp.out 3 _ rfl).2
      go_wp2_with fail
      refine (toInit_any a b c d _).mono ?_
      rintro e w4 ⟨rfl, hb4⟩
      clear p0 pf0 p1 pf1 p2 pf2 p3 pf3
      have Vp := Lib.hid (((Vp.out).alloc (.cells (List.toArray [.int .i64 1, .int .i64 0, .string (initS a b c d)]) 28) (by omega)).below hb4 (by simp; omega))
      have Vv := Lib.hid ((VarN.new_at (w := w3) (d := w3.heap.size) (by simp) [.int .i64 1, .int .i64 0, .string (initS a b c d)] 28).below hb4 (by simp))
      have HB4 := Lib.hid (((HB3.out).alloc (Nat.le_trans HB3.out.size (by exact Nat.le_refl _)) (.cells (List.toArray [.int .i64 1, .int .i64 0, .string (initS a b c d)]) 28)).trans (hb4.mono (Nat.le_trans HB3.out.size (by simp <;> omega))))
      have ltp : w1.heap.size < w4.heap.size := lt_of_cell (Vp.out 0 _ rfl).1
      have ltv : w3.heap.size < w4.heap.size := lt_of_cell (Vv.out 0 _ rfl).1
      have nep : ¬ w1.heap.size = w4.heap.size := by omega
      have nev : ¬ w3.heap.size = w4.heap.size := by omega
      clear hb4
      go_wp2_with fail
      refine (initPut_yes a b c d false _ HC.out).mono ?_
      rw [if_neg (by decide)]
      rintro e w5 ⟨rfl, hb5⟩
      have Vp := Lib.hid ((Vp.out).below hb5 ltp)
      have Vv := Lib.hid ((Vv.out).below hb5 ltv)
      have HB5 := Lib.hid (HB4.out.trans (hb5.mono HB4.out.size))
      have ltp : w1.heap.size < w5.heap.size := lt_of_cell (Vp.out 0 _ rfl).1
      have ltv : w3.heap.size < w5.heap.size := lt_of_cell (Vv.out 0 _ rfl).1
      have nep : ¬ w1.heap.size = w5.heap.size := by omega
      have nev : ¬ w3.heap.size = w5.heap.size := by omega
      clear hb5
      unfold madeV
      have v0 := (Vv.out 0 _ rfl).1
      have vf0 := (Vv.out 0 _ rfl).2
      have v1 := (Vv.out 1 _ rfl).1
      have vf1 := (Vv.out 1 _ rfl).2
      have v2 := (Vv.out 2 _ rfl).1
      have vf2 := (Vv.out 2 _ rfl).2
      go_wp2_with fail
      refine (eqChunk_same 1 0 (initS a b c d) _).mono ?_
      rintro e w6 ⟨rfl, hb6⟩
      clear v0 vf0 v1 vf1 v2 vf2
      have Vp := Lib.hid (((Vp.out).alloc (.cells (List.toArray [.int .i64 1, .int .i64 0, .string (initS a b c d)]) 28) (by omega)).below hb6 (by simp; omega))
      have Vv := Lib.hid (((Vv.out).alloc (.cells (List.toArray [.int .i64 1, .int .i64 0, .string (initS a b c d)]) 28) (by omega)).below hb6 (by simp; omega))
      have Vg := Lib.hid ((VarN.new_at (w := w5) (d := w5.heap.size) (by simp) [.int .i64 1, .int .i64 0, .string (initS a b c d)] 28).below hb6 (by simp))
      have HB6 := Lib.hid (((HB5.out).alloc (Nat.le_trans HB5.out.size (by exact Nat.le_refl _)) (.cells (List.toArray [.int .i64 1, .int .i64 0, .string (initS a b c d)]) 28)).trans (hb6.mono (Nat.le_trans HB5.out.size (by simp <;> omega))))
      have ltp : w1.heap.size < w6.heap.size := lt_of_cell (Vp.out 0 _ rfl).1
      have ltv : w3.heap.size < w6.heap.size := lt_of_cell (Vv.out 0 _ rfl).1
      have ltg : w5.heap.size < w6.heap.size := lt_of_cell (Vg.out 0 _ rfl).1
      have nep : ¬ w1.heap.size = w6.heap.size := by omega
      have nev : ¬ w3.heap.size = w6.heap.size := by omega
      have neg : ¬ w5.heap.size = w6.heap.size := by omega
      clear hb6
      go_wp2
      go_ret
      exact ⟨rfl, HB6.out⟩
    · go_wp2_with fail
      refine (toInit_any a b c d _).mono ?_
      rintro e w2 ⟨rfl, hb2⟩
      have Vp := Lib.hid ((VarN.new_at (w := w1) (d := w1.heap.size) (by simp) [.int .i64 a, .int .i64 b, .int .i64 c, .int .i64 d] 35).below hb2 (by simp))
      have HB2 := Lib.hid (((hb1).alloc (Nat.le_trans hb1.size (by exact Nat.le_refl _)) (.cells (List.toArray [.int .i64 a, .int .i64 b, .int .i64 c, .int .i64 d]) 35)).trans (hb2.mono (Nat.le_trans hb1.size (by simp <;> omega))))
      have ltp : w1.heap.size < w2.heap.size := lt_of_cell (Vp.out 0 _ rfl).1
      have nep : ¬ w1.heap.size = w2.heap.size := by omega
      clear hb2
      go_wp2_with fail
      refine (sInitPut_yes a b c d true _ HC.out).mono ?_
      rw [if_pos rfl]
      rintro e w3 ⟨rfl, hb3⟩
      have Vp := Lib.hid ((Vp.out).below hb3 ltp)
      have HB3 := Lib.hid (HB2.out.trans (hb3.mono HB2.out.size))
      have ltp : w1.heap.size < w3.heap.size := lt_of_cell (Vp.out 0 _ rfl).1
      have nep : ¬ w1.heap.size = w3.heap.size := by omega
      clear hb3
      unfold madeV
      have p0 := (Vp.out 0 _ rfl).1
      have pf0 := (Vp.out 0 _ rfl).2
      have p1 := (Vp.out 1 _ rfl).1
      have pf1 := (Vp.out 1 _ rfl).2
      have p2 := (Vp.out 2 _ rfl).1
      have pf2 := (Vp.out 2 _ rfl).2
      have p3 := (Vp.out 3 _ rfl).1
      have pf3 := (Vp.out 3 _ rfl).2
      go_wp2_with fail
      refine (toInit_any a b c d _).mono ?_
      rintro e w4 ⟨rfl, hb4⟩
      clear p0 pf0 p1 pf1 p2 pf2 p3 pf3
      have Vp := Lib.hid (((Vp.out).alloc (.cells (List.toArray [.int .i64 2, .int .i64 0, .string (initS a b c d)]) 28) (by omega)).below hb4 (by simp; omega))
      have Vv := Lib.hid ((VarN.new_at (w := w3) (d := w3.heap.size) (by simp) [.int .i64 2, .int .i64 0, .string (initS a b c d)] 28).below hb4 (by simp))
      have HB4 := Lib.hid (((HB3.out).alloc (Nat.le_trans HB3.out.size (by exact Nat.le_refl _)) (.cells (List.toArray [.int .i64 2, .int .i64 0, .string (initS a b c d)]) 28)).trans (hb4.mono (Nat.le_trans HB3.out.size (by simp <;> omega))))
      have ltp : w1.heap.size < w4.heap.size := lt_of_cell (Vp.out 0 _ rfl).1
      have ltv : w3.heap.size < w4.heap.size := lt_of_cell (Vv.out 0 _ rfl).1
      have nep : ¬ w1.heap.size = w4.heap.size := by omega
      have nev : ¬ w3.heap.size = w4.heap.size := by omega
      clear hb4
      go_wp2_with fail
      refine (initPut_yes a b c d true _ HC.out).mono ?_
      rw [if_pos rfl]
      rintro e w5 ⟨rfl, hb5⟩
      have Vp := Lib.hid ((Vp.out).below hb5 ltp)
      have Vv := Lib.hid ((Vv.out).below hb5 ltv)
      have HB5 := Lib.hid (HB4.out.trans (hb5.mono HB4.out.size))
      have ltp : w1.heap.size < w5.heap.size := lt_of_cell (Vp.out 0 _ rfl).1
      have ltv : w3.heap.size < w5.heap.size := lt_of_cell (Vv.out 0 _ rfl).1
      have nep : ¬ w1.heap.size = w5.heap.size := by omega
      have nev : ¬ w3.heap.size = w5.heap.size := by omega
      clear hb5
      unfold madeV
      have v0 := (Vv.out 0 _ rfl).1
      have vf0 := (Vv.out 0 _ rfl).2
      have v1 := (Vv.out 1 _ rfl).1
      have vf1 := (Vv.out 1 _ rfl).2
      have v2 := (Vv.out 2 _ rfl).1
      have vf2 := (Vv.out 2 _ rfl).2
      go_wp2_with fail
      refine (eqChunk_same 2 0 (initS a b c d) _).mono ?_
      rintro e w6 ⟨rfl, hb6⟩
      clear v0 vf0 v1 vf1 v2 vf2
      have Vp := Lib.hid (((Vp.out).alloc (.cells (List.toArray [.int .i64 2, .int .i64 0, .string (initS a b c d)]) 28) (by omega)).below hb6 (by simp; omega))
      have Vv := Lib.hid (((Vv.out).alloc (.cells (List.toArray [.int .i64 2, .int .i64 0, .string (initS a b c d)]) 28) (by omega)).below hb6 (by simp; omega))
      have Vg := Lib.hid ((VarN.new_at (w := w5) (d := w5.heap.size) (by simp) [.int .i64 2, .int .i64 0, .string (initS a b c d)] 28).below hb6 (by simp))
      have HB6 := Lib.hid (((HB5.out).alloc (Nat.le_trans HB5.out.size (by exact Nat.le_refl _)) (.cells (List.toArray [.int .i64 2, .int .i64 0, .string (initS a b c d)]) 28)).trans (hb6.mono (Nat.le_trans HB5.out.size (by simp <;> omega))))
      have ltp : w1.heap.size < w6.heap.size := lt_of_cell (Vp.out 0 _ rfl).1
      have ltv : w3.heap.size < w6.heap.size := lt_of_cell (Vv.out 0 _ rfl).1
      have ltg : w5.heap.size < w6.heap.size := lt_of_cell (Vg.out 0 _ rfl).1
      have nep : ¬ w1.heap.size = w6.heap.size := by omega
      have nev : ¬ w3.heap.size = w6.heap.size := by omega
      have neg : ¬ w5.heap.size = w6.heap.size := by omega
      clear hb6
      go_wp2
      go_ret
      exact ⟨rfl, HB6.out⟩
  · have HC := Lib.hid hc
    clear hc
    cases y
    · go_wp2_with fail
      refine (toInit_any a b c d _).mono ?_
      rintro e w2 ⟨rfl, hb2⟩
      have Vp := Lib.hid ((VarN.new_at (w := w1) (d := w1.heap.size) (by simp) [.int .i64 a, .int .i64 b, .int .i64 c, .int .i64 d] 35).below hb2 (by simp))
      have HB2 := Lib.hid (((hb1).alloc (Nat.le_trans hb1.size (by exact Nat.le_refl _)) (.cells (List.toArray [.int .i64 a, .int .i64 b, .int .i64 c, .int .i64 d]) 35)).trans (hb2.mono (Nat.le_trans hb1.size (by simp <;> omega))))
      have ltp : w1.heap.size < w2.heap.size := lt_of_cell (Vp.out 0 _ rfl).1
      have nep : ¬ w1.heap.size = w2.heap.size := by omega
      clear hb2
      go_wp2_with fail
      refine (sInitPut_no a b c d false _ HC.out).mono ?_
      rintro e w3 ⟨rfl, hb3⟩
      have Vp := Lib.hid ((Vp.out).below hb3 ltp)
      have HB3 := Lib.hid (HB2.out.trans (hb3.mono HB2.out.size))
      have ltp : w1.heap.size < w3.heap.size := lt_of_cell (Vp.out 0 _ rfl).1
      have nep : ¬ w1.heap.size = w3.heap.size := by omega
      clear hb3
      unfold notMadeV
      have p0 := (Vp.out 0 _ rfl).1
      have pf0 := (Vp.out 0 _ rfl).2
      have p1 := (Vp.out 1 _ rfl).1
      have pf1 := (Vp.out 1 _ rfl).2
      have p2 := (Vp.out 2 _ rfl).1
      have pf2 := (Vp.out 2 _ rfl).2
      have p3 := (Vp.out 3 _ rfl).1
      have pf3 := (Vp.out 3 _ rfl).2
      go_wp2_with fail
      refine (toInit_any a b c d _).mono ?_
      rintro e w4 ⟨rfl, hb4⟩
      clear p0 pf0 p1 pf1 p2 pf2 p3 pf3
      have Vp := Lib.hid (((Vp.out).alloc (.cells (List.toArray [.int .i64 0, .int .i64 0, .string (ByteArray.mk #[])]) 28) (by omega)).below hb4 (by simp; omega))
      have Vv := Lib.hid ((VarN.new_at (w := w3) (d := w3.heap.size) (by simp) [.int .i64 0, .int .i64 0, .string (ByteArray.mk #[])] 28).below hb4 (by simp))
      have HB4 := Lib.hid (((HB3.out).alloc (Nat.le_trans HB3.out.size (by exact Nat.le_refl _)) (.cells (List.toArray [.int .i64 0, .int .i64 0, .string (ByteArray.mk #[])]) 28)).trans (hb4.mono (Nat.le_trans HB3.out.size (by simp <;> omega))))
      have ltp : w1.heap.size < w4.heap.size := lt_of_cell (Vp.out 0 _ rfl).1
      have ltv : w3.heap.size < w4.heap.size := lt_of_cell (Vv.out 0 _ rfl).1
      have nep : ¬ w1.heap.size = w4.heap.size := by omega
      have nev : ¬ w3.heap.size = w4.heap.size := by omega
      clear hb4
      go_wp2_with fail
      refine (initPut_no a b c d false _ HC.out).mono ?_
      rintro e w5 ⟨rfl, hb5⟩
      have Vp := Lib.hid ((Vp.out).below hb5 ltp)
      have Vv := Lib.hid ((Vv.out).below hb5 ltv)
      have HB5 := Lib.hid (HB4.out.trans (hb5.mono HB4.out.size))
      have ltp : w1.heap.size < w5.heap.size := lt_of_cell (Vp.out 0 _ rfl).1
      have ltv : w3.heap.size < w5.heap.size := lt_of_cell (Vv.out 0 _ rfl).1
      have nep : ¬ w1.heap.size = w5.heap.size := by omega
      have nev : ¬ w3.heap.size = w5.heap.size := by omega
      clear hb5
      unfold notMadeV
      have v0 := (Vv.out 0 _ rfl).1
      have vf0 := (Vv.out 0 _ rfl).2
      have v1 := (Vv.out 1 _ rfl).1
      have vf1 := (Vv.out 1 _ rfl).2
      have v2 := (Vv.out 2 _ rfl).1
      have vf2 := (Vv.out 2 _ rfl).2
      go_wp2_with fail
      refine (eqChunk_same 0 0 (ByteArray.mk #[]) _).mono ?_
      rintro e w6 ⟨rfl, hb6⟩
      clear v0 vf0 v1 vf1 v2 vf2
      have Vp := Lib.hid (((Vp.out).alloc (.cells (List.toArray [.int .i64 0, .int .i64 0, .string (ByteArray.mk #[])]) 28) (by omega)).below hb6 (by simp; omega))
      have Vv := Lib.hid (((Vv.out).alloc (.cells (List.toArray [.int .i64 0, .int .i64 0, .string (ByteArray.mk #[])]) 28) (by omega)).below hb6 (by simp; omega))
      have Vg := Lib.hid ((VarN.new_at (w := w5) (d := w5.heap.size) (by simp) [.int .i64 0, .int .i64 0, .string (ByteArray.mk #[])] 28).below hb6 (by simp))
      have HB6 := Lib.hid (((HB5.out).alloc (Nat.le_trans HB5.out.size (by exact Nat.le_refl _)) (.cells (List.toArray [.int .i64 0, .int .i64 0, .string (ByteArray.mk #[])]) 28)).trans (hb6.mono (Nat.le_trans HB5.out.size (by simp <;> omega))))
      have ltp : w1.heap.size < w6.heap.size := lt_of_cell (Vp.out 0 _ rfl).1
      have ltv : w3.heap.size < w6.heap.size := lt_of_cell (Vv.out 0 _ rfl).1
      have ltg : w5.heap.size < w6.heap.size := lt_of_cell (Vg.out 0 _ rfl).1
      have nep : ¬ w1.heap.size = w6.heap.size := by omega
      have nev : ¬ w3.heap.size = w6.heap.size := by omega
      have neg : ¬ w5.heap.size = w6.heap.size := by omega
      clear hb6
      go_wp2
      go_ret
      exact ⟨rfl, HB6.out⟩
    · go_wp2_with fail
      refine (toInit_any a b c d _).mono ?_
      rintro e w2 ⟨rfl, hb2⟩
      have Vp := Lib.hid ((VarN.new_at (w := w1) (d := w1.heap.size) (by simp) [.int .i64 a, .int .i64 b, .int .i64 c, .int .i64 d] 35).below hb2 (by simp))
      have HB2 := Lib.hid (((hb1).alloc (Nat.le_trans hb1.size (by exact Nat.le_refl _)) (.cells (List.toArray [.int .i64 a, .int .i64 b, .int .i64 c, .int .i64 d]) 35)).trans (hb2.mono (Nat.le_trans hb1.size (by simp <;> omega))))
      have ltp : w1.heap.size < w2.heap.size := lt_of_cell (Vp.out 0 _ rfl).1
      have nep : ¬ w1.heap.size = w2.heap.size := by omega
      clear hb2
      go_wp2_with fail
      refine (sInitPut_no a b c d true _ HC.out).mono ?_
      rintro e w3 ⟨rfl, hb3⟩
      have Vp := Lib.hid ((Vp.out).below hb3 ltp)
      have HB3 := Lib.hid (HB2.out.trans (hb3.mono HB2.out.size))
      have ltp : w1.heap.size < w3.heap.size := lt_of_cell (Vp.out 0 _ rfl).1
      have nep : ¬ w1.heap.size = w3.heap.size := by omega
      clear hb3
      unfold notMadeV
      have p0 := (Vp.out 0 _ rfl).1
      have pf0 := (Vp.out 0 _ rfl).2
      have p1 := (Vp.out 1 _ rfl).1
      have pf1 := (Vp.out 1 _ rfl).2
      have p2 := (Vp.out 2 _ rfl).1
      have pf2 := (Vp.out 2 _ rfl).2
      have p3 := (Vp.out 3 _ rfl).1
      have pf3 := (Vp.out 3 _ rfl).2
      go_wp2_with fail
      refine (toInit_any a b c d _).mono ?_
      rintro e w4 ⟨rfl, hb4⟩
      clear p0 pf0 p1 pf1 p2 pf2 p3 pf3
      have Vp := Lib.hid (((Vp.out).alloc (.cells (List.toArray [.int .i64 0, .int .i64 0, .string (ByteArray.mk #[])]) 28) (by omega)).below hb4 (by simp; omega))
      have Vv := Lib.hid ((VarN.new_at (w := w3) (d := w3.heap.size) (by simp) [.int .i64 0, .int .i64 0, .string (ByteArray.mk #[])] 28).below hb4 (by simp))
      have HB4 := Lib.hid (((HB3.out).alloc (Nat.le_trans HB3.out.size (by exact Nat.le_refl _)) (.cells (List.toArray [.int .i64 0, .int .i64 0, .string (ByteArray.mk #[])]) 28)).trans (hb4.mono (Nat.le_trans HB3.out.size (by simp <;> omega))))
      have ltp : w1.heap.size < w4.heap.size := lt_of_cell (Vp.out 0 _ rfl).1
      have ltv : w3.heap.size < w4.heap.size := lt_of_cell (Vv.out 0 _ rfl).1
      have nep : ¬ w1.heap.size = w4.heap.size := by omega
      have nev : ¬ w3.heap.size = w4.heap.size := by omega
      clear hb4
      go_wp2_with fail
      refine (initPut_no a b c d true _ HC.out).mono ?_
      rintro e w5 ⟨rfl, hb5⟩
      have Vp := Lib.hid ((Vp.out).below hb5 ltp)
      have Vv := Lib.hid ((Vv.out).below hb5 ltv)
      have HB5 := Lib.hid (HB4.out.trans (hb5.mono HB4.out.size))
      have ltp : w1.heap.size < w5.heap.size := lt_of_cell (Vp.out 0 _ rfl).1
      have ltv : w3.heap.size < w5.heap.size := lt_of_cell (Vv.out 0 _ rfl).1
      have nep : ¬ w1.heap.size = w5.heap.size := by omega
      have nev : ¬ w3.heap.size = w5.heap.size := by omega
      clear hb5
      unfold notMadeV
      have v0 := (Vv.out 0 _ rfl).1
      have vf0 := (Vv.out 0 _ rfl).2
      have v1 := (Vv.out 1 _ rfl).1
      have vf1 := (Vv.out 1 _ rfl).2
      have v2 := (Vv.out 2 _ rfl).1
      have vf2 := (Vv.out 2 _ rfl).2
      go_wp2_with fail
      refine (eqChunk_same 0 0 (ByteArray.mk #[]) _).mono ?_
      rintro e w6 ⟨rfl, hb6⟩
      clear v0 vf0 v1 vf1 v2 vf2
      have Vp := Lib.hid (((Vp.out).alloc (.cells (List.toArray [.int .i64 0, .int .i64 0, .string (ByteArray.mk #[])]) 28) (by omega)).below hb6 (by simp; omega))
      have Vv := Lib.hid (((Vv.out).alloc (.cells (List.toArray [.int .i64 0, .int .i64 0, .string (ByteArray.mk #[])]) 28) (by omega)).below hb6 (by simp; omega))
      have Vg := Lib.hid ((VarN.new_at (w := w5) (d := w5.heap.size) (by simp) [.int .i64 0, .int .i64 0, .string (ByteArray.mk #[])] 28).below hb6 (by simp))
      have HB6 := Lib.hid (((HB5.out).alloc (Nat.le_trans HB5.out.size (by exact Nat.le_refl _)) (.cells (List.toArray [.int .i64 0, .int .i64 0, .string (ByteArray.mk #[])]) 28)).trans (hb6.mono (Nat.le_trans HB5.out.size (by simp <;> omega))))
      have ltp : w1.heap.size < w6.heap.size := lt_of_cell (Vp.out 0 _ rfl).1
      have ltv : w3.heap.size < w6.heap.size := lt_of_cell (Vv.out 0 _ rfl).1
      have ltg : w5.heap.size < w6.heap.size := lt_of_cell (Vg.out 0 _ rfl).1
      have nep : ¬ w1.heap.size = w6.heap.size := by omega
      have nev : ¬ w3.heap.size = w6.heap.size := by omega
      have neg : ¬ w5.heap.size = w6.heap.size := by omega
      clear hb6
      go_wp2
      go_ret
      exact ⟨rfl, HB6.out⟩

set_option maxHeartbeats 1000000 in
theorem walk_fnExactInitGet (k f : Int) (b : ByteArray) (_w0 : (Lit.int .i64 k).wf = true) (_w1 : (Lit.int .i64 f).wf = true) (hm : b.size ≤ maxLen) (w1 : World) :
    Calls Try.prog 9 #[.agg #[.int .i64 k, .int .i64 f, .string b]] w1 fun e w' => e = .returned (.bool true) ∧ Below w1.heap.size w1 w' := by
  have hb1 := Below.refl w1.heap.size w1
  by_cases hz : b.size ≤ 1048576
  · have HZ := Lib.hid hz
    clear hz
    go_enter Try.func9, Try.ntmps9
    by_cases hc : HasInit k f b
    · have HC := Lib.hid hc
      clear hc
      go_wp2_with fail
      refine (szChunk_yes k f b _ HZ.out).mono ?_
      rintro e w2 ⟨rfl, hb2⟩
      have Vp := Lib.hid ((VarN.new_at (w := w1) (d := w1.heap.size) (by simp) [.int .i64 k, .int .i64 f, .string b] 39).below hb2 (by simp))
      have HB2 := Lib.hid (((hb1).alloc (Nat.le_trans hb1.size (by exact Nat.le_refl _)) (.cells (List.toArray [.int .i64 k, .int .i64 f, .string b]) 39)).trans (hb2.mono (Nat.le_trans hb1.size (by simp <;> omega))))
      have ltp : w1.heap.size < w2.heap.size := lt_of_cell (Vp.out 0 _ rfl).1
      have nep : ¬ w1.heap.size = w2.heap.size := by omega
      clear hb2
      have p0 := (Vp.out 0 _ rfl).1
      have pf0 := (Vp.out 0 _ rfl).2
      have p1 := (Vp.out 1 _ rfl).1
      have pf1 := (Vp.out 1 _ rfl).2
      have p2 := (Vp.out 2 _ rfl).1
      have pf2 := (Vp.out 2 _ rfl).2
      have tz : (b.size : Int) ≤ 1048576 := by have := HZ.out; omega
      go_wp2_with fail
      refine (toChunk_any k f b _).mono ?_
      rintro e w3 ⟨rfl, hb3⟩
      clear p0 pf0 p1 pf1 p2 pf2
      have Vp := Lib.hid ((Vp.out).below hb3 ltp)
      have HB3 := Lib.hid (HB2.out.trans (hb3.mono HB2.out.size))
      have ltp : w1.heap.size < w3.heap.size := lt_of_cell (Vp.out 0 _ rfl).1
      have nep : ¬ w1.heap.size = w3.heap.size := by omega
      clear hb3
      go_wp2_with fail
      refine (sInitGet_yes k f b _ HC.out).mono ?_
      rintro e w4 ⟨rfl, hb4⟩
      have Vp := Lib.hid ((Vp.out).below hb4 ltp)
      have HB4 := Lib.hid (HB3.out.trans (hb4.mono HB3.out.size))
      have ltp : w1.heap.size < w4.heap.size := lt_of_cell (Vp.out 0 _ rfl).1
      have nep : ¬ w1.heap.size = w4.heap.size := by omega
      clear hb4
      unfold gotInitV
      have p0 := (Vp.out 0 _ rfl).1
      have pf0 := (Vp.out 0 _ rfl).2
      have p1 := (Vp.out 1 _ rfl).1
      have pf1 := (Vp.out 1 _ rfl).2
      have p2 := (Vp.out 2 _ rfl).1
      have pf2 := (Vp.out 2 _ rfl).2
      go_wp2_with fail
      refine (toChunk_any k f b _).mono ?_
      rintro e w5 ⟨rfl, hb5⟩
      clear p0 pf0 p1 pf1 p2 pf2
      have Vp := Lib.hid (((Vp.out).alloc (.cells (List.toArray [.int .i64 (be b 0 4), .int .i64 (be b 4 2), .int .i64 (be b 6 2), .int .i64 (be b 8 2)]) 24) (by omega)).below hb5 (by simp; omega))
      have Vv := Lib.hid ((VarN.new_at (w := w4) (d := w4.heap.size) (by simp) [.int .i64 (be b 0 4), .int .i64 (be b 4 2), .int .i64 (be b 6 2), .int .i64 (be b 8 2)] 24).below hb5 (by simp))
      have HB5 := Lib.hid (((HB4.out).alloc (Nat.le_trans HB4.out.size (by exact Nat.le_refl _)) (.cells (List.toArray [.int .i64 (be b 0 4), .int .i64 (be b 4 2), .int .i64 (be b 6 2), .int .i64 (be b 8 2)]) 24)).trans (hb5.mono (Nat.le_trans HB4.out.size (by simp <;> omega))))
      have ltp : w1.heap.size < w5.heap.size := lt_of_cell (Vp.out 0 _ rfl).1
      have ltv : w4.heap.size < w5.heap.size := lt_of_cell (Vv.out 0 _ rfl).1
      have nep : ¬ w1.heap.size = w5.heap.size := by omega
      have nev : ¬ w4.heap.size = w5.heap.size := by omega
      clear hb5
      go_wp2_with fail
      refine (initGet_yes k f b _ HC.out).mono ?_
      rintro e w6 ⟨rfl, hb6⟩
      have Vp := Lib.hid ((Vp.out).below hb6 ltp)
      have Vv := Lib.hid ((Vv.out).below hb6 ltv)
      have HB6 := Lib.hid (HB5.out.trans (hb6.mono HB5.out.size))
      have ltp : w1.heap.size < w6.heap.size := lt_of_cell (Vp.out 0 _ rfl).1
      have ltv : w4.heap.size < w6.heap.size := lt_of_cell (Vv.out 0 _ rfl).1
      have nep : ¬ w1.heap.size = w6.heap.size := by omega
      have nev : ¬ w4.heap.size = w6.heap.size := by omega
      clear hb6
      unfold gotInitV
      have v0 := (Vv.out 0 _ rfl).1
      have vf0 := (Vv.out 0 _ rfl).2
      have v1 := (Vv.out 1 _ rfl).1
      have vf1 := (Vv.out 1 _ rfl).2
      have v2 := (Vv.out 2 _ rfl).1
      have vf2 := (Vv.out 2 _ rfl).2
      have v3 := (Vv.out 3 _ rfl).1
      have vf3 := (Vv.out 3 _ rfl).2
      go_wp2_with fail
      refine (eqInit_same (be b 0 4) (be b 4 2) (be b 6 2) (be b 8 2) _).mono ?_
      rintro e w7 ⟨rfl, hb7⟩
      clear v0 vf0 v1 vf1 v2 vf2 v3 vf3
      have Vp := Lib.hid (((Vp.out).alloc (.cells (List.toArray [.int .i64 (be b 0 4), .int .i64 (be b 4 2), .int .i64 (be b 6 2), .int .i64 (be b 8 2)]) 24) (by omega)).below hb7 (by simp; omega))
      have Vv := Lib.hid (((Vv.out).alloc (.cells (List.toArray [.int .i64 (be b 0 4), .int .i64 (be b 4 2), .int .i64 (be b 6 2), .int .i64 (be b 8 2)]) 24) (by omega)).below hb7 (by simp; omega))
      have Vg := Lib.hid ((VarN.new_at (w := w6) (d := w6.heap.size) (by simp) [.int .i64 (be b 0 4), .int .i64 (be b 4 2), .int .i64 (be b 6 2), .int .i64 (be b 8 2)] 24).below hb7 (by simp))
      have HB7 := Lib.hid (((HB6.out).alloc (Nat.le_trans HB6.out.size (by exact Nat.le_refl _)) (.cells (List.toArray [.int .i64 (be b 0 4), .int .i64 (be b 4 2), .int .i64 (be b 6 2), .int .i64 (be b 8 2)]) 24)).trans (hb7.mono (Nat.le_trans HB6.out.size (by simp <;> omega))))
      have ltp : w1.heap.size < w7.heap.size := lt_of_cell (Vp.out 0 _ rfl).1
      have ltv : w4.heap.size < w7.heap.size := lt_of_cell (Vv.out 0 _ rfl).1
      have ltg : w6.heap.size < w7.heap.size := lt_of_cell (Vg.out 0 _ rfl).1
      have nep : ¬ w1.heap.size = w7.heap.size := by omega
      have nev : ¬ w4.heap.size = w7.heap.size := by omega
      have neg : ¬ w6.heap.size = w7.heap.size := by omega
      clear hb7
      go_wp2
      go_ret
      exact ⟨rfl, HB7.out⟩
    · have HC := Lib.hid hc
      clear hc
      go_wp2_with fail
      refine (szChunk_yes k f b _ HZ.out).mono ?_
      rintro e w2 ⟨rfl, hb2⟩
      have Vp := Lib.hid ((VarN.new_at (w := w1) (d := w1.heap.size) (by simp) [.int .i64 k, .int .i64 f, .string b] 39).below hb2 (by simp))
      have HB2 := Lib.hid (((hb1).alloc (Nat.le_trans hb1.size (by exact Nat.le_refl _)) (.cells (List.toArray [.int .i64 k, .int .i64 f, .string b]) 39)).trans (hb2.mono (Nat.le_trans hb1.size (by simp <;> omega))))
      have ltp : w1.heap.size < w2.heap.size := lt_of_cell (Vp.out 0 _ rfl).1
      have nep : ¬ w1.heap.size = w2.heap.size := by omega
      clear hb2
      have p0 := (Vp.out 0 _ rfl).1
      have pf0 := (Vp.out 0 _ rfl).2
      have p1 := (Vp.out 1 _ rfl).1
      have pf1 := (Vp.out 1 _ rfl).2
      have p2 := (Vp.out 2 _ rfl).1
      have pf2 := (Vp.out 2 _ rfl).2
      have tz : (b.size : Int) ≤ 1048576 := by have := HZ.out; omega
      go_wp2_with fail
      refine (toChunk_any k f b _).mono ?_
      rintro e w3 ⟨rfl, hb3⟩
      clear p0 pf0 p1 pf1 p2 pf2
      have Vp := Lib.hid ((Vp.out).below hb3 ltp)
      have HB3 := Lib.hid (HB2.out.trans (hb3.mono HB2.out.size))
      have ltp : w1.heap.size < w3.heap.size := lt_of_cell (Vp.out 0 _ rfl).1
      have nep : ¬ w1.heap.size = w3.heap.size := by omega
      clear hb3
      go_wp2_with fail
      refine (sInitGet_no k f b _ HC.out).mono ?_
      rintro e w4 ⟨rfl, hb4⟩
      have Vp := Lib.hid ((Vp.out).below hb4 ltp)
      have HB4 := Lib.hid (HB3.out.trans (hb4.mono HB3.out.size))
      have ltp : w1.heap.size < w4.heap.size := lt_of_cell (Vp.out 0 _ rfl).1
      have nep : ¬ w1.heap.size = w4.heap.size := by omega
      clear hb4
      unfold noInitV
      have p0 := (Vp.out 0 _ rfl).1
      have pf0 := (Vp.out 0 _ rfl).2
      have p1 := (Vp.out 1 _ rfl).1
      have pf1 := (Vp.out 1 _ rfl).2
      have p2 := (Vp.out 2 _ rfl).1
      have pf2 := (Vp.out 2 _ rfl).2
      go_wp2_with fail
      refine (toChunk_any k f b _).mono ?_
      rintro e w5 ⟨rfl, hb5⟩
      clear p0 pf0 p1 pf1 p2 pf2
      have Vp := Lib.hid (((Vp.out).alloc (.cells (List.toArray [.int .i64 0, .int .i64 0, .int .i64 0, .int .i64 0]) 24) (by omega)).below hb5 (by simp; omega))
      have Vv := Lib.hid ((VarN.new_at (w := w4) (d := w4.heap.size) (by simp) [.int .i64 0, .int .i64 0, .int .i64 0, .int .i64 0] 24).below hb5 (by simp))
      have HB5 := Lib.hid (((HB4.out).alloc (Nat.le_trans HB4.out.size (by exact Nat.le_refl _)) (.cells (List.toArray [.int .i64 0, .int .i64 0, .int .i64 0, .int .i64 0]) 24)).trans (hb5.mono (Nat.le_trans HB4.out.size (by simp <;> omega))))
      have ltp : w1.heap.size < w5.heap.size := lt_of_cell (Vp.out 0 _ rfl).1
      have ltv : w4.heap.size < w5.heap.size := lt_of_cell (Vv.out 0 _ rfl).1
      have nep : ¬ w1.heap.size = w5.heap.size := by omega
      have nev : ¬ w4.heap.size = w5.heap.size := by omega
      clear hb5
      go_wp2_with fail
      refine (initGet_no k f b _ (Nat.le_trans HZ.out (by decide)) HC.out).mono ?_
      rintro e w6 ⟨rfl, hb6⟩
      have Vp := Lib.hid ((Vp.out).below hb6 ltp)
      have Vv := Lib.hid ((Vv.out).below hb6 ltv)
      have HB6 := Lib.hid (HB5.out.trans (hb6.mono HB5.out.size))
      have ltp : w1.heap.size < w6.heap.size := lt_of_cell (Vp.out 0 _ rfl).1
      have ltv : w4.heap.size < w6.heap.size := lt_of_cell (Vv.out 0 _ rfl).1
      have nep : ¬ w1.heap.size = w6.heap.size := by omega
      have nev : ¬ w4.heap.size = w6.heap.size := by omega
      clear hb6
      unfold noInitV
      have v0 := (Vv.out 0 _ rfl).1
      have vf0 := (Vv.out 0 _ rfl).2
      have v1 := (Vv.out 1 _ rfl).1
      have vf1 := (Vv.out 1 _ rfl).2
      have v2 := (Vv.out 2 _ rfl).1
      have vf2 := (Vv.out 2 _ rfl).2
      have v3 := (Vv.out 3 _ rfl).1
      have vf3 := (Vv.out 3 _ rfl).2
      go_wp2_with fail
      refine (eqInit_same 0 0 0 0 _).mono ?_
      rintro e w7 ⟨rfl, hb7⟩
      clear v0 vf0 v1 vf1 v2 vf2 v3 vf3
      have Vp := Lib.hid (((Vp.out).alloc (.cells (List.toArray [.int .i64 0, .int .i64 0, .int .i64 0, .int .i64 0]) 24) (by omega)).below hb7 (by simp; omega))
      have Vv := Lib.hid (((Vv.out).alloc (.cells (List.toArray [.int .i64 0, .int .i64 0, .int .i64 0, .int .i64 0]) 24) (by omega)).below hb7 (by simp; omega))
      have Vg := Lib.hid ((VarN.new_at (w := w6) (d := w6.heap.size) (by simp) [.int .i64 0, .int .i64 0, .int .i64 0, .int .i64 0] 24).below hb7 (by simp))
      have HB7 := Lib.hid (((HB6.out).alloc (Nat.le_trans HB6.out.size (by exact Nat.le_refl _)) (.cells (List.toArray [.int .i64 0, .int .i64 0, .int .i64 0, .int .i64 0]) 24)).trans (hb7.mono (Nat.le_trans HB6.out.size (by simp <;> omega))))
      have ltp : w1.heap.size < w7.heap.size := lt_of_cell (Vp.out 0 _ rfl).1
      have ltv : w4.heap.size < w7.heap.size := lt_of_cell (Vv.out 0 _ rfl).1
      have ltg : w6.heap.size < w7.heap.size := lt_of_cell (Vg.out 0 _ rfl).1
      have nep : ¬ w1.heap.size = w7.heap.size := by omega
      have nev : ¬ w4.heap.size = w7.heap.size := by omega
      have neg : ¬ w6.heap.size = w7.heap.size := by omega
      clear hb7
      go_wp2
      go_ret
      exact ⟨rfl, HB7.out⟩
  · have HZ := Lib.hid (show 1048576 < b.size by omega)
    clear hz
    go_enter Try.func9, Try.ntmps9
    go_wp2_with fail
    refine (szChunk_no k f b _ HZ.out hm).mono ?_
    rintro e w2 ⟨rfl, hb2⟩
    have Vp := Lib.hid ((VarN.new_at (w := w1) (d := w1.heap.size) (by simp) [.int .i64 k, .int .i64 f, .string b] 39).below hb2 (by simp))
    have HB2 := Lib.hid (((hb1).alloc (Nat.le_trans hb1.size (by exact Nat.le_refl _)) (.cells (List.toArray [.int .i64 k, .int .i64 f, .string b]) 39)).trans (hb2.mono (Nat.le_trans hb1.size (by simp <;> omega))))
    have ltp : w1.heap.size < w2.heap.size := lt_of_cell (Vp.out 0 _ rfl).1
    have nep : ¬ w1.heap.size = w2.heap.size := by omega
    clear hb2
    go_wp2
    go_ret
    exact ⟨rfl, HB2.out⟩

end Go.Proofs.Ythanldoljildnaa
