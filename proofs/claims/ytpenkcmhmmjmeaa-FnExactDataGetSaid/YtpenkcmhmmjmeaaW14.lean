/- The walks of the laws on parts: each call returns true and touches nothing that was there. -/
import Derived.Test.YtpenkcmhmmjmeaaK22
import Derived.Test.YtpenkcmhmmjmeaaK20b
import Derived.Test.YtpenkcmhmmjmeaaK26
import Derived.Test.YtpenkcmhmmjmeaaK18v
import Derived.Test.YtpenkcmhmmjmeaaK11
import Derived.Test.YtpenkcmhmmjmeaaK17
import Derived.Handy
namespace Go.Proofs.Ytpenkcmhmmjmeaa
open Go.RowKit Go.PlainAid

theorem ser_of {a : Int} (h : 0 ≤ a ∧ a ≤ 65535) : Ser a := ⟨h.1, by omega⟩
theorem addV_zero {a : Int} (h : Ser a) : (0 : Int) ≤ addV a 0 := by
  rw [addV_yes 0 h]
  unfold addS
  omega
theorem addV_not {a : Int} (h : ¬ Ser a) : ¬ (0 : Int) ≤ addV a 0 := by
  rw [addV_no 0 h]
  decide
theorem data_read {a b c : Int} {fi la lo : Bool} {t : ByteArray} (h : DataOk a b c t) :
    gotDataV (be (dataS a b c t) 0 2) (be (dataS a b c t) 2 2) (be (dataS a b c t) 4 2) (flagsV fi la lo / 2 % 2 == 1) (flagsV fi la lo % 2 == 1) (flagsV fi la lo / 4 == 1) ((dataS a b c t).extract 6 (dataS a b c t).size) = gotDataV a b c fi la lo t := by
  rw [data_first h, data_second h, data_third h, flagsV_first, flagsV_last, flagsV_loose, data_text]
theorem data_again {k f : Int} {b : ByteArray} (h : HasData k f b) : madeV 0 (flagsV (f / 2 % 2 == 1) (f % 2 == 1) (f / 4 == 1)) (dataS (be b 0 2) (be b 2 2) (be b 4 2) (b.extract 6 b.size)) = madeV k f b := by
  rw [data_back h, flagsV_of h.2.1.1 h.2.1.2, h.1]
theorem data_chk {a b c : Int} {fi la lo : Bool} {t : ByteArray} (h : DataOk a b c t) : Chk 0 (flagsV fi la lo) (dataS a b c t) := by
  have r := flagsV_range fi la lo
  have z := dataS_size a b c t
  have h4 := h.2.2.2.2
  exact ⟨⟨by omega, by omega⟩, ⟨by omega, by omega⟩, by omega⟩

set_option maxHeartbeats 1000000 in
theorem walk_fnDataPut (a0 : Option Addr) (len0 cap0 : Nat) (z0 : List Int) (w : World) (w0 : IsRow .u8 w a0 len0 cap0 z0) :
    Calls Try.prog 3 #[.slice a0 len0 cap0] w fun e w' => e = .returned (.bool true) ∧ Below w.heap.size w w' := by
  have H := Lib.hid w0
  clear w0
  by_cases hl : (1048576 : Int) < len0
  · go_enter Try.func3, Try.ntmps3
    go_wp2
    go_ret
    exact ⟨rfl, Below.refl _ _⟩
  · go_enter Try.func3, Try.ntmps3
    go_wp2_with fail
    refine (drawDataPut_any a0 len0 cap0 z0 _ H.out).mono ?_
    rintro e w1 ⟨a, b, c, fi, la, lo, t, rfl, ⟨na, nb, nc, nt⟩, hb1⟩
    by_cases hc : DataOk a b c t
    · have HC := Lib.hid hc
      clear hc
      go_wp2_with fail
      refine (dataPut_yes a b c fi la lo t _ HC.out).mono ?_
      rintro e w2 ⟨rfl, hb2⟩
      have Vd := Lib.hid ((VarN.new_at (w := w1) (d := w1.heap.size) (by simp) [.int .i64 a, .int .i64 b, .int .i64 c, .bool fi, .bool la, .bool lo, .string t] 24).below hb2 (by simp))
      have HB2 := Lib.hid (((hb1).alloc (Nat.le_trans hb1.size (by exact Nat.le_refl _)) (.cells (List.toArray [.int .i64 a, .int .i64 b, .int .i64 c, .bool fi, .bool la, .bool lo, .string t]) 24)).trans (hb2.mono (Nat.le_trans hb1.size (by simp <;> omega))))
      have ltd : w1.heap.size < w2.heap.size := lt_of_cell (Vd.out 0 _ rfl).1
      have ned : ¬ w1.heap.size = w2.heap.size := by omega
      clear hb2
      unfold madeV
      have d0 := (Vd.out 0 _ rfl).1
      have df0 := (Vd.out 0 _ rfl).2
      have d1 := (Vd.out 1 _ rfl).1
      have df1 := (Vd.out 1 _ rfl).2
      have d2 := (Vd.out 2 _ rfl).1
      have df2 := (Vd.out 2 _ rfl).2
      have d3 := (Vd.out 3 _ rfl).1
      have df3 := (Vd.out 3 _ rfl).2
      have d4 := (Vd.out 4 _ rfl).1
      have df4 := (Vd.out 4 _ rfl).2
      have d5 := (Vd.out 5 _ rfl).1
      have df5 := (Vd.out 5 _ rfl).2
      have d6 := (Vd.out 6 _ rfl).1
      have df6 := (Vd.out 6 _ rfl).2
      go_wp2_with fail
      refine (sDataPut_yes a b c fi la lo t _ HC.out).mono ?_
      rintro e w3 ⟨rfl, hb3⟩
      clear d0 df0 d1 df1 d2 df2 d3 df3 d4 df4 d5 df5 d6 df6
      have Vd := Lib.hid (((Vd.out).alloc (.cells (List.toArray [.int .i64 0, .int .i64 (flagsV fi la lo), .string (dataS a b c t)]) 27) (by omega)).below hb3 (by simp; omega))
      have Vo := Lib.hid ((VarN.new_at (w := w2) (d := w2.heap.size) (by simp) [.int .i64 0, .int .i64 (flagsV fi la lo), .string (dataS a b c t)] 27).below hb3 (by simp))
      have HB3 := Lib.hid (((HB2.out).alloc (Nat.le_trans HB2.out.size (by exact Nat.le_refl _)) (.cells (List.toArray [.int .i64 0, .int .i64 (flagsV fi la lo), .string (dataS a b c t)]) 27)).trans (hb3.mono (Nat.le_trans HB2.out.size (by simp <;> omega))))
      have ltd : w1.heap.size < w3.heap.size := lt_of_cell (Vd.out 0 _ rfl).1
      have lto : w2.heap.size < w3.heap.size := lt_of_cell (Vo.out 0 _ rfl).1
      have ned : ¬ w1.heap.size = w3.heap.size := by omega
      have neo : ¬ w2.heap.size = w3.heap.size := by omega
      clear hb3
      unfold madeV
      have E := Lib.hid (data_read (fi := fi) (la := la) (lo := lo) HC.out)
      have G := Lib.hid (hasData_put fi la lo HC.out)
      have d0 := (Vd.out 0 _ rfl).1
      have df0 := (Vd.out 0 _ rfl).2
      have d1 := (Vd.out 1 _ rfl).1
      have df1 := (Vd.out 1 _ rfl).2
      have d2 := (Vd.out 2 _ rfl).1
      have df2 := (Vd.out 2 _ rfl).2
      have d3 := (Vd.out 3 _ rfl).1
      have df3 := (Vd.out 3 _ rfl).2
      have d4 := (Vd.out 4 _ rfl).1
      have df4 := (Vd.out 4 _ rfl).2
      have d5 := (Vd.out 5 _ rfl).1
      have df5 := (Vd.out 5 _ rfl).2
      have d6 := (Vd.out 6 _ rfl).1
      have df6 := (Vd.out 6 _ rfl).2
      have o0 := (Vo.out 0 _ rfl).1
      have of0 := (Vo.out 0 _ rfl).2
      have o1 := (Vo.out 1 _ rfl).1
      have of1 := (Vo.out 1 _ rfl).2
      have o2 := (Vo.out 2 _ rfl).1
      have of2 := (Vo.out 2 _ rfl).2
      go_wp2_with fail
      refine (dataGet_yes 0 (flagsV fi la lo) (dataS a b c t) _ G.out).mono ?_
      rw [E.out]
      rintro e w4 ⟨rfl, hb4⟩
      clear d0 df0 d1 df1 d2 df2 d3 df3 d4 df4 d5 df5 d6 df6 o0 of0 o1 of1 o2 of2
      have Vd := Lib.hid (((Vd.out).alloc (.cells (List.toArray [.int .i64 0, .int .i64 (flagsV fi la lo), .string (dataS a b c t)]) 27) (by omega)).below hb4 (by simp; omega))
      have Vo := Lib.hid (((Vo.out).alloc (.cells (List.toArray [.int .i64 0, .int .i64 (flagsV fi la lo), .string (dataS a b c t)]) 27) (by omega)).below hb4 (by simp; omega))
      have Vs := Lib.hid ((VarN.new_at (w := w3) (d := w3.heap.size) (by simp) [.int .i64 0, .int .i64 (flagsV fi la lo), .string (dataS a b c t)] 27).below hb4 (by simp))
      have HB4 := Lib.hid (((HB3.out).alloc (Nat.le_trans HB3.out.size (by exact Nat.le_refl _)) (.cells (List.toArray [.int .i64 0, .int .i64 (flagsV fi la lo), .string (dataS a b c t)]) 27)).trans (hb4.mono (Nat.le_trans HB3.out.size (by simp <;> omega))))
      have ltd : w1.heap.size < w4.heap.size := lt_of_cell (Vd.out 0 _ rfl).1
      have lto : w2.heap.size < w4.heap.size := lt_of_cell (Vo.out 0 _ rfl).1
      have lts : w3.heap.size < w4.heap.size := lt_of_cell (Vs.out 0 _ rfl).1
      have ned : ¬ w1.heap.size = w4.heap.size := by omega
      have neo : ¬ w2.heap.size = w4.heap.size := by omega
      have nes : ¬ w3.heap.size = w4.heap.size := by omega
      clear hb4
      unfold gotDataV
      have CK := Lib.hid (chkV_yes (data_chk (fi := fi) (la := la) (lo := lo) HC.out))
      have zi : ((dataS a b c t).size : Int) = 6 + (t.size : Int) := by rw [dataS_size]; omega
      have wr : IntKind.i64.wrap (6 + (t.size : Int)) = 6 + (t.size : Int) := IntWalk.i64_in _ (by omega)
      have d0 := (Vd.out 0 _ rfl).1
      have df0 := (Vd.out 0 _ rfl).2
      have d1 := (Vd.out 1 _ rfl).1
      have df1 := (Vd.out 1 _ rfl).2
      have d2 := (Vd.out 2 _ rfl).1
      have df2 := (Vd.out 2 _ rfl).2
      have d3 := (Vd.out 3 _ rfl).1
      have df3 := (Vd.out 3 _ rfl).2
      have d4 := (Vd.out 4 _ rfl).1
      have df4 := (Vd.out 4 _ rfl).2
      have d5 := (Vd.out 5 _ rfl).1
      have df5 := (Vd.out 5 _ rfl).2
      have d6 := (Vd.out 6 _ rfl).1
      have df6 := (Vd.out 6 _ rfl).2
      have o0 := (Vo.out 0 _ rfl).1
      have of0 := (Vo.out 0 _ rfl).2
      have o1 := (Vo.out 1 _ rfl).1
      have of1 := (Vo.out 1 _ rfl).2
      have o2 := (Vo.out 2 _ rfl).1
      have of2 := (Vo.out 2 _ rfl).2
      have s0 := (Vs.out 0 _ rfl).1
      have sf0 := (Vs.out 0 _ rfl).2
      have s1 := (Vs.out 1 _ rfl).1
      have sf1 := (Vs.out 1 _ rfl).2
      have s2 := (Vs.out 2 _ rfl).1
      have sf2 := (Vs.out 2 _ rfl).2
      go_wp2_with fail
      refine (chunkValid_any 0 (flagsV fi la lo) (dataS a b c t) _).mono ?_
      rw [CK.out]
      rintro e w5 ⟨rfl, hb5⟩
      clear d0 df0 d1 df1 d2 df2 d3 df3 d4 df4 d5 df5 d6 df6 o0 of0 o1 of1 o2 of2 s0 sf0 s1 sf1 s2 sf2
      have Vd := Lib.hid (((Vd.out).alloc (.cells (List.toArray [.int .i64 a, .int .i64 b, .int .i64 c, .bool fi, .bool la, .bool lo, .string t]) 24) (by omega)).below hb5 (by simp; omega))
      have Vo := Lib.hid (((Vo.out).alloc (.cells (List.toArray [.int .i64 a, .int .i64 b, .int .i64 c, .bool fi, .bool la, .bool lo, .string t]) 24) (by omega)).below hb5 (by simp; omega))
      have Vs := Lib.hid (((Vs.out).alloc (.cells (List.toArray [.int .i64 a, .int .i64 b, .int .i64 c, .bool fi, .bool la, .bool lo, .string t]) 24) (by omega)).below hb5 (by simp; omega))
      have Vx := Lib.hid ((VarN.new_at (w := w4) (d := w4.heap.size) (by simp) [.int .i64 a, .int .i64 b, .int .i64 c, .bool fi, .bool la, .bool lo, .string t] 24).below hb5 (by simp))
      have HB5 := Lib.hid (((HB4.out).alloc (Nat.le_trans HB4.out.size (by exact Nat.le_refl _)) (.cells (List.toArray [.int .i64 a, .int .i64 b, .int .i64 c, .bool fi, .bool la, .bool lo, .string t]) 24)).trans (hb5.mono (Nat.le_trans HB4.out.size (by simp <;> omega))))
      have ltd : w1.heap.size < w5.heap.size := lt_of_cell (Vd.out 0 _ rfl).1
      have lto : w2.heap.size < w5.heap.size := lt_of_cell (Vo.out 0 _ rfl).1
      have lts : w3.heap.size < w5.heap.size := lt_of_cell (Vs.out 0 _ rfl).1
      have ltx : w4.heap.size < w5.heap.size := lt_of_cell (Vx.out 0 _ rfl).1
      have ned : ¬ w1.heap.size = w5.heap.size := by omega
      have neo : ¬ w2.heap.size = w5.heap.size := by omega
      have nes : ¬ w3.heap.size = w5.heap.size := by omega
      have nex : ¬ w4.heap.size = w5.heap.size := by omega
      clear hb5
      have d0 := (Vd.out 0 _ rfl).1
      have df0 := (Vd.out 0 _ rfl).2
      have d1 := (Vd.out 1 _ rfl).1
      have df1 := (Vd.out 1 _ rfl).2
      have d2 := (Vd.out 2 _ rfl).1
      have df2 := (Vd.out 2 _ rfl).2
      have d3 := (Vd.out 3 _ rfl).1
      have df3 := (Vd.out 3 _ rfl).2
      have d4 := (Vd.out 4 _ rfl).1
      have df4 := (Vd.out 4 _ rfl).2
      have d5 := (Vd.out 5 _ rfl).1
      have df5 := (Vd.out 5 _ rfl).2
      have d6 := (Vd.out 6 _ rfl).1
      have df6 := (Vd.out 6 _ rfl).2
      have o0 := (Vo.out 0 _ rfl).1
      have of0 := (Vo.out 0 _ rfl).2
      have o1 := (Vo.out 1 _ rfl).1
      have of1 := (Vo.out 1 _ rfl).2
      have o2 := (Vo.out 2 _ rfl).1
      have of2 := (Vo.out 2 _ rfl).2
      have s0 := (Vs.out 0 _ rfl).1
      have sf0 := (Vs.out 0 _ rfl).2
      have s1 := (Vs.out 1 _ rfl).1
      have sf1 := (Vs.out 1 _ rfl).2
      have s2 := (Vs.out 2 _ rfl).1
      have sf2 := (Vs.out 2 _ rfl).2
      go_wp2
      go_ret
      exact ⟨rfl, HB5.out⟩
    · have HC := Lib.hid hc
      clear hc
      go_wp2_with fail
      refine (dataPut_no a b c fi la lo t _ HC.out).mono ?_
      rintro e w2 ⟨rfl, hb2⟩
      have Vd := Lib.hid ((VarN.new_at (w := w1) (d := w1.heap.size) (by simp) [.int .i64 a, .int .i64 b, .int .i64 c, .bool fi, .bool la, .bool lo, .string t] 24).below hb2 (by simp))
      have HB2 := Lib.hid (((hb1).alloc (Nat.le_trans hb1.size (by exact Nat.le_refl _)) (.cells (List.toArray [.int .i64 a, .int .i64 b, .int .i64 c, .bool fi, .bool la, .bool lo, .string t]) 24)).trans (hb2.mono (Nat.le_trans hb1.size (by simp <;> omega))))
      have ltd : w1.heap.size < w2.heap.size := lt_of_cell (Vd.out 0 _ rfl).1
      have ned : ¬ w1.heap.size = w2.heap.size := by omega
      clear hb2
      unfold notMadeV
      have d0 := (Vd.out 0 _ rfl).1
      have df0 := (Vd.out 0 _ rfl).2
      have d1 := (Vd.out 1 _ rfl).1
      have df1 := (Vd.out 1 _ rfl).2
      have d2 := (Vd.out 2 _ rfl).1
      have df2 := (Vd.out 2 _ rfl).2
      have d3 := (Vd.out 3 _ rfl).1
      have df3 := (Vd.out 3 _ rfl).2
      have d4 := (Vd.out 4 _ rfl).1
      have df4 := (Vd.out 4 _ rfl).2
      have d5 := (Vd.out 5 _ rfl).1
      have df5 := (Vd.out 5 _ rfl).2
      have d6 := (Vd.out 6 _ rfl).1
      have df6 := (Vd.out 6 _ rfl).2
      go_wp2_with fail
      refine (sDataPut_no a b c fi la lo t _ HC.out).mono ?_
      rintro e w3 ⟨rfl, hb3⟩
      clear d0 df0 d1 df1 d2 df2 d3 df3 d4 df4 d5 df5 d6 df6
      have Vd := Lib.hid (((Vd.out).alloc (.cells (List.toArray [.int .i64 0, .int .i64 0, .string (ByteArray.mk #[])]) 27) (by omega)).below hb3 (by simp; omega))
      have Vo := Lib.hid ((VarN.new_at (w := w2) (d := w2.heap.size) (by simp) [.int .i64 0, .int .i64 0, .string (ByteArray.mk #[])] 27).below hb3 (by simp))
      have HB3 := Lib.hid (((HB2.out).alloc (Nat.le_trans HB2.out.size (by exact Nat.le_refl _)) (.cells (List.toArray [.int .i64 0, .int .i64 0, .string (ByteArray.mk #[])]) 27)).trans (hb3.mono (Nat.le_trans HB2.out.size (by simp <;> omega))))
      have ltd : w1.heap.size < w3.heap.size := lt_of_cell (Vd.out 0 _ rfl).1
      have lto : w2.heap.size < w3.heap.size := lt_of_cell (Vo.out 0 _ rfl).1
      have ned : ¬ w1.heap.size = w3.heap.size := by omega
      have neo : ¬ w2.heap.size = w3.heap.size := by omega
      clear hb3
      unfold notMadeV
      have d0 := (Vd.out 0 _ rfl).1
      have df0 := (Vd.out 0 _ rfl).2
      have d1 := (Vd.out 1 _ rfl).1
      have df1 := (Vd.out 1 _ rfl).2
      have d2 := (Vd.out 2 _ rfl).1
      have df2 := (Vd.out 2 _ rfl).2
      have d3 := (Vd.out 3 _ rfl).1
      have df3 := (Vd.out 3 _ rfl).2
      have d4 := (Vd.out 4 _ rfl).1
      have df4 := (Vd.out 4 _ rfl).2
      have d5 := (Vd.out 5 _ rfl).1
      have df5 := (Vd.out 5 _ rfl).2
      have d6 := (Vd.out 6 _ rfl).1
      have df6 := (Vd.out 6 _ rfl).2
      have o0 := (Vo.out 0 _ rfl).1
      have of0 := (Vo.out 0 _ rfl).2
      have o1 := (Vo.out 1 _ rfl).1
      have of1 := (Vo.out 1 _ rfl).2
      have o2 := (Vo.out 2 _ rfl).1
      have of2 := (Vo.out 2 _ rfl).2
      go_wp2
      go_ret
      exact ⟨rfl, (HB3.out).alloc (Nat.le_trans HB3.out.size (by exact Nat.le_refl _)) _⟩

set_option maxHeartbeats 1000000 in
theorem walk_fnDataPutRange (a0 : Option Addr) (len0 cap0 : Nat) (z0 : List Int) (w : World) (w0 : IsRow .u8 w a0 len0 cap0 z0) :
    Calls Try.prog 4 #[.slice a0 len0 cap0] w fun e w' => e = .returned (.bool true) ∧ Below w.heap.size w w' := by
  have H := Lib.hid w0
  clear w0
  by_cases hl : (1048576 : Int) < len0
  · go_enter Try.func4, Try.ntmps4
    go_wp2
    go_ret
    exact ⟨rfl, Below.refl _ _⟩
  · go_enter Try.func4, Try.ntmps4
    go_wp2_with fail
    refine (drawDataPut_any a0 len0 cap0 z0 _ H.out).mono ?_
    rintro e w1 ⟨a, b, c, fi, la, lo, t, rfl, ⟨na, nb, nc, nt⟩, hb1⟩
    by_cases hc : DataOk a b c t
    · have HC := Lib.hid hc
      clear hc
      go_wp2_with fail
      refine (dataPut_yes a b c fi la lo t _ HC.out).mono ?_
      rintro e w2 ⟨rfl, hb2⟩
      have Vd := Lib.hid ((VarN.new_at (w := w1) (d := w1.heap.size) (by simp) [.int .i64 a, .int .i64 b, .int .i64 c, .bool fi, .bool la, .bool lo, .string t] 24).below hb2 (by simp))
      have HB2 := Lib.hid (((hb1).alloc (Nat.le_trans hb1.size (by exact Nat.le_refl _)) (.cells (List.toArray [.int .i64 a, .int .i64 b, .int .i64 c, .bool fi, .bool la, .bool lo, .string t]) 24)).trans (hb2.mono (Nat.le_trans hb1.size (by simp <;> omega))))
      have ltd : w1.heap.size < w2.heap.size := lt_of_cell (Vd.out 0 _ rfl).1
      have ned : ¬ w1.heap.size = w2.heap.size := by omega
      clear hb2
      unfold madeV
      have d0 := (Vd.out 0 _ rfl).1
      have df0 := (Vd.out 0 _ rfl).2
      have d1 := (Vd.out 1 _ rfl).1
      have df1 := (Vd.out 1 _ rfl).2
      have d2 := (Vd.out 2 _ rfl).1
      have df2 := (Vd.out 2 _ rfl).2
      have d3 := (Vd.out 3 _ rfl).1
      have df3 := (Vd.out 3 _ rfl).2
      have d4 := (Vd.out 4 _ rfl).1
      have df4 := (Vd.out 4 _ rfl).2
      have d5 := (Vd.out 5 _ rfl).1
      have df5 := (Vd.out 5 _ rfl).2
      have d6 := (Vd.out 6 _ rfl).1
      have df6 := (Vd.out 6 _ rfl).2
      go_wp2_with fail
      refine (sDataPut_yes a b c fi la lo t _ HC.out).mono ?_
      rintro e w3 ⟨rfl, hb3⟩
      clear d0 df0 d1 df1 d2 df2 d3 df3 d4 df4 d5 df5 d6 df6
      have Vd := Lib.hid (((Vd.out).alloc (.cells (List.toArray [.int .i64 0, .int .i64 (flagsV fi la lo), .string (dataS a b c t)]) 27) (by omega)).below hb3 (by simp; omega))
      have Vo := Lib.hid ((VarN.new_at (w := w2) (d := w2.heap.size) (by simp) [.int .i64 0, .int .i64 (flagsV fi la lo), .string (dataS a b c t)] 27).below hb3 (by simp))
      have HB3 := Lib.hid (((HB2.out).alloc (Nat.le_trans HB2.out.size (by exact Nat.le_refl _)) (.cells (List.toArray [.int .i64 0, .int .i64 (flagsV fi la lo), .string (dataS a b c t)]) 27)).trans (hb3.mono (Nat.le_trans HB2.out.size (by simp <;> omega))))
      have ltd : w1.heap.size < w3.heap.size := lt_of_cell (Vd.out 0 _ rfl).1
      have lto : w2.heap.size < w3.heap.size := lt_of_cell (Vo.out 0 _ rfl).1
      have ned : ¬ w1.heap.size = w3.heap.size := by omega
      have neo : ¬ w2.heap.size = w3.heap.size := by omega
      clear hb3
      unfold madeV
      have ga := addV_zero (ser_of HC.out.1)
      have gb := addV_zero (ser_of HC.out.2.1)
      have gc := addV_zero (ser_of HC.out.2.2.1)
      have t0 : (0 : Int) < t.size := by have := HC.out.2.2.2.1; omega
      have t1 : (t.size : Int) ≤ 20 := by have := HC.out.2.2.2.2; omega
      have d0 := (Vd.out 0 _ rfl).1
      have df0 := (Vd.out 0 _ rfl).2
      have d1 := (Vd.out 1 _ rfl).1
      have df1 := (Vd.out 1 _ rfl).2
      have d2 := (Vd.out 2 _ rfl).1
      have df2 := (Vd.out 2 _ rfl).2
      have d3 := (Vd.out 3 _ rfl).1
      have df3 := (Vd.out 3 _ rfl).2
      have d4 := (Vd.out 4 _ rfl).1
      have df4 := (Vd.out 4 _ rfl).2
      have d5 := (Vd.out 5 _ rfl).1
      have df5 := (Vd.out 5 _ rfl).2
      have d6 := (Vd.out 6 _ rfl).1
      have df6 := (Vd.out 6 _ rfl).2
      have o0 := (Vo.out 0 _ rfl).1
      have of0 := (Vo.out 0 _ rfl).2
      have o1 := (Vo.out 1 _ rfl).1
      have of1 := (Vo.out 1 _ rfl).2
      have o2 := (Vo.out 2 _ rfl).1
      have of2 := (Vo.out 2 _ rfl).2
      go_wp2_with fail
      refine (serialAdd_any a 0 _).mono ?_
      rintro e w' ⟨rfl, rfl⟩
      go_wp2_with fail
      refine (serialAdd_any b 0 _).mono ?_
      rintro e w' ⟨rfl, rfl⟩
      go_wp2_with fail
      refine (serialAdd_any c 0 _).mono ?_
      rintro e w' ⟨rfl, rfl⟩
      go_wp2
      go_ret
      exact ⟨rfl, (HB3.out).alloc (Nat.le_trans HB3.out.size (by exact Nat.le_refl _)) _⟩
    · by_cases ha : Ser a
      · by_cases hb : Ser b
        · by_cases hd : Ser c
          · have HC := Lib.hid hc
            clear hc
            go_wp2_with fail
            refine (dataPut_no a b c fi la lo t _ HC.out).mono ?_
            rintro e w2 ⟨rfl, hb2⟩
            have Vd := Lib.hid ((VarN.new_at (w := w1) (d := w1.heap.size) (by simp) [.int .i64 a, .int .i64 b, .int .i64 c, .bool fi, .bool la, .bool lo, .string t] 24).below hb2 (by simp))
            have HB2 := Lib.hid (((hb1).alloc (Nat.le_trans hb1.size (by exact Nat.le_refl _)) (.cells (List.toArray [.int .i64 a, .int .i64 b, .int .i64 c, .bool fi, .bool la, .bool lo, .string t]) 24)).trans (hb2.mono (Nat.le_trans hb1.size (by simp <;> omega))))
            have ltd : w1.heap.size < w2.heap.size := lt_of_cell (Vd.out 0 _ rfl).1
            have ned : ¬ w1.heap.size = w2.heap.size := by omega
            clear hb2
            unfold notMadeV
            have d0 := (Vd.out 0 _ rfl).1
            have df0 := (Vd.out 0 _ rfl).2
            have d1 := (Vd.out 1 _ rfl).1
            have df1 := (Vd.out 1 _ rfl).2
            have d2 := (Vd.out 2 _ rfl).1
            have df2 := (Vd.out 2 _ rfl).2
            have d3 := (Vd.out 3 _ rfl).1
            have df3 := (Vd.out 3 _ rfl).2
            have d4 := (Vd.out 4 _ rfl).1
            have df4 := (Vd.out 4 _ rfl).2
            have d5 := (Vd.out 5 _ rfl).1
            have df5 := (Vd.out 5 _ rfl).2
            have d6 := (Vd.out 6 _ rfl).1
            have df6 := (Vd.out 6 _ rfl).2
            go_wp2_with fail
            refine (sDataPut_no a b c fi la lo t _ HC.out).mono ?_
            rintro e w3 ⟨rfl, hb3⟩
            clear d0 df0 d1 df1 d2 df2 d3 df3 d4 df4 d5 df5 d6 df6
            have Vd := Lib.hid (((Vd.out).alloc (.cells (List.toArray [.int .i64 0, .int .i64 0, .string (ByteArray.mk #[])]) 27) (by omega)).below hb3 (by simp; omega))
            have Vo := Lib.hid ((VarN.new_at (w := w2) (d := w2.heap.size) (by simp) [.int .i64 0, .int .i64 0, .string (ByteArray.mk #[])] 27).below hb3 (by simp))
            have HB3 := Lib.hid (((HB2.out).alloc (Nat.le_trans HB2.out.size (by exact Nat.le_refl _)) (.cells (List.toArray [.int .i64 0, .int .i64 0, .string (ByteArray.mk #[])]) 27)).trans (hb3.mono (Nat.le_trans HB2.out.size (by simp <;> omega))))
            have ltd : w1.heap.size < w3.heap.size := lt_of_cell (Vd.out 0 _ rfl).1
            have lto : w2.heap.size < w3.heap.size := lt_of_cell (Vo.out 0 _ rfl).1
            have ned : ¬ w1.heap.size = w3.heap.size := by omega
            have neo : ¬ w2.heap.size = w3.heap.size := by omega
            clear hb3
            unfold notMadeV
            have ga := addV_zero ha
            have gb := addV_zero hb
            have gc := addV_zero hd
            have tt : ¬ (1 ≤ t.size ∧ t.size ≤ 20) := fun h => HC.out ⟨ser_le ha, ser_le hb, ser_le hd, h.1, h.2⟩
            have TZ := Lib.hid tt
            have d0 := (Vd.out 0 _ rfl).1
            have df0 := (Vd.out 0 _ rfl).2
            have d1 := (Vd.out 1 _ rfl).1
            have df1 := (Vd.out 1 _ rfl).2
            have d2 := (Vd.out 2 _ rfl).1
            have df2 := (Vd.out 2 _ rfl).2
            have d3 := (Vd.out 3 _ rfl).1
            have df3 := (Vd.out 3 _ rfl).2
            have d4 := (Vd.out 4 _ rfl).1
            have df4 := (Vd.out 4 _ rfl).2
            have d5 := (Vd.out 5 _ rfl).1
            have df5 := (Vd.out 5 _ rfl).2
            have d6 := (Vd.out 6 _ rfl).1
            have df6 := (Vd.out 6 _ rfl).2
            have o0 := (Vo.out 0 _ rfl).1
            have of0 := (Vo.out 0 _ rfl).2
            have o1 := (Vo.out 1 _ rfl).1
            have of1 := (Vo.out 1 _ rfl).2
            have o2 := (Vo.out 2 _ rfl).1
            have of2 := (Vo.out 2 _ rfl).2
            go_wp2_with fail
            refine (serialAdd_any a 0 _).mono ?_
            rintro e w' ⟨rfl, rfl⟩
            go_wp2_with fail
            refine (serialAdd_any b 0 _).mono ?_
            rintro e w' ⟨rfl, rfl⟩
            go_wp2_with fail
            refine (serialAdd_any c 0 _).mono ?_
            rintro e w' ⟨rfl, rfl⟩
            by_cases tz : t.size = 0
            · have tf : ¬ (0 : Int) < t.size := by omega
              go_wp2
              go_ret
              exact ⟨rfl, (HB3.out).alloc (Nat.le_trans HB3.out.size (by exact Nat.le_refl _)) _⟩
            · have t0 : (0 : Int) < t.size := by omega
              have t1 : decide ((t.size : Int) ≤ 20) = false := decide_eq_false (by have := TZ.out; omega)
              go_wp2
              go_ret
              exact ⟨rfl, (HB3.out).alloc (Nat.le_trans HB3.out.size (by exact Nat.le_refl _)) _⟩
          · have HC := Lib.hid hc
            clear hc
            go_wp2_with fail
            refine (dataPut_no a b c fi la lo t _ HC.out).mono ?_
            rintro e w2 ⟨rfl, hb2⟩
            have Vd := Lib.hid ((VarN.new_at (w := w1) (d := w1.heap.size) (by simp) [.int .i64 a, .int .i64 b, .int .i64 c, .bool fi, .bool la, .bool lo, .string t] 24).below hb2 (by simp))
            have HB2 := Lib.hid (((hb1).alloc (Nat.le_trans hb1.size (by exact Nat.le_refl _)) (.cells (List.toArray [.int .i64 a, .int .i64 b, .int .i64 c, .bool fi, .bool la, .bool lo, .string t]) 24)).trans (hb2.mono (Nat.le_trans hb1.size (by simp <;> omega))))
            have ltd : w1.heap.size < w2.heap.size := lt_of_cell (Vd.out 0 _ rfl).1
            have ned : ¬ w1.heap.size = w2.heap.size := by omega
            clear hb2
            unfold notMadeV
            have d0 := (Vd.out 0 _ rfl).1
            have df0 := (Vd.out 0 _ rfl).2
            have d1 := (Vd.out 1 _ rfl).1
            have df1 := (Vd.out 1 _ rfl).2
            have d2 := (Vd.out 2 _ rfl).1
            have df2 := (Vd.out 2 _ rfl).2
            have d3 := (Vd.out 3 _ rfl).1
            have df3 := (Vd.out 3 _ rfl).2
            have d4 := (Vd.out 4 _ rfl).1
            have df4 := (Vd.out 4 _ rfl).2
            have d5 := (Vd.out 5 _ rfl).1
            have df5 := (Vd.out 5 _ rfl).2
            have d6 := (Vd.out 6 _ rfl).1
            have df6 := (Vd.out 6 _ rfl).2
            go_wp2_with fail
            refine (sDataPut_no a b c fi la lo t _ HC.out).mono ?_
            rintro e w3 ⟨rfl, hb3⟩
            clear d0 df0 d1 df1 d2 df2 d3 df3 d4 df4 d5 df5 d6 df6
            have Vd := Lib.hid (((Vd.out).alloc (.cells (List.toArray [.int .i64 0, .int .i64 0, .string (ByteArray.mk #[])]) 27) (by omega)).below hb3 (by simp; omega))
            have Vo := Lib.hid ((VarN.new_at (w := w2) (d := w2.heap.size) (by simp) [.int .i64 0, .int .i64 0, .string (ByteArray.mk #[])] 27).below hb3 (by simp))
            have HB3 := Lib.hid (((HB2.out).alloc (Nat.le_trans HB2.out.size (by exact Nat.le_refl _)) (.cells (List.toArray [.int .i64 0, .int .i64 0, .string (ByteArray.mk #[])]) 27)).trans (hb3.mono (Nat.le_trans HB2.out.size (by simp <;> omega))))
            have ltd : w1.heap.size < w3.heap.size := lt_of_cell (Vd.out 0 _ rfl).1
            have lto : w2.heap.size < w3.heap.size := lt_of_cell (Vo.out 0 _ rfl).1
            have ned : ¬ w1.heap.size = w3.heap.size := by omega
            have neo : ¬ w2.heap.size = w3.heap.size := by omega
            clear hb3
            unfold notMadeV
            have ga := addV_zero ha
            have gb := addV_zero hb
            have gc := addV_not hd
            have d0 := (Vd.out 0 _ rfl).1
            have df0 := (Vd.out 0 _ rfl).2
            have d1 := (Vd.out 1 _ rfl).1
            have df1 := (Vd.out 1 _ rfl).2
            have d2 := (Vd.out 2 _ rfl).1
            have df2 := (Vd.out 2 _ rfl).2
            have d3 := (Vd.out 3 _ rfl).1
            have df3 := (Vd.out 3 _ rfl).2
            have d4 := (Vd.out 4 _ rfl).1
            have df4 := (Vd.out 4 _ rfl).2
            have d5 := (Vd.out 5 _ rfl).1
            have df5 := (Vd.out 5 _ rfl).2
            have d6 := (Vd.out 6 _ rfl).1
            have df6 := (Vd.out 6 _ rfl).2
            have o0 := (Vo.out 0 _ rfl).1
            have of0 := (Vo.out 0 _ rfl).2
            have o1 := (Vo.out 1 _ rfl).1
            have of1 := (Vo.out 1 _ rfl).2
            have o2 := (Vo.out 2 _ rfl).1
            have of2 := (Vo.out 2 _ rfl).2
            go_wp2_with fail
            refine (serialAdd_any a 0 _).mono ?_
            rintro e w' ⟨rfl, rfl⟩
            go_wp2_with fail
            refine (serialAdd_any b 0 _).mono ?_
            rintro e w' ⟨rfl, rfl⟩
            go_wp2_with fail
            refine (serialAdd_any c 0 _).mono ?_
            rintro e w' ⟨rfl, rfl⟩
            go_wp2
            go_ret
            exact ⟨rfl, (HB3.out).alloc (Nat.le_trans HB3.out.size (by exact Nat.le_refl _)) _⟩
        · have HC := Lib.hid hc
          clear hc
          go_wp2_with fail
          refine (dataPut_no a b c fi la lo t _ HC.out).mono ?_
          rintro e w2 ⟨rfl, hb2⟩
          have Vd := Lib.hid ((VarN.new_at (w := w1) (d := w1.heap.size) (by simp) [.int .i64 a, .int .i64 b, .int .i64 c, .bool fi, .bool la, .bool lo, .string t] 24).below hb2 (by simp))
          have HB2 := Lib.hid (((hb1).alloc (Nat.le_trans hb1.size (by exact Nat.le_refl _)) (.cells (List.toArray [.int .i64 a, .int .i64 b, .int .i64 c, .bool fi, .bool la, .bool lo, .string t]) 24)).trans (hb2.mono (Nat.le_trans hb1.size (by simp <;> omega))))
          have ltd : w1.heap.size < w2.heap.size := lt_of_cell (Vd.out 0 _ rfl).1
          have ned : ¬ w1.heap.size = w2.heap.size := by omega
          clear hb2
          unfold notMadeV
          have d0 := (Vd.out 0 _ rfl).1
          have df0 := (Vd.out 0 _ rfl).2
          have d1 := (Vd.out 1 _ rfl).1
          have df1 := (Vd.out 1 _ rfl).2
          have d2 := (Vd.out 2 _ rfl).1
          have df2 := (Vd.out 2 _ rfl).2
          have d3 := (Vd.out 3 _ rfl).1
          have df3 := (Vd.out 3 _ rfl).2
          have d4 := (Vd.out 4 _ rfl).1
          have df4 := (Vd.out 4 _ rfl).2
          have d5 := (Vd.out 5 _ rfl).1
          have df5 := (Vd.out 5 _ rfl).2
          have d6 := (Vd.out 6 _ rfl).1
          have df6 := (Vd.out 6 _ rfl).2
          go_wp2_with fail
          refine (sDataPut_no a b c fi la lo t _ HC.out).mono ?_
          rintro e w3 ⟨rfl, hb3⟩
          clear d0 df0 d1 df1 d2 df2 d3 df3 d4 df4 d5 df5 d6 df6
          have Vd := Lib.hid (((Vd.out).alloc (.cells (List.toArray [.int .i64 0, .int .i64 0, .string (ByteArray.mk #[])]) 27) (by omega)).below hb3 (by simp; omega))
          have Vo := Lib.hid ((VarN.new_at (w := w2) (d := w2.heap.size) (by simp) [.int .i64 0, .int .i64 0, .string (ByteArray.mk #[])] 27).below hb3 (by simp))
          have HB3 := Lib.hid (((HB2.out).alloc (Nat.le_trans HB2.out.size (by exact Nat.le_refl _)) (.cells (List.toArray [.int .i64 0, .int .i64 0, .string (ByteArray.mk #[])]) 27)).trans (hb3.mono (Nat.le_trans HB2.out.size (by simp <;> omega))))
          have ltd : w1.heap.size < w3.heap.size := lt_of_cell (Vd.out 0 _ rfl).1
          have lto : w2.heap.size < w3.heap.size := lt_of_cell (Vo.out 0 _ rfl).1
          have ned : ¬ w1.heap.size = w3.heap.size := by omega
          have neo : ¬ w2.heap.size = w3.heap.size := by omega
          clear hb3
          unfold notMadeV
          have ga := addV_zero ha
          have gb := addV_not hb
          have d0 := (Vd.out 0 _ rfl).1
          have df0 := (Vd.out 0 _ rfl).2
          have d1 := (Vd.out 1 _ rfl).1
          have df1 := (Vd.out 1 _ rfl).2
          have d2 := (Vd.out 2 _ rfl).1
          have df2 := (Vd.out 2 _ rfl).2
          have d3 := (Vd.out 3 _ rfl).1
          have df3 := (Vd.out 3 _ rfl).2
          have d4 := (Vd.out 4 _ rfl).1
          have df4 := (Vd.out 4 _ rfl).2
          have d5 := (Vd.out 5 _ rfl).1
          have df5 := (Vd.out 5 _ rfl).2
          have d6 := (Vd.out 6 _ rfl).1
          have df6 := (Vd.out 6 _ rfl).2
          have o0 := (Vo.out 0 _ rfl).1
          have of0 := (Vo.out 0 _ rfl).2
          have o1 := (Vo.out 1 _ rfl).1
          have of1 := (Vo.out 1 _ rfl).2
          have o2 := (Vo.out 2 _ rfl).1
          have of2 := (Vo.out 2 _ rfl).2
          go_wp2_with fail
          refine (serialAdd_any a 0 _).mono ?_
          rintro e w' ⟨rfl, rfl⟩
          go_wp2_with fail
          refine (serialAdd_any b 0 _).mono ?_
          rintro e w' ⟨rfl, rfl⟩
          go_wp2
          go_ret
          exact ⟨rfl, (HB3.out).alloc (Nat.le_trans HB3.out.size (by exact Nat.le_refl _)) _⟩
      · have HC := Lib.hid hc
        clear hc
        go_wp2_with fail
        refine (dataPut_no a b c fi la lo t _ HC.out).mono ?_
        rintro e w2 ⟨rfl, hb2⟩
        have Vd := Lib.hid ((VarN.new_at (w := w1) (d := w1.heap.size) (by simp) [.int .i64 a, .int .i64 b, .int .i64 c, .bool fi, .bool la, .bool lo, .string t] 24).below hb2 (by simp))
        have HB2 := Lib.hid (((hb1).alloc (Nat.le_trans hb1.size (by exact Nat.le_refl _)) (.cells (List.toArray [.int .i64 a, .int .i64 b, .int .i64 c, .bool fi, .bool la, .bool lo, .string t]) 24)).trans (hb2.mono (Nat.le_trans hb1.size (by simp <;> omega))))
        have ltd : w1.heap.size < w2.heap.size := lt_of_cell (Vd.out 0 _ rfl).1
        have ned : ¬ w1.heap.size = w2.heap.size := by omega
        clear hb2
        unfold notMadeV
        have d0 := (Vd.out 0 _ rfl).1
        have df0 := (Vd.out 0 _ rfl).2
        have d1 := (Vd.out 1 _ rfl).1
        have df1 := (Vd.out 1 _ rfl).2
        have d2 := (Vd.out 2 _ rfl).1
        have df2 := (Vd.out 2 _ rfl).2
        have d3 := (Vd.out 3 _ rfl).1
        have df3 := (Vd.out 3 _ rfl).2
        have d4 := (Vd.out 4 _ rfl).1
        have df4 := (Vd.out 4 _ rfl).2
        have d5 := (Vd.out 5 _ rfl).1
        have df5 := (Vd.out 5 _ rfl).2
        have d6 := (Vd.out 6 _ rfl).1
        have df6 := (Vd.out 6 _ rfl).2
        go_wp2_with fail
        refine (sDataPut_no a b c fi la lo t _ HC.out).mono ?_
        rintro e w3 ⟨rfl, hb3⟩
        clear d0 df0 d1 df1 d2 df2 d3 df3 d4 df4 d5 df5 d6 df6
        have Vd := Lib.hid (((Vd.out).alloc (.cells (List.toArray [.int .i64 0, .int .i64 0, .string (ByteArray.mk #[])]) 27) (by omega)).below hb3 (by simp; omega))
        have Vo := Lib.hid ((VarN.new_at (w := w2) (d := w2.heap.size) (by simp) [.int .i64 0, .int .i64 0, .string (ByteArray.mk #[])] 27).below hb3 (by simp))
        have HB3 := Lib.hid (((HB2.out).alloc (Nat.le_trans HB2.out.size (by exact Nat.le_refl _)) (.cells (List.toArray [.int .i64 0, .int .i64 0, .string (ByteArray.mk #[])]) 27)).trans (hb3.mono (Nat.le_trans HB2.out.size (by simp <;> omega))))
        have ltd : w1.heap.size < w3.heap.size := lt_of_cell (Vd.out 0 _ rfl).1
        have lto : w2.heap.size < w3.heap.size := lt_of_cell (Vo.out 0 _ rfl).1
        have ned : ¬ w1.heap.size = w3.heap.size := by omega
        have neo : ¬ w2.heap.size = w3.heap.size := by omega
        clear hb3
        unfold notMadeV
        have ga := addV_not ha
        have d0 := (Vd.out 0 _ rfl).1
        have df0 := (Vd.out 0 _ rfl).2
        have d1 := (Vd.out 1 _ rfl).1
        have df1 := (Vd.out 1 _ rfl).2
        have d2 := (Vd.out 2 _ rfl).1
        have df2 := (Vd.out 2 _ rfl).2
        have d3 := (Vd.out 3 _ rfl).1
        have df3 := (Vd.out 3 _ rfl).2
        have d4 := (Vd.out 4 _ rfl).1
        have df4 := (Vd.out 4 _ rfl).2
        have d5 := (Vd.out 5 _ rfl).1
        have df5 := (Vd.out 5 _ rfl).2
        have d6 := (Vd.out 6 _ rfl).1
        have df6 := (Vd.out 6 _ rfl).2
        have o0 := (Vo.out 0 _ rfl).1
        have of0 := (Vo.out 0 _ rfl).2
        have o1 := (Vo.out 1 _ rfl).1
        have of1 := (Vo.out 1 _ rfl).2
        have o2 := (Vo.out 2 _ rfl).1
        have of2 := (Vo.out 2 _ rfl).2
        go_wp2_with fail
        refine (serialAdd_any a 0 _).mono ?_
        rintro e w' ⟨rfl, rfl⟩
        go_wp2
        go_ret
        exact ⟨rfl, (HB3.out).alloc (Nat.le_trans HB3.out.size (by exact Nat.le_refl _)) _⟩

set_option maxHeartbeats 1000000 in
theorem walk_fnDataGet (a0 : Option Addr) (len0 cap0 : Nat) (z0 : List Int) (w : World) (w0 : IsRow .u8 w a0 len0 cap0 z0) :
    Calls Try.prog 5 #[.slice a0 len0 cap0] w fun e w' => e = .returned (.bool true) ∧ Below w.heap.size w w' := by
  have H := Lib.hid w0
  clear w0
  by_cases hl : (1048576 : Int) < len0
  · go_enter Try.func5, Try.ntmps5
    go_wp2
    go_ret
    exact ⟨rfl, Below.refl _ _⟩
  · go_enter Try.func5, Try.ntmps5
    go_wp2_with fail
    refine (drawDataGet_any a0 len0 cap0 z0 _ H.out).mono ?_
    rintro e w1 ⟨k, f, b, rfl, ⟨⟨k0, k1⟩, ⟨f0, f1⟩, nb⟩, hb1⟩
    by_cases hc : HasData k f b
    · have HC := Lib.hid hc
      clear hc
      have hm : b.size ≤ maxLen := Nat.le_trans nb (by decide)
      go_wp2_with fail
      refine (dataGet_yes k f b _ HC.out).mono ?_
      rintro e w2 ⟨rfl, hb2⟩
      have Vc := Lib.hid ((VarN.new_at (w := w1) (d := w1.heap.size) (by simp) [.int .i64 k, .int .i64 f, .string b] 27).below hb2 (by simp))
      have HB2 := Lib.hid (((hb1).alloc (Nat.le_trans hb1.size (by exact Nat.le_refl _)) (.cells (List.toArray [.int .i64 k, .int .i64 f, .string b]) 27)).trans (hb2.mono (Nat.le_trans hb1.size (by simp <;> omega))))
      have ltc : w1.heap.size < w2.heap.size := lt_of_cell (Vc.out 0 _ rfl).1
      have nec : ¬ w1.heap.size = w2.heap.size := by omega
      clear hb2
      unfold gotDataV
      have c0 := (Vc.out 0 _ rfl).1
      have cf0 := (Vc.out 0 _ rfl).2
      have c1 := (Vc.out 1 _ rfl).1
      have cf1 := (Vc.out 1 _ rfl).2
      have c2 := (Vc.out 2 _ rfl).1
      have cf2 := (Vc.out 2 _ rfl).2
      go_wp2_with fail
      refine (sDataGet_yes k f b _ HC.out).mono ?_
      rintro e w3 ⟨rfl, hb3⟩
      clear c0 cf0 c1 cf1 c2 cf2
      have Vc := Lib.hid (((Vc.out).alloc (.cells (List.toArray [.int .i64 (be b 0 2), .int .i64 (be b 2 2), .int .i64 (be b 4 2), .bool (f / 2 % 2 == 1), .bool (f % 2 == 1), .bool (f / 4 == 1), .string (b.extract 6 b.size)]) 24) (by omega)).below hb3 (by simp; omega))
      have Vo := Lib.hid ((VarN.new_at (w := w2) (d := w2.heap.size) (by simp) [.int .i64 (be b 0 2), .int .i64 (be b 2 2), .int .i64 (be b 4 2), .bool (f / 2 % 2 == 1), .bool (f % 2 == 1), .bool (f / 4 == 1), .string (b.extract 6 b.size)] 24).below hb3 (by simp))
      have HB3 := Lib.hid (((HB2.out).alloc (Nat.le_trans HB2.out.size (by exact Nat.le_refl _)) (.cells (List.toArray [.int .i64 (be b 0 2), .int .i64 (be b 2 2), .int .i64 (be b 4 2), .bool (f / 2 % 2 == 1), .bool (f % 2 == 1), .bool (f / 4 == 1), .string (b.extract 6 b.size)]) 24)).trans (hb3.mono (Nat.le_trans HB2.out.size (by simp <;> omega))))
      have ltc : w1.heap.size < w3.heap.size := lt_of_cell (Vc.out 0 _ rfl).1
      have lto : w2.heap.size < w3.heap.size := lt_of_cell (Vo.out 0 _ rfl).1
      have nec : ¬ w1.heap.size = w3.heap.size := by omega
      have neo : ¬ w2.heap.size = w3.heap.size := by omega
      clear hb3
      unfold gotDataV
      have HO := Lib.hid (data_ok HC.out)
      have E := Lib.hid (data_again HC.out)
      have c0 := (Vc.out 0 _ rfl).1
      have cf0 := (Vc.out 0 _ rfl).2
      have c1 := (Vc.out 1 _ rfl).1
      have cf1 := (Vc.out 1 _ rfl).2
      have c2 := (Vc.out 2 _ rfl).1
      have cf2 := (Vc.out 2 _ rfl).2
      have o0 := (Vo.out 0 _ rfl).1
      have of0 := (Vo.out 0 _ rfl).2
      have o1 := (Vo.out 1 _ rfl).1
      have of1 := (Vo.out 1 _ rfl).2
      have o2 := (Vo.out 2 _ rfl).1
      have of2 := (Vo.out 2 _ rfl).2
      have o3 := (Vo.out 3 _ rfl).1
      have of3 := (Vo.out 3 _ rfl).2
      have o4 := (Vo.out 4 _ rfl).1
      have of4 := (Vo.out 4 _ rfl).2
      have o5 := (Vo.out 5 _ rfl).1
      have of5 := (Vo.out 5 _ rfl).2
      have o6 := (Vo.out 6 _ rfl).1
      have of6 := (Vo.out 6 _ rfl).2
      go_wp2_with fail
      refine (dataPut_yes (be b 0 2) (be b 2 2) (be b 4 2) (f / 2 % 2 == 1) (f % 2 == 1) (f / 4 == 1) (b.extract 6 b.size) _ HO.out).mono ?_
      rw [E.out]
      rintro e w4 ⟨rfl, hb4⟩
      clear c0 cf0 c1 cf1 c2 cf2 o0 of0 o1 of1 o2 of2 o3 of3 o4 of4 o5 of5 o6 of6
      have Vc := Lib.hid (((Vc.out).alloc (.cells (List.toArray [.int .i64 (be b 0 2), .int .i64 (be b 2 2), .int .i64 (be b 4 2), .bool (f / 2 % 2 == 1), .bool (f % 2 == 1), .bool (f / 4 == 1), .string (b.extract 6 b.size)]) 24) (by omega)).below hb4 (by simp; omega))
      have Vo := Lib.hid (((Vo.out).alloc (.cells (List.toArray [.int .i64 (be b 0 2), .int .i64 (be b 2 2), .int .i64 (be b 4 2), .bool (f / 2 % 2 == 1), .bool (f % 2 == 1), .bool (f / 4 == 1), .string (b.extract 6 b.size)]) 24) (by omega)).below hb4 (by simp; omega))
      have Vs := Lib.hid ((VarN.new_at (w := w3) (d := w3.heap.size) (by simp) [.int .i64 (be b 0 2), .int .i64 (be b 2 2), .int .i64 (be b 4 2), .bool (f / 2 % 2 == 1), .bool (f % 2 == 1), .bool (f / 4 == 1), .string (b.extract 6 b.size)] 24).below hb4 (by simp))
      have HB4 := Lib.hid (((HB3.out).alloc (Nat.le_trans HB3.out.size (by exact Nat.le_refl _)) (.cells (List.toArray [.int .i64 (be b 0 2), .int .i64 (be b 2 2), .int .i64 (be b 4 2), .bool (f / 2 % 2 == 1), .bool (f % 2 == 1), .bool (f / 4 == 1), .string (b.extract 6 b.size)]) 24)).trans (hb4.mono (Nat.le_trans HB3.out.size (by simp <;> omega))))
      have ltc : w1.heap.size < w4.heap.size := lt_of_cell (Vc.out 0 _ rfl).1
      have lto : w2.heap.size < w4.heap.size := lt_of_cell (Vo.out 0 _ rfl).1
      have lts : w3.heap.size < w4.heap.size := lt_of_cell (Vs.out 0 _ rfl).1
      have nec : ¬ w1.heap.size = w4.heap.size := by omega
      have neo : ¬ w2.heap.size = w4.heap.size := by omega
      have nes : ¬ w3.heap.size = w4.heap.size := by omega
      clear hb4
      unfold madeV
      have c0 := (Vc.out 0 _ rfl).1
      have cf0 := (Vc.out 0 _ rfl).2
      have c1 := (Vc.out 1 _ rfl).1
      have cf1 := (Vc.out 1 _ rfl).2
      have c2 := (Vc.out 2 _ rfl).1
      have cf2 := (Vc.out 2 _ rfl).2
      have o0 := (Vo.out 0 _ rfl).1
      have of0 := (Vo.out 0 _ rfl).2
      have o1 := (Vo.out 1 _ rfl).1
      have of1 := (Vo.out 1 _ rfl).2
      have o2 := (Vo.out 2 _ rfl).1
      have of2 := (Vo.out 2 _ rfl).2
      have o3 := (Vo.out 3 _ rfl).1
      have of3 := (Vo.out 3 _ rfl).2
      have o4 := (Vo.out 4 _ rfl).1
      have of4 := (Vo.out 4 _ rfl).2
      have o5 := (Vo.out 5 _ rfl).1
      have of5 := (Vo.out 5 _ rfl).2
      have o6 := (Vo.out 6 _ rfl).1
      have of6 := (Vo.out 6 _ rfl).2
      have s0 := (Vs.out 0 _ rfl).1
      have sf0 := (Vs.out 0 _ rfl).2
      have s1 := (Vs.out 1 _ rfl).1
      have sf1 := (Vs.out 1 _ rfl).2
      have s2 := (Vs.out 2 _ rfl).1
      have sf2 := (Vs.out 2 _ rfl).2
      have s3 := (Vs.out 3 _ rfl).1
      have sf3 := (Vs.out 3 _ rfl).2
      have s4 := (Vs.out 4 _ rfl).1
      have sf4 := (Vs.out 4 _ rfl).2
      have s5 := (Vs.out 5 _ rfl).1
      have sf5 := (Vs.out 5 _ rfl).2
      have s6 := (Vs.out 6 _ rfl).1
      have sf6 := (Vs.out 6 _ rfl).2
      go_wp2
      go_ret
      exact ⟨rfl, (HB4.out).alloc (Nat.le_trans HB4.out.size (by exact Nat.le_refl _)) _⟩
    · have HC := Lib.hid hc
      clear hc
      have hm : b.size ≤ maxLen := Nat.le_trans nb (by decide)
      go_wp2_with fail
      refine (dataGet_no k f b _ (Nat.le_trans nb (by decide)) HC.out).mono ?_
      rintro e w2 ⟨rfl, hb2⟩
      have Vc := Lib.hid ((VarN.new_at (w := w1) (d := w1.heap.size) (by simp) [.int .i64 k, .int .i64 f, .string b] 27).below hb2 (by simp))
      have HB2 := Lib.hid (((hb1).alloc (Nat.le_trans hb1.size (by exact Nat.le_refl _)) (.cells (List.toArray [.int .i64 k, .int .i64 f, .string b]) 27)).trans (hb2.mono (Nat.le_trans hb1.size (by simp <;> omega))))
      have ltc : w1.heap.size < w2.heap.size := lt_of_cell (Vc.out 0 _ rfl).1
      have nec : ¬ w1.heap.size = w2.heap.size := by omega
      clear hb2
      unfold noDataV
      have c0 := (Vc.out 0 _ rfl).1
      have cf0 := (Vc.out 0 _ rfl).2
      have c1 := (Vc.out 1 _ rfl).1
      have cf1 := (Vc.out 1 _ rfl).2
      have c2 := (Vc.out 2 _ rfl).1
      have cf2 := (Vc.out 2 _ rfl).2
      go_wp2_with fail
      refine (sDataGet_no k f b _ hm HC.out).mono ?_
      rintro e w3 ⟨rfl, hb3⟩
      clear c0 cf0 c1 cf1 c2 cf2
      have Vc := Lib.hid (((Vc.out).alloc (.cells (List.toArray [.int .i64 0, .int .i64 0, .int .i64 0, .bool false, .bool false, .bool false, .string (ByteArray.mk #[])]) 24) (by omega)).below hb3 (by simp; omega))
      have Vo := Lib.hid ((VarN.new_at (w := w2) (d := w2.heap.size) (by simp) [.int .i64 0, .int .i64 0, .int .i64 0, .bool false, .bool false, .bool false, .string (ByteArray.mk #[])] 24).below hb3 (by simp))
      have HB3 := Lib.hid (((HB2.out).alloc (Nat.le_trans HB2.out.size (by exact Nat.le_refl _)) (.cells (List.toArray [.int .i64 0, .int .i64 0, .int .i64 0, .bool false, .bool false, .bool false, .string (ByteArray.mk #[])]) 24)).trans (hb3.mono (Nat.le_trans HB2.out.size (by simp <;> omega))))
      have ltc : w1.heap.size < w3.heap.size := lt_of_cell (Vc.out 0 _ rfl).1
      have lto : w2.heap.size < w3.heap.size := lt_of_cell (Vo.out 0 _ rfl).1
      have nec : ¬ w1.heap.size = w3.heap.size := by omega
      have neo : ¬ w2.heap.size = w3.heap.size := by omega
      clear hb3
      unfold noDataV
      have c0 := (Vc.out 0 _ rfl).1
      have cf0 := (Vc.out 0 _ rfl).2
      have c1 := (Vc.out 1 _ rfl).1
      have cf1 := (Vc.out 1 _ rfl).2
      have c2 := (Vc.out 2 _ rfl).1
      have cf2 := (Vc.out 2 _ rfl).2
      have o0 := (Vo.out 0 _ rfl).1
      have of0 := (Vo.out 0 _ rfl).2
      have o1 := (Vo.out 1 _ rfl).1
      have of1 := (Vo.out 1 _ rfl).2
      have o2 := (Vo.out 2 _ rfl).1
      have of2 := (Vo.out 2 _ rfl).2
      have o3 := (Vo.out 3 _ rfl).1
      have of3 := (Vo.out 3 _ rfl).2
      have o4 := (Vo.out 4 _ rfl).1
      have of4 := (Vo.out 4 _ rfl).2
      have o5 := (Vo.out 5 _ rfl).1
      have of5 := (Vo.out 5 _ rfl).2
      have o6 := (Vo.out 6 _ rfl).1
      have of6 := (Vo.out 6 _ rfl).2
      go_wp2
      go_ret
      exact ⟨rfl, (HB3.out).alloc (Nat.le_trans HB3.out.size (by exact Nat.le_refl _)) _⟩

set_option maxHeartbeats 1000000 in
theorem walk_fnDataKind (a0 : Option Addr) (len0 cap0 : Nat) (z0 : List Int) (w : World) (w0 : IsRow .u8 w a0 len0 cap0 z0) :
    Calls Try.prog 7 #[.slice a0 len0 cap0] w fun e w' => e = .returned (.bool true) ∧ Below w.heap.size w w' := by
  have H := Lib.hid w0
  clear w0
  by_cases hl : (1048576 : Int) < len0
  · go_enter Try.func7, Try.ntmps7
    go_wp2
    go_ret
    exact ⟨rfl, Below.refl _ _⟩
  · go_enter Try.func7, Try.ntmps7
    go_wp2_with fail
    refine (drawDataGet_any a0 len0 cap0 z0 _ H.out).mono ?_
    rintro e w1 ⟨k, f, b, rfl, ⟨⟨k0, k1⟩, ⟨f0, f1⟩, nb⟩, hb1⟩
    by_cases hc : HasData k f b
    · have HC := Lib.hid hc
      clear hc
      have hm : b.size ≤ maxLen := Nat.le_trans nb (by decide)
      have N1 := Lib.hid (show ¬ HasData 3 f b from fun h => by have := h.1; omega)
      have N2 := Lib.hid (show ¬ HasData k (f + 8) b from fun h => by have := h.2.1; have := HC.out.2.1; omega)
      have N3 := Lib.hid (show ¬ HasData k f (b.extract 0 6) from fun h => by have := h.2.2.1; rw [ByteArray.size_extract] at this; omega)
      have hm6 : (b.extract 0 6).size ≤ maxLen := by rw [ByteArray.size_extract]; exact Nat.le_trans (by omega) hm
      have hm6b : (b.extract 0 6).size ≤ 100000000 := by rw [ByteArray.size_extract]; exact Nat.le_trans (by omega) (Nat.le_trans nb (by decide))
      go_wp2_with fail
      refine (dataGet_yes k f b _ HC.out).mono ?_
      rintro e w2 ⟨rfl, hb2⟩
      have Vc := Lib.hid ((VarN.new_at (w := w1) (d := w1.heap.size) (by simp) [.int .i64 k, .int .i64 f, .string b] 27).below hb2 (by simp))
      have HB2 := Lib.hid (((hb1).alloc (Nat.le_trans hb1.size (by exact Nat.le_refl _)) (.cells (List.toArray [.int .i64 k, .int .i64 f, .string b]) 27)).trans (hb2.mono (Nat.le_trans hb1.size (by simp <;> omega))))
      have ltc : w1.heap.size < w2.heap.size := lt_of_cell (Vc.out 0 _ rfl).1
      have nec : ¬ w1.heap.size = w2.heap.size := by omega
      clear hb2
      unfold gotDataV
      have c0 := (Vc.out 0 _ rfl).1
      have cf0 := (Vc.out 0 _ rfl).2
      have c1 := (Vc.out 1 _ rfl).1
      have cf1 := (Vc.out 1 _ rfl).2
      have c2 := (Vc.out 2 _ rfl).1
      have cf2 := (Vc.out 2 _ rfl).2
      go_wp2_with fail
      refine (sDataGet_yes k f b _ HC.out).mono ?_
      rintro e w3 ⟨rfl, hb3⟩
      clear c0 cf0 c1 cf1 c2 cf2
      have Vc := Lib.hid (((Vc.out).alloc (.cells (List.toArray [.int .i64 (be b 0 2), .int .i64 (be b 2 2), .int .i64 (be b 4 2), .bool (f / 2 % 2 == 1), .bool (f % 2 == 1), .bool (f / 4 == 1), .string (b.extract 6 b.size)]) 24) (by omega)).below hb3 (by simp; omega))
      have Vo := Lib.hid ((VarN.new_at (w := w2) (d := w2.heap.size) (by simp) [.int .i64 (be b 0 2), .int .i64 (be b 2 2), .int .i64 (be b 4 2), .bool (f / 2 % 2 == 1), .bool (f % 2 == 1), .bool (f / 4 == 1), .string (b.extract 6 b.size)] 24).below hb3 (by simp))
      have HB3 := Lib.hid (((HB2.out).alloc (Nat.le_trans HB2.out.size (by exact Nat.le_refl _)) (.cells (List.toArray [.int .i64 (be b 0 2), .int .i64 (be b 2 2), .int .i64 (be b 4 2), .bool (f / 2 % 2 == 1), .bool (f % 2 == 1), .bool (f / 4 == 1), .string (b.extract 6 b.size)]) 24)).trans (hb3.mono (Nat.le_trans HB2.out.size (by simp <;> omega))))
      have ltc : w1.heap.size < w3.heap.size := lt_of_cell (Vc.out 0 _ rfl).1
      have lto : w2.heap.size < w3.heap.size := lt_of_cell (Vo.out 0 _ rfl).1
      have nec : ¬ w1.heap.size = w3.heap.size := by omega
      have neo : ¬ w2.heap.size = w3.heap.size := by omega
      clear hb3
      unfold gotDataV
      have c0 := (Vc.out 0 _ rfl).1
      have cf0 := (Vc.out 0 _ rfl).2
      have c1 := (Vc.out 1 _ rfl).1
      have cf1 := (Vc.out 1 _ rfl).2
      have c2 := (Vc.out 2 _ rfl).1
      have cf2 := (Vc.out 2 _ rfl).2
      have o0 := (Vo.out 0 _ rfl).1
      have of0 := (Vo.out 0 _ rfl).2
      have o1 := (Vo.out 1 _ rfl).1
      have of1 := (Vo.out 1 _ rfl).2
      have o2 := (Vo.out 2 _ rfl).1
      have of2 := (Vo.out 2 _ rfl).2
      have o3 := (Vo.out 3 _ rfl).1
      have of3 := (Vo.out 3 _ rfl).2
      have o4 := (Vo.out 4 _ rfl).1
      have of4 := (Vo.out 4 _ rfl).2
      have o5 := (Vo.out 5 _ rfl).1
      have of5 := (Vo.out 5 _ rfl).2
      have o6 := (Vo.out 6 _ rfl).1
      have of6 := (Vo.out 6 _ rfl).2
      have c0p3 := fun o0 o1 o2 => past_cell (past_cell (past_cell (c0) o0) o1) o2
      have c0p4 := fun o0 o1 o2 o3 => past_cell (past_cell (past_cell (past_cell (c0) o0) o1) o2) o3
      have c1p3 := fun o0 o1 o2 => past_cell (past_cell (past_cell (c1) o0) o1) o2
      have c1p4 := fun o0 o1 o2 o3 => past_cell (past_cell (past_cell (past_cell (c1) o0) o1) o2) o3
      have c2p3 := fun o0 o1 o2 => past_cell (past_cell (past_cell (c2) o0) o1) o2
      have c2p4 := fun o0 o1 o2 o3 => past_cell (past_cell (past_cell (past_cell (c2) o0) o1) o2) o3
      have wr : IntKind.i64.wrap (f + 8) = f + 8 := IntWalk.i64_in _ (by omega)
      have q6 : (6 : Int) ≤ b.size := by have := HC.out.2.2.1; omega
      have nec_1 : ¬ w1.heap.size = w3.heap.size + 1 := by omega
      have nec_2 : ¬ w1.heap.size = w3.heap.size + 1 + 1 := by omega
      have nec_3 : ¬ w1.heap.size = w3.heap.size + 1 + 1 + 1 := by omega
      have neo_1 : ¬ w2.heap.size = w3.heap.size + 1 := by omega
      have neo_2 : ¬ w2.heap.size = w3.heap.size + 1 + 1 := by omega
      have neo_3 : ¬ w2.heap.size = w3.heap.size + 1 + 1 + 1 := by omega
      go_wp2_with fail
      refine (dataGet_no 3 f b _ (Nat.le_trans nb (by decide)) N1.out).mono ?_
      rintro e w4 ⟨rfl, hb4⟩
      clear c0 cf0 c1 cf1 c2 cf2 o0 of0 o1 of1 o2 of2 o3 of3 o4 of4 o5 of5 o6 of6
      have Vc := Lib.hid ((((((Vc.out).alloc (.cells (List.toArray [.int .i64 (be b 0 2), .int .i64 (be b 2 2), .int .i64 (be b 4 2), .bool (f / 2 % 2 == 1), .bool (f % 2 == 1), .bool (f / 4 == 1), .string (b.extract 6 b.size)]) 24) (by omega)).alloc (.cells (List.toArray [.int .i64 3, .int .i64 f, .string b]) 27) (by simp; omega)).alloc (.cells (List.toArray [.int .i64 k, .int .i64 (f + 8), .string b]) 27) (by simp; omega)).alloc (.cells (List.toArray [.int .i64 k, .int .i64 f, .string (b.extract 0 6)]) 27) (by simp; omega)).below hb4 (by simp; omega))
      have Vo := Lib.hid ((((((Vo.out).alloc (.cells (List.toArray [.int .i64 (be b 0 2), .int .i64 (be b 2 2), .int .i64 (be b 4 2), .bool (f / 2 % 2 == 1), .bool (f % 2 == 1), .bool (f / 4 == 1), .string (b.extract 6 b.size)]) 24) (by omega)).alloc (.cells (List.toArray [.int .i64 3, .int .i64 f, .string b]) 27) (by simp; omega)).alloc (.cells (List.toArray [.int .i64 k, .int .i64 (f + 8), .string b]) 27) (by simp; omega)).alloc (.cells (List.toArray [.int .i64 k, .int .i64 f, .string (b.extract 0 6)]) 27) (by simp; omega)).below hb4 (by simp; omega))
      have Vs := Lib.hid (((((VarN.new_at (w := w3) (d := w3.heap.size) (by simp) [.int .i64 (be b 0 2), .int .i64 (be b 2 2), .int .i64 (be b 4 2), .bool (f / 2 % 2 == 1), .bool (f % 2 == 1), .bool (f / 4 == 1), .string (b.extract 6 b.size)] 24).alloc (.cells (List.toArray [.int .i64 3, .int .i64 f, .string b]) 27) (by first | omega | (simp <;> omega))).alloc (.cells (List.toArray [.int .i64 k, .int .i64 (f + 8), .string b]) 27) (by first | omega | (simp <;> omega))).alloc (.cells (List.toArray [.int .i64 k, .int .i64 f, .string (b.extract 0 6)]) 27) (by first | omega | (simp <;> omega))).below hb4 (by simp <;> omega))
      have Vx := Lib.hid ((((VarN.new_at (w := (w3.alloc (.cells (List.toArray [.int .i64 (be b 0 2), .int .i64 (be b 2 2), .int .i64 (be b 4 2), .bool (f / 2 % 2 == 1), .bool (f % 2 == 1), .bool (f / 4 == 1), .string (b.extract 6 b.size)]) 24))) (d := w3.heap.size + 1) (by simp) [.int .i64 3, .int .i64 f, .string b] 27).alloc (.cells (List.toArray [.int .i64 k, .int .i64 (f + 8), .string b]) 27) (by first | omega | (simp <;> omega))).alloc (.cells (List.toArray [.int .i64 k, .int .i64 f, .string (b.extract 0 6)]) 27) (by first | omega | (simp <;> omega))).below hb4 (by simp <;> omega))
      have Vy := Lib.hid (((VarN.new_at (w := ((w3.alloc (.cells (List.toArray [.int .i64 (be b 0 2), .int .i64 (be b 2 2), .int .i64 (be b 4 2), .bool (f / 2 % 2 == 1), .bool (f % 2 == 1), .bool (f / 4 == 1), .string (b.extract 6 b.size)]) 24)).alloc (.cells (List.toArray [.int .i64 3, .int .i64 f, .string b]) 27))) (d := w3.heap.size + 1 + 1) (by simp) [.int .i64 k, .int .i64 (f + 8), .string b] 27).alloc (.cells (List.toArray [.int .i64 k, .int .i64 f, .string (b.extract 0 6)]) 27) (by first | omega | (simp <;> omega))).below hb4 (by simp <;> omega))
      have Vz := Lib.hid ((VarN.new_at (w := (((w3.alloc (.cells (List.toArray [.int .i64 (be b 0 2), .int .i64 (be b 2 2), .int .i64 (be b 4 2), .bool (f / 2 % 2 == 1), .bool (f % 2 == 1), .bool (f / 4 == 1), .string (b.extract 6 b.size)]) 24)).alloc (.cells (List.toArray [.int .i64 3, .int .i64 f, .string b]) 27)).alloc (.cells (List.toArray [.int .i64 k, .int .i64 (f + 8), .string b]) 27))) (d := w3.heap.size + 1 + 1 + 1) (by simp) [.int .i64 k, .int .i64 f, .string (b.extract 0 6)] 27).below hb4 (by simp))
      have HB4 := Lib.hid ((((((HB3.out).alloc (Nat.le_trans HB3.out.size (by exact Nat.le_refl _)) (.cells (List.toArray [.int .i64 (be b 0 2), .int .i64 (be b 2 2), .int .i64 (be b 4 2), .bool (f / 2 % 2 == 1), .bool (f % 2 == 1), .bool (f / 4 == 1), .string (b.extract 6 b.size)]) 24)).alloc (Nat.le_trans HB3.out.size (by simp <;> omega)) (.cells (List.toArray [.int .i64 3, .int .i64 f, .string b]) 27)).alloc (Nat.le_trans HB3.out.size (by simp <;> omega)) (.cells (List.toArray [.int .i64 k, .int .i64 (f + 8), .string b]) 27)).alloc (Nat.le_trans HB3.out.size (by simp <;> omega)) (.cells (List.toArray [.int .i64 k, .int .i64 f, .string (b.extract 0 6)]) 27)).trans (hb4.mono (Nat.le_trans HB3.out.size (by simp <;> omega))))
      have ltc : w1.heap.size < w4.heap.size := lt_of_cell (Vc.out 0 _ rfl).1
      have lto : w2.heap.size < w4.heap.size := lt_of_cell (Vo.out 0 _ rfl).1
      have lts : w3.heap.size < w4.heap.size := lt_of_cell (Vs.out 0 _ rfl).1
      have ltx : w3.heap.size + 1 < w4.heap.size := lt_of_cell (Vx.out 0 _ rfl).1
      have lty : w3.heap.size + 1 + 1 < w4.heap.size := lt_of_cell (Vy.out 0 _ rfl).1
      have ltz : w3.heap.size + 1 + 1 + 1 < w4.heap.size := lt_of_cell (Vz.out 0 _ rfl).1
      have nec : ¬ w1.heap.size = w4.heap.size := by omega
      have neo : ¬ w2.heap.size = w4.heap.size := by omega
      have nes : ¬ w3.heap.size = w4.heap.size := by omega
      have nex : ¬ w3.heap.size + 1 = w4.heap.size := by omega
      have ney : ¬ w3.heap.size + 1 + 1 = w4.heap.size := by omega
      have nez : ¬ w3.heap.size + 1 + 1 + 1 = w4.heap.size := by omega
      clear hb4
      clear c0p3 c0p4 c1p3 c1p4 c2p3 c2p4
      unfold noDataV
      have y0 := (Vy.out 0 _ rfl).1
      have yf0 := (Vy.out 0 _ rfl).2
      have y1 := (Vy.out 1 _ rfl).1
      have yf1 := (Vy.out 1 _ rfl).2
      have y2 := (Vy.out 2 _ rfl).1
      have yf2 := (Vy.out 2 _ rfl).2
      go_wp2_with fail
      refine (dataGet_no k (f + 8) b _ (Nat.le_trans nb (by decide)) N2.out).mono ?_
      rintro e w5 ⟨rfl, hb5⟩
      clear y0 yf0 y1 yf1 y2 yf2
      have Vc := Lib.hid (((Vc.out).alloc (.cells (List.toArray [.int .i64 0, .int .i64 0, .int .i64 0, .bool false, .bool false, .bool false, .string (ByteArray.mk #[])]) 24) (by omega)).below hb5 (by simp; omega))
      have Vo := Lib.hid (((Vo.out).alloc (.cells (List.toArray [.int .i64 0, .int .i64 0, .int .i64 0, .bool false, .bool false, .bool false, .string (ByteArray.mk #[])]) 24) (by omega)).below hb5 (by simp; omega))
      have Vs := Lib.hid (((Vs.out).alloc (.cells (List.toArray [.int .i64 0, .int .i64 0, .int .i64 0, .bool false, .bool false, .bool false, .string (ByteArray.mk #[])]) 24) (by omega)).below hb5 (by simp; omega))
      have Vx := Lib.hid (((Vx.out).alloc (.cells (List.toArray [.int .i64 0, .int .i64 0, .int .i64 0, .bool false, .bool false, .bool false, .string (ByteArray.mk #[])]) 24) (by omega)).below hb5 (by simp; omega))
      have Vy := Lib.hid (((Vy.out).alloc (.cells (List.toArray [.int .i64 0, .int .i64 0, .int .i64 0, .bool false, .bool false, .bool false, .string (ByteArray.mk #[])]) 24) (by omega)).below hb5 (by simp; omega))
      have Vz := Lib.hid (((Vz.out).alloc (.cells (List.toArray [.int .i64 0, .int .i64 0, .int .i64 0, .bool false, .bool false, .bool false, .string (ByteArray.mk #[])]) 24) (by omega)).below hb5 (by simp; omega))
      have Vn1 := Lib.hid ((VarN.new_at (w := w4) (d := w4.heap.size) (by simp) [.int .i64 0, .int .i64 0, .int .i64 0, .bool false, .bool false, .bool false, .string (ByteArray.mk #[])] 24).below hb5 (by simp))
      have HB5 := Lib.hid (((HB4.out).alloc (Nat.le_trans HB4.out.size (by exact Nat.le_refl _)) (.cells (List.toArray [.int .i64 0, .int .i64 0, .int .i64 0, .bool false, .bool false, .bool false, .string (ByteArray.mk #[])]) 24)).trans (hb5.mono (Nat.le_trans HB4.out.size (by simp <;> omega))))
      have ltc : w1.heap.size < w5.heap.size := lt_of_cell (Vc.out 0 _ rfl).1
      have lto : w2.heap.size < w5.heap.size := lt_of_cell (Vo.out 0 _ rfl).1
      have lts : w3.heap.size < w5.heap.size := lt_of_cell (Vs.out 0 _ rfl).1
      have ltx : w3.heap.size + 1 < w5.heap.size := lt_of_cell (Vx.out 0 _ rfl).1
      have lty : w3.heap.size + 1 + 1 < w5.heap.size := lt_of_cell (Vy.out 0 _ rfl).1
      have ltz : w3.heap.size + 1 + 1 + 1 < w5.heap.size := lt_of_cell (Vz.out 0 _ rfl).1
      have ltn1 : w4.heap.size < w5.heap.size := lt_of_cell (Vn1.out 0 _ rfl).1
      have nec : ¬ w1.heap.size = w5.heap.size := by omega
      have neo : ¬ w2.heap.size = w5.heap.size := by omega
      have nes : ¬ w3.heap.size = w5.heap.size := by omega
      have nex : ¬ w3.heap.size + 1 = w5.heap.size := by omega
      have ney : ¬ w3.heap.size + 1 + 1 = w5.heap.size := by omega
      have nez : ¬ w3.heap.size + 1 + 1 + 1 = w5.heap.size := by omega
      have nen1 : ¬ w4.heap.size = w5.heap.size := by omega
      clear hb5
      unfold noDataV
      have z0 := (Vz.out 0 _ rfl).1
      have zf0 := (Vz.out 0 _ rfl).2
      have z1 := (Vz.out 1 _ rfl).1
      have zf1 := (Vz.out 1 _ rfl).2
      have z2 := (Vz.out 2 _ rfl).1
      have zf2 := (Vz.out 2 _ rfl).2
      go_wp2_with fail
      refine (dataGet_no k f (b.extract 0 6) _ hm6b N3.out).mono ?_
      rintro e w6 ⟨rfl, hb6⟩
      clear z0 zf0 z1 zf1 z2 zf2
      have Vc := Lib.hid (((Vc.out).alloc (.cells (List.toArray [.int .i64 0, .int .i64 0, .int .i64 0, .bool false, .bool false, .bool false, .string (ByteArray.mk #[])]) 24) (by omega)).below hb6 (by simp; omega))
      have Vo := Lib.hid (((Vo.out).alloc (.cells (List.toArray [.int .i64 0, .int .i64 0, .int .i64 0, .bool false, .bool false, .bool false, .string (ByteArray.mk #[])]) 24) (by omega)).below hb6 (by simp; omega))
      have Vs := Lib.hid (((Vs.out).alloc (.cells (List.toArray [.int .i64 0, .int .i64 0, .int .i64 0, .bool false, .bool false, .bool false, .string (ByteArray.mk #[])]) 24) (by omega)).below hb6 (by simp; omega))
      have Vx := Lib.hid (((Vx.out).alloc (.cells (List.toArray [.int .i64 0, .int .i64 0, .int .i64 0, .bool false, .bool false, .bool false, .string (ByteArray.mk #[])]) 24) (by omega)).below hb6 (by simp; omega))
      have Vy := Lib.hid (((Vy.out).alloc (.cells (List.toArray [.int .i64 0, .int .i64 0, .int .i64 0, .bool false, .bool false, .bool false, .string (ByteArray.mk #[])]) 24) (by omega)).below hb6 (by simp; omega))
      have Vz := Lib.hid (((Vz.out).alloc (.cells (List.toArray [.int .i64 0, .int .i64 0, .int .i64 0, .bool false, .bool false, .bool false, .string (ByteArray.mk #[])]) 24) (by omega)).below hb6 (by simp; omega))
      have Vn1 := Lib.hid (((Vn1.out).alloc (.cells (List.toArray [.int .i64 0, .int .i64 0, .int .i64 0, .bool false, .bool false, .bool false, .string (ByteArray.mk #[])]) 24) (by omega)).below hb6 (by simp; omega))
      have Vn2 := Lib.hid ((VarN.new_at (w := w5) (d := w5.heap.size) (by simp) [.int .i64 0, .int .i64 0, .int .i64 0, .bool false, .bool false, .bool false, .string (ByteArray.mk #[])] 24).below hb6 (by simp))
      have HB6 := Lib.hid (((HB5.out).alloc (Nat.le_trans HB5.out.size (by exact Nat.le_refl _)) (.cells (List.toArray [.int .i64 0, .int .i64 0, .int .i64 0, .bool false, .bool false, .bool false, .string (ByteArray.mk #[])]) 24)).trans (hb6.mono (Nat.le_trans HB5.out.size (by simp <;> omega))))
      have ltc : w1.heap.size < w6.heap.size := lt_of_cell (Vc.out 0 _ rfl).1
      have lto : w2.heap.size < w6.heap.size := lt_of_cell (Vo.out 0 _ rfl).1
      have lts : w3.heap.size < w6.heap.size := lt_of_cell (Vs.out 0 _ rfl).1
      have ltx : w3.heap.size + 1 < w6.heap.size := lt_of_cell (Vx.out 0 _ rfl).1
      have lty : w3.heap.size + 1 + 1 < w6.heap.size := lt_of_cell (Vy.out 0 _ rfl).1
      have ltz : w3.heap.size + 1 + 1 + 1 < w6.heap.size := lt_of_cell (Vz.out 0 _ rfl).1
      have ltn1 : w4.heap.size < w6.heap.size := lt_of_cell (Vn1.out 0 _ rfl).1
      have ltn2 : w5.heap.size < w6.heap.size := lt_of_cell (Vn2.out 0 _ rfl).1
      have nec : ¬ w1.heap.size = w6.heap.size := by omega
      have neo : ¬ w2.heap.size = w6.heap.size := by omega
      have nes : ¬ w3.heap.size = w6.heap.size := by omega
      have nex : ¬ w3.heap.size + 1 = w6.heap.size := by omega
      have ney : ¬ w3.heap.size + 1 + 1 = w6.heap.size := by omega
      have nez : ¬ w3.heap.size + 1 + 1 + 1 = w6.heap.size := by omega
      have nen1 : ¬ w4.heap.size = w6.heap.size := by omega
      have nen2 : ¬ w5.heap.size = w6.heap.size := by omega
      clear hb6
      unfold noDataV
      go_wp2
      go_ret
      exact ⟨rfl, (HB6.out).alloc (Nat.le_trans HB6.out.size (by exact Nat.le_refl _)) _⟩
    · have HC := Lib.hid hc
      clear hc
      have hm : b.size ≤ maxLen := Nat.le_trans nb (by decide)
      go_wp2_with fail
      refine (dataGet_no k f b _ (Nat.le_trans nb (by decide)) HC.out).mono ?_
      rintro e w2 ⟨rfl, hb2⟩
      have Vc := Lib.hid ((VarN.new_at (w := w1) (d := w1.heap.size) (by simp) [.int .i64 k, .int .i64 f, .string b] 27).below hb2 (by simp))
      have HB2 := Lib.hid (((hb1).alloc (Nat.le_trans hb1.size (by exact Nat.le_refl _)) (.cells (List.toArray [.int .i64 k, .int .i64 f, .string b]) 27)).trans (hb2.mono (Nat.le_trans hb1.size (by simp <;> omega))))
      have ltc : w1.heap.size < w2.heap.size := lt_of_cell (Vc.out 0 _ rfl).1
      have nec : ¬ w1.heap.size = w2.heap.size := by omega
      clear hb2
      unfold noDataV
      have c0 := (Vc.out 0 _ rfl).1
      have cf0 := (Vc.out 0 _ rfl).2
      have c1 := (Vc.out 1 _ rfl).1
      have cf1 := (Vc.out 1 _ rfl).2
      have c2 := (Vc.out 2 _ rfl).1
      have cf2 := (Vc.out 2 _ rfl).2
      go_wp2_with fail
      refine (sDataGet_no k f b _ hm HC.out).mono ?_
      rintro e w3 ⟨rfl, hb3⟩
      clear c0 cf0 c1 cf1 c2 cf2
      have Vc := Lib.hid (((Vc.out).alloc (.cells (List.toArray [.int .i64 0, .int .i64 0, .int .i64 0, .bool false, .bool false, .bool false, .string (ByteArray.mk #[])]) 24) (by omega)).below hb3 (by simp; omega))
      have Vo := Lib.hid ((VarN.new_at (w := w2) (d := w2.heap.size) (by simp) [.int .i64 0, .int .i64 0, .int .i64 0, .bool false, .bool false, .bool false, .string (ByteArray.mk #[])] 24).below hb3 (by simp))
      have HB3 := Lib.hid (((HB2.out).alloc (Nat.le_trans HB2.out.size (by exact Nat.le_refl _)) (.cells (List.toArray [.int .i64 0, .int .i64 0, .int .i64 0, .bool false, .bool false, .bool false, .string (ByteArray.mk #[])]) 24)).trans (hb3.mono (Nat.le_trans HB2.out.size (by simp <;> omega))))
      have ltc : w1.heap.size < w3.heap.size := lt_of_cell (Vc.out 0 _ rfl).1
      have lto : w2.heap.size < w3.heap.size := lt_of_cell (Vo.out 0 _ rfl).1
      have nec : ¬ w1.heap.size = w3.heap.size := by omega
      have neo : ¬ w2.heap.size = w3.heap.size := by omega
      clear hb3
      unfold noDataV
      have c0 := (Vc.out 0 _ rfl).1
      have cf0 := (Vc.out 0 _ rfl).2
      have c1 := (Vc.out 1 _ rfl).1
      have cf1 := (Vc.out 1 _ rfl).2
      have c2 := (Vc.out 2 _ rfl).1
      have cf2 := (Vc.out 2 _ rfl).2
      have o0 := (Vo.out 0 _ rfl).1
      have of0 := (Vo.out 0 _ rfl).2
      have o1 := (Vo.out 1 _ rfl).1
      have of1 := (Vo.out 1 _ rfl).2
      have o2 := (Vo.out 2 _ rfl).1
      have of2 := (Vo.out 2 _ rfl).2
      have o3 := (Vo.out 3 _ rfl).1
      have of3 := (Vo.out 3 _ rfl).2
      have o4 := (Vo.out 4 _ rfl).1
      have of4 := (Vo.out 4 _ rfl).2
      have o5 := (Vo.out 5 _ rfl).1
      have of5 := (Vo.out 5 _ rfl).2
      have o6 := (Vo.out 6 _ rfl).1
      have of6 := (Vo.out 6 _ rfl).2
      go_wp2
      go_ret
      exact ⟨rfl, (HB3.out).alloc (Nat.le_trans HB3.out.size (by exact Nat.le_refl _)) _⟩

set_option maxHeartbeats 1000000 in
theorem walk_fnDataFlags (a0 : Option Addr) (len0 cap0 : Nat) (z0 : List Int) (w : World) (w0 : IsRow .u8 w a0 len0 cap0 z0) :
    Calls Try.prog 6 #[.slice a0 len0 cap0] w fun e w' => e = .returned (.bool true) ∧ Below w.heap.size w w' := by
  have H := Lib.hid w0
  clear w0
  by_cases hl : (1048576 : Int) < len0
  · go_enter Try.func6, Try.ntmps6
    go_wp2
    go_ret
    exact ⟨rfl, Below.refl _ _⟩
  · go_enter Try.func6, Try.ntmps6
    go_wp2_with fail
    refine (drawDataGet_any a0 len0 cap0 z0 _ H.out).mono ?_
    rintro e w1 ⟨k, f, b, rfl, ⟨⟨k0, k1⟩, ⟨f0, f1⟩, nb⟩, hb1⟩
    by_cases hc : HasData k f b
    · have HC := Lib.hid hc
      clear hc
      have hm : b.size ≤ maxLen := Nat.le_trans nb (by decide)
      obtain ⟨la, hla⟩ : ∃ la, (f % 2 == 1) = la := ⟨_, rfl⟩
      obtain ⟨fi, hfi⟩ : ∃ fi, (f / 2 % 2 == 1) = fi := ⟨_, rfl⟩
      obtain ⟨lo, hlo⟩ : ∃ lo, (f / 4 == 1) = lo := ⟨_, rfl⟩
      have HF := Lib.hid (show flagsV fi la lo = f by rw [← hfi, ← hla, ← hlo]; exact flagsV_of HC.out.2.1.1 HC.out.2.1.2)
      have HA := Lib.hid hla
      have HI := Lib.hid hfi
      have HO := Lib.hid hlo
      clear hla hfi hlo
      go_wp2_with fail
      refine (dataGet_yes k f b _ HC.out).mono ?_
      rw [HA.out, HI.out, HO.out]
      rintro e w2 ⟨rfl, hb2⟩
      have Vc := Lib.hid ((VarN.new_at (w := w1) (d := w1.heap.size) (by simp) [.int .i64 k, .int .i64 f, .string b] 27).below hb2 (by simp))
      have HB2 := Lib.hid (((hb1).alloc (Nat.le_trans hb1.size (by exact Nat.le_refl _)) (.cells (List.toArray [.int .i64 k, .int .i64 f, .string b]) 27)).trans (hb2.mono (Nat.le_trans hb1.size (by simp <;> omega))))
      have ltc : w1.heap.size < w2.heap.size := lt_of_cell (Vc.out 0 _ rfl).1
      have nec : ¬ w1.heap.size = w2.heap.size := by omega
      clear hb2
      unfold gotDataV
      have c0 := (Vc.out 0 _ rfl).1
      have cf0 := (Vc.out 0 _ rfl).2
      have c1 := (Vc.out 1 _ rfl).1
      have cf1 := (Vc.out 1 _ rfl).2
      have c2 := (Vc.out 2 _ rfl).1
      have cf2 := (Vc.out 2 _ rfl).2
      go_wp2_with fail
      refine (sDataGet_yes k f b _ HC.out).mono ?_
      rw [HA.out, HI.out, HO.out]
      rintro e w3 ⟨rfl, hb3⟩
      clear c0 cf0 c1 cf1 c2 cf2
      have Vc := Lib.hid (((Vc.out).alloc (.cells (List.toArray [.int .i64 (be b 0 2), .int .i64 (be b 2 2), .int .i64 (be b 4 2), .bool fi, .bool la, .bool lo, .string (b.extract 6 b.size)]) 24) (by omega)).below hb3 (by simp; omega))
      have Vo := Lib.hid ((VarN.new_at (w := w2) (d := w2.heap.size) (by simp) [.int .i64 (be b 0 2), .int .i64 (be b 2 2), .int .i64 (be b 4 2), .bool fi, .bool la, .bool lo, .string (b.extract 6 b.size)] 24).below hb3 (by simp))
      have HB3 := Lib.hid (((HB2.out).alloc (Nat.le_trans HB2.out.size (by exact Nat.le_refl _)) (.cells (List.toArray [.int .i64 (be b 0 2), .int .i64 (be b 2 2), .int .i64 (be b 4 2), .bool fi, .bool la, .bool lo, .string (b.extract 6 b.size)]) 24)).trans (hb3.mono (Nat.le_trans HB2.out.size (by simp <;> omega))))
      have ltc : w1.heap.size < w3.heap.size := lt_of_cell (Vc.out 0 _ rfl).1
      have lto : w2.heap.size < w3.heap.size := lt_of_cell (Vo.out 0 _ rfl).1
      have nec : ¬ w1.heap.size = w3.heap.size := by omega
      have neo : ¬ w2.heap.size = w3.heap.size := by omega
      clear hb3
      unfold gotDataV
      clear HA HI HO
      cases fi
      · cases la
        · cases lo
          · have c0 := (Vc.out 0 _ rfl).1
            have cf0 := (Vc.out 0 _ rfl).2
            have c1 := (Vc.out 1 _ rfl).1
            have cf1 := (Vc.out 1 _ rfl).2
            have c2 := (Vc.out 2 _ rfl).1
            have cf2 := (Vc.out 2 _ rfl).2
            have o0 := (Vo.out 0 _ rfl).1
            have of0 := (Vo.out 0 _ rfl).2
            have o1 := (Vo.out 1 _ rfl).1
            have of1 := (Vo.out 1 _ rfl).2
            have o2 := (Vo.out 2 _ rfl).1
            have of2 := (Vo.out 2 _ rfl).2
            have o3 := (Vo.out 3 _ rfl).1
            have of3 := (Vo.out 3 _ rfl).2
            have o4 := (Vo.out 4 _ rfl).1
            have of4 := (Vo.out 4 _ rfl).2
            have o5 := (Vo.out 5 _ rfl).1
            have of5 := (Vo.out 5 _ rfl).2
            have o6 := (Vo.out 6 _ rfl).1
            have of6 := (Vo.out 6 _ rfl).2
            have dd : ((0 : Int) == f) = true := by rw [← HF.out]; rfl
            go_wp2
            go_ret
            exact ⟨rfl, (HB3.out).alloc (Nat.le_trans HB3.out.size (by exact Nat.le_refl _)) _⟩
          · have c0 := (Vc.out 0 _ rfl).1
            have cf0 := (Vc.out 0 _ rfl).2
            have c1 := (Vc.out 1 _ rfl).1
            have cf1 := (Vc.out 1 _ rfl).2
            have c2 := (Vc.out 2 _ rfl).1
            have cf2 := (Vc.out 2 _ rfl).2
            have o0 := (Vo.out 0 _ rfl).1
            have of0 := (Vo.out 0 _ rfl).2
            have o1 := (Vo.out 1 _ rfl).1
            have of1 := (Vo.out 1 _ rfl).2
            have o2 := (Vo.out 2 _ rfl).1
            have of2 := (Vo.out 2 _ rfl).2
            have o3 := (Vo.out 3 _ rfl).1
            have of3 := (Vo.out 3 _ rfl).2
            have o4 := (Vo.out 4 _ rfl).1
            have of4 := (Vo.out 4 _ rfl).2
            have o5 := (Vo.out 5 _ rfl).1
            have of5 := (Vo.out 5 _ rfl).2
            have o6 := (Vo.out 6 _ rfl).1
            have of6 := (Vo.out 6 _ rfl).2
            have dd : ((4 : Int) == f) = true := by rw [← HF.out]; rfl
            go_wp2
            go_ret
            exact ⟨rfl, (HB3.out).alloc (Nat.le_trans HB3.out.size (by exact Nat.le_refl _)) _⟩
        · cases lo
          · have c0 := (Vc.out 0 _ rfl).1
            have cf0 := (Vc.out 0 _ rfl).2
            have c1 := (Vc.out 1 _ rfl).1
            have cf1 := (Vc.out 1 _ rfl).2
            have c2 := (Vc.out 2 _ rfl).1
            have cf2 := (Vc.out 2 _ rfl).2
            have o0 := (Vo.out 0 _ rfl).1
            have of0 := (Vo.out 0 _ rfl).2
            have o1 := (Vo.out 1 _ rfl).1
            have of1 := (Vo.out 1 _ rfl).2
            have o2 := (Vo.out 2 _ rfl).1
            have of2 := (Vo.out 2 _ rfl).2
            have o3 := (Vo.out 3 _ rfl).1
            have of3 := (Vo.out 3 _ rfl).2
            have o4 := (Vo.out 4 _ rfl).1
            have of4 := (Vo.out 4 _ rfl).2
            have o5 := (Vo.out 5 _ rfl).1
            have of5 := (Vo.out 5 _ rfl).2
            have o6 := (Vo.out 6 _ rfl).1
            have of6 := (Vo.out 6 _ rfl).2
            have dd : ((1 : Int) == f) = true := by rw [← HF.out]; rfl
            go_wp2
            go_ret
            exact ⟨rfl, (HB3.out).alloc (Nat.le_trans HB3.out.size (by exact Nat.le_refl _)) _⟩
          · have c0 := (Vc.out 0 _ rfl).1
            have cf0 := (Vc.out 0 _ rfl).2
            have c1 := (Vc.out 1 _ rfl).1
            have cf1 := (Vc.out 1 _ rfl).2
            have c2 := (Vc.out 2 _ rfl).1
            have cf2 := (Vc.out 2 _ rfl).2
            have o0 := (Vo.out 0 _ rfl).1
            have of0 := (Vo.out 0 _ rfl).2
            have o1 := (Vo.out 1 _ rfl).1
            have of1 := (Vo.out 1 _ rfl).2
            have o2 := (Vo.out 2 _ rfl).1
            have of2 := (Vo.out 2 _ rfl).2
            have o3 := (Vo.out 3 _ rfl).1
            have of3 := (Vo.out 3 _ rfl).2
            have o4 := (Vo.out 4 _ rfl).1
            have of4 := (Vo.out 4 _ rfl).2
            have o5 := (Vo.out 5 _ rfl).1
            have of5 := (Vo.out 5 _ rfl).2
            have o6 := (Vo.out 6 _ rfl).1
            have of6 := (Vo.out 6 _ rfl).2
            have dd : ((5 : Int) == f) = true := by rw [← HF.out]; rfl
            go_wp2
            go_ret
            exact ⟨rfl, (HB3.out).alloc (Nat.le_trans HB3.out.size (by exact Nat.le_refl _)) _⟩
      · cases la
        · cases lo
          · have c0 := (Vc.out 0 _ rfl).1
            have cf0 := (Vc.out 0 _ rfl).2
            have c1 := (Vc.out 1 _ rfl).1
            have cf1 := (Vc.out 1 _ rfl).2
            have c2 := (Vc.out 2 _ rfl).1
            have cf2 := (Vc.out 2 _ rfl).2
            have o0 := (Vo.out 0 _ rfl).1
            have of0 := (Vo.out 0 _ rfl).2
            have o1 := (Vo.out 1 _ rfl).1
            have of1 := (Vo.out 1 _ rfl).2
            have o2 := (Vo.out 2 _ rfl).1
            have of2 := (Vo.out 2 _ rfl).2
            have o3 := (Vo.out 3 _ rfl).1
            have of3 := (Vo.out 3 _ rfl).2
            have o4 := (Vo.out 4 _ rfl).1
            have of4 := (Vo.out 4 _ rfl).2
            have o5 := (Vo.out 5 _ rfl).1
            have of5 := (Vo.out 5 _ rfl).2
            have o6 := (Vo.out 6 _ rfl).1
            have of6 := (Vo.out 6 _ rfl).2
            have dd : ((2 : Int) == f) = true := by rw [← HF.out]; rfl
            go_wp2
            go_ret
            exact ⟨rfl, (HB3.out).alloc (Nat.le_trans HB3.out.size (by exact Nat.le_refl _)) _⟩
          · have c0 := (Vc.out 0 _ rfl).1
            have cf0 := (Vc.out 0 _ rfl).2
            have c1 := (Vc.out 1 _ rfl).1
            have cf1 := (Vc.out 1 _ rfl).2
            have c2 := (Vc.out 2 _ rfl).1
            have cf2 := (Vc.out 2 _ rfl).2
            have o0 := (Vo.out 0 _ rfl).1
            have of0 := (Vo.out 0 _ rfl).2
            have o1 := (Vo.out 1 _ rfl).1
            have of1 := (Vo.out 1 _ rfl).2
            have o2 := (Vo.out 2 _ rfl).1
            have of2 := (Vo.out 2 _ rfl).2
            have o3 := (Vo.out 3 _ rfl).1
            have of3 := (Vo.out 3 _ rfl).2
            have o4 := (Vo.out 4 _ rfl).1
            have of4 := (Vo.out 4 _ rfl).2
            have o5 := (Vo.out 5 _ rfl).1
            have of5 := (Vo.out 5 _ rfl).2
            have o6 := (Vo.out 6 _ rfl).1
            have of6 := (Vo.out 6 _ rfl).2
            have dd : ((6 : Int) == f) = true := by rw [← HF.out]; rfl
            go_wp2
            go_ret
            exact ⟨rfl, (HB3.out).alloc (Nat.le_trans HB3.out.size (by exact Nat.le_refl _)) _⟩
        · cases lo
          · have c0 := (Vc.out 0 _ rfl).1
            have cf0 := (Vc.out 0 _ rfl).2
            have c1 := (Vc.out 1 _ rfl).1
            have cf1 := (Vc.out 1 _ rfl).2
            have c2 := (Vc.out 2 _ rfl).1
            have cf2 := (Vc.out 2 _ rfl).2
            have o0 := (Vo.out 0 _ rfl).1
            have of0 := (Vo.out 0 _ rfl).2
            have o1 := (Vo.out 1 _ rfl).1
            have of1 := (Vo.out 1 _ rfl).2
            have o2 := (Vo.out 2 _ rfl).1
            have of2 := (Vo.out 2 _ rfl).2
            have o3 := (Vo.out 3 _ rfl).1
            have of3 := (Vo.out 3 _ rfl).2
            have o4 := (Vo.out 4 _ rfl).1
            have of4 := (Vo.out 4 _ rfl).2
            have o5 := (Vo.out 5 _ rfl).1
            have of5 := (Vo.out 5 _ rfl).2
            have o6 := (Vo.out 6 _ rfl).1
            have of6 := (Vo.out 6 _ rfl).2
            have dd : ((3 : Int) == f) = true := by rw [← HF.out]; rfl
            go_wp2
            go_ret
            exact ⟨rfl, (HB3.out).alloc (Nat.le_trans HB3.out.size (by exact Nat.le_refl _)) _⟩
          · have c0 := (Vc.out 0 _ rfl).1
            have cf0 := (Vc.out 0 _ rfl).2
            have c1 := (Vc.out 1 _ rfl).1
            have cf1 := (Vc.out 1 _ rfl).2
            have c2 := (Vc.out 2 _ rfl).1
            have cf2 := (Vc.out 2 _ rfl).2
            have o0 := (Vo.out 0 _ rfl).1
            have of0 := (Vo.out 0 _ rfl).2
            have o1 := (Vo.out 1 _ rfl).1
            have of1 := (Vo.out 1 _ rfl).2
            have o2 := (Vo.out 2 _ rfl).1
            have of2 := (Vo.out 2 _ rfl).2
            have o3 := (Vo.out 3 _ rfl).1
            have of3 := (Vo.out 3 _ rfl).2
            have o4 := (Vo.out 4 _ rfl).1
            have of4 := (Vo.out 4 _ rfl).2
            have o5 := (Vo.out 5 _ rfl).1
            have of5 := (Vo.out 5 _ rfl).2
            have o6 := (Vo.out 6 _ rfl).1
            have of6 := (Vo.out 6 _ rfl).2
            have dd : ((7 : Int) == f) = true := by rw [← HF.out]; rfl
            go_wp2
            go_ret
            exact ⟨rfl, (HB3.out).alloc (Nat.le_trans HB3.out.size (by exact Nat.le_refl _)) _⟩
    · have HC := Lib.hid hc
      clear hc
      have hm : b.size ≤ maxLen := Nat.le_trans nb (by decide)
      go_wp2_with fail
      refine (dataGet_no k f b _ (Nat.le_trans nb (by decide)) HC.out).mono ?_
      rintro e w2 ⟨rfl, hb2⟩
      have Vc := Lib.hid ((VarN.new_at (w := w1) (d := w1.heap.size) (by simp) [.int .i64 k, .int .i64 f, .string b] 27).below hb2 (by simp))
      have HB2 := Lib.hid (((hb1).alloc (Nat.le_trans hb1.size (by exact Nat.le_refl _)) (.cells (List.toArray [.int .i64 k, .int .i64 f, .string b]) 27)).trans (hb2.mono (Nat.le_trans hb1.size (by simp <;> omega))))
      have ltc : w1.heap.size < w2.heap.size := lt_of_cell (Vc.out 0 _ rfl).1
      have nec : ¬ w1.heap.size = w2.heap.size := by omega
      clear hb2
      unfold noDataV
      have c0 := (Vc.out 0 _ rfl).1
      have cf0 := (Vc.out 0 _ rfl).2
      have c1 := (Vc.out 1 _ rfl).1
      have cf1 := (Vc.out 1 _ rfl).2
      have c2 := (Vc.out 2 _ rfl).1
      have cf2 := (Vc.out 2 _ rfl).2
      go_wp2_with fail
      refine (sDataGet_no k f b _ hm HC.out).mono ?_
      rintro e w3 ⟨rfl, hb3⟩
      clear c0 cf0 c1 cf1 c2 cf2
      have Vc := Lib.hid (((Vc.out).alloc (.cells (List.toArray [.int .i64 0, .int .i64 0, .int .i64 0, .bool false, .bool false, .bool false, .string (ByteArray.mk #[])]) 24) (by omega)).below hb3 (by simp; omega))
      have Vo := Lib.hid ((VarN.new_at (w := w2) (d := w2.heap.size) (by simp) [.int .i64 0, .int .i64 0, .int .i64 0, .bool false, .bool false, .bool false, .string (ByteArray.mk #[])] 24).below hb3 (by simp))
      have HB3 := Lib.hid (((HB2.out).alloc (Nat.le_trans HB2.out.size (by exact Nat.le_refl _)) (.cells (List.toArray [.int .i64 0, .int .i64 0, .int .i64 0, .bool false, .bool false, .bool false, .string (ByteArray.mk #[])]) 24)).trans (hb3.mono (Nat.le_trans HB2.out.size (by simp <;> omega))))
      have ltc : w1.heap.size < w3.heap.size := lt_of_cell (Vc.out 0 _ rfl).1
      have lto : w2.heap.size < w3.heap.size := lt_of_cell (Vo.out 0 _ rfl).1
      have nec : ¬ w1.heap.size = w3.heap.size := by omega
      have neo : ¬ w2.heap.size = w3.heap.size := by omega
      clear hb3
      unfold noDataV
      have c0 := (Vc.out 0 _ rfl).1
      have cf0 := (Vc.out 0 _ rfl).2
      have c1 := (Vc.out 1 _ rfl).1
      have cf1 := (Vc.out 1 _ rfl).2
      have c2 := (Vc.out 2 _ rfl).1
      have cf2 := (Vc.out 2 _ rfl).2
      have o0 := (Vo.out 0 _ rfl).1
      have of0 := (Vo.out 0 _ rfl).2
      have o1 := (Vo.out 1 _ rfl).1
      have of1 := (Vo.out 1 _ rfl).2
      have o2 := (Vo.out 2 _ rfl).1
      have of2 := (Vo.out 2 _ rfl).2
      have o3 := (Vo.out 3 _ rfl).1
      have of3 := (Vo.out 3 _ rfl).2
      have o4 := (Vo.out 4 _ rfl).1
      have of4 := (Vo.out 4 _ rfl).2
      have o5 := (Vo.out 5 _ rfl).1
      have of5 := (Vo.out 5 _ rfl).2
      have o6 := (Vo.out 6 _ rfl).1
      have of6 := (Vo.out 6 _ rfl).2
      go_wp2
      go_ret
      exact ⟨rfl, (HB3.out).alloc (Nat.le_trans HB3.out.size (by exact Nat.le_refl _)) _⟩

set_option maxHeartbeats 400000 in
theorem szData_yes (a b c : Int) (fi la lo : Bool) (t : ByteArray) (w : World) (h : t.size ≤ 1048576) :
    Calls Try.prog 18 #[.agg #[.int .i64 a, .int .i64 b, .int .i64 c, .bool fi, .bool la, .bool lo, .string t], .int .i64 1048576] w fun e w' => e = .returned (.int .i64 (1048576 - (t.size : Int))) ∧ Below w.heap.size w w' := by
  go_enter Try.func18, Try.ntmps18
  go_wp2
  go_ret
  exact ⟨rfl, below_box _ (Nat.le_refl _)⟩

set_option maxHeartbeats 400000 in
theorem szData_no (a b c : Int) (fi la lo : Bool) (t : ByteArray) (w : World) (h : 1048576 < t.size) (hm : t.size ≤ maxLen) :
    Calls Try.prog 18 #[.agg #[.int .i64 a, .int .i64 b, .int .i64 c, .bool fi, .bool la, .bool lo, .string t], .int .i64 1048576] w fun e w' => e = .returned (.int .i64 (-1)) ∧ Below w.heap.size w w' := by
  unfold maxLen at hm
  go_enter Try.func18, Try.ntmps18
  go_wp2
  go_ret
  exact ⟨rfl, below_box _ (Nat.le_refl _)⟩

set_option maxHeartbeats 1000000 in
theorem toData_any (a b c : Int) (fi la lo : Bool) (t : ByteArray) (w : World) :
    Calls Try.prog 19 #[.agg #[.int .i64 a, .int .i64 b, .int .i64 c, .bool fi, .bool la, .bool lo, .string t]] w fun e w' => e = .returned (.agg #[.int .i64 a, .int .i64 b, .int .i64 c, .bool fi, .bool la, .bool lo, .string t]) ∧ Below w.heap.size w w' := by
  go_enter Try.func19, Try.ntmps19
  go_wp2
  refine bodyPost_ret (v := .agg #[.int .i64 a, .int .i64 b, .int .i64 c, .bool fi, .bool la, .bool lo, .string t]) ?_ rfl ?_
  · simp [results, Try.results19, go_sem]
  · exact ⟨rfl, by go_grown⟩

set_option maxHeartbeats 1000000 in
theorem eqData_same (a b c : Int) (fi la lo : Bool) (t : ByteArray) (w : World) :
    Calls Try.prog 23 #[.agg #[.int .i64 a, .int .i64 b, .int .i64 c, .bool fi, .bool la, .bool lo, .string t], .agg #[.int .i64 a, .int .i64 b, .int .i64 c, .bool fi, .bool la, .bool lo, .string t]] w fun e w' => e = .returned (.bool true) ∧ Below w.heap.size w w' := by
  go_enter Try.func23, Try.ntmps23
  go_wp2
  go_ret
  exact ⟨rfl, (below_box _ (Nat.le_refl _)).alloc (by simp) _⟩

set_option maxHeartbeats 1000000 in
theorem eqChunk_same (k f : Int) (b : ByteArray) (w : World) :
    Calls Try.prog 20 #[.agg #[.int .i64 k, .int .i64 f, .string b], .agg #[.int .i64 k, .int .i64 f, .string b]] w fun e w' => e = .returned (.bool true) ∧ Below w.heap.size w w' := by
  go_enter Try.func20, Try.ntmps20
  go_wp2
  go_ret
  exact ⟨rfl, (below_box _ (Nat.le_refl _)).alloc (by simp) _⟩

set_option maxHeartbeats 1000000 in
theorem walk_fnExactDataPut (a b c : Int) (fi la lo : Bool) (t : ByteArray) (_w0 : (Lit.int .i64 a).wf = true) (_w1 : (Lit.int .i64 b).wf = true) (_w2 : (Lit.int .i64 c).wf = true) (hm : t.size ≤ maxLen) (w1 : World) :
    Calls Try.prog 8 #[.agg #[.int .i64 a, .int .i64 b, .int .i64 c, .bool fi, .bool la, .bool lo, .string t]] w1 fun e w' => e = .returned (.bool true) ∧ Below w1.heap.size w1 w' := by
  have hb1 := Below.refl w1.heap.size w1
  by_cases hz : t.size ≤ 1048576
  · have HZ := Lib.hid hz
    clear hz
    go_enter Try.func8, Try.ntmps8
    by_cases hc : DataOk a b c t
    · have HC := Lib.hid hc
      clear hc
      go_wp2_with fail
      refine (szData_yes a b c fi la lo t _ HZ.out).mono ?_
      rintro e w2 ⟨rfl, hb2⟩
      have Vp := Lib.hid ((VarN.new_at (w := w1) (d := w1.heap.size) (by simp) [.int .i64 a, .int .i64 b, .int .i64 c, .bool fi, .bool la, .bool lo, .string t] 36).below hb2 (by simp))
      have HB2 := Lib.hid (((hb1).alloc (Nat.le_trans hb1.size (by exact Nat.le_refl _)) (.cells (List.toArray [.int .i64 a, .int .i64 b, .int .i64 c, .bool fi, .bool la, .bool lo, .string t]) 36)).trans (hb2.mono (Nat.le_trans hb1.size (by simp <;> omega))))
      have ltp : w1.heap.size < w2.heap.size := lt_of_cell (Vp.out 0 _ rfl).1
      have nep : ¬ w1.heap.size = w2.heap.size := by omega
      clear hb2
      have p0 := (Vp.out 0 _ rfl).1
      have pf0 := (Vp.out 0 _ rfl).2
      have p1 := (Vp.out 1 _ rfl).1
      have pf1 := (Vp.out 1 _ rfl).2
      have p2 := (Vp.out 2 _ rfl).1
      have pf2 := (Vp.out 2 _ rfl).2
      have p3 := (Vp.out 3 _ rfl).1
      have pf3 := (Vp.out 3 _ rfl).2
      have p4 := (Vp.out 4 _ rfl).1
      have pf4 := (Vp.out 4 _ rfl).2
      have p5 := (Vp.out 5 _ rfl).1
      have pf5 := (Vp.out 5 _ rfl).2
      have p6 := (Vp.out 6 _ rfl).1
      have pf6 := (Vp.out 6 _ rfl).2
      have tz : (t.size : Int) ≤ 1048576 := by have := HZ.out; omega
      go_wp2_with fail
      refine (toData_any a b c fi la lo t _).mono ?_
      rintro e w3 ⟨rfl, hb3⟩
      clear p0 pf0 p1 pf1 p2 pf2 p3 pf3 p4 pf4 p5 pf5 p6 pf6
      have Vp := Lib.hid ((Vp.out).below hb3 ltp)
      have HB3 := Lib.hid (HB2.out.trans (hb3.mono HB2.out.size))
      have ltp : w1.heap.size < w3.heap.size := lt_of_cell (Vp.out 0 _ rfl).1
      have nep : ¬ w1.heap.size = w3.heap.size := by omega
      clear hb3
      go_wp2_with fail
      refine (sDataPut_yes a b c fi la lo t _ HC.out).mono ?_
      rintro e w4 ⟨rfl, hb4⟩
      have Vp := Lib.hid ((Vp.out).below hb4 ltp)
      have HB4 := Lib.hid (HB3.out.trans (hb4.mono HB3.out.size))
      have ltp : w1.heap.size < w4.heap.size := lt_of_cell (Vp.out 0 _ rfl).1
      have nep : ¬ w1.heap.size = w4.heap.size := by omega
      clear hb4
      unfold madeV
      have p0 := (Vp.out 0 _ rfl).1
      have pf0 := (Vp.out 0 _ rfl).2
      have p1 := (Vp.out 1 _ rfl).1
      have pf1 := (Vp.out 1 _ rfl).2
      have p2 := (Vp.out 2 _ rfl).1
      have pf2 := (Vp.out 2 _ rfl).2
      have p3 := (Vp.out 3 _ rfl).1
      have pf3 := (Vp.out 3 _ rfl).2
      have p4 := (Vp.out 4 _ rfl).1
      have pf4 := (Vp.out 4 _ rfl).2
      have p5 := (Vp.out 5 _ rfl).1
      have pf5 := (Vp.out 5 _ rfl).2
      have p6 := (Vp.out 6 _ rfl).1
      have pf6 := (Vp.out 6 _ rfl).2
      go_wp2_with fail
      refine (toData_any a b c fi la lo t _).mono ?_
      rintro e w5 ⟨rfl, hb5⟩
      clear p0 pf0 p1 pf1 p2 pf2 p3 pf3 p4 pf4 p5 pf5 p6 pf6
      have Vp := Lib.hid (((Vp.out).alloc (.cells (List.toArray [.int .i64 0, .int .i64 (flagsV fi la lo), .string (dataS a b c t)]) 27) (by omega)).below hb5 (by simp; omega))
      have Vv := Lib.hid ((VarN.new_at (w := w4) (d := w4.heap.size) (by simp) [.int .i64 0, .int .i64 (flagsV fi la lo), .string (dataS a b c t)] 27).below hb5 (by simp))
      have HB5 := Lib.hid (((HB4.out).alloc (Nat.le_trans HB4.out.size (by exact Nat.le_refl _)) (.cells (List.toArray [.int .i64 0, .int .i64 (flagsV fi la lo), .string (dataS a b c t)]) 27)).trans (hb5.mono (Nat.le_trans HB4.out.size (by simp <;> omega))))
      have ltp : w1.heap.size < w5.heap.size := lt_of_cell (Vp.out 0 _ rfl).1
      have ltv : w4.heap.size < w5.heap.size := lt_of_cell (Vv.out 0 _ rfl).1
      have nep : ¬ w1.heap.size = w5.heap.size := by omega
      have nev : ¬ w4.heap.size = w5.heap.size := by omega
      clear hb5
      go_wp2_with fail
      refine (dataPut_yes a b c fi la lo t _ HC.out).mono ?_
      rintro e w6 ⟨rfl, hb6⟩
      have Vp := Lib.hid ((Vp.out).below hb6 ltp)
      have Vv := Lib.hid ((Vv.out).below hb6 ltv)
      have HB6 := Lib.hid (HB5.out.trans (hb6.mono HB5.out.size))
      have ltp : w1.heap.size < w6.heap.size := lt_of_cell (Vp.out 0 _ rfl).1
      have ltv : w4.heap.size < w6.heap.size := lt_of_cell (Vv.out 0 _ rfl).1
      have nep : ¬ w1.heap.size = w6.heap.size := by omega
      have nev : ¬ w4.heap.size = w6.heap.size := by omega
      clear hb6
      unfold madeV
      have v0 := (Vv.out 0 _ rfl).1
      have vf0 := (Vv.out 0 _ rfl).2
      have v1 := (Vv.out 1 _ rfl).1
      have vf1 := (Vv.out 1 _ rfl).2
      have v2 := (Vv.out 2 _ rfl).1
      have vf2 := (Vv.out 2 _ rfl).2
      go_wp2_with fail
      refine (eqChunk_same 0 (flagsV fi la lo) (dataS a b c t) _).mono ?_
      rintro e w7 ⟨rfl, hb7⟩
      clear v0 vf0 v1 vf1 v2 vf2
      have Vp := Lib.hid (((Vp.out).alloc (.cells (List.toArray [.int .i64 0, .int .i64 (flagsV fi la lo), .string (dataS a b c t)]) 27) (by omega)).below hb7 (by simp; omega))
      have Vv := Lib.hid (((Vv.out).alloc (.cells (List.toArray [.int .i64 0, .int .i64 (flagsV fi la lo), .string (dataS a b c t)]) 27) (by omega)).below hb7 (by simp; omega))
      have Vg := Lib.hid ((VarN.new_at (w := w6) (d := w6.heap.size) (by simp) [.int .i64 0, .int .i64 (flagsV fi la lo), .string (dataS a b c t)] 27).below hb7 (by simp))
      have HB7 := Lib.hid (((HB6.out).alloc (Nat.le_trans HB6.out.size (by exact Nat.le_refl _)) (.cells (List.toArray [.int .i64 0, .int .i64 (flagsV fi la lo), .string (dataS a b c t)]) 27)).trans (hb7.mono (Nat.le_trans HB6.out.size (by simp <;> omega))))
      have ltp : w1.heap.size < w7.heap.size := lt_of_cell (Vp.out 0 _ rfl).1
      have ltv : w4.heap.size < w7.heap.size := lt_of_cell (Vv.out 0 _ rfl).1
      have ltg : w6.heap.size < w7.heap.size := lt_of_cell (Vg.out 0 _ rfl).1
      have nep : ¬ w1.heap.size = w7.heap.size := by omega
      have nev : ¬ w4.heap.size = w7.heap.size := by omega
      have neg : ¬ w6.heap.size = w7.heap.size := by omega
      clear hb7
      go_wp2
      go_ret
      exact ⟨rfl, HB7.out⟩
    · have HC := Lib.hid hc
      clear hc
      go_wp2_with fail
      refine (szData_yes a b c fi la lo t _ HZ.out).mono ?_
      rintro e w2 ⟨rfl, hb2⟩
      have Vp := Lib.hid ((VarN.new_at (w := w1) (d := w1.heap.size) (by simp) [.int .i64 a, .int .i64 b, .int .i64 c, .bool fi, .bool la, .bool lo, .string t] 36).below hb2 (by simp))
      have HB2 := Lib.hid (((hb1).alloc (Nat.le_trans hb1.size (by exact Nat.le_refl _)) (.cells (List.toArray [.int .i64 a, .int .i64 b, .int .i64 c, .bool fi, .bool la, .bool lo, .string t]) 36)).trans (hb2.mono (Nat.le_trans hb1.size (by simp <;> omega))))
      have ltp : w1.heap.size < w2.heap.size := lt_of_cell (Vp.out 0 _ rfl).1
      have nep : ¬ w1.heap.size = w2.heap.size := by omega
      clear hb2
      have p0 := (Vp.out 0 _ rfl).1
      have pf0 := (Vp.out 0 _ rfl).2
      have p1 := (Vp.out 1 _ rfl).1
      have pf1 := (Vp.out 1 _ rfl).2
      have p2 := (Vp.out 2 _ rfl).1
      have pf2 := (Vp.out 2 _ rfl).2
      have p3 := (Vp.out 3 _ rfl).1
      have pf3 := (Vp.out 3 _ rfl).2
      have p4 := (Vp.out 4 _ rfl).1
      have pf4 := (Vp.out 4 _ rfl).2
      have p5 := (Vp.out 5 _ rfl).1
      have pf5 := (Vp.out 5 _ rfl).2
      have p6 := (Vp.out 6 _ rfl).1
      have pf6 := (Vp.out 6 _ rfl).2
      have tz : (t.size : Int) ≤ 1048576 := by have := HZ.out; omega
      go_wp2_with fail
      refine (toData_any a b c fi la lo t _).mono ?_
      rintro e w3 ⟨rfl, hb3⟩
      clear p0 pf0 p1 pf1 p2 pf2 p3 pf3 p4 pf4 p5 pf5 p6 pf6
      have Vp := Lib.hid ((Vp.out).below hb3 ltp)
      have HB3 := Lib.hid (HB2.out.trans (hb3.mono HB2.out.size))
      have ltp : w1.heap.size < w3.heap.size := lt_of_cell (Vp.out 0 _ rfl).1
      have nep : ¬ w1.heap.size = w3.heap.size := by omega
      clear hb3
      go_wp2_with fail
      refine (sDataPut_no a b c fi la lo t _ HC.out).mono ?_
      rintro e w4 ⟨rfl, hb4⟩
      have Vp := Lib.hid ((Vp.out).below hb4 ltp)
      have HB4 := Lib.hid (HB3.out.trans (hb4.mono HB3.out.size))
      have ltp : w1.heap.size < w4.heap.size := lt_of_cell (Vp.out 0 _ rfl).1
      have nep : ¬ w1.heap.size = w4.heap.size := by omega
      clear hb4
      unfold notMadeV
      have p0 := (Vp.out 0 _ rfl).1
      have pf0 := (Vp.out 0 _ rfl).2
      have p1 := (Vp.out 1 _ rfl).1
      have pf1 := (Vp.out 1 _ rfl).2
      have p2 := (Vp.out 2 _ rfl).1
      have pf2 := (Vp.out 2 _ rfl).2
      have p3 := (Vp.out 3 _ rfl).1
      have pf3 := (Vp.out 3 _ rfl).2
      have p4 := (Vp.out 4 _ rfl).1
      have pf4 := (Vp.out 4 _ rfl).2
      have p5 := (Vp.out 5 _ rfl).1
      have pf5 := (Vp.out 5 _ rfl).2
      have p6 := (Vp.out 6 _ rfl).1
      have pf6 := (Vp.out 6 _ rfl).2
      go_wp2_with fail
      refine (toData_any a b c fi la lo t _).mono ?_
      rintro e w5 ⟨rfl, hb5⟩
      clear p0 pf0 p1 pf1 p2 pf2 p3 pf3 p4 pf4 p5 pf5 p6 pf6
      have Vp := Lib.hid (((Vp.out).alloc (.cells (List.toArray [.int .i64 0, .int .i64 0, .string (ByteArray.mk #[])]) 27) (by omega)).below hb5 (by simp; omega))
      have Vv := Lib.hid ((VarN.new_at (w := w4) (d := w4.heap.size) (by simp) [.int .i64 0, .int .i64 0, .string (ByteArray.mk #[])] 27).below hb5 (by simp))
      have HB5 := Lib.hid (((HB4.out).alloc (Nat.le_trans HB4.out.size (by exact Nat.le_refl _)) (.cells (List.toArray [.int .i64 0, .int .i64 0, .string (ByteArray.mk #[])]) 27)).trans (hb5.mono (Nat.le_trans HB4.out.size (by simp <;> omega))))
      have ltp : w1.heap.size < w5.heap.size := lt_of_cell (Vp.out 0 _ rfl).1
      have ltv : w4.heap.size < w5.heap.size := lt_of_cell (Vv.out 0 _ rfl).1
      have nep : ¬ w1.heap.size = w5.heap.size := by omega
      have nev : ¬ w4.heap.size = w5.heap.size := by omega
      clear hb5
      go_wp2_with fail
      refine (dataPut_no a b c fi la lo t _ HC.out).mono ?_
      rintro e w6 ⟨rfl, hb6⟩
      have Vp := Lib.hid ((Vp.out).below hb6 ltp)
      have Vv := Lib.hid ((Vv.out).below hb6 ltv)
      have HB6 := Lib.hid (HB5.out.trans (hb6.mono HB5.out.size))
      have ltp : w1.heap.size < w6.heap.size := lt_of_cell (Vp.out 0 _ rfl).1
      have ltv : w4.heap.size < w6.heap.size := lt_of_cell (Vv.out 0 _ rfl).1
      have nep : ¬ w1.heap.size = w6.heap.size := by omega
      have nev : ¬ w4.heap.size = w6.heap.size := by omega
      clear hb6
      unfold notMadeV
      have v0 := (Vv.out 0 _ rfl).1
      have vf0 := (Vv.out 0 _ rfl).2
      have v1 := (Vv.out 1 _ rfl).1
      have vf1 := (Vv.out 1 _ rfl).2
      have v2 := (Vv.out 2 _ rfl).1
      have vf2 := (Vv.out 2 _ rfl).2
      go_wp2_with fail
      refine (eqChunk_same 0 0 (ByteArray.mk #[]) _).mono ?_
      rintro e w7 ⟨rfl, hb7⟩
      clear v0 vf0 v1 vf1 v2 vf2
      have Vp := Lib.hid (((Vp.out).alloc (.cells (List.toArray [.int .i64 0, .int .i64 0, .string (ByteArray.mk #[])]) 27) (by omega)).below hb7 (by simp; omega))
      have Vv := Lib.hid (((Vv.out).alloc (.cells (List.toArray [.int .i64 0, .int .i64 0, .string (ByteArray.mk #[])]) 27) (by omega)).below hb7 (by simp; omega))
      have Vg := Lib.hid ((VarN.new_at (w := w6) (d := w6.heap.size) (by simp) [.int .i64 0, .int .i64 0, .string (ByteArray.mk #[])] 27).below hb7 (by simp))
      have HB7 := Lib.hid (((HB6.out).alloc (Nat.le_trans HB6.out.size (by exact Nat.le_refl _)) (.cells (List.toArray [.int .i64 0, .int .i64 0, .string (ByteArray.mk #[])]) 27)).trans (hb7.mono (Nat.le_trans HB6.out.size (by simp <;> omega))))
      have ltp : w1.heap.size < w7.heap.size := lt_of_cell (Vp.out 0 _ rfl).1
      have ltv : w4.heap.size < w7.heap.size := lt_of_cell (Vv.out 0 _ rfl).1
      have ltg : w6.heap.size < w7.heap.size := lt_of_cell (Vg.out 0 _ rfl).1
      have nep : ¬ w1.heap.size = w7.heap.size := by omega
      have nev : ¬ w4.heap.size = w7.heap.size := by omega
      have neg : ¬ w6.heap.size = w7.heap.size := by omega
      clear hb7
      go_wp2
      go_ret
      exact ⟨rfl, HB7.out⟩
  · have HZ := Lib.hid (show 1048576 < t.size by omega)
    clear hz
    go_enter Try.func8, Try.ntmps8
    go_wp2_with fail
    refine (szData_no a b c fi la lo t _ HZ.out hm).mono ?_
    rintro e w2 ⟨rfl, hb2⟩
    have Vp := Lib.hid ((VarN.new_at (w := w1) (d := w1.heap.size) (by simp) [.int .i64 a, .int .i64 b, .int .i64 c, .bool fi, .bool la, .bool lo, .string t] 36).below hb2 (by simp))
    have HB2 := Lib.hid (((hb1).alloc (Nat.le_trans hb1.size (by exact Nat.le_refl _)) (.cells (List.toArray [.int .i64 a, .int .i64 b, .int .i64 c, .bool fi, .bool la, .bool lo, .string t]) 36)).trans (hb2.mono (Nat.le_trans hb1.size (by simp <;> omega))))
    have ltp : w1.heap.size < w2.heap.size := lt_of_cell (Vp.out 0 _ rfl).1
    have nep : ¬ w1.heap.size = w2.heap.size := by omega
    clear hb2
    go_wp2
    go_ret
    exact ⟨rfl, HB2.out⟩

set_option maxHeartbeats 1000000 in
theorem walk_fnExactDataGet (k f : Int) (b : ByteArray) (_w0 : (Lit.int .i64 k).wf = true) (_w1 : (Lit.int .i64 f).wf = true) (hm : b.size ≤ maxLen) (w1 : World) :
    Calls Try.prog 9 #[.agg #[.int .i64 k, .int .i64 f, .string b]] w1 fun e w' => e = .returned (.bool true) ∧ Below w1.heap.size w1 w' := by
  have hb1 := Below.refl w1.heap.size w1
  by_cases hz : b.size ≤ 1048576
  · have HZ := Lib.hid hz
    clear hz
    go_enter Try.func9, Try.ntmps9
    by_cases hc : HasData k f b
    · have HC := Lib.hid hc
      clear hc
      go_wp2_with fail
      refine (szChunk_yes k f b _ HZ.out).mono ?_
      rintro e w2 ⟨rfl, hb2⟩
      have Vp := Lib.hid ((VarN.new_at (w := w1) (d := w1.heap.size) (by simp) [.int .i64 k, .int .i64 f, .string b] 41).below hb2 (by simp))
      have HB2 := Lib.hid (((hb1).alloc (Nat.le_trans hb1.size (by exact Nat.le_refl _)) (.cells (List.toArray [.int .i64 k, .int .i64 f, .string b]) 41)).trans (hb2.mono (Nat.le_trans hb1.size (by simp <;> omega))))
      have ltp : w1.heap.size < w2.heap.size := lt_of_cell (Vp.out 0 _ rfl).1
      have nep : ¬ w1.heap.size = w2.heap.size := by omega
      clear hb2
      have p0 := (Vp.out 0 _ rfl).1
      have pf0 := (Vp.out 0 _ rfl).2
      have p1 := (Vp.out 1 _ rfl).1
      have pf1 := (Vp.out 1 _ rfl).2
      have p2 := (Vp.out 2 _ rfl).1
      have pf2 := (Vp.out 2 _ rfl).2
      have tz : (b.size : Int) ≤ 1048576 := by have := HZ.out; omega
      go_wp2_with fail
      refine (toChunk_any k f b _).mono ?_
      rintro e w3 ⟨rfl, hb3⟩
      clear p0 pf0 p1 pf1 p2 pf2
      have Vp := Lib.hid ((Vp.out).below hb3 ltp)
      have HB3 := Lib.hid (HB2.out.trans (hb3.mono HB2.out.size))
      have ltp : w1.heap.size < w3.heap.size := lt_of_cell (Vp.out 0 _ rfl).1
      have nep : ¬ w1.heap.size = w3.heap.size := by omega
      clear hb3
      go_wp2_with fail
      refine (sDataGet_yes k f b _ HC.out).mono ?_
      rintro e w4 ⟨rfl, hb4⟩
      have Vp := Lib.hid ((Vp.out).below hb4 ltp)
      have HB4 := Lib.hid (HB3.out.trans (hb4.mono HB3.out.size))
      have ltp : w1.heap.size < w4.heap.size := lt_of_cell (Vp.out 0 _ rfl).1
      have nep : ¬ w1.heap.size = w4.heap.size := by omega
      clear hb4
      unfold gotDataV
      have p0 := (Vp.out 0 _ rfl).1
      have pf0 := (Vp.out 0 _ rfl).2
      have p1 := (Vp.out 1 _ rfl).1
      have pf1 := (Vp.out 1 _ rfl).2
      have p2 := (Vp.out 2 _ rfl).1
      have pf2 := (Vp.out 2 _ rfl).2
      go_wp2_with fail
      refine (toChunk_any k f b _).mono ?_
      rintro e w5 ⟨rfl, hb5⟩
      clear p0 pf0 p1 pf1 p2 pf2
      have Vp := Lib.hid (((Vp.out).alloc (.cells (List.toArray [.int .i64 (be b 0 2), .int .i64 (be b 2 2), .int .i64 (be b 4 2), .bool (f / 2 % 2 == 1), .bool (f % 2 == 1), .bool (f / 4 == 1), .string (b.extract 6 b.size)]) 24) (by omega)).below hb5 (by simp; omega))
      have Vv := Lib.hid ((VarN.new_at (w := w4) (d := w4.heap.size) (by simp) [.int .i64 (be b 0 2), .int .i64 (be b 2 2), .int .i64 (be b 4 2), .bool (f / 2 % 2 == 1), .bool (f % 2 == 1), .bool (f / 4 == 1), .string (b.extract 6 b.size)] 24).below hb5 (by simp))
      have HB5 := Lib.hid (((HB4.out).alloc (Nat.le_trans HB4.out.size (by exact Nat.le_refl _)) (.cells (List.toArray [.int .i64 (be b 0 2), .int .i64 (be b 2 2), .int .i64 (be b 4 2), .bool (f / 2 % 2 == 1), .bool (f % 2 == 1), .bool (f / 4 == 1), .string (b.extract 6 b.size)]) 24)).trans (hb5.mono (Nat.le_trans HB4.out.size (by simp <;> omega))))
      have ltp : w1.heap.size < w5.heap.size := lt_of_cell (Vp.out 0 _ rfl).1
      have ltv : w4.heap.size < w5.heap.size := lt_of_cell (Vv.out 0 _ rfl).1
      have nep : ¬ w1.heap.size = w5.heap.size := by omega
      have nev : ¬ w4.heap.size = w5.heap.size := by omega
      clear hb5
      go_wp2_with fail
      refine (dataGet_yes k f b _ HC.out).mono ?_
      rintro e w6 ⟨rfl, hb6⟩
      have Vp := Lib.hid ((Vp.out).below hb6 ltp)
      have Vv := Lib.hid ((Vv.out).below hb6 ltv)
      have HB6 := Lib.hid (HB5.out.trans (hb6.mono HB5.out.size))
      have ltp : w1.heap.size < w6.heap.size := lt_of_cell (Vp.out 0 _ rfl).1
      have ltv : w4.heap.size < w6.heap.size := lt_of_cell (Vv.out 0 _ rfl).1
      have nep : ¬ w1.heap.size = w6.heap.size := by omega
      have nev : ¬ w4.heap.size = w6.heap.size := by omega
      clear hb6
      unfold gotDataV
      have v0 := (Vv.out 0 _ rfl).1
      have vf0 := (Vv.out 0 _ rfl).2
      have v1 := (Vv.out 1 _ rfl).1
      have vf1 := (Vv.out 1 _ rfl).2
      have v2 := (Vv.out 2 _ rfl).1
      have vf2 := (Vv.out 2 _ rfl).2
      have v3 := (Vv.out 3 _ rfl).1
      have vf3 := (Vv.out 3 _ rfl).2
      have v4 := (Vv.out 4 _ rfl).1
      have vf4 := (Vv.out 4 _ rfl).2
      have v5 := (Vv.out 5 _ rfl).1
      have vf5 := (Vv.out 5 _ rfl).2
      have v6 := (Vv.out 6 _ rfl).1
      have vf6 := (Vv.out 6 _ rfl).2
      go_wp2_with fail
      refine (eqData_same (be b 0 2) (be b 2 2) (be b 4 2) (f / 2 % 2 == 1) (f % 2 == 1) (f / 4 == 1) (b.extract 6 b.size) _).mono ?_
      rintro e w7 ⟨rfl, hb7⟩
      clear v0 vf0 v1 vf1 v2 vf2 v3 vf3 v4 vf4 v5 vf5 v6 vf6
      have Vp := Lib.hid (((Vp.out).alloc (.cells (List.toArray [.int .i64 (be b 0 2), .int .i64 (be b 2 2), .int .i64 (be b 4 2), .bool (f / 2 % 2 == 1), .bool (f % 2 == 1), .bool (f / 4 == 1), .string (b.extract 6 b.size)]) 24) (by omega)).below hb7 (by simp; omega))
      have Vv := Lib.hid (((Vv.out).alloc (.cells (List.toArray [.int .i64 (be b 0 2), .int .i64 (be b 2 2), .int .i64 (be b 4 2), .bool (f / 2 % 2 == 1), .bool (f % 2 == 1), .bool (f / 4 == 1), .string (b.extract 6 b.size)]) 24) (by omega)).below hb7 (by simp; omega))
      have Vg := Lib.hid ((VarN.new_at (w := w6) (d := w6.heap.size) (by simp) [.int .i64 (be b 0 2), .int .i64 (be b 2 2), .int .i64 (be b 4 2), .bool (f / 2 % 2 == 1), .bool (f % 2 == 1), .bool (f / 4 == 1), .string (b.extract 6 b.size)] 24).below hb7 (by simp))
      have HB7 := Lib.hid (((HB6.out).alloc (Nat.le_trans HB6.out.size (by exact Nat.le_refl _)) (.cells (List.toArray [.int .i64 (be b 0 2), .int .i64 (be b 2 2), .int .i64 (be b 4 2), .bool (f / 2 % 2 == 1), .bool (f % 2 == 1), .bool (f / 4 == 1), .string (b.extract 6 b.size)]) 24)).trans (hb7.mono (Nat.le_trans HB6.out.size (by simp <;> omega))))
      have ltp : w1.heap.size < w7.heap.size := lt_of_cell (Vp.out 0 _ rfl).1
      have ltv : w4.heap.size < w7.heap.size := lt_of_cell (Vv.out 0 _ rfl).1
      have ltg : w6.heap.size < w7.heap.size := lt_of_cell (Vg.out 0 _ rfl).1
      have nep : ¬ w1.heap.size = w7.heap.size := by omega
      have nev : ¬ w4.heap.size = w7.heap.size := by omega
      have neg : ¬ w6.heap.size = w7.heap.size := by omega
      clear hb7
      go_wp2
      go_ret
      exact ⟨rfl, HB7.out⟩
    · have HC := Lib.hid hc
      clear hc
      go_wp2_with fail
      refine (szChunk_yes k f b _ HZ.out).mono ?_
      rintro e w2 ⟨rfl, hb2⟩
      have Vp := Lib.hid ((VarN.new_at (w := w1) (d := w1.heap.size) (by simp) [.int .i64 k, .int .i64 f, .string b] 41).below hb2 (by simp))
      have HB2 := Lib.hid (((hb1).alloc (Nat.le_trans hb1.size (by exact Nat.le_refl _)) (.cells (List.toArray [.int .i64 k, .int .i64 f, .string b]) 41)).trans (hb2.mono (Nat.le_trans hb1.size (by simp <;> omega))))
      have ltp : w1.heap.size < w2.heap.size := lt_of_cell (Vp.out 0 _ rfl).1
      have nep : ¬ w1.heap.size = w2.heap.size := by omega
      clear hb2
      have p0 := (Vp.out 0 _ rfl).1
      have pf0 := (Vp.out 0 _ rfl).2
      have p1 := (Vp.out 1 _ rfl).1
      have pf1 := (Vp.out 1 _ rfl).2
      have p2 := (Vp.out 2 _ rfl).1
      have pf2 := (Vp.out 2 _ rfl).2
      have tz : (b.size : Int) ≤ 1048576 := by have := HZ.out; omega
      go_wp2_with fail
      refine (toChunk_any k f b _).mono ?_
      rintro e w3 ⟨rfl, hb3⟩
      clear p0 pf0 p1 pf1 p2 pf2
      have Vp := Lib.hid ((Vp.out).below hb3 ltp)
      have HB3 := Lib.hid (HB2.out.trans (hb3.mono HB2.out.size))
      have ltp : w1.heap.size < w3.heap.size := lt_of_cell (Vp.out 0 _ rfl).1
      have nep : ¬ w1.heap.size = w3.heap.size := by omega
      clear hb3
      go_wp2_with fail
      refine (sDataGet_no k f b _ hm HC.out).mono ?_
      rintro e w4 ⟨rfl, hb4⟩
      have Vp := Lib.hid ((Vp.out).below hb4 ltp)
      have HB4 := Lib.hid (HB3.out.trans (hb4.mono HB3.out.size))
      have ltp : w1.heap.size < w4.heap.size := lt_of_cell (Vp.out 0 _ rfl).1
      have nep : ¬ w1.heap.size = w4.heap.size := by omega
      clear hb4
      unfold noDataV
      have p0 := (Vp.out 0 _ rfl).1
      have pf0 := (Vp.out 0 _ rfl).2
      have p1 := (Vp.out 1 _ rfl).1
      have pf1 := (Vp.out 1 _ rfl).2
      have p2 := (Vp.out 2 _ rfl).1
      have pf2 := (Vp.out 2 _ rfl).2
      go_wp2_with fail
      refine (toChunk_any k f b _).mono ?_
      rintro e w5 ⟨rfl, hb5⟩
      clear p0 pf0 p1 pf1 p2 pf2
      have Vp := Lib.hid (((Vp.out).alloc (.cells (List.toArray [.int .i64 0, .int .i64 0, .int .i64 0, .bool false, .bool false, .bool false, .string (ByteArray.mk #[])]) 24) (by omega)).below hb5 (by simp; omega))
      have Vv := Lib.hid ((VarN.new_at (w := w4) (d := w4.heap.size) (by simp) [.int .i64 0, .int .i64 0, .int .i64 0, .bool false, .bool false, .bool false, .string (ByteArray.mk #[])] 24).below hb5 (by simp))
      have HB5 := Lib.hid (((HB4.out).alloc (Nat.le_trans HB4.out.size (by exact Nat.le_refl _)) (.cells (List.toArray [.int .i64 0, .int .i64 0, .int .i64 0, .bool false, .bool false, .bool false, .string (ByteArray.mk #[])]) 24)).trans (hb5.mono (Nat.le_trans HB4.out.size (by simp <;> omega))))
      have ltp : w1.heap.size < w5.heap.size := lt_of_cell (Vp.out 0 _ rfl).1
      have ltv : w4.heap.size < w5.heap.size := lt_of_cell (Vv.out 0 _ rfl).1
      have nep : ¬ w1.heap.size = w5.heap.size := by omega
      have nev : ¬ w4.heap.size = w5.heap.size := by omega
      clear hb5
      go_wp2_with fail
      refine (dataGet_no k f b _ (Nat.le_trans HZ.out (by decide)) HC.out).mono ?_
      rintro e w6 ⟨rfl, hb6⟩
      have Vp := Lib.hid ((Vp.out).below hb6 ltp)
      have Vv := Lib.hid ((Vv.out).below hb6 ltv)
      have HB6 := Lib.hid (HB5.out.trans (hb6.mono HB5.out.size))
      have ltp : w1.heap.size < w6.heap.size := lt_of_cell (Vp.out 0 _ rfl).1
      have ltv : w4.heap.size < w6.heap.size := lt_of_cell (Vv.out 0 _ rfl).1
      have nep : ¬ w1.heap.size = w6.heap.size := by omega
      have nev : ¬ w4.heap.size = w6.heap.size := by omega
      clear hb6
      unfold noDataV
      have v0 := (Vv.out 0 _ rfl).1
      have vf0 := (Vv.out 0 _ rfl).2
      have v1 := (Vv.out 1 _ rfl).1
      have vf1 := (Vv.out 1 _ rfl).2
      have v2 := (Vv.out 2 _ rfl).1
      have vf2 := (Vv.out 2 _ rfl).2
      have v3 := (Vv.out 3 _ rfl).1
      have vf3 := (Vv.out 3 _ rfl).2
      have v4 := (Vv.out 4 _ rfl).1
      have vf4 := (Vv.out 4 _ rfl).2
      have v5 := (Vv.out 5 _ rfl).1
      have vf5 := (Vv.out 5 _ rfl).2
      have v6 := (Vv.out 6 _ rfl).1
      have vf6 := (Vv.out 6 _ rfl).2
      go_wp2_with fail
      refine (eqData_same 0 0 0 false false false (ByteArray.mk #[]) _).mono ?_
      rintro e w7 ⟨rfl, hb7⟩
      clear v0 vf0 v1 vf1 v2 vf2 v3 vf3 v4 vf4 v5 vf5 v6 vf6
      have Vp := Lib.hid (((Vp.out).alloc (.cells (List.toArray [.int .i64 0, .int .i64 0, .int .i64 0, .bool false, .bool false, .bool false, .string (ByteArray.mk #[])]) 24) (by omega)).below hb7 (by simp; omega))
      have Vv := Lib.hid (((Vv.out).alloc (.cells (List.toArray [.int .i64 0, .int .i64 0, .int .i64 0, .bool false, .bool false, .bool false, .string (ByteArray.mk #[])]) 24) (by omega)).below hb7 (by simp; omega))
      have Vg := Lib.hid ((VarN.new_at (w := w6) (d := w6.heap.size) (by simp) [.int .i64 0, .int .i64 0, .int .i64 0, .bool false, .bool false, .bool false, .string (ByteArray.mk #[])] 24).below hb7 (by simp))
      have HB7 := Lib.hid (((HB6.out).alloc (Nat.le_trans HB6.out.size (by exact Nat.le_refl _)) (.cells (List.toArray [.int .i64 0, .int .i64 0, .int .i64 0, .bool false, .bool false, .bool false, .string (ByteArray.mk #[])]) 24)).trans (hb7.mono (Nat.le_trans HB6.out.size (by simp <;> omega))))
      have ltp : w1.heap.size < w7.heap.size := lt_of_cell (Vp.out 0 _ rfl).1
      have ltv : w4.heap.size < w7.heap.size := lt_of_cell (Vv.out 0 _ rfl).1
      have ltg : w6.heap.size < w7.heap.size := lt_of_cell (Vg.out 0 _ rfl).1
      have nep : ¬ w1.heap.size = w7.heap.size := by omega
      have nev : ¬ w4.heap.size = w7.heap.size := by omega
      have neg : ¬ w6.heap.size = w7.heap.size := by omega
      clear hb7
      go_wp2
      go_ret
      exact ⟨rfl, HB7.out⟩
  · have HZ := Lib.hid (show 1048576 < b.size by omega)
    clear hz
    go_enter Try.func9, Try.ntmps9
    go_wp2_with fail
    refine (szChunk_no k f b _ HZ.out hm).mono ?_
    rintro e w2 ⟨rfl, hb2⟩
    have Vp := Lib.hid ((VarN.new_at (w := w1) (d := w1.heap.size) (by simp) [.int .i64 k, .int .i64 f, .string b] 41).below hb2 (by simp))
    have HB2 := Lib.hid (((hb1).alloc (Nat.le_trans hb1.size (by exact Nat.le_refl _)) (.cells (List.toArray [.int .i64 k, .int .i64 f, .string b]) 41)).trans (hb2.mono (Nat.le_trans hb1.size (by simp <;> omega))))
    have ltp : w1.heap.size < w2.heap.size := lt_of_cell (Vp.out 0 _ rfl).1
    have nep : ¬ w1.heap.size = w2.heap.size := by omega
    clear hb2
    go_wp2
    go_ret
    exact ⟨rfl, HB2.out⟩

end Go.Proofs.Ytpenkcmhmmjmeaa
