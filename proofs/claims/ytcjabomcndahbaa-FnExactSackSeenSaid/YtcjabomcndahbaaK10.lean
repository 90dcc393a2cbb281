/- The contracts of chapter 3's model and of the drawing functions for serial numbers. -/
import Derived.Test.YtcjabomcndahbaaK1
import Derived.Test.YtcjabomcndahbaaK4
import Derived.Test.YtcjabomcndahbaaG8
namespace Go.Proofs.Ytcjabomcndahbaa
open Go.RowKit

theorem ser_true {n : Int} (h : Ser n) : decide (0 ≤ n ∧ n ≤ 65535) = true := by unfold Ser at h; simp; omega
theorem ser_false {n : Int} (h : ¬ Ser n) : decide (0 ≤ n ∧ n ≤ 65535) = false := by unfold Ser at h; simp; omega

set_option maxHeartbeats 400000 in
theorem l3Ok_yes (n : Int) (w : World) (h : Ser n) :
    Calls Try.prog 51 #[.int .i64 n] w fun e w' => e = .returned (.bool true) ∧ w = w' := by
  have H := Lib.hid (ser_true h)
  clear h
  go_enter Try.func51, Try.ntmps51
  go_wp2_with fail
  refine (l6In_any n 0 65535 _).mono ?_
  rintro e w1 ⟨rfl, rfl⟩
  rw [H.out]
  go_wp2
  go_ret
  exact ⟨rfl, rfl⟩

set_option maxHeartbeats 400000 in
theorem l3Ok_no (n : Int) (w : World) (h : ¬ Ser n) :
    Calls Try.prog 51 #[.int .i64 n] w fun e w' => e = .returned (.bool false) ∧ w = w' := by
  have H := Lib.hid (ser_false h)
  clear h
  go_enter Try.func51, Try.ntmps51
  go_wp2_with fail
  refine (l6In_any n 0 65535 _).mono ?_
  rintro e w1 ⟨rfl, rfl⟩
  rw [H.out]
  go_wp2
  go_ret
  exact ⟨rfl, rfl⟩

set_option maxHeartbeats 400000 in
theorem l3Add_any (a n : Int) (w : World) (h : Ser a) :
    Calls Try.prog 52 #[.int .i64 a, .int .i64 n] w fun e w' => e = .returned (.int .i64 (addS a n)) ∧ w = w' := by
  have E := Lib.hid (rem_mod a n)
  obtain ⟨t0, t1⟩ := rem_range n
  obtain ⟨a0, a1⟩ := h
  go_enter Try.func52, Try.ntmps52
  go_wp2
  go_ret
  exact ⟨ret_i E.out, rfl⟩

set_option maxHeartbeats 400000 in
theorem l3Diff_any (a b : Int) (w : World) (ha : Ser a) (hb : Ser b) :
    Calls Try.prog 57 #[.int .i64 a, .int .i64 b] w fun e w' => e = .returned (.int .i64 (diffS a b)) ∧ w = w' := by
  obtain ⟨s0, s1⟩ := addS_ser b (-a)
  have HB := Lib.hid hb
  obtain ⟨a0, a1⟩ := ha
  clear hb
  go_enter Try.func57, Try.ntmps57
  go_wp2_with fail
  refine (l3Add_any b (-a) _ HB.out).mono ?_
  rintro e w1 ⟨rfl, rfl⟩
  by_cases h : 32768 < addS b (-a)
  · have E := Lib.hid (show addS b (-a) - 65536 = diffS a b by unfold diffS; rw [if_pos h])
    go_wp2
    go_ret
    exact ⟨ret_i E.out, rfl⟩
  · have E := Lib.hid (show addS b (-a) = diffS a b by unfold diffS; rw [if_neg h])
    go_wp2
    go_ret
    exact ⟨ret_i E.out, rfl⟩

set_option maxHeartbeats 400000 in
theorem sSerialIn_any (n a m : Int) (w : World) :
    Calls Try.prog 25 #[.int .i64 n, .int .i64 a, .int .i64 m] w fun e w' => e = .returned (.bool (inV n a m)) ∧ w = w' := by
  by_cases hn : Ser n
  · have HN := Lib.hid hn
    clear hn
    by_cases ha : Ser a
    · have HA := Lib.hid ha
      have a0 := ha.1
      have a1 := ha.2
      clear ha
      by_cases hm : 0 ≤ m ∧ m ≤ 32768
      · have HM := Lib.hid (decide_eq_true hm)
        by_cases hl : addS n (-a) < m
        · have HL := Lib.hid (show InS n a m from ⟨HN.out, HA.out, hm.1, hm.2, hl⟩)
          clear hm
          rw [inV_yes HL.out]
          go_enter Try.func25, Try.ntmps25
          go_wp2_with fail
          refine (l3Ok_yes n _ HN.out).mono ?_
          rintro e w1 ⟨rfl, rfl⟩
          go_wp2_with fail
          refine (l3Ok_yes a _ HA.out).mono ?_
          rintro e w1 ⟨rfl, rfl⟩
          go_wp2_with fail
          refine (l6In_any m 0 32768 _).mono ?_
          rintro e w1 ⟨rfl, rfl⟩
          rw [HM.out]
          go_wp2_with fail
          refine (l3Add_any n (-a) _ HN.out).mono ?_
          rintro e w1 ⟨rfl, rfl⟩
          go_wp2
          go_ret
          exact ⟨rfl, rfl⟩
        · have HL := Lib.hid (show ¬ InS n a m from fun g => hl g.2.2.2.2)
          clear hm
          have d2 : decide (addS n (-a) < m) = false := decide_eq_false hl
          rw [inV_no HL.out]
          go_enter Try.func25, Try.ntmps25
          go_wp2_with fail
          refine (l3Ok_yes n _ HN.out).mono ?_
          rintro e w1 ⟨rfl, rfl⟩
          go_wp2_with fail
          refine (l3Ok_yes a _ HA.out).mono ?_
          rintro e w1 ⟨rfl, rfl⟩
          go_wp2_with fail
          refine (l6In_any m 0 32768 _).mono ?_
          rintro e w1 ⟨rfl, rfl⟩
          rw [HM.out]
          go_wp2_with fail
          refine (l3Add_any n (-a) _ HN.out).mono ?_
          rintro e w1 ⟨rfl, rfl⟩
          go_wp2
          go_ret
          exact ⟨rfl, rfl⟩
      · have HM := Lib.hid (decide_eq_false hm)
        rw [inV_many_no hm]
        clear hm
        go_enter Try.func25, Try.ntmps25
        go_wp2_with fail
        refine (l3Ok_yes n _ HN.out).mono ?_
        rintro e w1 ⟨rfl, rfl⟩
        go_wp2_with fail
        refine (l3Ok_yes a _ HA.out).mono ?_
        rintro e w1 ⟨rfl, rfl⟩
        go_wp2_with fail
        refine (l6In_any m 0 32768 _).mono ?_
        rintro e w1 ⟨rfl, rfl⟩
        rw [HM.out]
        go_wp2
        go_ret
        exact ⟨rfl, rfl⟩
    · have HA := Lib.hid ha
      clear ha
      rw [inV_no (fun g => HA.out g.2.1)]
      go_enter Try.func25, Try.ntmps25
      go_wp2_with fail
      refine (l3Ok_yes n _ HN.out).mono ?_
      rintro e w1 ⟨rfl, rfl⟩
      go_wp2_with fail
      refine (l3Ok_no a _ HA.out).mono ?_
      rintro e w1 ⟨rfl, rfl⟩
      go_wp2
      go_ret
      exact ⟨rfl, rfl⟩
  · have HN := Lib.hid hn
    clear hn
    rw [inV_no (fun g => HN.out g.1)]
    go_enter Try.func25, Try.ntmps25
    go_wp2_with fail
    refine (l3Ok_no n _ HN.out).mono ?_
    rintro e w1 ⟨rfl, rfl⟩
    go_wp2
    go_ret
    exact ⟨rfl, rfl⟩

end Go.Proofs.Ytcjabomcndahbaa
