/- The contracts of the program's chapter 3: steps, differences by a closure, and what follows of them. -/
import Derived.Test.YtncbgejggfkdmabG8
import Derived.Deep.QuietTactic
import Derived.BigQuiet
namespace Go.Proofs.Ytncbgejggfkdmab
open Go.RowKit

set_option maxHeartbeats 400000 in
theorem serialValid_yes (n : Int) (w : World) (h : Ser n) :
    Calls Try.prog 81 #[.int .i64 n] w fun e w' => e = .returned (.bool true) ∧ w = w' := by
  obtain ⟨h0, h1⟩ := h
  go_enter Try.func81, Try.ntmps81
  go_wp2
  go_ret
  exact ⟨rfl, rfl⟩

set_option maxHeartbeats 400000 in
theorem serialValid_no (n : Int) (w : World) (h : ¬ Ser n) :
    Calls Try.prog 81 #[.int .i64 n] w fun e w' => e = .returned (.bool false) ∧ w = w' := by
  unfold Ser at h
  by_cases h0 : 0 ≤ n
  · have d1 : decide (n < 65536) = false := decide_eq_false (by omega)
    clear h
    go_enter Try.func81, Try.ntmps81
    go_wp2
    go_ret
    exact ⟨rfl, rfl⟩
  · have d0 : decide (0 ≤ n) = false := decide_eq_false h0
    clear h
    go_enter Try.func81, Try.ntmps81
    go_wp2
    go_ret
    exact ⟨rfl, rfl⟩

set_option maxHeartbeats 400000 in
theorem serialAdd_any (a n : Int) (w : World) :
    Calls Try.prog 80 #[.int .i64 a, .int .i64 n] w fun e w' => e = .returned (.int .i64 (addV a n)) ∧ w = w' := by
  by_cases h : Ser a
  · have H := Lib.hid h
    have E := Lib.hid (rem_mod a n)
    obtain ⟨t0, t1⟩ := rem_range n
    obtain ⟨a0, a1⟩ := h
    rw [addV_yes n H.out]
    go_enter Try.func80, Try.ntmps80
    go_wp2_with fail
    refine (serialValid_yes a _ H.out).mono ?_
    rintro e w1 ⟨rfl, rfl⟩
    go_wp2
    go_ret
    exact ⟨ret_i E.out, rfl⟩
  · have H := Lib.hid h
    rw [addV_no n h]
    clear h
    go_enter Try.func80, Try.ntmps80
    go_wp2_with fail
    refine (serialValid_no a _ H.out).mono ?_
    rintro e w1 ⟨rfl, rfl⟩
    go_wp2
    go_ret
    exact ⟨rfl, rfl⟩

theorem lessV_steps {a b : Int} (ha : Ser a) (hb : Ser b) : lessV a b = (decide (0 < diffV a b) && decide (diffV a b < 32768)) := by
  rw [diffV_yes ha hb]
  by_cases h : LessS a b
  · rw [lessV_yes ha hb h]
    unfold LessS at h
    rw [decide_eq_true (show 0 < diffS a b by omega), decide_eq_true (show diffS a b < 32768 by omega)]
    rfl
  · rw [lessV_no h]
    unfold LessS at h
    by_cases h0 : 0 < diffS a b
    · rw [decide_eq_false (show ¬ diffS a b < 32768 by omega), Bool.and_false]
    · rw [decide_eq_false h0, Bool.false_and]
theorem lessV_diff (a b : Int) : lessV a b = (decide (0 < diffV a b) && decide (diffV a b < 32768)) := by
  by_cases ha : Ser a
  · by_cases hb : Ser b
    · exact lessV_steps ha hb
    · rw [lessV_right a hb, diffV_right a hb]
      decide
  · rw [lessV_left b ha, diffV_left b ha]
    decide
theorem inV_diff {n a m : Int} (h : 0 ≤ m ∧ m ≤ 32768) : inV n a m = (decide (0 ≤ diffV a n) && decide (diffV a n < m)) := by
  by_cases ha : Ser a
  · by_cases hn : Ser n
    · rw [diffV_yes ha hn]
      have g := inS_diff hn ha h.1 h.2
      by_cases hi : InS n a m
      · rw [inV_yes hi, decide_eq_true (g.1 hi).1, decide_eq_true (g.1 hi).2]
        rfl
      · rw [inV_no hi]
        by_cases h0 : 0 ≤ diffS a n
        · rw [decide_eq_false (fun h1 => hi (g.2 ⟨h0, h1⟩)), Bool.and_false]
        · rw [decide_eq_false h0, Bool.false_and]
    · rw [inV_no (fun g => hn g.1), diffV_right a hn]
      rfl
  · rw [inV_no (fun g => ha g.2.1), diffV_left n ha]
    rfl

end Go.Proofs.Ytncbgejggfkdmab
