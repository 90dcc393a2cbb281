/- The contracts of the program's chapter 3: steps, differences by a closure, and what follows of them. -/
import Derived.Test.YtcjabomcndahbaaG8
import Derived.Deep.QuietTactic
import Derived.BigQuiet
namespace Go.Proofs.Ytcjabomcndahbaa
open Go.RowKit

set_option maxHeartbeats 400000 in
theorem serialValid_yes (n : Int) (w : World) (h : Ser n) :
    Calls Try.prog 50 #[.int .i64 n] w fun e w' => e = .returned (.bool true) ∧ w = w' := by
  obtain ⟨h0, h1⟩ := h
  go_enter Try.func50, Try.ntmps50
  go_wp2
  go_ret
  exact ⟨rfl, rfl⟩

set_option maxHeartbeats 400000 in
theorem serialValid_no (n : Int) (w : World) (h : ¬ Ser n) :
    Calls Try.prog 50 #[.int .i64 n] w fun e w' => e = .returned (.bool false) ∧ w = w' := by
  unfold Ser at h
  by_cases h0 : 0 ≤ n
  · have d1 : decide (n < 65536) = false := decide_eq_false (by omega)
    clear h
    go_enter Try.func50, Try.ntmps50
    go_wp2
    go_ret
    exact ⟨rfl, rfl⟩
  · have d0 : decide (0 ≤ n) = false := decide_eq_false h0
    clear h
    go_enter Try.func50, Try.ntmps50
    go_wp2
    go_ret
    exact ⟨rfl, rfl⟩

set_option maxHeartbeats 400000 in
theorem serialAdd_any (a n : Int) (w : World) :
    Calls Try.prog 20 #[.int .i64 a, .int .i64 n] w fun e w' => e = .returned (.int .i64 (addV a n)) ∧ w = w' := by
  by_cases h : Ser a
  · have H := Lib.hid h
    have E := Lib.hid (rem_mod a n)
    obtain ⟨t0, t1⟩ := rem_range n
    obtain ⟨a0, a1⟩ := h
    rw [addV_yes n H.out]
    go_enter Try.func20, Try.ntmps20
    go_wp2_with fail
    refine (serialValid_yes a _ H.out).mono ?_
    rintro e w1 ⟨rfl, rfl⟩
    go_wp2
    go_ret
    exact ⟨ret_i E.out, rfl⟩
  · have H := Lib.hid h
    rw [addV_no n h]
    clear h
    go_enter Try.func20, Try.ntmps20
    go_wp2_with fail
    refine (serialValid_no a _ H.out).mono ?_
    rintro e w1 ⟨rfl, rfl⟩
    go_wp2
    go_ret
    exact ⟨rfl, rfl⟩

set_option maxHeartbeats 400000 in
theorem steps_any (b a : Int) (c : Addr) (w : World) (hc : w.cell? c = some (.int .i64 a)) :
    Calls Try.prog 83 #[.int .i64 b, .pointer (some c)] w fun e w' => e = .returned (.int .i64 (diffV a b)) ∧ w = w' := by
  by_cases ha : Ser a
  · have HA := Lib.hid ha
    by_cases hb : Ser b
    · have HB := Lib.hid hb
      obtain ⟨s0, s1⟩ := addS_ser b (-a)
      obtain ⟨a0, a1⟩ := ha
      rw [diffV_yes HA.out HB.out]
      have EB := Lib.hid (addV_yes (-a) hb)
      clear hb
      go_enter Try.func83, Try.ntmps83
      go_wp2_with fail
      refine (serialValid_yes a _ HA.out).mono ?_
      rintro e w1 ⟨rfl, rfl⟩
      go_wp2_with fail
      refine (serialValid_yes b _ HB.out).mono ?_
      rintro e w1 ⟨rfl, rfl⟩
      go_wp2_with fail
      refine (serialAdd_any b (-a) _).mono ?_
      rintro e w1 ⟨rfl, rfl⟩
      rw [EB.out]
      by_cases h : 32768 < addS b (-a)
      · have E := Lib.hid (show addS b (-a) - 65536 = diffS a b by unfold diffS; rw [if_pos h])
        go_wp2
        go_ret
        exact ⟨ret_i E.out, rfl⟩
      · have E := Lib.hid (show addS b (-a) = diffS a b by unfold diffS; rw [if_neg h])
        go_wp2
        go_ret
        exact ⟨ret_i E.out, rfl⟩
    · have HB := Lib.hid hb
      clear hb ha
      rw [diffV_right a HB.out]
      go_enter Try.func83, Try.ntmps83
      go_wp2_with fail
      refine (serialValid_yes a _ HA.out).mono ?_
      rintro e w1 ⟨rfl, rfl⟩
      go_wp2_with fail
      refine (serialValid_no b _ HB.out).mono ?_
      rintro e w1 ⟨rfl, rfl⟩
      go_wp2
      go_ret
      exact ⟨rfl, rfl⟩
  · have HA := Lib.hid ha
    clear ha
    rw [diffV_left b HA.out]
    go_enter Try.func83, Try.ntmps83
    go_wp2_with fail
    refine (serialValid_no a _ HA.out).mono ?_
    rintro e w1 ⟨rfl, rfl⟩
    go_wp2
    go_ret
    exact ⟨rfl, rfl⟩

/-- The function value that counts the steps from a number which lies at c. -/
def Steps (a : Int) (e : Ending) (w : World) : Prop :=
  ∃ c : Addr, e = .returned (.func (.func 83) #[] #[.pointer (some c)]) ∧ w.cell? c = some (.int .i64 a)

set_option maxHeartbeats 400000 in
theorem stepsFrom_any (a : Int) (w : World) :
    Calls Try.prog 60 #[.int .i64 a] w fun e w' => Steps a e w' ∧ Below w.heap.size w w' := by
  have hmf : ∀ (fn : Fn) (first cap : Array Value) (w : World), (Instr.makeFunc fn first cap).run Try.prog w = .ok (.func fn first cap) w := fun _ _ _ _ => rfl
  go_enter Try.func60, Try.ntmps60
  go_wp2
  go_ret
  exact ⟨⟨_, rfl, by simp⟩, (Below.refl _ _).alloc (Nat.le_refl _) _⟩

set_option maxHeartbeats 400000 in
theorem serialDiff_any (a b : Int) (w : World) :
    Calls Try.prog 26 #[.int .i64 a, .int .i64 b] w fun e w' => e = .returned (.int .i64 (diffV a b)) ∧ Below w.heap.size w w' := by
  go_enter Try.func26, Try.ntmps26
  go_wp2_with fail
  refine (stepsFrom_any a _).mono ?_
  rintro e w1 ⟨⟨c, rfl, hc⟩, hb1⟩
  go_wp2_with fail
  refine (steps_any b a c _ hc).mono ?_
  rintro e w2 ⟨rfl, rfl⟩
  go_wp2
  go_ret
  exact ⟨rfl, hb1⟩

theorem lessV_steps {a b : Int} (ha : Ser a) (hb : Ser b) : lessV a b = (decide (0 < diffV a b) && decide (diffV a b < 32768)) := by
  rw [diffV_yes ha hb]
  by_cases h : LessS a b
  · rw [lessV_yes ha hb h]
    unfold LessS at h
    rw [decide_eq_true (show 0 < diffS a b by omega), decide_eq_true (show diffS a b < 32768 by omega)]
    rfl
  · rw [lessV_no h]
    unfold LessS at h
    by_cases h0 : 0 < diffS a b
    · rw [decide_eq_false (show ¬ diffS a b < 32768 by omega), Bool.and_false]
    · rw [decide_eq_false h0, Bool.false_and]
theorem lessV_diff (a b : Int) : lessV a b = (decide (0 < diffV a b) && decide (diffV a b < 32768)) := by
  by_cases ha : Ser a
  · by_cases hb : Ser b
    · exact lessV_steps ha hb
    · rw [lessV_right a hb, diffV_right a hb]
      decide
  · rw [lessV_left b ha, diffV_left b ha]
    decide
theorem inV_diff {n a m : Int} (h : 0 ≤ m ∧ m ≤ 32768) : inV n a m = (decide (0 ≤ diffV a n) && decide (diffV a n < m)) := by
  by_cases ha : Ser a
  · by_cases hn : Ser n
    · rw [diffV_yes ha hn]
      have g := inS_diff hn ha h.1 h.2
      by_cases hi : InS n a m
      · rw [inV_yes hi, decide_eq_true (g.1 hi).1, decide_eq_true (g.1 hi).2]
        rfl
      · rw [inV_no hi]
        by_cases h0 : 0 ≤ diffS a n
        · rw [decide_eq_false (fun h1 => hi (g.2 ⟨h0, h1⟩)), Bool.and_false]
        · rw [decide_eq_false h0, Bool.false_and]
    · rw [inV_no (fun g => hn g.1), diffV_right a hn]
      rfl
  · rw [inV_no (fun g => ha g.2.1), diffV_left n ha]
    rfl

end Go.Proofs.Ytcjabomcndahbaa
