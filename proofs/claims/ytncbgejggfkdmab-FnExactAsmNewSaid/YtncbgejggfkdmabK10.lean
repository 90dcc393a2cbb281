/- The contracts of chapter 3's model and of the drawing functions for serial numbers. -/
import Derived.Test.YtncbgejggfkdmabK1
import Derived.Test.YtncbgejggfkdmabK4
import Derived.Test.YtncbgejggfkdmabG8
namespace Go.Proofs.Ytncbgejggfkdmab
open Go.RowKit

theorem ser_true {n : Int} (h : Ser n) : decide (0 ≤ n ∧ n ≤ 65535) = true := by unfold Ser at h; simp; omega
theorem ser_false {n : Int} (h : ¬ Ser n) : decide (0 ≤ n ∧ n ≤ 65535) = false := by unfold Ser at h; simp; omega

set_option maxHeartbeats 400000 in
theorem l3Ok_yes (n : Int) (w : World) (h : Ser n) :
    Calls Try.prog 44 #[.int .i64 n] w fun e w' => e = .returned (.bool true) ∧ w = w' := by
  have H := Lib.hid (ser_true h)
  clear h
  go_enter Try.func44, Try.ntmps44
  go_wp2_with fail
  refine (l6In_any n 0 65535 _).mono ?_
  rintro e w1 ⟨rfl, rfl⟩
  rw [H.out]
  go_wp2
  go_ret
  exact ⟨rfl, rfl⟩

set_option maxHeartbeats 400000 in
theorem l3Ok_no (n : Int) (w : World) (h : ¬ Ser n) :
    Calls Try.prog 44 #[.int .i64 n] w fun e w' => e = .returned (.bool false) ∧ w = w' := by
  have H := Lib.hid (ser_false h)
  clear h
  go_enter Try.func44, Try.ntmps44
  go_wp2_with fail
  refine (l6In_any n 0 65535 _).mono ?_
  rintro e w1 ⟨rfl, rfl⟩
  rw [H.out]
  go_wp2
  go_ret
  exact ⟨rfl, rfl⟩

set_option maxHeartbeats 400000 in
theorem l3Add_any (a n : Int) (w : World) (h : Ser a) :
    Calls Try.prog 89 #[.int .i64 a, .int .i64 n] w fun e w' => e = .returned (.int .i64 (addS a n)) ∧ w = w' := by
  have E := Lib.hid (rem_mod a n)
  obtain ⟨t0, t1⟩ := rem_range n
  obtain ⟨a0, a1⟩ := h
  go_enter Try.func89, Try.ntmps89
  go_wp2
  go_ret
  exact ⟨ret_i E.out, rfl⟩

end Go.Proofs.Ytncbgejggfkdmab
