/- The contracts of chapter 3's model and of the drawing functions for serial numbers. -/
import Derived.Test.YtifphigdklkpjaaK1
import Derived.Test.YtifphigdklkpjaaK4
import Derived.Test.YtifphigdklkpjaaG8
namespace Go.Proofs.Ytifphigdklkpjaa
open Go.RowKit

theorem ser_true {n : Int} (h : Ser n) : decide (0 ≤ n ∧ n ≤ 65535) = true := by unfold Ser at h; simp; omega
theorem ser_false {n : Int} (h : ¬ Ser n) : decide (0 ≤ n ∧ n ≤ 65535) = false := by unfold Ser at h; simp; omega

set_option maxHeartbeats 400000 in
theorem l3Ok_yes (n : Int) (w : World) (h : Ser n) :
    Calls Try.prog 45 #[.int .i64 n] w fun e w' => e = .returned (.bool true) ∧ w = w' := by
  have H := Lib.hid (ser_true h)
  clear h
  go_enter Try.func45, Try.ntmps45
  go_wp2_with fail
  refine (l6In_any n 0 65535 _).mono ?_
  rintro e w1 ⟨rfl, rfl⟩
  rw [H.out]
  go_wp2
  go_ret
  exact ⟨rfl, rfl⟩

set_option maxHeartbeats 400000 in
theorem l3Ok_no (n : Int) (w : World) (h : ¬ Ser n) :
    Calls Try.prog 45 #[.int .i64 n] w fun e w' => e = .returned (.bool false) ∧ w = w' := by
  have H := Lib.hid (ser_false h)
  clear h
  go_enter Try.func45, Try.ntmps45
  go_wp2_with fail
  refine (l6In_any n 0 65535 _).mono ?_
  rintro e w1 ⟨rfl, rfl⟩
  rw [H.out]
  go_wp2
  go_ret
  exact ⟨rfl, rfl⟩

end Go.Proofs.Ytifphigdklkpjaa
