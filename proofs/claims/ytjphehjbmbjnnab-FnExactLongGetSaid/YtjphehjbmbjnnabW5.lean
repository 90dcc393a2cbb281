/- The walk of the law that LongGet answers as its model. -/
import Derived.Test.YtjphehjbmbjnnabK2
namespace Go.Proofs.Ytjphehjbmbjnnab
open Go.RowKit

set_option maxHeartbeats 400000 in
theorem walk_fnExactLongGet (a0 : ByteArray) (a1 : Int) (w0 : a0.size ≤ maxLen) (_w1 : (Lit.int .i64 a1).wf = true) (w : World) :
    Calls Try.prog 3 #[.string a0, .int .i64 a1] w fun e w' => e = .returned (.bool true) ∧ Below w.heap.size w w' := by
  have w0' := w0
  unfold maxLen at w0'
  by_cases hl : (1048576 : Int) < a0.size
  · go_enter Try.func3, Try.ntmps3
    go_wp2
    go_ret
    exact ⟨rfl, Below.refl _ _⟩
  · by_cases h : 0 ≤ a1 ∧ a1 + 4 ≤ a0.size
    · obtain ⟨h0, h1⟩ := h
      obtain ⟨p, rfl⟩ := Int.eq_ofNat_of_zero_le h0
      go_enter Try.func3, Try.ntmps3
      go_wp2_with (first | (go_at_call 11; refine (sLongGet_yes _ p _ w0 (by omega)).mono ?_; rintro e w' ⟨rfl, hb1⟩) | (go_at_call 12; refine (longGet_yes _ p _ w0 (by omega)).mono ?_; rintro e w' ⟨rfl, hb2⟩))
      go_ret
      exact ⟨rfl, hb1.trans (hb2.mono hb1.size)⟩
    · have h' : a1 < 0 ∨ a0.size - 4 < a1 := by omega
      clear h
      go_enter Try.func3, Try.ntmps3
      go_wp2_with (first | (go_at_call 11; refine (sLongGet_no _ _ _ w0 h').mono ?_; rintro e w' ⟨rfl, hb1⟩) | (go_at_call 12; refine (longGet_no _ _ _ w0 h').mono ?_; rintro e w' ⟨rfl, hb2⟩))
      go_ret
      exact ⟨rfl, hb1.trans (hb2.mono hb1.size)⟩

end Go.Proofs.Ytjphehjbmbjnnab
