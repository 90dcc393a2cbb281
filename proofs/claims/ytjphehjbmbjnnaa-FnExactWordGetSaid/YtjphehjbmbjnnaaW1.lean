/- The walks of the laws on two-byte numbers: each call returns true and touches nothing that was there. -/
import Derived.Test.YtjphehjbmbjnnaaK2
namespace Go.Proofs.Ytjphehjbmbjnnaa
open Go.RowKit

set_option maxHeartbeats 400000 in
theorem walk_fnExactWordPut (a0 : Int) (_w0 : (Lit.int .i64 a0).wf = true) (w : World) :
    Calls Try.prog 12 #[.int .i64 a0] w fun e w' => e = .returned (.bool true) ∧ Below w.heap.size w w' := by
  by_cases h : 0 ≤ a0 ∧ a0 ≤ 65535
  · obtain ⟨h0, h1⟩ := h
    go_enter Try.func12, Try.ntmps12
    go_wp2_with (first | (go_at_call 17; refine (sWordPut_yes _ h0 h1 _).mono ?_; rintro e w' ⟨rfl, hb1⟩) | (go_at_call 16; refine (wordPut_yes _ h0 h1 _).mono ?_; rintro e w' ⟨rfl, hb2⟩))
    go_ret
    exact ⟨rfl, hb1.trans (hb2.mono hb1.size)⟩
  · have h' : a0 < 0 ∨ 65535 < a0 := by omega
    clear h
    go_enter Try.func12, Try.ntmps12
    go_wp2_with (first | (go_at_call 17; refine (sWordPut_no _ h' _).mono ?_; rintro e w' ⟨rfl, rfl⟩) | (go_at_call 16; refine (wordPut_no _ h' _).mono ?_; rintro e w' ⟨rfl, rfl⟩))
    go_ret
    exact ⟨rfl, Below.refl _ _⟩

set_option maxHeartbeats 400000 in
theorem walk_fnExactLongPut (a0 : Int) (_w0 : (Lit.int .i64 a0).wf = true) (w : World) :
    Calls Try.prog 14 #[.int .i64 a0] w fun e w' => e = .returned (.bool true) ∧ Below w.heap.size w w' := by
  by_cases h : 0 ≤ a0 ∧ a0 ≤ 4294967295
  · obtain ⟨h0, h1⟩ := h
    go_enter Try.func14, Try.ntmps14
    go_wp2_with (first | (go_at_call 23; refine (sLongPut_yes _ h0 h1 _).mono ?_; rintro e w' ⟨rfl, hb1⟩) | (go_at_call 22; refine (longPut_yes _ h0 h1 _).mono ?_; rintro e w' ⟨rfl, hb2⟩))
    go_ret
    exact ⟨rfl, hb1.trans (hb2.mono hb1.size)⟩
  · have h' : a0 < 0 ∨ 4294967295 < a0 := by omega
    clear h
    go_enter Try.func14, Try.ntmps14
    go_wp2_with (first | (go_at_call 23; refine (sLongPut_no _ h' _).mono ?_; rintro e w' ⟨rfl, rfl⟩) | (go_at_call 22; refine (longPut_no _ h' _).mono ?_; rintro e w' ⟨rfl, rfl⟩))
    go_ret
    exact ⟨rfl, Below.refl _ _⟩

set_option maxHeartbeats 400000 in
theorem walk_fnExactWordGet (a0 : ByteArray) (a1 : Int) (w0 : a0.size ≤ maxLen) (_w1 : (Lit.int .i64 a1).wf = true) (w : World) :
    Calls Try.prog 13 #[.string a0, .int .i64 a1] w fun e w' => e = .returned (.bool true) ∧ Below w.heap.size w w' := by
  have w0' := w0
  unfold maxLen at w0'
  by_cases hl : (1048576 : Int) < a0.size
  · go_enter Try.func13, Try.ntmps13
    go_wp2
    go_ret
    exact ⟨rfl, Below.refl _ _⟩
  · by_cases h : 0 ≤ a1 ∧ a1 + 2 ≤ a0.size
    · obtain ⟨h0, h1⟩ := h
      obtain ⟨p, rfl⟩ := Int.eq_ofNat_of_zero_le h0
      go_enter Try.func13, Try.ntmps13
      go_wp2_with (first | (go_at_call 20; refine (sWordGet_yes _ p _ w0 (by omega)).mono ?_; rintro e w' ⟨rfl, hb1⟩) | (go_at_call 18; refine (wordGet_yes _ p _ w0 (by omega)).mono ?_; rintro e w' ⟨rfl, hb2⟩))
      go_ret
      exact ⟨rfl, hb1.trans (hb2.mono hb1.size)⟩
    · have h' : a1 < 0 ∨ a0.size - 2 < a1 := by omega
      clear h
      go_enter Try.func13, Try.ntmps13
      go_wp2_with (first | (go_at_call 20; refine (sWordGet_no _ _ _ w0 h').mono ?_; rintro e w' ⟨rfl, hb1⟩) | (go_at_call 18; refine (wordGet_no _ _ _ w0 h').mono ?_; rintro e w' ⟨rfl, hb2⟩))
      go_ret
      exact ⟨rfl, hb1.trans (hb2.mono hb1.size)⟩

end Go.Proofs.Ytjphehjbmbjnnaa
