/- The contracts of the program's chapter 11: whether a chunk is valid. -/
import Derived.Test.YtcpdpamoddmpaaaG10
import Derived.Test.YtcpdpamoddmpaaaK13
namespace Go.Proofs.Ytcpdpamoddmpaaa
open Go.RowKit Go.PlainAid

set_option maxHeartbeats 400000 in
theorem byteValid_any (n : Int) (w : World) :
    Calls Try.prog 58 #[.int .i64 n] w fun e w' => e = .returned (.bool (decide (0 ≤ n ∧ n ≤ 255))) ∧ w = w' := by
  by_cases h : 0 ≤ n
  all_goals
    go_enter Try.func58, Try.ntmps58
    go_wp2
    go_ret
    simp [h]
    try omega

set_option maxHeartbeats 400000 in
theorem chunkValid_any (k f : Int) (b : ByteArray) (w : World) :
    Calls Try.prog 37 #[.agg #[.int .i64 k, .int .i64 f, .string b]] w fun e w' => e = .returned (.bool (chkV k f b)) ∧ Below w.heap.size w w' := by
  by_cases hk : 0 ≤ k ∧ k ≤ 255
  · have HK := Lib.hid (decide_eq_true hk)
    by_cases hf : 0 ≤ f ∧ f ≤ 255
    · have HF := Lib.hid (decide_eq_true hf)
      have E := Lib.hid (show decide ((b.size : Int) ≤ 60) = chkV k f b by
        by_cases hb : b.size ≤ 60
        · rw [chkV_yes ⟨hk, hf, hb⟩]
          exact decide_eq_true (by omega)
        · rw [chkV_no fun h => hb h.2.2]
          exact decide_eq_false (by omega))
      clear hk hf
      go_enter Try.func37, Try.ntmps37
      go_wp2_with fail
      refine (byteValid_any k _).mono ?_
      rintro e w1 ⟨rfl, rfl⟩
      rw [HK.out]
      go_wp2_with fail
      refine (byteValid_any f _).mono ?_
      rintro e w1 ⟨rfl, rfl⟩
      rw [HF.out]
      go_wp2
      go_ret
      exact ⟨ret_b E.out, below_box _ (Nat.le_refl _)⟩
    · have HF := Lib.hid (decide_eq_false hf)
      rw [chkV_no fun h => hf h.2.1]
      clear hk hf
      go_enter Try.func37, Try.ntmps37
      go_wp2_with fail
      refine (byteValid_any k _).mono ?_
      rintro e w1 ⟨rfl, rfl⟩
      rw [HK.out]
      go_wp2_with fail
      refine (byteValid_any f _).mono ?_
      rintro e w1 ⟨rfl, rfl⟩
      rw [HF.out]
      go_wp2
      go_ret
      exact ⟨rfl, below_box _ (Nat.le_refl _)⟩
  · have HK := Lib.hid (decide_eq_false hk)
    rw [chkV_no fun h => hk h.1]
    clear hk
    go_enter Try.func37, Try.ntmps37
    go_wp2_with fail
    refine (byteValid_any k _).mono ?_
    rintro e w1 ⟨rfl, rfl⟩
    rw [HK.out]
    go_wp2
    go_ret
    exact ⟨rfl, below_box _ (Nat.le_refl _)⟩

end Go.Proofs.Ytcpdpamoddmpaaa
