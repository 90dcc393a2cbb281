/- The contracts of the reading functions of chapter 1: the cursor, WordGet and LongGet, for every text and place. -/
import Derived.Test.YtpdoegococcblaaK1
import Derived.PlainAid
namespace Go.Proofs.Ytpdoegococcblaa
open Go.RowKit Go.PlainAid

/-! The model's readers. -/
set_option maxHeartbeats 400000 in
theorem l1At_any (s : ByteArray) (p : Nat) (w : World) (hs : s.size ≤ maxLen) (h : p + 2 ≤ s.size) :
    Calls Try.prog 113 #[.string s, .int .i64 p] w fun e w' => e = .returned (.int .i64 (256 * bt s p + bt s (p + 1))) ∧ ∃ q, w' = w.drewN q := by
  unfold maxLen at hs
  have i0 : (0 : Int) ≤ p := by omega
  have i1 : (p : Int) < s.size := by omega
  have i2 : (p : Int) + 1 < s.size := by omega
  have hbt := get_bt s
  have b0 := bt_nonneg s p
  have b0' := bt_le s p
  have b1 := bt_nonneg s (p + 1)
  have b1' := bt_le s (p + 1)
  go_enter Try.func113, Try.ntmps113
  go_wp2
  go_quiet (fail)
  go_wp2
  go_ret
  exact ⟨rfl, _, rfl⟩

end Go.Proofs.Ytpdoegococcblaa
