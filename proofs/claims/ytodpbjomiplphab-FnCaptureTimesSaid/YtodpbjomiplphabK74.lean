/- The contracts of the laws' helpers on records: equality. -/
import Derived.Test.YtodpbjomiplphabK70
namespace Go.Proofs.Ytodpbjomiplphab
open Go.RowKit Go.PlainAid

set_option maxHeartbeats 1000000 in
theorem sameRecords_same (a b : Option Addr) (len cap cap2 : Nat) (cs : List (Int × ByteArray)) (w : World) (h : Rcs w a len cap cs) (k : Rcs w b len cap2 cs) :
    Calls Try.prog 13 #[.slice a len cap, .slice b len cap2] w fun e w' => e = .returned (.bool true) ∧ Below w.heap.size w w' := by
  have hl := h.length
  have hm := h.len_int
  have HG := Lib.hid h
  have HK := Lib.hid k
  clear h k
  go_enter Try.func13, Try.ntmps13
  go_wp2
  go_loopw [5] (fun i wr => ∃ k : Nat, k ≤ len ∧ i = .int .i64 k ∧ Hid (Below w.heap.size w wr)) (fun i _ => len - (intOf i).toNat)
  case atStart => exact ⟨0, Nat.zero_le _, rfl, Lib.hid (Below.refl _ _)⟩
  case round =>
    obtain ⟨k, hk, rfl, hbel⟩ := hrel
    by_cases hlt : k < len
    · have ga : ∃ x, a = some x := by
        rcases HG.out with ⟨_, h0, _⟩ | ⟨x, h, _⟩
        · omega
        · exact ⟨x, h⟩
      have gb : ∃ x, b = some x := by
        rcases HK.out with ⟨_, h0, _⟩ | ⟨x, h, _⟩
        · omega
        · exact ⟨x, h⟩
      obtain ⟨x, rfl⟩ := ga
      obtain ⟨y, rfl⟩ := gb
      obtain ⟨p0, p1⟩ := HG.out.at hbel.out hlt
      obtain ⟨m0, m1⟩ := HK.out.at hbel.out hlt
      obtain ⟨c1, hc1⟩ : ∃ c1, (rcAt cs k).1 = c1 := ⟨_, rfl⟩
      obtain ⟨c2, hc2⟩ : ∃ c2, (rcAt cs k).2 = c2 := ⟨_, rfl⟩
      rw [hc1] at p0 m0
      rw [hc2] at p1 m1
      clear hc1 hc2
      go_wp2_with fail
      go_quiet (fail)
      go_wp2
      go_roundw
      case rel => exact ⟨k + 1, by omega, by go_num, Lib.hid (below_drewN hbel.out _)⟩
      case measure => simp [intOf]; omega
    · obtain rfl : k = len := by omega
      go_wp2
      go_ret
      exact ⟨rfl, hbel.out⟩

end Go.Proofs.Ytodpbjomiplphab
