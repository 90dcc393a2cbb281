/- The contracts of the laws' helpers on what has arrived: equality, an element. -/
import Derived.Test.YtcjabomcndahbabK90
namespace Go.Proofs.Ytcjabomcndahbab
open Go.RowKit Go.PlainAid

set_option maxHeartbeats 1000000 in
theorem sameInts_same (a b : Option Addr) (len cap cap2 : Nat) (es : List Int) (w : World) (h : Ns w a len cap es) (k : Ns w b len cap2 es) :
    Calls Try.prog 41 #[.slice a len cap, .slice b len cap2] w fun e w' => e = .returned (.bool true) ∧ Below w.heap.size w w' := by
  have hl := h.length
  have hm := h.len_int
  have HG := Lib.hid h
  have HK := Lib.hid k
  clear h k
  go_enter Try.func41, Try.ntmps41
  go_wp2
  go_loopw [5] (fun i wr => ∃ k : Nat, k ≤ len ∧ i = .int .i64 k ∧ Hid (Below w.heap.size w wr)) (fun i _ => len - (intOf i).toNat)
  case atStart => exact ⟨0, Nat.zero_le _, rfl, Lib.hid (Below.refl _ _)⟩
  case round =>
    obtain ⟨k, hk, rfl, hbel⟩ := hrel
    by_cases hlt : k < len
    · obtain ⟨x, rfl⟩ := HG.out.addr hlt
      obtain ⟨y, rfl⟩ := HK.out.addr hlt
      have p0 := HG.out.at hbel.out hlt
      have m0 := HK.out.at hbel.out hlt
      obtain ⟨c1, hc1⟩ : ∃ c1, nAt es k = c1 := ⟨_, rfl⟩
      rw [hc1] at p0 m0
      clear hc1
      go_wp2_with fail
      go_quiet (fail)
      go_wp2
      go_roundw
      case rel => exact ⟨k + 1, by omega, by go_num, Lib.hid (below_drewN hbel.out _)⟩
      case measure => simp [intOf]; omega
    · obtain rfl : k = len := by omega
      go_wp2
      go_ret
      exact ⟨rfl, hbel.out⟩

set_option maxHeartbeats 1000000 in
theorem sameSeen_same (c : Int) (a b : Option Addr) (len cap cap2 : Nat) (es : List Int) (w : World) (h : Ns w a len cap es) (k : Ns w b len cap2 es) :
    Calls Try.prog 14 #[.agg #[.int .i64 c, .slice a len cap], .agg #[.int .i64 c, .slice b len cap2]] w fun e w' => e = .returned (.bool true) ∧ Below w.heap.size w w' := by
  have G1 := Lib.hid ((h.below (below_box (.cells #[.int .i64 c, .slice a len cap] 25) (Nat.le_refl _))).below (below_box (.cells #[.int .i64 c, .slice b len cap2] 25) (Nat.le_refl _)))
  have K1 := Lib.hid ((k.below (below_box (.cells #[.int .i64 c, .slice a len cap] 25) (Nat.le_refl _))).below (below_box (.cells #[.int .i64 c, .slice b len cap2] 25) (Nat.le_refl _)))
  clear h k
  go_enter Try.func14, Try.ntmps14
  go_wp2_with fail
  refine (sameInts_same a b len cap cap2 es _ G1.out K1.out).mono ?_
  rintro e w1 ⟨rfl, hb1⟩
  go_wp2
  go_ret
  exact ⟨rfl, ((below_box _ (Nat.le_refl _)).alloc (by simp) _).trans (hb1.mono (by simp; omega))⟩

end Go.Proofs.Ytcjabomcndahbab
