/- The contracts of the laws' helpers on what has arrived: equality, an element. -/
import Derived.Test.YtcjabomcndahbaaK90
namespace Go.Proofs.Ytcjabomcndahbaa
open Go.RowKit Go.PlainAid

set_option maxHeartbeats 1000000 in
theorem sameInts_same (a b : Option Addr) (len cap cap2 : Nat) (es : List Int) (w : World) (h : Ns w a len cap es) (k : Ns w b len cap2 es) :
    Calls Try.prog 53 #[.slice a len cap, .slice b len cap2] w fun e w' => e = .returned (.bool true) ∧ Below w.heap.size w w' := by
  have hl := h.length
  have hm := h.len_int
  have HG := Lib.hid h
  have HK := Lib.hid k
  clear h k
  go_enter Try.func53, Try.ntmps53
  go_wp2
  go_loopw [5] (fun i wr => ∃ k : Nat, k ≤ len ∧ i = .int .i64 k ∧ Hid (Below w.heap.size w wr)) (fun i _ => len - (intOf i).toNat)
  case atStart => exact ⟨0, Nat.zero_le _, rfl, Lib.hid (Below.refl _ _)⟩
  case round =>
    obtain ⟨k, hk, rfl, hbel⟩ := hrel
    by_cases hlt : k < len
    · obtain ⟨x, rfl⟩ := HG.out.addr hlt
      obtain ⟨y, rfl⟩ := HK.out.addr hlt
      have p0 := HG.out.at hbel.out hlt
      have m0 := HK.out.at hbel.out hlt
      obtain ⟨c1, hc1⟩ : ∃ c1, nAt es k = c1 := ⟨_, rfl⟩
      rw [hc1] at p0 m0
      clear hc1
      go_wp2_with fail
      go_quiet (fail)
      go_wp2
      go_roundw
      case rel => exact ⟨k + 1, by omega, by go_num, Lib.hid (below_drewN hbel.out _)⟩
      case measure => simp [intOf]; omega
    · obtain rfl : k = len := by omega
      go_wp2
      go_ret
      exact ⟨rfl, hbel.out⟩

set_option maxHeartbeats 1000000 in
theorem sameSeen_same (c : Int) (a b : Option Addr) (len cap cap2 : Nat) (es : List Int) (w : World) (h : Ns w a len cap es) (k : Ns w b len cap2 es) :
    Calls Try.prog 18 #[.agg #[.int .i64 c, .slice a len cap], .agg #[.int .i64 c, .slice b len cap2]] w fun e w' => e = .returned (.bool true) ∧ Below w.heap.size w w' := by
  have G1 := Lib.hid ((h.below (below_box (.cells #[.int .i64 c, .slice a len cap] 26) (Nat.le_refl _))).below (below_box (.cells #[.int .i64 c, .slice b len cap2] 26) (Nat.le_refl _)))
  have K1 := Lib.hid ((k.below (below_box (.cells #[.int .i64 c, .slice a len cap] 26) (Nat.le_refl _))).below (below_box (.cells #[.int .i64 c, .slice b len cap2] 26) (Nat.le_refl _)))
  clear h k
  go_enter Try.func18, Try.ntmps18
  go_wp2_with fail
  refine (sameInts_same a b len cap cap2 es _ G1.out K1.out).mono ?_
  rintro e w1 ⟨rfl, hb1⟩
  go_wp2
  go_ret
  exact ⟨rfl, ((below_box _ (Nat.le_refl _)).alloc (by simp) _).trans (hb1.mono (by simp; omega))⟩

set_option maxHeartbeats 1000000 in
theorem hasInt_any (a : Option Addr) (len cap : Nat) (es : List Int) (n : Int) (w : World) (h : Ns w a len cap es) :
    Calls Try.prog 27 #[.slice a len cap, .int .i64 n] w fun e w' => e = .returned (.bool (decide (n ∈ es))) ∧ Below w.heap.size w w' := by
  have hl := h.length
  have hm := h.len_int
  have HG := Lib.hid h
  clear h
  go_enter Try.func27, Try.ntmps27
  go_wp2
  go_loopw [5] (fun i wr => ∃ k : Nat, k ≤ len ∧ i = .int .i64 k ∧ Hid (n ∉ es.take k) ∧ Hid (Below w.heap.size w wr)) (fun i _ => len - (intOf i).toNat)
  case atStart => exact ⟨0, Nat.zero_le _, rfl, Lib.hid (by simp), Lib.hid (Below.refl _ _)⟩
  case round =>
    obtain ⟨k, hk, rfl, hno, hbel⟩ := hrel
    by_cases hlt : k < len
    · obtain ⟨x, rfl⟩ := HG.out.addr hlt
      have p0 := HG.out.at hbel.out hlt
      have hkl : k < es.length := by omega
      obtain ⟨e, he⟩ : ∃ e, nAt es k = e := ⟨_, rfl⟩
      rw [he] at p0
      have HM := Lib.hid (nAt_mem hkl)
      have HE := Lib.hid he
      clear he
      by_cases hen : e = n
      · have V := Lib.hid (decide_eq_true (p := n ∈ es) (by rw [← hen, ← HE.out]; exact HM.out))
        subst hen
        go_wp2
        go_ret
        exact ⟨ret_b V.out.symm, hbel.out⟩
      · have O := Lib.hid (show n ∉ es.take (k + 1) by
          rw [take_nAt hkl, HE.out]
          intro h
          rcases List.mem_append.1 h with h | h
          · exact hno.out h
          · exact hen (List.mem_singleton.1 h).symm)
        go_wp2
        go_roundw
        case rel => exact ⟨k + 1, by omega, by go_num, O, hbel⟩
        case measure => simp [intOf]; omega
    · obtain rfl : k = len := by omega
      have V := Lib.hid (decide_eq_false (p := n ∈ es) (by have := hno.out; rwa [List.take_of_length_le (by omega)] at this))
      go_wp2
      go_ret
      exact ⟨ret_b V.out.symm, hbel.out⟩

end Go.Proofs.Ytcjabomcndahbaa
