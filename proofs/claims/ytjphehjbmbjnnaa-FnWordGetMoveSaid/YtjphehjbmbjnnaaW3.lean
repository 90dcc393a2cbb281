/- The walk of the law that bytes beside a number do not matter: the call returns true and touches nothing that was there. -/
import Derived.Test.YtjphehjbmbjnnaaW2
namespace Go.Proofs.Ytjphehjbmbjnnaa
open Go.RowKit Go.PlainAid

def strLen : Value → Nat
  | .string x => x.size
  | _ => 0
theorem q_size (x : ByteArray) : (x ++ ByteArray.mk #[113]).size = x.size + 1 := by
  rw [ByteArray.size_append]
  rfl

set_option maxHeartbeats 1000000 in
theorem walk_fnWordGetMove (a0 : Option Addr) (len0 cap0 : Nat) (z0 : List Int) (a1 : Option Addr) (len1 cap1 : Nat) (z1 : List Int) (w : World) (w0 : IsRow .u8 w a0 len0 cap0 z0) (_w1 : IsRow .u8 w a1 len1 cap1 z1) :
    Calls Try.prog 7 #[.slice a0 len0 cap0, .slice a1 len1 cap1] w fun e w' => e = .returned (.bool true) ∧ Below w.heap.size w w' := by
  have H := Lib.hid w0
  clear w0 _w1
  by_cases hl : (1048576 : Int) < len0
  · go_enter Try.func7, Try.ntmps7
    go_wp2
    go_ret
    exact ⟨rfl, Below.refl _ _⟩
  by_cases hl1 : (1048576 : Int) < len1
  · go_enter Try.func7, Try.ntmps7
    go_wp2
    go_ret
    exact ⟨rfl, Below.refl _ _⟩
  · go_enter Try.func7, Try.ntmps7
    go_wp2_with fail
    refine (drawWordGet_any a0 len0 cap0 z0 _ H.out).mono ?_
    rintro e w1 ⟨s, n, rfl, ⟨s0, n0, n1⟩, hb1⟩
    have hs : s.size ≤ maxLen := Nat.le_trans s0 (by decide)
    have hs1 : s.size ≤ 1000 := Nat.le_trans s0 (by decide)
    by_cases h : 0 ≤ n ∧ n + 2 ≤ s.size
    · obtain ⟨h0, h1⟩ := h
      obtain ⟨p, rfl⟩ := Int.eq_ofNat_of_zero_le h0
      have h2 : p + 2 ≤ s.size := by omega
      go_wp2_with fail
      refine (wordGet_yes s p _ hs h2).mono ?_
      rintro e w2 ⟨rfl, hb2⟩
      go_wp2_with fail
      refine (sWordGet_yes s p _ hs h2).mono ?_
      rintro e w3 ⟨rfl, hb3⟩
      go_wp2
      go_loop [11] (fun v => ∃ x : ByteArray, v = .string x ∧ x.size ≤ 9) (fun v => 9 - strLen v)
      case atStart => exact ⟨_, rfl, by decide⟩
      case round =>
        obtain ⟨x, rfl, hx⟩ := hrel
        have hq := q_size x
        by_cases hlt : (x.size : Int) < (len1 : Int) % 9
        · have HQ := Lib.hid hq
          clear hq
          go_wp2
          go_round
          case rel => exact ⟨_, rfl, by rw [HQ.out]; omega⟩
          case measure => simp only [strLen]; rw [HQ.out]; omega
        · clear hq
          go_wp2_with fail
          rw [show ((p : Int) + (x.size : Int)) = ((p + x.size : Nat) : Int) by omega]
          refine (wordGet_yes (x ++ s ++ x) (p + x.size) _ (by rw [ByteArray.size_append, ByteArray.size_append]; unfold maxLen; omega) (by rw [ByteArray.size_append, ByteArray.size_append]; omega)).mono ?_
          rintro e w4 ⟨rfl, hb4⟩
          rw [be_move x s p 2 h2]
          go_wp2
          go_ret
          exact ⟨rfl, (hb1.trans (((hb2.trans (((hb3.trans ((hb4).mono hb3.size))).mono hb2.size))).mono hb1.size))⟩
    · have h' : n < 0 ∨ s.size - 2 < n := by omega
      clear h
      go_wp2_with fail
      refine (wordGet_no s n _ hs h').mono ?_
      rintro e w2 ⟨rfl, hb2⟩
      go_wp2_with fail
      refine (sWordGet_no s n _ hs h').mono ?_
      rintro e w3 ⟨rfl, hb3⟩
      go_wp2
      go_ret
      exact ⟨rfl, (hb1.trans (((hb2.trans ((hb3).mono hb2.size))).mono hb1.size))⟩

end Go.Proofs.Ytjphehjbmbjnnaa
