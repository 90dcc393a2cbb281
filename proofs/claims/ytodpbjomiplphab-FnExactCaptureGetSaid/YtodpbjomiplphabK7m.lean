/- The contract of the helper that repeats a text. -/
import Derived.Test.YtodpbjomiplphabG2
import Derived.Deep.QuietTactic
import Derived.BigQuiet
namespace Go.Proofs.Ytodpbjomiplphab
open Go.RowKit Go.PlainAid

def strSize : Value → Nat
  | .string x => x.size
  | _ => 0
/-- A text of the given size, the world as it was. -/
def ManyStr (T : Nat) (w : World) (e : Ending) (w' : World) : Prop := ∃ t : ByteArray, e = .returned (.string t) ∧ t.size = T ∧ w = w'
theorem half_odd (a o k : Nat) (h : k % 2 = 1) : o + a + (a + a) * (k / 2) = o + a * k := by
  have e : k = 2 * (k / 2) + 1 := by omega
  have : a * k = 2 * (a * (k / 2)) + a := by
    conv => lhs; rw [e]
    rw [Nat.mul_add, Nat.mul_one, Nat.mul_left_comm]
  rw [this, Nat.add_mul]
  omega
theorem half_even (a o k : Nat) (h : k % 2 = 0) : o + (a + a) * (k / 2) = o + a * k := by
  have e : k = 2 * (k / 2) := by omega
  have : a * k = 2 * (a * (k / 2)) := by
    conv => lhs; rw [e]
    rw [Nat.mul_left_comm]
  rw [this, Nat.add_mul]
  omega
theorem le_mul_pos (a k : Nat) (h : 0 < k) : a ≤ a * k := Nat.le_mul_of_pos_right a h

set_option maxHeartbeats 1000000 in
theorem l6Many_any (s : ByteArray) (n : Nat) (w : World) (hs : s.size ≤ 100) (hn : n ≤ 1000) :
    Calls Try.prog 52 #[.string s, .int .i64 n] w (ManyStr (s.size * n) w) := by
  have hT : s.size * n ≤ 100000 := Nat.mul_le_mul hs hn
  obtain ⟨T, hTe⟩ : ∃ T, T = s.size * n := ⟨_, rfl⟩
  rw [← hTe] at hT ⊢
  have HT := Lib.hid hTe
  clear hTe
  go_enter Try.func52, Try.ntmps52
  go_wp2
  go_loop [0, 1, 5] (fun a k o => ∃ (A O : ByteArray) (K : Nat), a = .string A ∧ k = .int .i64 K ∧ o = .string O ∧ K ≤ n ∧ A.size ≤ 2 * T + 100 ∧ Hid (O.size + A.size * K = T)) (fun _ k _ => (intOf k).toNat)
  case atStart => exact ⟨s, ⟨#[]⟩, n, rfl, rfl, rfl, Nat.le_refl _, by omega, by show 0 + s.size * n = T; rw [HT.out]; omega⟩
  case round =>
    obtain ⟨A, O, K, rfl, rfl, rfl, hK, hA, HH⟩ := hrel
    by_cases h0 : 0 < K
    · have hm := le_mul_pos A.size K h0
      have hA2 : A.size ≤ T ∧ O.size ≤ T := by have := HH.out; omega
      obtain ⟨hA3, hO3⟩ := hA2
      clear hm
      by_cases ho : K % 2 = 1
      · have ho1 : ((K : Int) % 2 == 1) = true := by simp; omega
        have HO := Lib.hid ho
        clear ho
        go_wp2
        go_round
        case rel => exact ⟨_, _, K / 2, rfl, by go_num, rfl, by omega, by rw [ByteArray.size_append]; omega, by show _ + _ = T; rw [ByteArray.size_append, ByteArray.size_append, half_odd _ _ _ HO.out]; exact HH.out⟩
        case measure => simp [intOf]; omega
      · have ho1 : ((K : Int) % 2 == 1) = false := by simp; omega
        have HO := Lib.hid (show K % 2 = 0 by omega)
        clear ho
        go_wp2
        go_round
        case rel => exact ⟨_, _, K / 2, rfl, by go_num, rfl, by omega, by rw [ByteArray.size_append]; omega, by show _ + _ = T; rw [ByteArray.size_append, half_even _ _ _ HO.out]; exact HH.out⟩
        case measure => simp [intOf]; omega
    · have hk0 : ¬ (0 : Int) < K := by omega
      go_wp2
      go_ret
      exact ⟨O, rfl, by have := HH.out; rw [show K = 0 by omega, Nat.mul_zero] at this; omega, rfl⟩

end Go.Proofs.Ytodpbjomiplphab
