/- Plain lemmas on reading hexadecimal digits. -/
import Derived.Test.YtjphehjbmbjnnabG3
import Derived.Lib.Bytealg
namespace Go.Proofs.Ytjphehjbmbjnnab
open Go.RowKit Go.PlainAid

/-- The value of a digit, or -1. -/
def dig (z : Int) : Int := if 48 ≤ z ∧ z ≤ 57 then z - 48 else if 97 ≤ z ∧ z ≤ 102 then z - 87 else -1
theorem dig_lo (z : Int) : -1 ≤ dig z := by unfold dig; split <;> (try split) <;> omega
theorem dig_hi (z : Int) : dig z ≤ 15 := by unfold dig; split <;> (try split) <;> omega
theorem dig_hx (k : Int) (h0 : 0 ≤ k) (h1 : k < 16) : dig (hx k) = k := by
  unfold dig hx
  split <;> split <;> (try split) <;> omega
theorem hx_dig (z : Int) (h : 0 ≤ dig z) : hx (dig z) = z := by
  unfold dig at *
  unfold hx
  split at h <;> (try split at h) <;> split <;> (try split) <;> omega
theorem dig_none (z : Int) (h : ∀ i : Nat, i < 16 → hx i ≠ z) : dig z = -1 := by
  rcases Int.lt_or_le (dig z) 0 with hd | hd
  · have := dig_lo z; omega
  · exfalso
    have h1 := dig_hi z
    have h2 := hx_dig z hd
    have h3 := h (dig z).toNat (by omega)
    rw [show (((dig z).toNat : Nat) : Int) = dig z by omega] at h3
    exact h3 h2
theorem index_dig (z : Int) (h0 : 0 ≤ z) (h1 : z ≤ 255) : Lib.indexByte [48, 49, 50, 51, 52, 53, 54, 55, 56, 57, 97, 98, 99, 100, 101, 102] z.toNat.toUInt8 = dig z := by
  have h : ∀ n : Fin 256, Lib.indexByte [48, 49, 50, 51, 52, 53, 54, 55, 56, 57, 97, 98, 99, 100, 101, 102] n.val.toUInt8 = dig n.val := by decide +kernel
  have := h ⟨z.toNat, by omega⟩
  rw [this]
  congr 1
  show ((z.toNat : Nat) : Int) = z
  omega
theorem or_nib (x y : Int) (hx0 : 0 ≤ x) (hx1 : x < 16) (hy0 : 0 ≤ y) (hy : y < 16) : bits .or .i64 (x * 16) y = 16 * x + y := by
  rw [bits_join .i64 40 (by decide) (fun n h0 h1 => by
    have : n < 1099511627776 := h1
    rw [IntKind.wrap_i64]; omega) 4 (x * 16) y (by omega) (show x * 16 % 16 = 0 by omega) (show x * 16 < 1099511627776 by omega) hy0 hy (show y < 1099511627776 by omega)]
  omega
/-- All digits of the first n bytes are right. -/
def AllDig (s : ByteArray) (n : Nat) : Prop := ∀ i, i < n → 0 ≤ dig (bt s i)
/-- The text is written in pairs of right digits, and not too long. -/
def Good (s : ByteArray) : Prop := s.size % 2 = 0 ∧ s.size ≤ 80 ∧ AllDig s s.size
/-- The numbers of the first j pairs. -/
def outL (s : ByteArray) : Nat → List Int
  | 0 => []
  | j + 1 => outL s j ++ [16 * dig (bt s (2 * j)) + dig (bt s (2 * j + 1))]
def unhex (s : ByteArray) : ByteArray := strOfNums (outL s (s.size / 2))
theorem outL_length (s : ByteArray) : ∀ j, (outL s j).length = j
  | 0 => rfl
  | j + 1 => by simp [outL, outL_length s j]
theorem outL_range (s : ByteArray) : ∀ j, AllDig s (2 * j) → ∀ z ∈ outL s j, 0 ≤ z ∧ z ≤ 255
  | 0, _, z, h => by simp [outL] at h
  | j + 1, ha, z, h => by
    have a0 := ha (2 * j) (by omega)
    have a1 := ha (2 * j + 1) (by omega)
    have a2 := dig_hi (bt s (2 * j))
    have a3 := dig_hi (bt s (2 * j + 1))
    simp only [outL, List.mem_append, List.mem_singleton] at h
    rcases h with h | rfl
    · exact outL_range s j (fun i hi => ha i (by omega)) z h
    · omega
theorem AllDig.next {s : ByteArray} {j : Nat} (h : AllDig s (2 * j)) (h0 : 0 ≤ dig (bt s (2 * j))) (h1 : 0 ≤ dig (bt s (2 * j + 1))) : AllDig s (2 * (j + 1)) := fun i hi => by
  rcases (show i < 2 * j ∨ i = 2 * j ∨ i = 2 * j + 1 by omega) with h2 | rfl | rfl
  · exact h i h2
  · exact h0
  · exact h1

end Go.Proofs.Ytjphehjbmbjnnab
