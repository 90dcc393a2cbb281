/- Plain lemmas on hexadecimal digits. -/
import Derived.Test.YtjphehjbmbjnnabG2
import Derived.Lib.UnsafeStr
namespace Go.Proofs.Ytjphehjbmbjnnab
open Go.RowKit Go.PlainAid

def digs : ByteArray := { data := #[48, 49, 50, 51, 52, 53, 54, 55, 56, 57, 97, 98, 99, 100, 101, 102] }
/-- The digit of a number below 16. -/
def hx (k : Int) : Int := if k < 10 then 48 + k else 87 + k
theorem hx_bt (k : Int) (h0 : 0 ≤ k) (h1 : k < 16) : bt { data := #[48, 49, 50, 51, 52, 53, 54, 55, 56, 57, 97, 98, 99, 100, 101, 102] } k.toNat = hx k := by
  rcases (show k = 0 ∨ k = 1 ∨ k = 2 ∨ k = 3 ∨ k = 4 ∨ k = 5 ∨ k = 6 ∨ k = 7 ∨ k = 8 ∨ k = 9 ∨ k = 10 ∨ k = 11 ∨ k = 12 ∨ k = 13 ∨ k = 14 ∨ k = 15 by omega) with rfl | rfl | rfl | rfl | rfl | rfl | rfl | rfl | rfl | rfl | rfl | rfl | rfl | rfl | rfl | rfl
  all_goals rfl
theorem hx_range (k : Int) (h0 : 0 ≤ k) (h1 : k < 16) : 48 ≤ hx k ∧ hx k ≤ 102 := by
  unfold hx
  split <;> omega
theorem index_hex {P : Program} (t : TypeId) (ht : P.underlying t = some .string) (q : IntKind) (k : Int) (h0 : 0 ≤ k) (h1 : k < 16) (w : World) :
    (Instr.index t (.string { data := #[48, 49, 50, 51, 52, 53, 54, 55, 56, 57, 97, 98, 99, 100, 101, 102] }) (.int q k)).run P w = .ok (.int .u8 (hx k)) w := by
  have hsz : ((ByteArray.mk #[48, 49, 50, 51, 52, 53, 54, 55, 56, 57, 97, 98, 99, 100, 101, 102]).size : Int) = 16 := rfl
  rw [run_index_string w t _ q k ht]
  have hb := hx_bt k h0 h1
  have hlt : k.toNat < (ByteArray.mk #[48, 49, 50, 51, 52, 53, 54, 55, 56, 57, 97, 98, 99, 100, 101, 102]).size := by omega
  rw [dif_pos ⟨h0, by omega⟩, ← hb, ← get_bt _ _ hlt]
theorem u8_quo (x : Int) (h0 : 0 ≤ x) (h1 : x ≤ 255) : IntKind.u8.wrap (x.tdiv 16) = x / 16 := by
  rw [Int.tdiv_eq_ediv_of_nonneg h0, IntKind.wrap_u8]
  omega
theorem u8_rem (x : Int) (h0 : 0 ≤ x) : IntKind.u8.wrap (x.tmod 16) = x % 16 := by
  rw [Int.tmod_eq_emod_of_nonneg h0, IntKind.wrap_u8]
  omega
/-- The digits of the first j bytes of a text. -/
def hexL (s : ByteArray) : Nat → List Int
  | 0 => []
  | j + 1 => hexL s j ++ [hx (bt s j / 16), hx (bt s j % 16)]
def hexS (s : ByteArray) : ByteArray := strOfNums (hexL s s.size)
theorem hexL_length (s : ByteArray) : ∀ j, (hexL s j).length = 2 * j
  | 0 => rfl
  | j + 1 => by simp [hexL, hexL_length s j]; omega
theorem hexS_size (s : ByteArray) : (hexS s).size = 2 * s.size := by simp [hexS, strOfNums_size, hexL_length]

theorem nums_cells : ∀ (xs : List Int), (∀ z ∈ xs, 0 ≤ z ∧ z ≤ 255) → xs.map (Value.int .u8) = Lib.byteCells (xs.map fun n => UInt8.ofNat n.toNat)
  | [], _ => rfl
  | z :: xs, h => by
    have h0 := h z (by simp)
    have hz : ((UInt8.ofNat z.toNat).toNat : Int) = z := by simp; omega
    have ih := nums_cells xs (fun y hy => h y (by simp [hy]))
    simp only [List.map_cons, Lib.byteCells] at ih ⊢
    rw [ih, hz]
theorem hexL_range (s : ByteArray) : ∀ j, ∀ z ∈ hexL s j, 0 ≤ z ∧ z ≤ 255
  | 0, z, h => by simp [hexL] at h
  | j + 1, z, h => by
    have b0 := bt_nonneg s j
    have b1 := bt_le s j
    have h1 := hx_range (bt s j / 16) (by omega) (by omega)
    have h2 := hx_range (bt s j % 16) (by omega) (by omega)
    simp only [hexL, List.mem_append, List.mem_cons, List.not_mem_nil, or_false] at h
    rcases h with h | rfl | rfl
    · exact hexL_range s j z h
    · omega
    · omega
theorem and15 (x : Int) (h0 : 0 ≤ x) (h1 : x ≤ 255) : bits .and .u8 x 15 = x % 16 :=
  bits_mask .u8 8 (by decide) (fun n h2 h3 => wraps_u8 n h2 h3) 4 (by decide) x h0 (show x < 256 by omega)

end Go.Proofs.Ytjphehjbmbjnnab
