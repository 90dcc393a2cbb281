/- Small laws on worlds and bytes, for any program: how a new row of bytes is turned into a string. -/
import Derived.Test.YtpdoegococcblaaProg
import Derived.WalkKit
import Derived.WalkSpells
import Derived.WalkLawsBesides
import Derived.Lib.Hide
import Derived.PlainAid
namespace Go.Proofs.Ytpdoegococcblaa
open Go.RowKit

theorem conv_new2 {P : Program} (src e dst : TypeId) (hs : P.underlying src = some (.slice e)) (he : P.underlying e = some (.int .u8)) (hd : P.underlying dst = some .string) (w : World) (x y : Int) (c : Nat) :
    (convert src dst (.slice (some ⟨w.heap.size, 0, none⟩) 2 c)).run P (w.alloc (.cells #[.int .u8 x, .int .u8 y] e)) = .ok (.string (strOfNums [x, y])) (w.alloc (.cells #[.int .u8 x, .int .u8 y] e)) :=
  run_convert_bytes_arg _ src e hs he w.heap.size 0 2 c [x, y] rfl (fun i hi => by
    match i, hi with
    | 0, _ => simp
    | 1, _ => simp) dst hd

theorem conv_new4 {P : Program} (src e dst : TypeId) (hs : P.underlying src = some (.slice e)) (he : P.underlying e = some (.int .u8)) (hd : P.underlying dst = some .string) (w : World) (x y z t : Int) (c : Nat) :
    (convert src dst (.slice (some ⟨w.heap.size, 0, none⟩) 4 c)).run P (w.alloc (.cells #[.int .u8 x, .int .u8 y, .int .u8 z, .int .u8 t] e)) = .ok (.string (strOfNums [x, y, z, t])) (w.alloc (.cells #[.int .u8 x, .int .u8 y, .int .u8 z, .int .u8 t] e)) :=
  run_convert_bytes_arg _ src e hs he w.heap.size 0 4 c [x, y, z, t] rfl (fun i hi => by
    match i, hi with
    | 0, _ => simp
    | 1, _ => simp
    | 2, _ => simp
    | 3, _ => simp) dst hd

theorem or_byte (x y : Int) (hx0 : 0 ≤ x) (hx : x % 256 = 0) (hx1 : x < 1099511627776) (hy0 : 0 ≤ y) (hy : y < 256) : bits .or .i64 x y = x + y :=
  bits_join .i64 40 (by decide) (fun n h0 h1 => by
    have : n < 1099511627776 := h1
    rw [IntKind.wrap_i64]; omega) 8 x y hx0 hx hx1 hy0 hy (by have : y < 1099511627776 := by omega
                                                              exact this)

theorem xor_nonneg (a b : Int) (h1 : 0 ≤ a) (h2 : a < 4611686018427387904) (h3 : 0 ≤ b) (h4 : b < 4611686018427387904) : 0 ≤ bits .xor .i64 a b ∧ bits .xor .i64 a b < 4611686018427387904 := by
  obtain ⟨A, rfl⟩ := Int.eq_ofNat_of_zero_le h1
  obtain ⟨B, rfl⟩ := Int.eq_ofNat_of_zero_le h3
  have hx : A ^^^ B < 2 ^ 62 := Nat.xor_lt_two_pow (by omega) (by omega)
  have e : bits .xor .i64 (A : Int) (B : Int) = ((A ^^^ B : Nat) : Int) := by
    show IntKind.i64.wrap ((BitVec.ofInt 64 (A : Int) ^^^ BitVec.ofInt 64 (B : Int)).toNat : Int) = _
    have ha : A % 2 ^ 64 = A := Nat.mod_eq_of_lt (by omega)
    have hb : B % 2 ^ 64 = B := Nat.mod_eq_of_lt (by omega)
    rw [BitVec.toNat_xor, BitVec.ofInt_natCast, BitVec.ofInt_natCast, BitVec.toNat_ofNat, BitVec.toNat_ofNat, ha, hb, IntKind.wrap_i64]
    omega
  rw [e]
  constructor
  · omega
  · have : ((A ^^^ B : Nat) : Int) < ((2 ^ 62 : Nat) : Int) := by exact_mod_cast hx
    simpa using this

theorem ret_i {a b : Int} (h : a = b) : Ending.returned (.int .i64 a) = .returned (.int .i64 b) := by rw [h]
theorem ret_ib {a b : Int} {t : Bool} (h : a = b) : Ending.returned (.tuple #[.int .i64 a, .bool t]) = .returned (.tuple #[.int .i64 b, .bool t]) := by rw [h]
theorem ret_s {a b : ByteArray} (h : a = b) : Ending.returned (.string a) = .returned (.string b) := by rw [h]
theorem ret_sb {a b : ByteArray} {t : Bool} (h : a = b) : Ending.returned (.tuple #[.string a, .bool t]) = .returned (.tuple #[.string b, .bool t]) := by rw [h]
theorem ret_b {a b : Bool} (h : a = b) : Ending.returned (.bool a) = .returned (.bool b) := by rw [h]

/-- The number of k bytes of a text from a place on, the higher ones first. -/
def be (s : ByteArray) (p : Nat) : Nat → Int
  | 0 => 0
  | k + 1 => be s p k * 256 + PlainAid.bt s (p + k)
theorem be_nonneg (s : ByteArray) (p : Nat) : ∀ k, 0 ≤ be s p k
  | 0 => by simp [be]
  | k + 1 => by have := be_nonneg s p k; have := PlainAid.bt_nonneg s (p + k); simp only [be]; omega
theorem be_three (s : ByteArray) (p k : Nat) (h : k ≤ 3) : be s p k ≤ 16777215 := by
  have b0 := PlainAid.bt_le s p
  have b1 := PlainAid.bt_le s (p + 1)
  have b2 := PlainAid.bt_le s (p + 2)
  match k, h with
  | 0, _ => simp [be]
  | 1, _ => simp [be]; omega
  | 2, _ => simp [be]; omega
  | 3, _ => simp [be]; omega

theorem cell_other {w : World} {c i j : Nat} {v u : Value} (hij : i ≠ j) (h : w.cell? ⟨c, j, none⟩ = some u) : (w.setCell ⟨c, i, none⟩ v).cell? ⟨c, j, none⟩ = some u :=
  (World.cell?_setCell_other w _ _ v (by intro e; injection e; omega)).trans h
theorem cell_far {w : World} {c d i j : Nat} {v u : Value} (hcd : c ≠ d) (h : w.cell? ⟨d, j, none⟩ = some u) : (w.setCell ⟨c, i, none⟩ v).cell? ⟨d, j, none⟩ = some u :=
  (World.cell?_setCell_other w _ _ v (by intro e; injection e; omega)).trans h

theorem be_two (s : ByteArray) (p : Nat) : be s p 2 = 256 * PlainAid.bt s p + PlainAid.bt s (p + 1) := by simp [be]; omega
theorem be_four (s : ByteArray) (p : Nat) : be s p 4 = 65536 * be s p 2 + be s (p + 2) 2 := by
  simp only [be, Nat.add_assoc, Nat.add_zero, Nat.reduceAdd]
  omega
theorem str_append (xs ys : List Int) : strOfNums xs ++ strOfNums ys = strOfNums (xs ++ ys) := by
  unfold strOfNums
  rw [ByteArray.mk_append_mk, List.map_append]
/-- The four bytes of a number. -/
def longS (n : Int) : ByteArray := strOfNums [n / 256 / 256 / 256, n / 256 / 256 % 256, n / 256 % 256, n % 256]
def wordS (n : Int) : ByteArray := strOfNums [n / 256, n % 256]
theorem long_words (n : Int) : wordS (n / 65536) ++ wordS (n % 65536) = longS n := by
  unfold longS wordS
  rw [str_append]
  have e1 : n / 65536 / 256 = n / 256 / 256 / 256 := by omega
  have e2 : n / 65536 % 256 = n / 256 / 256 % 256 := by omega
  have e3 : n % 65536 / 256 = n / 256 % 256 := by omega
  have e4 : n % 65536 % 256 = n % 256 := by omega
  simp only [List.cons_append, List.nil_append, e1, e2, e3, e4]
theorem wordS_size (n : Int) : (wordS n).size = 2 := by simp [wordS, strOfNums_size]
theorem longS_size (n : Int) : (longS n).size = 4 := by simp [longS, strOfNums_size]

/-- A slice of numbers that came in: it is nil, or it leads to a row of 'cap' cells that hold the numbers 'zs'. -/
def IsRow (k : IntKind) (w : World) (a : Option Addr) (len cap : Nat) (zs : List Int) : Prop :=
  (a = none ∧ len = 0 ∧ cap = 0 ∧ zs = []) ∨
  ∃ x, a = some x ∧ len ≤ cap ∧ cap ≤ maxLen ∧ zs.length = cap ∧ (∀ i, i < zs.length → w.cell? (x.add i) = some (.int k (zs.getD i 0))) ∧ ∀ n ∈ zs, (Lit.int k n).wf = true

theorem lt_of_cell {w : World} {b o : Nat} {v : Value} (h : w.cell? ⟨b, o, none⟩ = some v) : b < w.heap.size := by
  rcases Nat.lt_or_ge b w.heap.size with g | g
  · exact g
  · exfalso
    unfold World.cell? at h
    simp [Array.getElem?_eq_none g] at h

end Go.Proofs.Ytpdoegococcblaa
