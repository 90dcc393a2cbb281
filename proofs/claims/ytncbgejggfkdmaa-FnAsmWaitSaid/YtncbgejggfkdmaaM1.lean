/- Texts that a proof needs, merged: G, G2, G9, G10, K1, K2, K13, K3, K4, K4a, G8, G11, G20, K130, G21. -/
import Derived.Test.YtncbgejggfkdmaaProg
import Derived.WalkKit
import Derived.WalkSpells
import Derived.WalkLawsBesides
import Derived.Lib.Hide
import Derived.PlainAid
import Derived.Deep.QuietTactic
import Derived.BigQuiet
import Derived.Deep.RegionHeldLaw
import Derived.IntWalk
import Derived.OpenShut
import Derived.Laws.OwnMore

/- Small laws on worlds and bytes, for any program: how a new row of bytes is turned into a string. -/
namespace Go.Proofs.Ytncbgejggfkdmaa
open Go.RowKit

theorem conv_new2 {P : Program} (src e dst : TypeId) (hs : P.underlying src = some (.slice e)) (he : P.underlying e = some (.int .u8)) (hd : P.underlying dst = some .string) (w : World) (x y : Int) (c : Nat) :
    (convert src dst (.slice (some ⟨w.heap.size, 0, none⟩) 2 c)).run P (w.alloc (.cells #[.int .u8 x, .int .u8 y] e)) = .ok (.string (strOfNums [x, y])) (w.alloc (.cells #[.int .u8 x, .int .u8 y] e)) :=
  run_convert_bytes_arg _ src e hs he w.heap.size 0 2 c [x, y] rfl (fun i hi => by
    match i, hi with
    | 0, _ => simp
    | 1, _ => simp) dst hd

theorem conv_new4 {P : Program} (src e dst : TypeId) (hs : P.underlying src = some (.slice e)) (he : P.underlying e = some (.int .u8)) (hd : P.underlying dst = some .string) (w : World) (x y z t : Int) (c : Nat) :
    (convert src dst (.slice (some ⟨w.heap.size, 0, none⟩) 4 c)).run P (w.alloc (.cells #[.int .u8 x, .int .u8 y, .int .u8 z, .int .u8 t] e)) = .ok (.string (strOfNums [x, y, z, t])) (w.alloc (.cells #[.int .u8 x, .int .u8 y, .int .u8 z, .int .u8 t] e)) :=
  run_convert_bytes_arg _ src e hs he w.heap.size 0 4 c [x, y, z, t] rfl (fun i hi => by
    match i, hi with
    | 0, _ => simp
    | 1, _ => simp
    | 2, _ => simp
    | 3, _ => simp) dst hd

theorem or_byte (x y : Int) (hx0 : 0 ≤ x) (hx : x % 256 = 0) (hx1 : x < 1099511627776) (hy0 : 0 ≤ y) (hy : y < 256) : bits .or .i64 x y = x + y :=
  bits_join .i64 40 (by decide) (fun n h0 h1 => by
    have : n < 1099511627776 := h1
    rw [IntKind.wrap_i64]; omega) 8 x y hx0 hx hx1 hy0 hy (by have : y < 1099511627776 := by omega
                                                              exact this)

theorem xor_nonneg (a b : Int) (h1 : 0 ≤ a) (h2 : a < 4611686018427387904) (h3 : 0 ≤ b) (h4 : b < 4611686018427387904) : 0 ≤ bits .xor .i64 a b ∧ bits .xor .i64 a b < 4611686018427387904 := by
  obtain ⟨A, rfl⟩ := Int.eq_ofNat_of_zero_le h1
  obtain ⟨B, rfl⟩ := Int.eq_ofNat_of_zero_le h3
  have hx : A ^^^ B < 2 ^ 62 := Nat.xor_lt_two_pow (by omega) (by omega)
  have e : bits .xor .i64 (A : Int) (B : Int) = ((A ^^^ B : Nat) : Int) := by
    show IntKind.i64.wrap ((BitVec.ofInt 64 (A : Int) ^^^ BitVec.ofInt 64 (B : Int)).toNat : Int) = _
    have ha : A % 2 ^ 64 = A := Nat.mod_eq_of_lt (by omega)
    have hb : B % 2 ^ 64 = B := Nat.mod_eq_of_lt (by omega)
    rw [BitVec.toNat_xor, BitVec.ofInt_natCast, BitVec.ofInt_natCast, BitVec.toNat_ofNat, BitVec.toNat_ofNat, ha, hb, IntKind.wrap_i64]
    omega
  rw [e]
  constructor
  · omega
  · have : ((A ^^^ B : Nat) : Int) < ((2 ^ 62 : Nat) : Int) := by exact_mod_cast hx
    simpa using this

theorem ret_i {a b : Int} (h : a = b) : Ending.returned (.int .i64 a) = .returned (.int .i64 b) := by rw [h]
theorem ret_ib {a b : Int} {t : Bool} (h : a = b) : Ending.returned (.tuple #[.int .i64 a, .bool t]) = .returned (.tuple #[.int .i64 b, .bool t]) := by rw [h]
theorem ret_s {a b : ByteArray} (h : a = b) : Ending.returned (.string a) = .returned (.string b) := by rw [h]
theorem ret_sb {a b : ByteArray} {t : Bool} (h : a = b) : Ending.returned (.tuple #[.string a, .bool t]) = .returned (.tuple #[.string b, .bool t]) := by rw [h]
theorem ret_b {a b : Bool} (h : a = b) : Ending.returned (.bool a) = .returned (.bool b) := by rw [h]

/-- The number of k bytes of a text from a place on, the higher ones first. -/
def be (s : ByteArray) (p : Nat) : Nat → Int
  | 0 => 0
  | k + 1 => be s p k * 256 + PlainAid.bt s (p + k)
theorem be_nonneg (s : ByteArray) (p : Nat) : ∀ k, 0 ≤ be s p k
  | 0 => by simp [be]
  | k + 1 => by have := be_nonneg s p k; have := PlainAid.bt_nonneg s (p + k); simp only [be]; omega
theorem be_three (s : ByteArray) (p k : Nat) (h : k ≤ 3) : be s p k ≤ 16777215 := by
  have b0 := PlainAid.bt_le s p
  have b1 := PlainAid.bt_le s (p + 1)
  have b2 := PlainAid.bt_le s (p + 2)
  match k, h with
  | 0, _ => simp [be]
  | 1, _ => simp [be]; omega
  | 2, _ => simp [be]; omega
  | 3, _ => simp [be]; omega

theorem cell_other {w : World} {c i j : Nat} {v u : Value} (hij : i ≠ j) (h : w.cell? ⟨c, j, none⟩ = some u) : (w.setCell ⟨c, i, none⟩ v).cell? ⟨c, j, none⟩ = some u :=
  (World.cell?_setCell_other w _ _ v (by intro e; injection e; omega)).trans h
theorem cell_far {w : World} {c d i j : Nat} {v u : Value} (hcd : c ≠ d) (h : w.cell? ⟨d, j, none⟩ = some u) : (w.setCell ⟨c, i, none⟩ v).cell? ⟨d, j, none⟩ = some u :=
  (World.cell?_setCell_other w _ _ v (by intro e; injection e; omega)).trans h

theorem be_two (s : ByteArray) (p : Nat) : be s p 2 = 256 * PlainAid.bt s p + PlainAid.bt s (p + 1) := by simp [be]; omega
theorem be_four (s : ByteArray) (p : Nat) : be s p 4 = 65536 * be s p 2 + be s (p + 2) 2 := by
  simp only [be, Nat.add_assoc, Nat.add_zero, Nat.reduceAdd]
  omega
theorem str_append (xs ys : List Int) : strOfNums xs ++ strOfNums ys = strOfNums (xs ++ ys) := by
  unfold strOfNums
  rw [ByteArray.mk_append_mk, List.map_append]
/-- The four bytes of a number. -/
def longS (n : Int) : ByteArray := strOfNums [n / 256 / 256 / 256, n / 256 / 256 % 256, n / 256 % 256, n % 256]
def wordS (n : Int) : ByteArray := strOfNums [n / 256, n % 256]
theorem long_words (n : Int) : wordS (n / 65536) ++ wordS (n % 65536) = longS n := by
  unfold longS wordS
  rw [str_append]
  have e1 : n / 65536 / 256 = n / 256 / 256 / 256 := by omega
  have e2 : n / 65536 % 256 = n / 256 / 256 % 256 := by omega
  have e3 : n % 65536 / 256 = n / 256 % 256 := by omega
  have e4 : n % 65536 % 256 = n % 256 := by omega
  simp only [List.cons_append, List.nil_append, e1, e2, e3, e4]
theorem wordS_size (n : Int) : (wordS n).size = 2 := by simp [wordS, strOfNums_size]
theorem longS_size (n : Int) : (longS n).size = 4 := by simp [longS, strOfNums_size]

/-- A slice of numbers that came in: it is nil, or it leads to a row of 'cap' cells that hold the numbers 'zs'. -/
def IsRow (k : IntKind) (w : World) (a : Option Addr) (len cap : Nat) (zs : List Int) : Prop :=
  (a = none ∧ len = 0 ∧ cap = 0 ∧ zs = []) ∨
  ∃ x, a = some x ∧ len ≤ cap ∧ cap ≤ maxLen ∧ zs.length = cap ∧ (∀ i, i < zs.length → w.cell? (x.add i) = some (.int k (zs.getD i 0))) ∧ ∀ n ∈ zs, (Lit.int k n).wf = true

theorem lt_of_cell {w : World} {b o : Nat} {v : Value} (h : w.cell? ⟨b, o, none⟩ = some v) : b < w.heap.size := by
  rcases Nat.lt_or_ge b w.heap.size with g | g
  · exact g
  · exfalso
    unfold World.cell? at h
    simp [Array.getElem?_eq_none g] at h

end Go.Proofs.Ytncbgejggfkdmaa

/- Plain lemmas on texts and numbers: the bytes of a number give it back, and a number at a place depends on its bytes alone. -/
namespace Go.Proofs.Ytncbgejggfkdmaa
open Go.RowKit Go.PlainAid

theorem bt_list (s : ByteArray) (k : Nat) : bt s k = ((s.data.toList.getD k 0).toNat : Int) := by
  unfold bt
  by_cases h : k < s.size
  · rw [dif_pos h]
    have : s[k] = s.data.toList.getD k 0 := by
      have h' : k < s.data.toList.length := by simpa using h
      simp [List.getD, List.getElem?_eq_getElem h']
      rfl
    rw [this]
  · rw [dif_neg h]
    have h' : s.data.toList.length ≤ k := by simpa using h
    simp [List.getD, List.getElem?_eq_none h']
theorem bt_append_right (x s : ByteArray) (k : Nat) : bt (x ++ s) (k + x.size) = bt s k := by
  rw [bt_list, bt_list]
  have e : (x ++ s).data.toList = x.data.toList ++ s.data.toList := by simp
  have hx : x.data.toList.length = x.size := by simp
  rw [e, List.getD, List.getD, List.getElem?_append_right (by omega), hx, Nat.add_sub_cancel]
theorem bt_append_left (s y : ByteArray) (k : Nat) (h : k < s.size) : bt (s ++ y) k = bt s k := by
  rw [bt_list, bt_list]
  have h' : k < s.data.toList.length := by simpa using h
  simp [List.getD, List.getElem?_append_left h']
theorem be_congr (s t : ByteArray) (p q : Nat) : ∀ k, (∀ i, i < k → bt s (p + i) = bt t (q + i)) → be s p k = be t q k
  | 0, _ => rfl
  | k + 1, h => by
    have := be_congr s t p q k (fun i hi => h i (by omega))
    simp only [be, this, h k (by omega)]
theorem be_move (x s : ByteArray) (p k : Nat) (h : p + k ≤ s.size) : be (x ++ s ++ x) (p + x.size) k = be s p k :=
  be_congr _ _ _ _ k (fun i hi => by
    rw [show p + x.size + i = (p + i) + x.size by omega, bt_append_left _ _ _ (by rw [ByteArray.size_append]; omega), bt_append_right])
theorem bt_nums (xs : List Int) (k : Nat) (z : Int) (h : xs[k]? = some z) (h0 : 0 ≤ z) (h1 : z ≤ 255) : bt (strOfNums xs) k = z := by
  rw [bt_list, strOfNums_data]
  simp [List.getD, List.getElem?_map, h]
  omega
theorem be_wordS (n : Int) (h0 : 0 ≤ n) (h1 : n ≤ 65535) : be (wordS n) 0 2 = n := by
  rw [be_two]
  unfold wordS
  rw [bt_nums _ 0 (n / 256) rfl (by omega) (by omega), bt_nums _ (0 + 1) (n % 256) rfl (by omega) (by omega)]
  omega
theorem be_longS (n : Int) (h0 : 0 ≤ n) (h1 : n ≤ 4294967295) : be (longS n) 0 4 = n := by
  rw [be_four, be_two, be_two]
  unfold longS
  rw [bt_nums _ 0 (n / 256 / 256 / 256) rfl (by omega) (by omega), bt_nums _ (0 + 1) (n / 256 / 256 % 256) rfl (by omega) (by omega),
    bt_nums _ (0 + 2) (n / 256 % 256) rfl (by omega) (by omega), bt_nums _ (0 + 2 + 1) (n % 256) rfl (by omega) (by omega)]
  omega
theorem extract_two (s : ByteArray) (p : Nat) (h : p + 2 ≤ s.size) : (s.extract p (p + 2)).data.toList = [UInt8.ofNat (bt s p).toNat, UInt8.ofNat (bt s (p + 1)).toNat] := by
  rw [bt_list, bt_list]
  have h' : p + 2 ≤ s.data.toList.length := by simpa using h
  have e : (s.extract p (p + 2)).data.toList = (s.data.toList.drop p).take 2 := by
    simp [ByteArray.data_extract]
  rw [e, List.drop_eq_getElem_cons (by omega), List.drop_eq_getElem_cons (by omega)]
  simp [List.getD, List.getElem?_eq_getElem (show p < s.data.toList.length by omega), List.getElem?_eq_getElem (show p + 1 < s.data.toList.length by omega)]
theorem wordS_extract (s : ByteArray) (p : Nat) (h : p + 2 ≤ s.size) : (wordS (be s p 2)).toList = (s.extract p (p + 2)).toList := by
  rw [ByteArray.toList_eq, ByteArray.toList_eq, extract_two s p h, be_two]
  unfold wordS
  rw [strOfNums_data]
  have := bt_le s (p + 1)
  have := bt_nonneg s (p + 1)
  have e1 : (256 * bt s p + bt s (p + 1)) / 256 = bt s p := by omega
  have e2 : (256 * bt s p + bt s (p + 1)) % 256 = bt s (p + 1) := by omega
  simp [e1, e2]
theorem be_two_bound (s : ByteArray) (p : Nat) : 0 ≤ be s p 2 ∧ be s p 2 ≤ 65535 := by
  have := bt_le s (p + 1); have := bt_nonneg s (p + 1); have := bt_le s p; have := bt_nonneg s p
  rw [be_two]; omega

end Go.Proofs.Ytncbgejggfkdmaa

/- Plain lemmas on bytes: equal texts, parts of texts, what lies where in a joined text. -/
namespace Go.Proofs.Ytncbgejggfkdmaa
open Go.RowKit Go.PlainAid

theorem same_bt {s t : ByteArray} (hz : s.size = t.size) (h : ∀ i, i < s.size → bt s i = bt t i) : s = t := by
  apply ByteArray.ext
  apply Array.ext
  · simpa using hz
  · intro i h1 h2
    have hi : i < s.size := by simpa using h1
    have := h i hi
    rw [bt_list, bt_list] at this
    rw [List.getD_eq_getElem?_getD, List.getD_eq_getElem?_getD, Array.getElem?_toList, Array.getElem?_toList, Array.getElem?_eq_getElem h1, Array.getElem?_eq_getElem h2] at this
    simp only [Option.getD_some] at this
    exact UInt8.toNat_inj.1 (by omega)
theorem bt_cut (s : ByteArray) (a b i : Nat) (h : a + i < b) : bt (s.extract a b) i = bt s (a + i) := by
  rw [bt_list, bt_list]
  have e : (s.extract a b).data.toList = (s.data.toList.drop a).take (b - a) := by
    simp [ByteArray.data_extract]
  rw [e, List.getD_eq_getElem?_getD, List.getD_eq_getElem?_getD, List.getElem?_take, if_pos (by omega), List.getElem?_drop]
theorem bt_left (x y : ByteArray) (i : Nat) (h : i < x.size) : bt (x ++ y) i = bt x i := bt_append_left x y i h
theorem bt_right (x y : ByteArray) (i : Nat) (h : x.size ≤ i) : bt (x ++ y) i = bt y (i - x.size) := by
  have := bt_append_right x y (i - x.size)
  rw [Nat.sub_add_cancel h] at this
  exact this
theorem size_cut (s : ByteArray) (a b : Nat) (h : b ≤ s.size) : (s.extract a b).size = b - a := by rw [ByteArray.size_extract, Nat.min_eq_left h]
theorem bt_zeros (j i : Nat) : bt (strOfNums (List.replicate j 0)) i = 0 := by
  by_cases h : i < j
  · exact bt_nums _ i 0 (by rw [List.getElem?_replicate, if_pos h]) (by decide) (by decide)
  · rw [bt_list, List.getD_eq_getElem?_getD, List.getElem?_eq_none (by rw [strOfNums_data]; simp; omega)]
    rfl

theorem text_some {s : ByteArray} (h : ¬ s.size = 0) : ¬ s.toList = [] := fun e => by
  rw [ByteArray.toList_eq] at e
  exact h (by have := congrArg List.length e; simpa using this)
theorem text_ne {a b : ByteArray} (h : a ≠ b) : (a.toList == b.toList) = false := by
  rw [beq_eq_false_iff_ne]
  intro e
  rw [ByteArray.toList_eq, ByteArray.toList_eq] at e
  exact h (ByteArray.ext (Array.toList_inj.1 e))

end Go.Proofs.Ytncbgejggfkdmaa

/- Plain lemmas on chunks: the bytes of a chunk, when bytes at a place are those of a chunk, and what of them counts. -/
namespace Go.Proofs.Ytncbgejggfkdmaa
open Go.RowKit Go.PlainAid

/-- The bytes 0 that fill up. -/
def pad (n : Nat) : Nat := (4 - n % 4) % 4
/-- The bytes of a chunk. -/
def chunkS (k f : Int) (b : ByteArray) : ByteArray := strOfNums [k, f] ++ wordS (4 + b.size) ++ b ++ strOfNums (List.replicate (pad b.size) 0)
/-- The two bytes behind the second one. -/
def lenAt (s : ByteArray) (p : Nat) : Nat := (be s (p + 2) 2).toNat
/-- Where the body ends, and where the bytes of the chunk end. -/
def bodyEnd (s : ByteArray) (p : Nat) : Nat := p + lenAt s p
def chunkEnd (s : ByteArray) (p : Nat) : Nat := p + lenAt s p + pad (lenAt s p)
def bodyAt (s : ByteArray) (p : Nat) : ByteArray := s.extract (p + 4) (p + lenAt s p)
/-- The bytes of a chunk begin at a place. -/
def Has (s : ByteArray) (p : Nat) : Prop := p + 4 ≤ s.size ∧ 4 ≤ lenAt s p ∧ lenAt s p ≤ 64 ∧ chunkEnd s p ≤ s.size ∧ ∀ i, bodyEnd s p ≤ i → i < chunkEnd s p → bt s i = 0
/-- A chunk is valid. -/
def Chk (k f : Int) (b : ByteArray) : Prop := (0 ≤ k ∧ k ≤ 255) ∧ (0 ≤ f ∧ f ≤ 255) ∧ b.size ≤ 60

instance (k f : Int) (b : ByteArray) : Decidable (Chk k f b) := by
  unfold Chk
  infer_instance
/-- Whether a chunk is valid. -/
def chkV (k f : Int) (b : ByteArray) : Bool := decide (Chk k f b)
theorem chkV_yes {k f : Int} {b : ByteArray} (h : Chk k f b) : chkV k f b = true := decide_eq_true h
theorem chkV_no {k f : Int} {b : ByteArray} (h : ¬ Chk k f b) : chkV k f b = false := decide_eq_false h

theorem pad_lt (n : Nat) : pad n < 4 := by unfold pad; omega
theorem pad_four (n : Nat) : pad (4 + n) = pad n := by unfold pad; omega
theorem pad_mod (n : Nat) : (n + pad n) % 4 = 0 := by unfold pad; omega
theorem pad_sub {n : Nat} (h : 4 ≤ n) : pad (n - 4) = pad n := by unfold pad; omega
theorem lenAt_be (s : ByteArray) (p : Nat) : be s (p + 2) 2 = (lenAt s p : Int) := by
  have := (be_two_bound s (p + 2)).1
  unfold lenAt
  omega
theorem lenAt_bt (s : ByteArray) (p : Nat) : (lenAt s p : Int) = 256 * bt s (p + 2) + bt s (p + 3) := by
  rw [← lenAt_be, be_two]
theorem chunkS_size (k f : Int) (b : ByteArray) : (chunkS k f b).size = 4 + b.size + pad b.size := by
  unfold chunkS
  rw [ByteArray.size_append, ByteArray.size_append, ByteArray.size_append, wordS_size, strOfNums_size, strOfNums_size, List.length_replicate]
  rfl
theorem chunkS_mod (k f : Int) (b : ByteArray) : (chunkS k f b).size % 4 = 0 := by
  rw [chunkS_size]
  have := pad_mod b.size
  omega
theorem chunkS_le (k f : Int) (b : ByteArray) (h : b.size ≤ 60) : (chunkS k f b).size ≤ 64 := by
  rw [chunkS_size]
  unfold pad
  omega
theorem head_size (k f : Int) (n : Int) : (strOfNums [k, f] ++ wordS n).size = 4 := by rw [ByteArray.size_append, wordS_size, strOfNums_size]; rfl
theorem bt_first (k f : Int) (b : ByteArray) (h : Chk k f b) : bt (chunkS k f b) 0 = k := by
  unfold chunkS
  have hz := head_size k f (4 + b.size)
  rw [bt_left _ _ 0 (by rw [ByteArray.size_append]; omega), bt_left _ _ 0 (by omega), bt_left _ _ 0 (by rw [strOfNums_size]; simp)]
  exact bt_nums _ 0 k rfl h.1.1 h.1.2
theorem bt_second (k f : Int) (b : ByteArray) (h : Chk k f b) : bt (chunkS k f b) 1 = f := by
  unfold chunkS
  have hz := head_size k f (4 + b.size)
  rw [bt_left _ _ 1 (by rw [ByteArray.size_append]; omega), bt_left _ _ 1 (by omega), bt_left _ _ 1 (by rw [strOfNums_size]; simp)]
  exact bt_nums _ 1 f rfl h.2.1.1 h.2.1.2
theorem bt_length (k f : Int) (b : ByteArray) (h : b.size ≤ 60) : bt (chunkS k f b) 2 = 0 ∧ bt (chunkS k f b) 3 = 4 + b.size := by
  unfold chunkS
  have hz := head_size k f (4 + b.size)
  have h2 : (strOfNums [k, f]).size = 2 := by rw [strOfNums_size]; rfl
  constructor
  · rw [bt_left _ _ 2 (by rw [ByteArray.size_append]; omega), bt_left _ _ 2 (by omega), bt_right _ _ 2 (by omega), h2, Nat.sub_self]
    have := bt_nums [((4 : Int) + b.size) / 256, ((4 : Int) + b.size) % 256] 0 _ rfl (by omega) (by omega)
    unfold wordS
    omega
  · rw [bt_left _ _ 3 (by rw [ByteArray.size_append]; omega), bt_left _ _ 3 (by omega), bt_right _ _ 3 (by omega), h2, show 3 - 2 = 1 by rfl]
    have := bt_nums [((4 : Int) + b.size) / 256, ((4 : Int) + b.size) % 256] 1 _ rfl (by omega) (by omega)
    unfold wordS
    omega
theorem bt_body (k f : Int) (b : ByteArray) (i : Nat) (hi : i < b.size) : bt (chunkS k f b) (4 + i) = bt b i := by
  unfold chunkS
  have hz := head_size k f (4 + b.size)
  rw [bt_left _ _ _ (by rw [ByteArray.size_append]; omega), bt_right _ _ _ (by omega), hz, Nat.add_sub_cancel_left]
theorem bt_pad (k f : Int) (b : ByteArray) (i : Nat) (hi : 4 + b.size ≤ i) : bt (chunkS k f b) i = 0 := by
  unfold chunkS
  have hz := head_size k f (4 + b.size)
  rw [bt_right _ _ _ (by rw [ByteArray.size_append]; omega), bt_zeros]
theorem lenAt_chunkS (k f : Int) (b : ByteArray) (h : b.size ≤ 60) : lenAt (chunkS k f b) 0 = 4 + b.size := by
  have h1 := lenAt_bt (chunkS k f b) 0
  have h2 := bt_length k f b h
  rw [Nat.zero_add, Nat.zero_add, h2.1, h2.2] at h1
  omega
theorem chunkEnd_chunkS (k f : Int) (b : ByteArray) (h : b.size ≤ 60) : chunkEnd (chunkS k f b) 0 = (chunkS k f b).size := by
  unfold chunkEnd
  rw [lenAt_chunkS k f b h, chunkS_size, pad_four]
  omega
theorem bodyAt_chunkS (k f : Int) (b : ByteArray) (h : b.size ≤ 60) : bodyAt (chunkS k f b) 0 = b := by
  unfold bodyAt
  rw [lenAt_chunkS k f b h]
  have hz := chunkS_size k f b
  refine same_bt ?_ fun i hi => ?_
  · rw [size_cut _ _ _ (by omega)]
    omega
  · rw [size_cut _ _ _ (by omega)] at hi
    rw [bt_cut _ _ _ _ (by omega), Nat.zero_add, bt_body _ _ _ _ (by omega)]
theorem has_chunkS (k f : Int) (b : ByteArray) (h : b.size ≤ 60) : Has (chunkS k f b) 0 := by
  have hz := chunkS_size k f b
  have hl := lenAt_chunkS k f b h
  refine ⟨by omega, by omega, by omega, by rw [chunkEnd_chunkS k f b h]; exact Nat.le_refl _, fun i hi _ => ?_⟩
  unfold bodyEnd at hi
  exact bt_pad k f b i (by omega)
/-- What lies at a place is the same as at another place of another text. -/
theorem has_same {s t : ByteArray} {p q : Nat} (h : Has s p) (hq : q + (lenAt s p + pad (lenAt s p)) ≤ t.size) (hb : ∀ i, i < lenAt s p + pad (lenAt s p) → bt t (q + i) = bt s (p + i)) :
    Has t q ∧ lenAt t q = lenAt s p ∧ bodyAt t q = bodyAt s p ∧ bt t q = bt s p ∧ bt t (q + 1) = bt s (p + 1) := by
  obtain ⟨h1, h2, h3, h4, h5⟩ := h
  have hl : lenAt t q = lenAt s p := by
    have e1 := lenAt_bt t q
    have e2 := lenAt_bt s p
    rw [hb 2 (by omega), hb 3 (by omega)] at e1
    omega
  unfold chunkEnd at h4 h5
  unfold bodyEnd at h5
  refine ⟨⟨by omega, by omega, by omega, ?_, ?_⟩, hl, ?_, hb 0 (by omega), hb 1 (by omega)⟩
  · unfold chunkEnd
    rw [hl]
    omega
  · unfold bodyEnd chunkEnd
    rw [hl]
    intro i hi hi2
    have e := hb (i - q) (by omega)
    have e0 := h5 (p + (i - q)) (by omega) (by omega)
    rw [show q + (i - q) = i by omega] at e
    rw [e, e0]
  · unfold bodyAt
    rw [hl]
    refine same_bt ?_ fun i hi => ?_
    · rw [size_cut _ _ _ (by omega), size_cut _ _ _ (by omega)]
      omega
    · rw [size_cut _ _ _ (by omega)] at hi
      have e := hb (4 + i) (by omega)
      rw [bt_cut _ _ _ _ (by omega), bt_cut _ _ _ _ (by omega), Nat.add_assoc, Nat.add_assoc, e]
theorem bodyAt_size {s : ByteArray} {p : Nat} (h : Has s p) : (bodyAt s p).size = lenAt s p - 4 := by
  obtain ⟨h1, h2, h3, h4, h5⟩ := h
  unfold chunkEnd at h4
  unfold bodyAt
  rw [size_cut _ _ _ (by omega)]
  omega
theorem has_chk {s : ByteArray} {p : Nat} (h : Has s p) : Chk (bt s p) (bt s (p + 1)) (bodyAt s p) := by
  have hz := bodyAt_size h
  have h3 := h.2.2.1
  exact ⟨⟨bt_nonneg s p, bt_le s p⟩, ⟨bt_nonneg s _, bt_le s _⟩, by omega⟩
theorem has_size {s : ByteArray} {p : Nat} (h : Has s p) : (chunkS (bt s p) (bt s (p + 1)) (bodyAt s p)).size = lenAt s p + pad (lenAt s p) := by
  have h2 := h.2.1
  rw [chunkS_size, bodyAt_size h, pad_sub h2]
  omega
/-- The bytes that lie at a place are those of the chunk that is read. -/
theorem has_text {s : ByteArray} {p : Nat} (h : Has s p) : s.extract p (chunkEnd s p) = chunkS (bt s p) (bt s (p + 1)) (bodyAt s p) := by
  have hz := has_size h
  have hb := bodyAt_size h
  have hc := has_chk h
  have hl := lenAt_bt s p
  obtain ⟨h1, h2, h3, h4, h5⟩ := h
  unfold chunkEnd at h4 h5
  unfold bodyEnd at h5
  have hs : (s.extract p (chunkEnd s p)).size = lenAt s p + pad (lenAt s p) := by
    unfold chunkEnd
    rw [size_cut _ _ _ h4]
    omega
  refine same_bt (by omega) fun i hi => ?_
  rw [hs] at hi
  unfold chunkEnd
  rw [bt_cut _ _ _ _ (by omega)]
  rcases (show i = 0 ∨ i = 1 ∨ i = 2 ∨ i = 3 ∨ 4 ≤ i by omega) with rfl | rfl | rfl | rfl | h6
  · rw [bt_first _ _ _ hc]
    rfl
  · rw [bt_second _ _ _ hc]
  · rw [(bt_length _ _ _ hc.2.2).1]
    have := bt_nonneg s (p + 2)
    have := bt_nonneg s (p + 3)
    omega
  · rw [(bt_length _ _ _ hc.2.2).2, hb]
    have := bt_nonneg s (p + 2)
    have := bt_nonneg s (p + 3)
    have := bt_le s (p + 3)
    omega
  · rcases Nat.lt_or_ge i (lenAt s p) with h7 | h7
    · have e := bt_body (bt s p) (bt s (p + 1)) (bodyAt s p) (i - 4) (by omega)
      rw [show 4 + (i - 4) = i by omega] at e
      rw [e]
      unfold bodyAt
      rw [bt_cut _ _ _ _ (by omega), show p + 4 + (i - 4) = p + i by omega]
    · rw [bt_pad _ _ _ i (by omega)]
      exact h5 (p + i) (by omega) (by omega)
/-- Bytes that are those of the chunk that is read are filled up with 0. -/
theorem has_of_text {s : ByteArray} {p : Nat} (h1 : p + 4 ≤ s.size) (h2 : 4 ≤ lenAt s p) (h3 : lenAt s p ≤ 64) (h4 : chunkEnd s p ≤ s.size)
    (h : s.extract p (chunkEnd s p) = chunkS (bt s p) (bt s (p + 1)) (bodyAt s p)) : Has s p := by
  refine ⟨h1, h2, h3, h4, fun i h5 h6 => ?_⟩
  have hb : (bodyAt s p).size = lenAt s p - 4 := by
    unfold chunkEnd at h4
    unfold bodyAt
    rw [size_cut _ _ _ (by omega)]
    omega
  unfold bodyEnd at h5
  have e := bt_pad (bt s p) (bt s (p + 1)) (bodyAt s p) (i - p) (by omega)
  rw [← h, bt_cut _ _ _ _ (by omega), show p + (i - p) = i by omega] at e
  exact e
theorem end_eq {s t : ByteArray} {p q : Nat} (h : lenAt t q = lenAt s p) : chunkEnd t q + p = chunkEnd s p + q := by
  unfold chunkEnd
  rw [h]
  omega
theorem body_size {s : ByteArray} {p : Nat} (h2 : 4 ≤ lenAt s p) (hle : p + lenAt s p ≤ s.size) : (bodyAt s p).size = lenAt s p - 4 := by
  unfold bodyAt
  rw [size_cut _ _ _ hle]
  omega
theorem text_size {s : ByteArray} {p : Nat} (k f : Int) (h2 : 4 ≤ lenAt s p) (hle : p + lenAt s p ≤ s.size) : (chunkS k f (bodyAt s p)).size = lenAt s p + pad (lenAt s p) := by
  rw [chunkS_size, body_size h2 hle, pad_sub h2]
  omega
theorem chk_at {s : ByteArray} {p : Nat} (h2 : 4 ≤ lenAt s p) (h3 : lenAt s p ≤ 64) (hle : p + lenAt s p ≤ s.size) : Chk (bt s p) (bt s (p + 1)) (bodyAt s p) := by
  have hz := body_size h2 hle
  exact ⟨⟨bt_nonneg s p, bt_le s p⟩, ⟨bt_nonneg s _, bt_le s _⟩, by omega⟩
/-- Without the last byte there is none. -/
theorem has_cut {s : ByteArray} {p : Nat} (h : Has s p) : ¬ Has (s.extract 0 (chunkEnd s p - 1)) p := fun g => by
  obtain ⟨h1, h2, h3, h4, h5⟩ := h
  obtain ⟨g1, g2, g3, g4, g5⟩ := g
  have hz := size_cut s 0 (chunkEnd s p - 1) (by omega)
  have hl : lenAt (s.extract 0 (chunkEnd s p - 1)) p = lenAt s p := by
    have e1 := lenAt_bt (s.extract 0 (chunkEnd s p - 1)) p
    have e2 := lenAt_bt s p
    rw [bt_cut _ _ _ _ (by omega), bt_cut _ _ _ _ (by omega), Nat.zero_add, Nat.zero_add] at e1
    omega
  unfold chunkEnd at g4 h4 hz hl
  rw [hl, hz] at g4
  omega
/-- What follows does not matter. -/
theorem has_more {s : ByteArray} {p : Nat} (h : Has s p) (x : ByteArray) :
    Has (s.extract 0 (chunkEnd s p) ++ x) p ∧ lenAt (s.extract 0 (chunkEnd s p) ++ x) p = lenAt s p ∧ bodyAt (s.extract 0 (chunkEnd s p) ++ x) p = bodyAt s p ∧ bt (s.extract 0 (chunkEnd s p) ++ x) p = bt s p ∧ bt (s.extract 0 (chunkEnd s p) ++ x) (p + 1) = bt s (p + 1) := by
  have h4 := h.2.2.2.1
  have hz := size_cut s 0 (chunkEnd s p) h4
  have he : chunkEnd s p = p + (lenAt s p + pad (lenAt s p)) := Nat.add_assoc _ _ _
  refine has_same h ?_ fun i hi => ?_
  · rw [ByteArray.size_append]
    omega
  · rw [bt_left _ _ _ (by omega), bt_cut _ _ _ _ (by omega), Nat.zero_add]
/-- A chunk may be anywhere. -/
theorem has_move {s : ByteArray} {p : Nat} (h : Has s p) (x : ByteArray) :
    Has (x ++ s) (p + x.size) ∧ lenAt (x ++ s) (p + x.size) = lenAt s p ∧ bodyAt (x ++ s) (p + x.size) = bodyAt s p ∧ bt (x ++ s) (p + x.size) = bt s p ∧ bt (x ++ s) (p + x.size + 1) = bt s (p + 1) := by
  have h4 := h.2.2.2.1
  have he : chunkEnd s p = p + (lenAt s p + pad (lenAt s p)) := Nat.add_assoc _ _ _
  refine has_same h ?_ fun i _ => ?_
  · rw [ByteArray.size_append]
    omega
  · rw [bt_right _ _ _ (by omega), show p + x.size + i - x.size = p + i by omega]
/-- Another last byte of a chunk that is filled up: there is none. -/
theorem has_pad {s : ByteArray} {p : Nat} (h : Has s p) (hp : chunkEnd s p ≠ p + lenAt s p) (x : ByteArray) (hx : bt x 0 ≠ 0) : ¬ Has (s.extract 0 (chunkEnd s p - 1) ++ x) p := fun g => by
  obtain ⟨h1, h2, h3, h4, h5⟩ := h
  have hz := size_cut s 0 (chunkEnd s p - 1) (by omega)
  have he : chunkEnd s p = p + lenAt s p + pad (lenAt s p) := rfl
  have hl : lenAt (s.extract 0 (chunkEnd s p - 1) ++ x) p = lenAt s p := by
    have e1 := lenAt_bt (s.extract 0 (chunkEnd s p - 1) ++ x) p
    have e2 := lenAt_bt s p
    rw [bt_left _ _ _ (by omega), bt_left _ _ _ (by omega), bt_cut _ _ _ _ (by omega), bt_cut _ _ _ _ (by omega), Nat.zero_add, Nat.zero_add] at e1
    omega
  have ge : chunkEnd (s.extract 0 (chunkEnd s p - 1) ++ x) p = chunkEnd s p := by
    have := end_eq hl
    omega
  have e := g.2.2.2.2 (chunkEnd s p - 1) (by unfold bodyEnd; omega) (by omega)
  rw [bt_right _ _ _ (by omega), hz, Nat.sub_zero, Nat.sub_self] at e
  exact hx e
theorem has_last {s : ByteArray} {p : Nat} (h : Has s p) (hp : chunkEnd s p ≠ p + lenAt s p) : bt s (chunkEnd s p - 1) = 0 := by
  have he : chunkEnd s p = p + lenAt s p + pad (lenAt s p) := rfl
  exact h.2.2.2.2 _ (by unfold bodyEnd; omega) (by omega)
/-- A chunk may follow. -/
theorem has_next (s : ByteArray) (k f : Int) (b : ByteArray) (h : Chk k f b) :
    Has (s ++ chunkS k f b) s.size ∧ lenAt (s ++ chunkS k f b) s.size = 4 + b.size ∧ bodyAt (s ++ chunkS k f b) s.size = b ∧ bt (s ++ chunkS k f b) s.size = k ∧ bt (s ++ chunkS k f b) (s.size + 1) = f := by
  have g := has_move (has_chunkS k f b h.2.2) s
  rw [Nat.zero_add, bt_first k f b h, bt_second k f b h, lenAt_chunkS k f b h.2.2, bodyAt_chunkS k f b h.2.2] at g
  exact g
theorem has_not_end (s : ByteArray) : ¬ Has s s.size := fun h => by
  have := h.1
  omega

/-- The length of a text value. -/
def szOf : Value → Nat
  | .string s => s.size
  | _ => 0
/-- One byte 0 more. -/
theorem fill_step {X : ByteArray} (h : X.size % 4 ≠ 0) : X ++ ByteArray.mk #[0] ++ strOfNums (List.replicate (pad (X ++ ByteArray.mk #[0]).size) 0) = X ++ strOfNums (List.replicate (pad X.size) 0) := by
  have hz : (ByteArray.mk #[0]).size = 1 := rfl
  have e0 : ByteArray.mk #[0] = strOfNums [0] := rfl
  have e : pad X.size = 1 + pad (X ++ ByteArray.mk #[0]).size := by
    rw [ByteArray.size_append, hz]
    unfold pad
    omega
  rw [e, ByteArray.append_assoc, e0, str_append, Nat.add_comm 1, List.replicate_succ]
  rfl
theorem fill_end {X Y : ByteArray} (h : X.size % 4 = 0) (hE : X ++ strOfNums (List.replicate (pad X.size) 0) = Y) : X = Y := by
  have e : pad X.size = 0 := by unfold pad; omega
  rw [e] at hE
  rw [← hE]
  exact ByteArray.append_empty.symm
theorem fill_less {X : ByteArray} (h : X.size % 4 ≠ 0) : pad (X ++ ByteArray.mk #[0]).size < pad X.size := by
  have hz : (ByteArray.mk #[0]).size = 1 := rfl
  rw [ByteArray.size_append, hz]
  unfold pad
  omega
theorem fill_size {X : ByteArray} (h : X.size % 4 ≠ 0) : (X ++ ByteArray.mk #[0]).size + pad (X ++ ByteArray.mk #[0]).size = X.size + pad X.size := by
  have hz : (ByteArray.mk #[0]).size = 1 := rfl
  rw [ByteArray.size_append, hz]
  unfold pad
  omega
theorem fill_start (k f : Int) (b : ByteArray) : strOfNums [k, f] ++ wordS (4 + b.size) ++ b ++ strOfNums (List.replicate (pad (strOfNums [k, f] ++ wordS (4 + b.size) ++ b).size) 0) = chunkS k f b := by
  have hz := head_size k f (4 + b.size)
  rw [ByteArray.size_append, hz, pad_four]
  rfl

end Go.Proofs.Ytncbgejggfkdmaa

/- The contracts of the two-byte number functions of chapter 1: what each call returns, for every number. -/
namespace Go.Proofs.Ytncbgejggfkdmaa
open Go.RowKit

set_option maxHeartbeats 400000 in
theorem l6In_any (n lo hi : Int) (w : World) :
    Calls Try.prog 71 #[.int .i64 n, .int .i64 lo, .int .i64 hi] w fun e w' => e = .returned (.bool (decide (lo ≤ n ∧ n ≤ hi))) ∧ w = w' := by
  by_cases h : lo ≤ n
  all_goals
    go_enter Try.func71, Try.ntmps71
    go_wp2
    go_ret
    simp [h]
    try omega

end Go.Proofs.Ytncbgejggfkdmaa

/- The contracts of the reading functions of chapter 1: the cursor, WordGet and LongGet, for every text and place. -/
namespace Go.Proofs.Ytncbgejggfkdmaa
open Go.RowKit Go.PlainAid

end Go.Proofs.Ytncbgejggfkdmaa

/- The contracts of chapter 11's model: whether a chunk is valid, its bytes, the chunk at a place, names. -/
namespace Go.Proofs.Ytncbgejggfkdmaa
open Go.RowKit Go.PlainAid

theorem kept_cell {B b i : Nat} {w w' : World} {v : Value} (hb : Below B w w') (h : b < B) (hc : w.cell? ⟨b, i, none⟩ = some v) : w'.cell? ⟨b, i, none⟩ = some v :=
  (hb.cell (p := ⟨b, i, none⟩) h).trans hc
theorem kept_frozen {B b i : Nat} {w w' : World} (hb : Below B w w') (h : b < B) (hf : w.frozen? ⟨b, i, none⟩ = false) : w'.frozen? ⟨b, i, none⟩ = false :=
  (hb.frozen (p := ⟨b, i, none⟩) h).trans hf
theorem below_box {B : Nat} {w : World} (o : Obj) (h : B ≤ w.heap.size) : Below B w (w.alloc o) := (Below.refl B w).alloc h o

/-- Two bytes that lie anywhere, as a text. -/
theorem conv_two (w : World) (g cap : Nat) (x y : Int) (h0 : w.cell? ⟨g, 0, none⟩ = some (.int .u8 x)) (h1 : w.cell? ⟨g, 1, none⟩ = some (.int .u8 y)) :
    (convert 22 9 (.slice (some ⟨g, 0, none⟩) 2 cap)).run Try.prog w = .ok (.string (strOfNums [x, y])) w := by
  refine run_convert_bytes_arg w 22 5 Try.underlying22 Try.underlying5 g 0 2 cap [x, y] rfl (fun i hi => ?_) 9 Try.underlying9
  rcases (show i = 0 ∨ i = 1 by omega) with rfl | rfl
  · exact h0
  · exact h1

end Go.Proofs.Ytncbgejggfkdmaa

/- The contracts of the drawing helper: a reader is opened over the given bytes, and each pick is a number in its range. -/
namespace Go.Proofs.Ytncbgejggfkdmaa
open Go.RowKit

/-- The bytes that a reader goes over: none, or a row below block B. -/
def Src (B : Nat) (w : World) (src : Option Addr) (len : Nat) : Prop :=
  len ≤ 2000 ∧ (len = 0 ∨ ∃ b off, src = some ⟨b, off, none⟩ ∧ b < B ∧ ∀ i, i < len → ∃ z : Int, 0 ≤ z ∧ z ≤ 255 ∧ w.cell? ⟨b, off + i, none⟩ = some (.int .u8 z))
/-- A reader at block r, from B on, whose place is at most m. -/
def Rd (B : Nat) (r m : Nat) (w : World) : Prop :=
  B ≤ r ∧ r < w.heap.size ∧ w.frozen? ⟨r, 1, none⟩ = false ∧ (∃ p : Nat, p ≤ m ∧ w.cell? ⟨r, 1, none⟩ = some (.int .i64 p)) ∧ ∃ src len cap, w.cell? ⟨r, 0, none⟩ = some (.slice src len cap) ∧ Src B w src len
/-- Only the place of the reader at block r has turned. -/
def Only (r : Nat) (w w' : World) : Prop := ∃ v q, w' = (w.setCell ⟨r, 1, none⟩ v).drewN q
/-- What a pick leaves. -/
def Picked (B r m : Nat) (n : Int) (w : World) (e : Ending) (w' : World) : Prop :=
  ∃ k : Int, e = .returned (.int .i64 k) ∧ 0 ≤ k ∧ k < n ∧ Rd B r (m + 1) w' ∧ Only r w w'

theorem Src.keep {B : Nat} {w w' : World} {src : Option Addr} {len : Nat} (h : Src B w src len) (hb : Below B w w') : Src B w' src len := by
  obtain ⟨h1, h2⟩ := h
  refine ⟨h1, ?_⟩
  rcases h2 with h2 | ⟨b, off, e, hlt, hc⟩
  · exact .inl h2
  · exact .inr ⟨b, off, e, hlt, fun i hi => by
      obtain ⟨z, a1, a2, a3⟩ := hc i hi
      exact ⟨z, a1, a2, (hb.cell (p := ⟨b, off + i, none⟩) hlt).trans a3⟩⟩
theorem Only.below {r B : Nat} {w w' : World} (h : Only r w w') (hB : B ≤ r) : Below B w w' := by
  obtain ⟨v, q, rfl⟩ := h
  exact below_drewN ((Below.refl _ _).setCell hB _) _
theorem Only.size {r : Nat} {w w' : World} (h : Only r w w') : w'.heap.size = w.heap.size := by
  obtain ⟨v, q, rfl⟩ := h
  simp [World.drewN]
/-- Whatever keeps all blocks that were there keeps a reader. -/
theorem Rd.keep {B r m C : Nat} {w w' : World} (h : Rd B r m w) (hb : Below C w w') (hC : r < C) : Rd B r m w' := by
  obtain ⟨h1, h2, h3, ⟨p, h4, h5⟩, src, len, cap, h6, h7⟩ := h
  exact ⟨h1, Nat.lt_of_lt_of_le h2 hb.size, (hb.frozen (p := ⟨r, 1, none⟩) hC).trans h3, ⟨p, h4, (hb.cell (p := ⟨r, 1, none⟩) hC).trans h5⟩, src, len, cap, (hb.cell (p := ⟨r, 0, none⟩) hC).trans h6, h7.keep (hb.mono (by omega))⟩
theorem Rd.mono {B r m m' : Nat} {w : World} (h : Rd B r m w) (hm : m ≤ m') : Rd B r m' w := by
  obtain ⟨h1, h2, h3, ⟨p, h4, h5⟩, h6⟩ := h
  exact ⟨h1, h2, h3, ⟨p, Nat.le_trans h4 hm, h5⟩, h6⟩
theorem picked_of {B r m p : Nat} {n k : Int} {w : World} {q : Nat} (h : Rd B r m w) (hp : p ≤ m) (h0 : 0 ≤ k) (h1 : k < n) :
    Picked B r m n w (.returned (.int .i64 k)) ((w.setCell ⟨r, 1, none⟩ (.int .i64 ((p : Int) + 1))).drewN q) := by
  have hb : Below B w ((w.setCell ⟨r, 1, none⟩ (.int .i64 ((p : Int) + 1))).drewN q) := below_drewN ((Below.refl _ _).setCell h.1 _) _
  obtain ⟨g1, g2, g3, ⟨p', g4, g5⟩, src, len, cap, g6, g7⟩ := h
  refine ⟨k, rfl, h0, h1, ⟨g1, by simpa [World.drewN] using g2, by rw [World.frozen?_drewN, World.frozen?_setCell]; exact g3, ⟨p + 1, by omega, ?_⟩, src, len, cap, ?_, g7.keep hb⟩, _, _, rfl⟩
  · rw [World.cell?_drewN, World.cell?_setCell_same _ _ _ g5]; simp
  · rw [World.cell?_drewN]; exact cell_other (by decide) g6
theorem picked_of' {B r m p : Nat} {n k : Int} {w : World} (h : Rd B r m w) (hp : p ≤ m) (h0 : 0 ≤ k) (h1 : k < n) :
    Picked B r m n w (.returned (.int .i64 k)) (w.setCell ⟨r, 1, none⟩ (.int .i64 ((p : Int) + 1))) := picked_of (q := 0) h hp h0 h1
theorem mod_lo (x n : Int) (h : 1 ≤ n) : 0 ≤ x % n := Int.emod_nonneg _ (by omega)
theorem mod_hi (x n : Int) (h : 1 ≤ n) : x % n < n := Int.emod_lt_of_pos _ (by omega)

set_option maxHeartbeats 1000000 in
theorem pick_any (B r m : Nat) (n : Int) (w : World) (h : Rd B r m w) (hm : m ≤ 1000000000) (hn : 1 ≤ n) (hn2 : n ≤ 4294967296) :
    Calls Try.prog 37 #[.pointer (some ⟨r, 0, none⟩), .int .i64 n] w (Picked B r m n w) := by
  have h' := h
  obtain ⟨g1, g2, g3, ⟨p, g4, g5⟩, src, len, cap, g6, g7, g8⟩ := h'
  by_cases hl : len = 0
  · subst hl
    have hnn : decide (n < 1) = false := by simp; omega
    go_enter Try.func37, Try.ntmps37
    go_wp2
    go_ret
    exact picked_of' h g4 (by omega) (by omega)
  · rcases g8 with g8 | ⟨b, off, rfl, hb, hc⟩
    · exact absurd g8 hl
    · have hne : ((len : Int) == 0) = false := by simp; omega
      by_cases hp : p < len
      · obtain ⟨z, z0, z1, hz⟩ := hc p hp
        have hzz : (w.setCell ⟨r, 1, none⟩ (.int .i64 (p + 1))).cell? ⟨b, off + p, none⟩ = some (.int .u8 z) := cell_far (by omega) hz
        go_enter Try.func37, Try.ntmps37
        go_wp2
        go_ret
        exact picked_of' h g4 (mod_lo _ _ hn) (mod_hi _ _ hn)
      · have hpl : ¬ (p : Int) < len := by omega
        have hlp : 0 < len := by omega
        obtain ⟨z1, z10, z11, hz1⟩ := hc (p % len) (Nat.mod_lt _ hlp)
        obtain ⟨z2, z20, z21, hz2⟩ := hc ((p * 7 + 3) % len) (Nat.mod_lt _ hlp)
        have hzz1 : (w.setCell ⟨r, 1, none⟩ (.int .i64 (p + 1))).cell? ⟨b, off + p % len, none⟩ = some (.int .u8 z1) := cell_far (by omega) hz1
        have hzz2 : (w.setCell ⟨r, 1, none⟩ (.int .i64 (p + 1))).cell? ⟨b, off + (p * 7 + 3) % len, none⟩ = some (.int .u8 z2) := cell_far (by omega) hz2
        have i0 : (0 : Int) ≤ (p : Int) % len := Int.emod_nonneg _ (by omega)
        have i1 : (p : Int) % len < len := Int.emod_lt_of_pos _ (by omega)
        have j0 : (0 : Int) ≤ ((p : Int) * 7 + 3) % len := Int.emod_nonneg _ (by omega)
        have j1 : ((p : Int) * 7 + 3) % len < len := Int.emod_lt_of_pos _ (by omega)
        have d0 : (0 : Int) ≤ (p : Int) / len := Int.ediv_nonneg (by omega) (by omega)
        have d1 : (p : Int) / len ≤ 1000000000 := Int.le_trans (Int.ediv_le_self _ (by omega)) (by omega)
        clear hz1 hz2 hc
        go_enter Try.func37, Try.ntmps37
        go_wp2
        go_quiet (fail)
        go_wp2
        go_ret
        exact picked_of h g4 (Int.tmod_nonneg _ (xor_nonneg _ _ (by omega) (by omega) (by omega) (by omega)).1) (Int.tmod_lt_of_pos _ (by omega))

/-- What opening a reader leaves. -/
def Opened (w : World) (e : Ending) (w' : World) : Prop :=
  ∃ r : Nat, e = .returned (.pointer (some ⟨r, 0, none⟩)) ∧ Rd w.heap.size r 0 w' ∧ Below w.heap.size w w'

theorem src_of {w : World} {x : Addr} {len cap n : Nat} {zs : List Int} (hl : len ≤ cap) (hz : zs.length = cap) (hn : n ≤ len) (hn2 : n ≤ 2000)
    (hc : ∀ i, i < zs.length → w.cell? (x.add i) = some (.int .u8 (zs.getD i 0))) (hw : ∀ z ∈ zs, (Lit.int .u8 z).wf = true) : Src w.heap.size w (some x) n := by
  refine ⟨hn2, ?_⟩
  rcases Nat.eq_zero_or_pos n with h0 | h0
  · exact .inl h0
  · obtain ⟨b, off, spot⟩ := x
    have h00 := hc 0 (by omega)
    have hspot : spot = none := by simpa [Addr.add] using World.cell?_spot h00
    subst hspot
    have hadd : ∀ i, (⟨b, off, none⟩ : Addr).add i = ⟨b, off + i, none⟩ := fun i => by unfold Addr.add; split <;> simp_all
    have hplain : ∀ i, w.cell? ⟨b, off + i, none⟩ = w.cell? ((⟨b, off, none⟩ : Addr).add i) := fun i => by rw [hadd]
    refine .inr ⟨b, off, rfl, lt_of_cell (by rw [hplain]; exact h00), fun i hi => ?_⟩
    have hi' : i < zs.length := by omega
    have hwf := hw (zs.getD i 0) (by rw [show zs.getD i 0 = zs[i] by simp [List.getD, List.getElem?_eq_getElem hi']]; exact List.getElem_mem hi')
    have hb := bounds_u8 hwf
    exact ⟨zs.getD i 0, hb.1, hb.2, by rw [hplain]; exact hc i hi'⟩

theorem opened_of {w : World} {src : Option Addr} {len cap : Nat} (h : Src w.heap.size w src len) :
    Opened w (.returned (.pointer (some ⟨w.heap.size, 0, none⟩))) (w.alloc (.cells #[.slice src len cap, .int .i64 0] 83)) := by
  have hb : Below w.heap.size w (w.alloc (.cells #[.slice src len cap, .int .i64 0] 83)) := (Below.refl _ _).alloc (Nat.le_refl _) _
  exact ⟨w.heap.size, rfl, ⟨Nat.le_refl _, by simp, by simp, ⟨0, Nat.le_refl _, by simp⟩, src, len, cap, by simp, h.keep hb⟩, hb⟩

set_option maxHeartbeats 400000 in
theorem l6Open_any (a : Option Addr) (len cap : Nat) (zs : List Int) (w : World) (h : IsRow .u8 w a len cap zs) :
    Calls Try.prog 35 #[.slice a len cap] w (Opened w) := by
  rcases h with ⟨rfl, rfl, rfl, rfl⟩ | ⟨x, rfl, hl, hm, hz, hc, hw⟩
  · go_enter Try.func35, Try.ntmps35
    go_wp2
    go_ret
    exact opened_of ⟨by omega, .inl rfl⟩
  · unfold maxLen at hm
    by_cases h2 : (2000 : Int) < len
    · have hs := src_of hl hz (n := 2000) (by omega) (by omega) hc hw
      clear hc hw
      go_enter Try.func35, Try.ntmps35
      go_wp2
      go_ret
      exact opened_of hs
    · have hs := src_of hl hz (n := len) (by omega) (by omega) hc hw
      clear hc hw
      go_enter Try.func35, Try.ntmps35
      go_wp2
      go_ret
      exact opened_of hs

end Go.Proofs.Ytncbgejggfkdmaa

/- The contracts of the drawing functions of chapter 1: each draws a number or a text in its range and touches nothing that was there. -/
namespace Go.Proofs.Ytncbgejggfkdmaa
open Go.RowKit

/-- A number with the property P was drawn; the reader stands; nothing below B has turned. -/
def DrewInt (B r m : Nat) (P : Int → Prop) (w : World) (e : Ending) (w' : World) : Prop :=
  ∃ n : Int, e = .returned (.int .i64 n) ∧ P n ∧ Rd B r m w' ∧ Below B w w'
/-- A text of at most n bytes was drawn. -/
def DrewStr (B r m n : Nat) (w : World) (e : Ending) (w' : World) : Prop :=
  ∃ s : ByteArray, e = .returned (.string s) ∧ s.size ≤ n ∧ Rd B r m w' ∧ Below B w w'
theorem tab_at {w w2 : World} {r T : Nat} {cs : Array Value} (ho : Only r (w.alloc (.cells cs T)) w2) (hr : r < w.heap.size) (j : Nat) (v : Value) (hj : cs[j]? = some v) : w2.cell? ⟨w.heap.size, j, none⟩ = some v := by
  obtain ⟨u, q, rfl⟩ := ho
  rw [World.cell?_drewN]
  exact cell_far (by omega) (by rw [World.cell?_alloc_at _ _ _ _ rfl]; exact hj)
theorem Rd.alloc {B r m : Nat} {w : World} (h : Rd B r m w) (o : Obj) : Rd B r m (w.alloc o) :=
  h.keep ((Below.refl _ _).alloc (Nat.le_refl _) o) h.2.1
theorem Rd.below_alloc {B r m : Nat} {w : World} (h : Rd B r m w) (o : Obj) : Below B w (w.alloc o) :=
  (Below.refl _ _).alloc (Nat.le_of_lt (Nat.lt_of_le_of_lt h.1 h.2.1)) o

set_option maxHeartbeats 1000000 in
theorem l91Word_any (B r m : Nat) (w : World) (h : Rd B r m w) (hm : m ≤ 100000000) :
    Calls Try.prog 70 #[.pointer (some ⟨r, 0, none⟩)] w (DrewInt B r (m + 3) (fun n => -1 ≤ n ∧ n ≤ 65536) w) := by
  go_enter Try.func70, Try.ntmps70
  go_wp2_with fail
  refine (pick_any B r m 12 _ h (by omega) (by omega) (by omega)).mono ?_
  rintro e w1 ⟨k, rfl, k0, k1, hr1, ho1⟩
  have hb1 := ho1.below h.1
  by_cases c0 : k = 0
  · subst c0
    go_wp2_with fail
    refine (pick_any B r (m + 1) 6 _ (hr1.alloc _) (by omega) (by omega) (by omega)).mono ?_
    rintro e w2 ⟨j, rfl, j0, j1, hr2, ho2⟩
    obtain ⟨z, z0, z1, hz⟩ : ∃ z : Int, -1 ≤ z ∧ z ≤ 65536 ∧ w2.cell? ⟨w1.heap.size, j.toNat, none⟩ = some (.int .i64 z) := by
      rcases (show j = 0 ∨ j = 1 ∨ j = 2 ∨ j = 3 ∨ j = 4 ∨ j = 5 by omega) with rfl | rfl | rfl | rfl | rfl | rfl
      all_goals
        refine ⟨_, ?_, ?_, tab_at ho2 hr1.2.1 _ _ rfl⟩
        all_goals decide
    go_wp2
    go_ret
    exact ⟨z, rfl, ⟨z0, z1⟩, hr2.mono (by omega), hb1.trans ((hr1.below_alloc _).trans (ho2.below h.1))⟩
  · by_cases c1 : k = 1 ∨ k = 2
    · rcases c1 with rfl | rfl
      all_goals
        go_wp2_with fail
        refine (pick_any B r (m + 1) 6 _ hr1 (by omega) (by omega) (by omega)).mono ?_
        rintro e w2 ⟨j, rfl, j0, j1, hr2, ho2⟩
        go_wp2
        go_ret
        exact ⟨_, rfl, ⟨by omega, by omega⟩, hr2.mono (by omega), hb1.trans (ho2.below h.1)⟩
    · have c2 : ¬ k = 1 := by omega
      have c3 : ¬ k = 2 := by omega
      clear c1
      by_cases c4 : k = 3
      · subst c4
        go_wp2_with fail
        refine (pick_any B r (m + 1) 256 _ hr1 (by omega) (by omega) (by omega)).mono ?_
        rintro e w2 ⟨j, rfl, j0, j1, hr2, ho2⟩
        go_wp2_with fail
        refine (pick_any B r (m + 2) 256 _ hr2 (by omega) (by omega) (by omega)).mono ?_
        rintro e w3 ⟨i, rfl, i0, i1, hr3, ho3⟩
        go_wp2
        go_ret
        exact ⟨_, rfl, ⟨by omega, by omega⟩, hr3.mono (by omega), hb1.trans ((ho2.below h.1).trans (ho3.below h.1))⟩
      · go_wp2_with fail
        refine (pick_any B r (m + 1) 20 _ hr1 (by omega) (by omega) (by omega)).mono ?_
        rintro e w2 ⟨j, rfl, j0, j1, hr2, ho2⟩
        go_wp2
        go_ret
        exact ⟨_, rfl, ⟨by omega, by omega⟩, hr2.mono (by omega), hb1.trans (ho2.below h.1)⟩

set_option maxHeartbeats 1000000 in
theorem l91Good_any (B r m : Nat) (w : World) (h : Rd B r m w) (hm : m ≤ 100000000) :
    Calls Try.prog 72 #[.pointer (some ⟨r, 0, none⟩)] w (DrewInt B r (m + 3) (fun n => 0 ≤ n ∧ n ≤ 65535) w) := by
  go_enter Try.func72, Try.ntmps72
  go_wp2_with fail
  refine (l91Word_any B r m _ h hm).mono ?_
  rintro e w1 ⟨k, rfl, ⟨k0, k1⟩, hr1, hb1⟩
  go_wp2
  all_goals
    go_ret
    exact ⟨_, rfl, ⟨by omega, by omega⟩, hr1, hb1⟩

theorem own_only {w w' : World} {r C e size n : Nat} {v : Value} {xs : List Value} (ho : Only r w w') (hr : r < C) (h : w.ownsRow C e size v n xs) : w'.ownsRow C e size v n xs := by
  obtain ⟨u, q, rfl⟩ := ho
  exact ownsRow_setCell_below h (a := ⟨r, 1, none⟩) hr u
theorem own_ge {w : World} {C e size n k : Nat} {v : Value} {xs : List Value} (h : w.ownsRow C e size v n xs) (hk : v.ownBlock = some k) : C ≤ k := by
  rcases h.2 with ⟨rfl, _⟩ | ⟨g, cap, cur, rfl, hg, _⟩
  · simp [Value.ownBlock] at hk
  · simp [Value.ownBlock] at hk
    omega
theorem info_u8 : (Try.prog.info? 5).map (fun i => (i.zero, i.size, i.bytes)) = some (some (.int .u8 0), 1, 1) := by kernel_rfl
theorem conv_own {w : World} {C n : Nat} {v : Value} {l : List Int} (h : w.ownsRow C 5 1 v n (l.map (Value.int .u8))) :
    (convert 22 9 v).run Try.prog w = .ok (.string (strOfNums l)) w := by
  have hl : l.length = n := by have := h.1; simpa using this
  rcases h.2 with ⟨rfl, h0⟩ | ⟨g, cap, cur, rfl, hg, _⟩
  · have : l = [] := List.eq_nil_of_length_eq_zero (by omega)
    subst this
    exact run_convert_bytes_nil w 22 5 Try.underlying22 Try.underlying5 0 0 9 Try.underlying9
  · refine run_convert_bytes_arg w 22 5 Try.underlying22 Try.underlying5 g 0 n cap l hl (fun i hi => ?_) 9 Try.underlying9
    have := h.cellAt i (by omega)
    rw [Nat.zero_add, this]
    simp [List.getD, List.getElem?_eq_getElem (show i < l.length by omega)]

set_option maxHeartbeats 1000000 in
theorem l91Bytes_any (B r m n : Nat) (w : World) (h : Rd B r m w) (hm : m ≤ 1000000) (hn : n ≤ 1000) :
    Calls Try.prog 73 #[.pointer (some ⟨r, 0, none⟩), .int .i64 n] w (DrewStr B r (m + 1 + 2 * n) n w) := by
  obtain ⟨i0, hi, hz0, hz1, hz2⟩ := info_parts info_u8
  go_enter Try.func73, Try.ntmps73
  go_wp2_with fail
  refine (pick_any B r m (n + 1) _ (h.alloc _) (by omega) (by omega) (by omega)).mono ?_
  rintro e w1 ⟨kk, rfl, k0, k1, hr1, ho1⟩
  obtain ⟨K, rfl⟩ := Int.eq_ofNat_of_zero_le k0
  have hb1 : Below B w w1 := (h.below_alloc _).trans (ho1.below h.1)
  have hown1 : w1.ownsRow w.heap.size 5 1 (.slice (some ⟨w.heap.size, 0, none⟩) 0 0) 0 (([] : List Int).map (Value.int .u8)) := own_only ho1 h.2.1 (World.ownsRow_lit w #[] 0 (Nat.le_refl _) (by simp) rfl)
  clear ho1
  go_wp2
  go_loopw [5, 7] (fun v i wr => ∃ (j : Nat) (l : List Int), j ≤ K ∧ i = .int .i64 j ∧ l.length = j ∧ wr.ownsRow w.heap.size 5 1 v j (l.map (Value.int .u8)) ∧ Rd B r (m + 1 + 2 * j) wr ∧ Below B w wr) (fun _ i _ => K - (intOf i).toNat)
  case atStart => exact ⟨0, [], Nat.zero_le _, rfl, rfl, hown1, hr1, hb1⟩
  case round =>
    obtain ⟨j, l, hj, rfl, hjl, hown, hrd, hbel⟩ := hrel
    have HL := Lib.hid hjl
    clear hjl hown1 hr1 hb1
    by_cases hlt : j < K
    · go_wp2_with fail
      refine (pick_any B r (m + 1 + 2 * j) 16 _ hrd (by omega) (by omega) (by omega)).mono ?_
      rintro e w2 ⟨x, rfl, x0, x1, hr2, ho2⟩
      have hown2 := own_only ho2 h.2.1 hown
      have hb2 := hbel.trans (ho2.below h.1)
      clear hown hbel ho2 hrd
      go_wp2_with fail
      refine (pick_any B r (m + 1 + 2 * j + 1) 18 _ hr2 (by omega) (by omega) (by omega)).mono ?_
      rintro e w3 ⟨y, rfl, y0, y1, hr3, ho3⟩
      have hown3 := own_only ho3 h.2.1 hown2
      have hb3 := hb2.trans (ho3.below h.1)
      clear hown2 hb2 ho3 hr2
      have p0 := Int.mul_nonneg x0 y0
      have p1 : x * y ≤ 255 := by
        have := Int.mul_le_mul (show x ≤ 15 by omega) (show y ≤ 17 by omega) y0 (by omega)
        omega
      go_wp2_with (at_builtin; refine wpList_append_own _ rfl _ _ 22 rfl w.heap.size 5 i0 (.int .u8 0) 1 1 Try.underlying22 hi hz0 hz1 hz2 rfl (by decide) _ _ _ rfl (hown3.alloc _) ⟨w3.heap.size, 0, none⟩ 1 1 [.int .u8 (x * y)] rfl rfl ?c1 ?c2 ?c3 ?c4 ?c5 ?_)
      case c1 =>
        intro i u hi'
        match i, hi' with
        | 0, hi' => simp at hi'; subst hi'; simp [Addr.add]
      case c2 => intro u hu; simp at hu; subst hu; rfl
      case c3 => unfold maxLen; omega
      case c4 => omega
      case c5 => have := hb3.size; simp; omega
      · intro v' w4 hown4 hgrow _
        have hC : w.heap.size ≤ (w3.alloc (.cells #[.int .u8 (x * y)] 5)).heap.size := by have := hb3.size; simp; omega
        have hbb : Below w.heap.size (w3.alloc (.cells #[.int .u8 (x * y)] 5)) w4 := (Below.refl _ _).grown hgrow hC (fun k hk => own_ge hown3 hk)
        have hr4 := (hr3.alloc (.cells #[.int .u8 (x * y)] 5)).keep hbb h.2.1
        have hb4 : Below B w w4 := (hb3.trans (hr3.below_alloc _)).trans (hbb.mono (Nat.le_of_lt (Nat.lt_of_le_of_lt h.1 h.2.1)))
        clear hgrow hown3 hbb hr3 hb3
        go_wp2
        go_roundw
        case rel => exact ⟨j + 1, l ++ [x * y], by omega, by go_num, by simp [HL.out], by simpa using hown4, hr4.mono (by omega), hb4⟩
        case measure => simp [intOf]; omega
    · obtain rfl : j = K := by omega
      have kc := conv_own hown
      go_wp2
      go_ret
      exact ⟨_, rfl, by rw [strOfNums_size, HL.out]; omega, hrd.mono (by omega), hbel⟩

/-- A number was drawn out of the given bytes. -/
def DrewN (P : Int → Prop) (w : World) (e : Ending) (w' : World) : Prop := ∃ n : Int, e = .returned (.int .i64 n) ∧ P n ∧ Below w.heap.size w w'
/-- A text and a place were drawn. -/
def DrewSI (P : ByteArray → Int → Prop) (w : World) (e : Ending) (w' : World) : Prop := ∃ s n, e = .returned (.tuple #[.string s, .int .i64 n]) ∧ P s n ∧ Below w.heap.size w w'

end Go.Proofs.Ytncbgejggfkdmaa

/- The drawing functions once more: besides the reader they touch no block that was there. -/
namespace Go.Proofs.Ytncbgejggfkdmaa
open Go.RowKit

/-- Of the blocks below C none but block r has turned. -/
def Aside (C r : Nat) (w w' : World) : Prop := ∀ b, b < C → b ≠ r → w'.heap[b]? = w.heap[b]?
theorem Aside.refl (C r : Nat) (w : World) : Aside C r w w := fun _ _ _ => rfl
theorem Aside.trans {C r : Nat} {a b c : World} (h : Aside C r a b) (k : Aside C r b c) : Aside C r a c := fun i hi hr => (k i hi hr).trans (h i hi hr)
theorem Aside.less {C D r : Nat} {a b : World} (h : Aside C r a b) (hD : D ≤ C) : Aside D r a b := fun i hi hr => h i (by omega) hr
theorem Aside.cell {C r b i : Nat} {w w' : World} {v : Value} (h : Aside C r w w') (hb : b < C) (hr : b ≠ r) (hc : w.cell? ⟨b, i, none⟩ = some v) : w'.cell? ⟨b, i, none⟩ = some v :=
  (World.cell?_of_block (w := w) (h b hb hr)).trans hc
theorem Aside.frozen {C r b i : Nat} {w w' : World} (h : Aside C r w w') (hb : b < C) (hr : b ≠ r) (hf : w.frozen? ⟨b, i, none⟩ = false) : w'.frozen? ⟨b, i, none⟩ = false :=
  (World.frozen?_of_block (w := w) (h b hb hr)).trans hf
theorem below_aside {C D r : Nat} {w w' : World} (h : Below D w w') (hD : C ≤ D) : Aside C r w w' := fun b hb _ => h.block b (by omega)
theorem Only.aside {r C : Nat} {w w' : World} (h : Only r w w') : Aside C r w w' := by
  obtain ⟨u, q, rfl⟩ := h
  intro b _ hr
  rw [World.heap_drewN]
  exact Below.heap_setCell _ _ _ _ (by simpa using hr)
theorem aside_alloc {C r : Nat} (w : World) (o : Obj) (h : C ≤ w.heap.size) : Aside C r w (w.alloc o) := below_aside ((Below.refl C w).alloc h o) (Nat.le_refl _)

set_option maxHeartbeats 1000000 in
theorem l91Word_as (B r m : Nat) (w : World) (h : Rd B r m w) (hm : m ≤ 100000000) :
    Calls Try.prog 70 #[.pointer (some ⟨r, 0, none⟩)] w fun e w' => DrewInt B r (m + 3) (fun n => -1 ≤ n ∧ n ≤ 65536) w e w' ∧ Aside w.heap.size r w w' := by
  go_enter Try.func70, Try.ntmps70
  go_wp2_with fail
  refine (pick_any B r m 12 _ h (by omega) (by omega) (by omega)).mono ?_
  rintro e w1 ⟨k, rfl, k0, k1, hr1, ho1⟩
  have hb1 := ho1.below h.1
  have ha1 : Aside w.heap.size r w w1 := ho1.aside
  have HZ1 := Lib.hid ho1.size
  by_cases c0 : k = 0
  · subst c0
    go_wp2_with fail
    refine (pick_any B r (m + 1) 6 _ (hr1.alloc _) (by omega) (by omega) (by omega)).mono ?_
    rintro e w2 ⟨j, rfl, j0, j1, hr2, ho2⟩
    obtain ⟨z, z0, z1, hz⟩ : ∃ z : Int, -1 ≤ z ∧ z ≤ 65536 ∧ w2.cell? ⟨w1.heap.size, j.toNat, none⟩ = some (.int .i64 z) := by
      rcases (show j = 0 ∨ j = 1 ∨ j = 2 ∨ j = 3 ∨ j = 4 ∨ j = 5 by omega) with rfl | rfl | rfl | rfl | rfl | rfl
      all_goals
        refine ⟨_, ?_, ?_, tab_at ho2 hr1.2.1 _ _ rfl⟩
        all_goals decide
    have HA := Lib.hid (ha1.trans ((aside_alloc w1 _ (by rw [HZ1.out]; exact Nat.le_refl _)).trans ho2.aside))
    go_wp2
    go_ret
    exact ⟨⟨z, rfl, ⟨z0, z1⟩, hr2.mono (by omega), hb1.trans ((hr1.below_alloc _).trans (ho2.below h.1))⟩, HA.out⟩
  · by_cases c1 : k = 1 ∨ k = 2
    · rcases c1 with rfl | rfl
      all_goals
        go_wp2_with fail
        refine (pick_any B r (m + 1) 6 _ hr1 (by omega) (by omega) (by omega)).mono ?_
        rintro e w2 ⟨j, rfl, j0, j1, hr2, ho2⟩
        go_wp2
        go_ret
        exact ⟨⟨_, rfl, ⟨by omega, by omega⟩, hr2.mono (by omega), hb1.trans (ho2.below h.1)⟩, ha1.trans ho2.aside⟩
    · have c2 : ¬ k = 1 := by omega
      have c3 : ¬ k = 2 := by omega
      clear c1
      by_cases c4 : k = 3
      · subst c4
        go_wp2_with fail
        refine (pick_any B r (m + 1) 256 _ hr1 (by omega) (by omega) (by omega)).mono ?_
        rintro e w2 ⟨j, rfl, j0, j1, hr2, ho2⟩
        go_wp2_with fail
        refine (pick_any B r (m + 2) 256 _ hr2 (by omega) (by omega) (by omega)).mono ?_
        rintro e w3 ⟨i, rfl, i0, i1, hr3, ho3⟩
        go_wp2
        go_ret
        exact ⟨⟨_, rfl, ⟨by omega, by omega⟩, hr3.mono (by omega), hb1.trans ((ho2.below h.1).trans (ho3.below h.1))⟩, ha1.trans (ho2.aside.trans ho3.aside)⟩
      · go_wp2_with fail
        refine (pick_any B r (m + 1) 20 _ hr1 (by omega) (by omega) (by omega)).mono ?_
        rintro e w2 ⟨j, rfl, j0, j1, hr2, ho2⟩
        go_wp2
        go_ret
        exact ⟨⟨_, rfl, ⟨by omega, by omega⟩, hr2.mono (by omega), hb1.trans (ho2.below h.1)⟩, ha1.trans ho2.aside⟩

set_option maxHeartbeats 1000000 in
theorem l91Bytes_as (B r m n : Nat) (w : World) (h : Rd B r m w) (hm : m ≤ 1000000) (hn : n ≤ 1000) :
    Calls Try.prog 73 #[.pointer (some ⟨r, 0, none⟩), .int .i64 n] w fun e w' => DrewStr B r (m + 1 + 2 * n) n w e w' ∧ Aside w.heap.size r w w' := by
  obtain ⟨i0, hi, hz0, hz1, hz2⟩ := info_parts info_u8
  go_enter Try.func73, Try.ntmps73
  go_wp2_with fail
  refine (pick_any B r m (n + 1) _ (h.alloc _) (by omega) (by omega) (by omega)).mono ?_
  rintro e w1 ⟨kk, rfl, k0, k1, hr1, ho1⟩
  obtain ⟨K, rfl⟩ := Int.eq_ofNat_of_zero_le k0
  have hb1 : Below B w w1 := (h.below_alloc _).trans (ho1.below h.1)
  have ha1 : Aside w.heap.size r w w1 := (aside_alloc w _ (Nat.le_refl _)).trans ho1.aside
  have hown1 : w1.ownsRow w.heap.size 5 1 (.slice (some ⟨w.heap.size, 0, none⟩) 0 0) 0 (([] : List Int).map (Value.int .u8)) := own_only ho1 h.2.1 (World.ownsRow_lit w #[] 0 (Nat.le_refl _) (by simp) rfl)
  clear ho1
  go_wp2
  go_loopw [5, 7] (fun v i wr => ∃ (j : Nat) (l : List Int), j ≤ K ∧ i = .int .i64 j ∧ l.length = j ∧ wr.ownsRow w.heap.size 5 1 v j (l.map (Value.int .u8)) ∧ Rd B r (m + 1 + 2 * j) wr ∧ Below B w wr ∧ Aside w.heap.size r w wr ∧ w.heap.size ≤ wr.heap.size) (fun _ i _ => K - (intOf i).toNat)
  case atStart => exact ⟨0, [], Nat.zero_le _, rfl, rfl, hown1, hr1, hb1, ha1, hb1.size⟩
  case round =>
    obtain ⟨j, l, hj, rfl, hjl, hown, hrd, hbel, hasi, hsz⟩ := hrel
    have HL := Lib.hid hjl
    clear hjl hown1 hr1 hb1 ha1
    by_cases hlt : j < K
    · go_wp2_with fail
      refine (pick_any B r (m + 1 + 2 * j) 16 _ hrd (by omega) (by omega) (by omega)).mono ?_
      rintro e w2 ⟨x, rfl, x0, x1, hr2, ho2⟩
      have hown2 := own_only ho2 h.2.1 hown
      have hb2 := hbel.trans (ho2.below h.1)
      have ha2 := hasi.trans ho2.aside
      have HZ2 := Lib.hid (show w.heap.size ≤ w2.heap.size by rw [ho2.size]; exact hsz)
      clear hown hbel ho2 hrd hasi hsz
      go_wp2_with fail
      refine (pick_any B r (m + 1 + 2 * j + 1) 18 _ hr2 (by omega) (by omega) (by omega)).mono ?_
      rintro e w3 ⟨y, rfl, y0, y1, hr3, ho3⟩
      have hown3 := own_only ho3 h.2.1 hown2
      have hb3 := hb2.trans (ho3.below h.1)
      have ha3 := ha2.trans ho3.aside
      have hz3 : w.heap.size ≤ w3.heap.size := by rw [ho3.size]; exact HZ2.out
      clear hown2 hb2 ho3 hr2 ha2 HZ2
      have p0 := Int.mul_nonneg x0 y0
      have p1 : x * y ≤ 255 := by
        have := Int.mul_le_mul (show x ≤ 15 by omega) (show y ≤ 17 by omega) y0 (by omega)
        omega
      go_wp2_with (at_builtin; refine wpList_append_own _ rfl _ _ 22 rfl w.heap.size 5 i0 (.int .u8 0) 1 1 Try.underlying22 hi hz0 hz1 hz2 rfl (by decide) _ _ _ rfl (hown3.alloc _) ⟨w3.heap.size, 0, none⟩ 1 1 [.int .u8 (x * y)] rfl rfl ?c1 ?c2 ?c3 ?c4 ?c5 ?_)
      case c1 =>
        intro i u hi'
        match i, hi' with
        | 0, hi' => simp at hi'; subst hi'; simp [Addr.add]
      case c2 => intro u hu; simp at hu; subst hu; rfl
      case c3 => unfold maxLen; omega
      case c4 => omega
      case c5 => simp; omega
      · intro v' w4 hown4 hgrow _
        have hC : w.heap.size ≤ (w3.alloc (.cells #[.int .u8 (x * y)] 5)).heap.size := by simp; omega
        have hbb : Below w.heap.size (w3.alloc (.cells #[.int .u8 (x * y)] 5)) w4 := (Below.refl _ _).grown hgrow hC (fun k hk => own_ge hown3 hk)
        have hr4 := (hr3.alloc (.cells #[.int .u8 (x * y)] 5)).keep hbb h.2.1
        have hb4 : Below B w w4 := (hb3.trans (hr3.below_alloc _)).trans (hbb.mono (Nat.le_of_lt (Nat.lt_of_le_of_lt h.1 h.2.1)))
        have ha4 : Aside w.heap.size r w w4 := ha3.trans ((aside_alloc w3 _ hz3).trans (below_aside hbb (Nat.le_refl _)))
        have hz4 : w.heap.size ≤ w4.heap.size := Nat.le_trans hC hbb.size
        have HZ := Lib.hid hz4
        clear hgrow hown3 hbb hr3 hb3 ha3 hz3 hC hz4
        go_wp2
        go_roundw
        case rel => exact ⟨j + 1, l ++ [x * y], by omega, by go_num, by simp [HL.out], by simpa using hown4, hr4.mono (by omega), hb4, ha4, HZ.out⟩
        case measure => simp [intOf]; omega
    · obtain rfl : j = K := by omega
      have kc := conv_own hown
      go_wp2
      go_ret
      exact ⟨⟨_, rfl, by rw [strOfNums_size, HL.out]; omega, hrd.mono (by omega), hbel⟩, hasi⟩

end Go.Proofs.Ytncbgejggfkdmaa

/- Plain lemmas on serial numbers: steps, differences, and which one is ahead. -/
namespace Go.Proofs.Ytncbgejggfkdmaa
open Go.RowKit Go.PlainAid

/-- A serial number. -/
def Ser (a : Int) : Prop := 0 ≤ a ∧ a < 65536
/-- Some steps behind a number. -/
def addS (a n : Int) : Int := (a + n) % 65536
/-- The steps from one number to another one. -/
def diffS (a b : Int) : Int := if 32768 < addS b (-a) then addS b (-a) - 65536 else addS b (-a)
/-- One number is ahead of the other. -/
def LessS (a b : Int) : Prop := 1 ≤ diffS a b ∧ diffS a b ≤ 32767
/-- A number is among those that follow each other. -/
def InS (n first many : Int) : Prop := Ser n ∧ Ser first ∧ 0 ≤ many ∧ many ≤ 32768 ∧ addS n (-first) < many

theorem rem_mod (a n : Int) : (a + Int.tmod n 65536 + 65536) % 65536 = addS a n := by
  have := Int.mul_tdiv_add_tmod n 65536
  unfold addS
  omega
theorem rem_range (n : Int) : -65536 < Int.tmod n 65536 ∧ Int.tmod n 65536 < 65536 := by
  have h1 := Int.tmod_lt_of_pos n (show (0 : Int) < 65536 by decide)
  refine ⟨?_, h1⟩
  by_cases h : 0 ≤ n
  · have := Int.tmod_nonneg 65536 h
    omega
  · have h2 := Int.tmod_lt_of_pos (-n) (show (0 : Int) < 65536 by decide)
    rw [Int.neg_tmod] at h2
    omega
theorem addS_ser (a n : Int) : Ser (addS a n) := by unfold Ser addS; omega
theorem addS_back {a : Int} (n : Int) (h : Ser a) : addS (addS a n) (-n) = a := by unfold Ser at h; unfold addS; omega
theorem addS_more (a n : Int) : addS a (n + 65536) = addS a n := by unfold addS; omega
theorem addS_fewer (a n : Int) : addS a (n - 65536) = addS a n := by unfold addS; omega
theorem addS_sum (a n k : Int) : addS (addS a n) k = addS a (n + k) := by unfold addS; omega
theorem addS_none {a : Int} (h : Ser a) : addS a 0 = a := by unfold Ser at h; unfold addS; omega
theorem diffS_range (a b : Int) : -32768 < diffS a b ∧ diffS a b ≤ 32768 := by unfold diffS addS; split <;> omega
theorem diffS_leads (a : Int) {b : Int} (h : Ser b) : addS a (diffS a b) = b := by unfold Ser at h; unfold diffS addS; split <;> omega
theorem diffS_half {a b : Int} (h : diffS a b = 32768) : diffS b a = 32768 := by revert h; unfold diffS addS; split <;> split <;> omega
theorem diffS_back {a b : Int} (h : diffS a b ≠ 32768) : diffS b a = -diffS a b := by revert h; unfold diffS addS; split <;> split <;> omega
theorem diffS_add {a k : Int} (h0 : 0 ≤ k) (h1 : k < 32768) : diffS a (addS a k) = k := by unfold diffS addS; split <;> omega
theorem diffS_sub {a k : Int} (h0 : 0 ≤ k) (h1 : k < 32768) : diffS a (addS a (-k)) = -k := by unfold diffS addS; split <;> omega
theorem diffS_move (a b k : Int) : diffS (addS a k) (addS b k) = diffS a b := by unfold diffS addS; split <;> split <;> omega
theorem diffS_same (a : Int) : diffS a a = 0 := by unfold diffS addS; split <;> omega
theorem diffS_zero {a b : Int} (ha : Ser a) (hb : Ser b) (h : diffS a b = 0) : a = b := by
  unfold Ser at ha hb
  revert h
  unfold diffS addS
  split <;> omega
theorem lessS_other {a b : Int} (h : LessS a b) : ¬ LessS b a := by
  unfold LessS at *
  have := diffS_back (a := a) (b := b) (by omega)
  omega
theorem lessS_ne {a b : Int} (h : LessS a b) : a ≠ b := fun e => by
  unfold LessS at h
  rw [e, diffS_same] at h
  omega
theorem lessS_none (a b : Int) : (¬ LessS a b ∧ ¬ LessS b a) ↔ (diffS a b = 0 ∨ diffS a b = 32768) := by
  have hr := diffS_range a b
  unfold LessS
  by_cases h : diffS a b = 32768
  · have := diffS_half h
    omega
  · have := diffS_back h
    omega
theorem lessS_add {a k : Int} (h0 : 1 ≤ k) (h1 : k ≤ 32767) : LessS a (addS a k) := by
  unfold LessS
  rw [diffS_add (by omega) (by omega)]
  exact ⟨h0, h1⟩
theorem lessS_sub {a k : Int} (h0 : 1 ≤ k) (h1 : k ≤ 32767) : ¬ LessS a (addS a (-k)) := by
  unfold LessS
  rw [diffS_sub (by omega) (by omega)]
  omega
/-- Among them: the steps from the first one are not negative, and fewer than they are. -/
theorem inS_diff {n first many : Int} (hn : Ser n) (hf : Ser first) (h0 : 0 ≤ many) (h1 : many ≤ 32768) : InS n first many ↔ (0 ≤ diffS first n ∧ diffS first n < many) := by
  unfold InS
  unfold Ser at *
  unfold diffS addS
  split <;> omega
theorem inS_first {n first many : Int} (h : InS n first many) : InS first first many := by
  unfold InS Ser addS at *
  omega
theorem inS_end {n first many : Int} (h : InS n first many) : ¬ InS (addS first many) first many := by
  unfold InS Ser addS at *
  omega
theorem inS_last {n first many : Int} (h : InS n first many) : InS (addS first (many - 1)) first many := by
  unfold InS Ser addS at *
  omega

/-- What SerialAdd answers. -/
def addV (a n : Int) : Int := if 0 ≤ a ∧ a ≤ 65535 then addS a n else -1
/-- What SerialDiff answers. -/
def diffV (a b : Int) : Int := if (0 ≤ a ∧ a ≤ 65535) ∧ (0 ≤ b ∧ b ≤ 65535) then diffS a b else -65536
/-- What SerialLess answers. -/
def lessV (a b : Int) : Bool := decide ((0 ≤ a ∧ a ≤ 65535) ∧ (0 ≤ b ∧ b ≤ 65535) ∧ 1 ≤ diffS a b ∧ diffS a b ≤ 32767)
/-- What SerialLast answers. -/
def lastV (a b : Int) : Int := if (0 ≤ a ∧ a ≤ 65535) ∧ (0 ≤ b ∧ b ≤ 65535) then (if lessV a b = true then b else a) else -1
instance (n first many : Int) : Decidable (InS n first many) := by
  unfold InS Ser
  infer_instance
/-- What SerialIn answers. -/
def inV (n first many : Int) : Bool := decide (InS n first many)

theorem ser_le {a : Int} (h : Ser a) : 0 ≤ a ∧ a ≤ 65535 := by unfold Ser at h; omega
theorem ser_not {a : Int} (h : ¬ Ser a) : ¬ (0 ≤ a ∧ a ≤ 65535) := by unfold Ser at h; omega
theorem addV_yes {a : Int} (n : Int) (h : Ser a) : addV a n = addS a n := if_pos (ser_le h)
theorem addV_no {a : Int} (n : Int) (h : ¬ Ser a) : addV a n = -1 := if_neg (ser_not h)
theorem diffV_yes {a b : Int} (ha : Ser a) (hb : Ser b) : diffV a b = diffS a b := if_pos ⟨ser_le ha, ser_le hb⟩
theorem diffV_left {a : Int} (b : Int) (ha : ¬ Ser a) : diffV a b = -65536 := if_neg fun h => ser_not ha h.1
theorem diffV_right (a : Int) {b : Int} (hb : ¬ Ser b) : diffV a b = -65536 := if_neg fun h => ser_not hb h.2
theorem lessV_yes {a b : Int} (ha : Ser a) (hb : Ser b) (h : LessS a b) : lessV a b = true := decide_eq_true ⟨ser_le ha, ser_le hb, h⟩
theorem lessV_no {a b : Int} (h : ¬ LessS a b) : lessV a b = false := decide_eq_false fun g => h g.2.2
theorem lessV_left {a : Int} (b : Int) (ha : ¬ Ser a) : lessV a b = false := decide_eq_false fun h => ser_not ha h.1
theorem lessV_right (a : Int) {b : Int} (hb : ¬ Ser b) : lessV a b = false := decide_eq_false fun h => ser_not hb h.2.1
theorem lessV_ser {a b : Int} (h : lessV a b = true) : Ser a ∧ Ser b ∧ LessS a b := by
  have g := of_decide_eq_true h
  refine ⟨?_, ?_, g.2.2⟩ <;> unfold Ser <;> omega
theorem lastV_less {a b : Int} (ha : Ser a) (hb : Ser b) (h : LessS a b) : lastV a b = b := by
  unfold lastV
  rw [if_pos ⟨ser_le ha, ser_le hb⟩, if_pos (lessV_yes ha hb h)]
theorem lastV_other {a b : Int} (ha : Ser a) (hb : Ser b) (h : ¬ LessS a b) : lastV a b = a := by
  unfold lastV
  rw [if_pos ⟨ser_le ha, ser_le hb⟩, lessV_no h, if_neg (by decide)]
theorem lastV_left {a : Int} (b : Int) (ha : ¬ Ser a) : lastV a b = -1 := if_neg fun h => ser_not ha h.1
theorem lastV_right (a : Int) {b : Int} (hb : ¬ Ser b) : lastV a b = -1 := if_neg fun h => ser_not hb h.2
theorem inV_yes {n first many : Int} (h : InS n first many) : inV n first many = true := decide_eq_true h
theorem inV_no {n first many : Int} (h : ¬ InS n first many) : inV n first many = false := decide_eq_false h
theorem inV_self {n : Int} (h : Ser n) : inV n n 1 = true := by
  refine inV_yes ?_
  unfold InS Ser addS at *
  omega
theorem inV_self_no {n : Int} (h : ¬ Ser n) : inV n n 1 = false := inV_no fun g => h g.1
theorem inV_many_no {n first many : Int} (h : ¬ (0 ≤ many ∧ many ≤ 32768)) : inV n first many = false := inV_no fun g => h ⟨g.2.2.1, g.2.2.2.1⟩

end Go.Proofs.Ytncbgejggfkdmaa

/- Plain lemmas on bodies: parts and inits as bytes, read back; which chunks hold them. -/
namespace Go.Proofs.Ytncbgejggfkdmaa
open Go.RowKit Go.PlainAid

theorem cut_join (s : ByteArray) (i j n : Nat) (h1 : i ≤ j) (h2 : j ≤ n) (h3 : n ≤ s.size) : s.extract i j ++ s.extract j n = s.extract i n := by
  have z1 := size_cut s i j (by omega)
  have z2 := size_cut s j n h3
  have z3 := size_cut s i n h3
  refine same_bt ?_ fun k hk => ?_
  · rw [ByteArray.size_append]
    omega
  · rw [ByteArray.size_append] at hk
    rcases Nat.lt_or_ge k (j - i) with h | h
    · rw [bt_left _ _ _ (by omega), bt_cut _ _ _ _ (by omega), bt_cut _ _ _ _ (by omega)]
    · rw [bt_right _ _ _ (by omega), bt_cut _ _ _ _ (by omega), bt_cut _ _ _ _ (by omega), z1, show j + (k - (j - i)) = i + k by omega]
theorem cut_all (s : ByteArray) : s.extract 0 s.size = s := by
  have z := size_cut s 0 s.size (Nat.le_refl _)
  refine same_bt (by omega) fun k hk => ?_
  rw [bt_cut _ _ _ _ (by omega), Nat.zero_add]
theorem word_cut (s : ByteArray) (p : Nat) (h : p + 2 ≤ s.size) : wordS (be s p 2) = s.extract p (p + 2) := by
  have e := wordS_extract s p h
  rw [ByteArray.toList_eq, ByteArray.toList_eq] at e
  exact ByteArray.ext (Array.toList_inj.1 e)
theorem be_four_bound (s : ByteArray) (p : Nat) : 0 ≤ be s p 4 ∧ be s p 4 ≤ 4294967295 := by
  have h1 := be_two_bound s p
  have h2 := be_two_bound s (p + 2)
  rw [be_four]
  omega
theorem long_cut (s : ByteArray) (p : Nat) (h : p + 4 ≤ s.size) : longS (be s p 4) = s.extract p (p + 4) := by
  have h1 := be_two_bound s p
  have h2 := be_two_bound s (p + 2)
  rw [← long_words, be_four, show (65536 * be s p 2 + be s (p + 2) 2) / 65536 = be s p 2 by omega, show (65536 * be s p 2 + be s (p + 2) 2) % 65536 = be s (p + 2) 2 by omega,
    word_cut s p (by omega), word_cut s (p + 2) (by omega), cut_join s p (p + 2) (p + 2 + 2) (by omega) (by omega) (by omega)]
theorem be_left (x y : ByteArray) (p k : Nat) (h : p + k ≤ x.size) : be (x ++ y) p k = be x p k := be_congr _ _ _ _ k fun i hi => bt_left x y (p + i) (by omega)
theorem be_right (x y : ByteArray) (p k : Nat) : be (x ++ y) (x.size + p) k = be y p k := be_congr _ _ _ _ k fun i _ => by
  rw [bt_right x y _ (by omega), show x.size + p + i - x.size = p + i by omega]
theorem cut_right (x y : ByteArray) : (x ++ y).extract x.size (x ++ y).size = y := by
  have hz : (x ++ y).size = x.size + y.size := ByteArray.size_append ..
  have z := size_cut (x ++ y) x.size (x ++ y).size (Nat.le_refl _)
  refine same_bt (by omega) fun k hk => ?_
  rw [bt_cut _ _ _ _ (by omega), bt_right _ _ _ (by omega), Nat.add_sub_cancel_left]

/-- The body of a part. -/
def dataS (a b c : Int) (t : ByteArray) : ByteArray := wordS a ++ wordS b ++ wordS c ++ t
/-- A part is valid. -/
def DataOk (a b c : Int) (t : ByteArray) : Prop := (0 ≤ a ∧ a ≤ 65535) ∧ (0 ≤ b ∧ b ≤ 65535) ∧ (0 ≤ c ∧ c ≤ 65535) ∧ 1 ≤ t.size ∧ t.size ≤ 20
/-- The flags of a part. -/
def flagsV (first last loose : Bool) : Int := (if last then 1 else 0) + (if first then 2 else 0) + (if loose then 4 else 0)
/-- A chunk holds a part. -/
def HasData (k f : Int) (b : ByteArray) : Prop := k = 0 ∧ (0 ≤ f ∧ f ≤ 7) ∧ 7 ≤ b.size ∧ b.size ≤ 26
theorem dataS_size (a b c : Int) (t : ByteArray) : (dataS a b c t).size = 6 + t.size := by
  unfold dataS
  rw [ByteArray.size_append, ByteArray.size_append, ByteArray.size_append, wordS_size, wordS_size, wordS_size]
theorem flagsV_range (x y z : Bool) : 0 ≤ flagsV x y z ∧ flagsV x y z ≤ 7 := by cases x <;> cases y <;> cases z <;> decide
theorem flagsV_last (x y z : Bool) : (flagsV x y z % 2 == 1) = y := by cases x <;> cases y <;> cases z <;> rfl
theorem flagsV_first (x y z : Bool) : (flagsV x y z / 2 % 2 == 1) = x := by cases x <;> cases y <;> cases z <;> rfl
theorem flagsV_loose (x y z : Bool) : (flagsV x y z / 4 == 1) = z := by cases x <;> cases y <;> cases z <;> rfl
theorem flagsV_of {f : Int} (h0 : 0 ≤ f) (h1 : f ≤ 7) : flagsV (f / 2 % 2 == 1) (f % 2 == 1) (f / 4 == 1) = f := by
  rcases (show f = 0 ∨ f = 1 ∨ f = 2 ∨ f = 3 ∨ f = 4 ∨ f = 5 ∨ f = 6 ∨ f = 7 by omega) with rfl | rfl | rfl | rfl | rfl | rfl | rfl | rfl <;> decide
theorem hasData_put {a b c : Int} {t : ByteArray} (x y z : Bool) (h : DataOk a b c t) : HasData 0 (flagsV x y z) (dataS a b c t) := by
  have hz := dataS_size a b c t
  have h4 := h.2.2.2
  exact ⟨rfl, flagsV_range x y z, by omega, by omega⟩
theorem data_first {a b c : Int} {t : ByteArray} (h : DataOk a b c t) : be (dataS a b c t) 0 2 = a := by
  unfold dataS
  rw [be_left _ _ _ _ (by rw [ByteArray.size_append, ByteArray.size_append, wordS_size, wordS_size, wordS_size]; omega), be_left _ _ _ _ (by rw [ByteArray.size_append, wordS_size, wordS_size]; omega), be_left _ _ _ _ (by rw [wordS_size]; omega)]
  exact be_wordS a h.1.1 h.1.2
theorem data_second {a b c : Int} {t : ByteArray} (h : DataOk a b c t) : be (dataS a b c t) 2 2 = b := by
  unfold dataS
  rw [be_left _ _ _ _ (by rw [ByteArray.size_append, ByteArray.size_append, wordS_size, wordS_size, wordS_size]; omega), be_left _ _ _ _ (by rw [ByteArray.size_append, wordS_size, wordS_size]; omega)]
  have e := be_right (wordS a) (wordS b) 0 2
  rw [wordS_size] at e
  rw [e]
  exact be_wordS b h.2.1.1 h.2.1.2
theorem data_third {a b c : Int} {t : ByteArray} (h : DataOk a b c t) : be (dataS a b c t) 4 2 = c := by
  unfold dataS
  rw [be_left _ _ _ _ (by rw [ByteArray.size_append, ByteArray.size_append, wordS_size, wordS_size, wordS_size]; omega)]
  have e := be_right (wordS a ++ wordS b) (wordS c) 0 2
  rw [ByteArray.size_append, wordS_size, wordS_size] at e
  rw [e]
  exact be_wordS c h.2.2.1.1 h.2.2.1.2
theorem data_text (a b c : Int) (t : ByteArray) : (dataS a b c t).extract 6 (dataS a b c t).size = t := by
  have e := cut_right (wordS a ++ wordS b ++ wordS c) t
  rw [show (wordS a ++ wordS b ++ wordS c).size = 6 by rw [ByteArray.size_append, ByteArray.size_append, wordS_size, wordS_size, wordS_size]] at e
  exact e
theorem data_ok {k f : Int} {b : ByteArray} (h : HasData k f b) : DataOk (be b 0 2) (be b 2 2) (be b 4 2) (b.extract 6 b.size) := by
  obtain ⟨_, _, h2, h3⟩ := h
  have z := size_cut b 6 b.size (Nat.le_refl _)
  exact ⟨be_two_bound b 0, be_two_bound b 2, be_two_bound b 4, by omega, by omega⟩
theorem data_back {k f : Int} {b : ByteArray} (h : HasData k f b) : dataS (be b 0 2) (be b 2 2) (be b 4 2) (b.extract 6 b.size) = b := by
  obtain ⟨_, _, h2, h3⟩ := h
  unfold dataS
  rw [word_cut b 0 (by omega), word_cut b 2 (by omega), word_cut b 4 (by omega), cut_join b 0 (0 + 2) (2 + 2) (by omega) (by omega) (by omega), cut_join b 0 (2 + 2) (4 + 2) (by omega) (by omega) (by omega), cut_join b 0 (4 + 2) b.size (by omega) (by omega) (Nat.le_refl _), cut_all]

/-- The body of an init. -/
def initS (a b c d : Int) : ByteArray := longS a ++ wordS b ++ wordS c ++ wordS d
/-- An init is valid. -/
def InitOk (a b c d : Int) : Prop := (1 ≤ a ∧ a ≤ 4294967295) ∧ (0 ≤ b ∧ b ≤ 65535) ∧ (1 ≤ c ∧ c ≤ 4) ∧ 0 ≤ d ∧ d ≤ 65535
/-- A chunk holds an init. -/
def HasInit (k f : Int) (b : ByteArray) : Prop := (k = 1 ∨ k = 2) ∧ f = 0 ∧ b.size = 10 ∧ 1 ≤ be b 0 4 ∧ 1 ≤ be b 6 2 ∧ be b 6 2 ≤ 4
theorem initS_size (a b c d : Int) : (initS a b c d).size = 10 := by
  unfold initS
  rw [ByteArray.size_append, ByteArray.size_append, ByteArray.size_append, longS_size, wordS_size, wordS_size, wordS_size]
theorem init_tag {a b c d : Int} (h : InitOk a b c d) : be (initS a b c d) 0 4 = a := by
  unfold initS
  rw [be_left _ _ _ _ (by rw [ByteArray.size_append, ByteArray.size_append, longS_size, wordS_size, wordS_size]; omega), be_left _ _ _ _ (by rw [ByteArray.size_append, longS_size, wordS_size]; omega), be_left _ _ _ _ (by rw [longS_size]; omega)]
  exact be_longS a (by have := h.1.1; omega) h.1.2
theorem init_window {a b c d : Int} (h : InitOk a b c d) : be (initS a b c d) 4 2 = b := by
  unfold initS
  rw [be_left _ _ _ _ (by rw [ByteArray.size_append, ByteArray.size_append, longS_size, wordS_size, wordS_size]; omega), be_left _ _ _ _ (by rw [ByteArray.size_append, longS_size, wordS_size]; omega)]
  have e := be_right (longS a) (wordS b) 0 2
  rw [longS_size] at e
  rw [e]
  exact be_wordS b h.2.1.1 h.2.1.2
theorem init_streams {a b c d : Int} (h : InitOk a b c d) : be (initS a b c d) 6 2 = c := by
  unfold initS
  rw [be_left _ _ _ _ (by rw [ByteArray.size_append, ByteArray.size_append, longS_size, wordS_size, wordS_size]; omega)]
  have e := be_right (longS a ++ wordS b) (wordS c) 0 2
  rw [ByteArray.size_append, longS_size, wordS_size] at e
  rw [e]
  exact be_wordS c (by have := h.2.2.1.1; omega) (by have := h.2.2.1.2; omega)
theorem init_tsn {a b c d : Int} (h : InitOk a b c d) : be (initS a b c d) 8 2 = d := by
  unfold initS
  have e := be_right (longS a ++ wordS b ++ wordS c) (wordS d) 0 2
  rw [ByteArray.size_append, ByteArray.size_append, longS_size, wordS_size, wordS_size] at e
  rw [e]
  exact be_wordS d h.2.2.2.1 h.2.2.2.2
theorem hasInit_put {k a b c d : Int} (hk : k = 1 ∨ k = 2) (h : InitOk a b c d) : HasInit k 0 (initS a b c d) :=
  ⟨hk, rfl, initS_size a b c d, by rw [init_tag h]; exact h.1.1, by rw [init_streams h]; exact h.2.2.1.1, by rw [init_streams h]; exact h.2.2.1.2⟩
theorem init_ok {k f : Int} {b : ByteArray} (h : HasInit k f b) : InitOk (be b 0 4) (be b 4 2) (be b 6 2) (be b 8 2) := by
  obtain ⟨_, _, _, h3, h4, h5⟩ := h
  exact ⟨⟨h3, (be_four_bound b 0).2⟩, be_two_bound b 4, ⟨h4, h5⟩, be_two_bound b 8⟩
theorem init_back {k f : Int} {b : ByteArray} (h : HasInit k f b) : initS (be b 0 4) (be b 4 2) (be b 6 2) (be b 8 2) = b := by
  have h2 := h.2.2.1
  unfold initS
  rw [long_cut b 0 (by omega), word_cut b 4 (by omega), word_cut b 6 (by omega), word_cut b 8 (by omega), cut_join b 0 (0 + 4) (4 + 2) (by omega) (by omega) (by omega), cut_join b 0 (4 + 2) (6 + 2) (by omega) (by omega) (by omega), cut_join b 0 (6 + 2) (8 + 2) (by omega) (by omega) (by omega)]
  have e := cut_all b
  rw [h2] at e
  exact e

end Go.Proofs.Ytncbgejggfkdmaa

/- Assemblies, plain: parts that wait, messages that are complete. -/
namespace Go.Proofs.Ytncbgejggfkdmaa
open Go.RowKit Go.PlainAid

/-- A part of a message. -/
structure Part where
  tsn : Int
  stream : Int
  ssn : Int
  first : Bool
  last : Bool
  loose : Bool
  text : ByteArray
/-- A message. -/
structure Msg where
  stream : Int
  ssn : Int
  loose : Bool
  text : ByteArray
def noPart : Part := ⟨0, 0, 0, false, false, false, ByteArray.mk #[]⟩
/-- The part at a place. -/
def pAt (ps : List Part) (i : Nat) : Part := ps.getD i noPart
theorem pAt_mem {ps : List Part} {i : Nat} (h : i < ps.length) : pAt ps i ∈ ps := by
  unfold pAt
  rw [List.getD_eq_getElem?_getD, List.getElem?_eq_getElem h]
  exact List.getElem_mem _
theorem pAt_get {ps : List Part} {i : Nat} (h : i < ps.length) : ps[i] = pAt ps i := by
  unfold pAt
  rw [List.getD_eq_getElem?_getD, List.getElem?_eq_getElem h]
  rfl
/-- Where the part with a number lies. -/
def idxP (ps : List Part) (t : Int) : Option Nat := ps.findIdx? fun p => p.tsn == t
theorem idx_some {ps : List Part} {t : Int} {j : Nat} (h : idxP ps t = some j) : j < ps.length ∧ (pAt ps j).tsn = t ∧ ∀ i, i < j → (pAt ps i).tsn ≠ t := by
  obtain ⟨hj, h1, h2⟩ := List.findIdx?_eq_some_iff_getElem.1 h
  refine ⟨hj, by rw [← pAt_get hj]; simpa using h1, fun i hi => ?_⟩
  have := h2 i hi
  rw [pAt_get (by omega)] at this
  simpa using this
theorem idx_none {ps : List Part} {t : Int} (h : idxP ps t = none) : ∀ p ∈ ps, p.tsn ≠ t := by
  intro p hp
  have := List.findIdx?_eq_none_iff.1 h p hp
  simpa using this
theorem idx_is {ps : List Part} {t : Int} {j : Nat} (hj : j < ps.length) (ht : (pAt ps j).tsn = t) (hb : ∀ i, i < j → (pAt ps i).tsn ≠ t) : idxP ps t = some j := by
  refine List.findIdx?_eq_some_iff_getElem.2 ⟨hj, by rw [pAt_get hj]; simpa using ht, fun i hi => ?_⟩
  rw [pAt_get (by omega)]
  simpa using hb i hi
/-- Two parts are of one message. -/
def sameM (a b : Part) : Bool := a.stream == b.stream && a.ssn == b.ssn && a.loose == b.loose
/-- The places of a message's parts, from one on. -/
def chainP (ps : List Part) : Nat → Nat → List Nat → List Nat
  | 0, _, _ => []
  | f + 1, k, out => if (pAt ps k).last then out else
    match idxP ps (addS (pAt ps k).tsn 1) with
    | none => []
    | some j => if (pAt ps j).first || !sameM (pAt ps k) (pAt ps j) || decide (12 < out.length) then [] else chainP ps f j (out ++ [j])
def chainOf (ps : List Part) (k : Nat) : List Nat := chainP ps 14 k [k]
theorem chainP_le (ps : List Part) : ∀ f k out, (chainP ps f k out).length ≤ 13 + out.length ∧ (out.length ≤ 13 → (chainP ps f k out).length ≤ 13)
  | 0, _, _ => ⟨by simp [chainP], fun _ => by simp [chainP]⟩
  | f + 1, k, out => by
    unfold chainP
    split
    · exact ⟨by omega, fun h => h⟩
    · split
      · exact ⟨by simp, fun _ => by simp⟩
      · rename_i j hj
        split
        · exact ⟨by simp, fun _ => by simp⟩
        · rename_i hc
          have h12 : out.length ≤ 12 := by
            simp at hc
            omega
          have := chainP_le ps f j (out ++ [j])
          rw [List.length_append, List.length_singleton] at this
          exact ⟨Nat.le_trans (this.2 (by omega)) (by omega), fun _ => this.2 (by omega)⟩
/-- While a message is followed: the places so far, of which k is the newest. -/
structure Cn (ps : List Part) (k : Nat) (out : List Nat) : Prop where
  ne : out ≠ []
  end_ : out.getD (out.length - 1) 0 = k
  lt : ∀ i ∈ out, i < ps.length
  tsn : ∀ i, i < out.length → (pAt ps (out.getD i 0)).tsn = addS (pAt ps (out.getD 0 0)).tsn i
  len : out.length ≤ 13
  same : ∀ j ∈ out, (pAt ps j).stream = (pAt ps (out.getD 0 0)).stream ∧ (pAt ps j).ssn = (pAt ps (out.getD 0 0)).ssn ∧ (pAt ps j).loose = (pAt ps (out.getD 0 0)).loose
  mid : ∀ i, 1 ≤ i → i < out.length → (pAt ps (out.getD i 0)).first = false
  open_ : ∀ i, i + 1 < out.length → (pAt ps (out.getD i 0)).last = false
theorem cn_start {ps : List Part} {k : Nat} (hk : k < ps.length) (ht : Ser (pAt ps k).tsn) : Cn ps k [k] where
  ne := by simp
  end_ := rfl
  lt := fun i hi => by
    have e : i = k := by simpa using hi
    rw [e]
    exact hk
  tsn := fun i hi => by
    obtain rfl : i = 0 := by simpa using hi
    exact (addS_none ht).symm
  len := by simp
  same := fun j hj => by
    have e : j = k := by simpa using hj
    rw [e]
    exact ⟨rfl, rfl, rfl⟩
  mid := fun i h1 h2 => by simp at h2; omega
  open_ := fun i h => by simp at h
theorem getD_left {out : List Nat} {j i : Nat} (h : i < out.length) : (out ++ [j]).getD i 0 = out.getD i 0 := by
  rw [List.getD_eq_getElem?_getD, List.getD_eq_getElem?_getD, List.getElem?_append_left h]
theorem getD_last (out : List Nat) (j : Nat) : (out ++ [j]).getD out.length 0 = j := by simp
theorem getD_in {out : List Nat} {i : Nat} (h : i < out.length) : out.getD i 0 ∈ out := by
  rw [List.getD_eq_getElem?_getD, List.getElem?_eq_getElem h]
  exact List.getElem_mem _
theorem cn_step {ps : List Part} {k j : Nat} {out : List Nat} (h : Cn ps k out) (hl : (pAt ps k).last = false) (hj : idxP ps (addS (pAt ps k).tsn 1) = some j) (hf : (pAt ps j).first = false) (hs : sameM (pAt ps k) (pAt ps j) = true) (hn : out.length ≤ 12) : Cn ps j (out ++ [j]) := by
  have hpos : 0 < out.length := List.length_pos_iff.2 h.ne
  obtain ⟨j1, j2, _⟩ := idx_some hj
  have hk : k ∈ out := by have := getD_in (out := out) (i := out.length - 1) (by omega); rwa [h.end_] at this
  have hk2 := h.same k hk
  have h0 : (out ++ [j]).getD 0 0 = out.getD 0 0 := getD_left hpos
  unfold sameM at hs
  simp only [Bool.and_eq_true, beq_iff_eq] at hs
  refine ⟨by simp, by rw [List.length_append, List.length_singleton, Nat.add_sub_cancel]; exact getD_last out j, fun i hi => ?_, fun i hi => ?_, by rw [List.length_append, List.length_singleton]; omega, fun i hi => ?_, fun i h1 h2 => ?_, fun i h1 => ?_⟩
  · rcases List.mem_append.1 hi with hi | hi
    · exact h.lt i hi
    · obtain rfl : i = j := by simpa using hi
      exact j1
  · rw [List.length_append, List.length_singleton] at hi
    rw [h0]
    by_cases e : i < out.length
    · rw [getD_left e]
      exact h.tsn i e
    · obtain rfl : i = out.length := by omega
      have := h.tsn (out.length - 1) (by omega)
      rw [h.end_] at this
      rw [getD_last, j2, this, addS_sum]
      congr 1
      omega
  · rw [h0]
    rcases List.mem_append.1 hi with hi | hi
    · exact h.same i hi
    · obtain rfl : i = j := by simpa using hi
      exact ⟨hs.1.1.symm.trans hk2.1, hs.1.2.symm.trans hk2.2.1, hs.2.symm.trans hk2.2.2⟩
  · rw [List.length_append, List.length_singleton] at h2
    by_cases e : i < out.length
    · rw [getD_left e]
      exact h.mid i h1 e
    · obtain rfl : i = out.length := by omega
      rw [getD_last]
      exact hf
  · rw [List.length_append, List.length_singleton] at h1
    by_cases e : i + 1 < out.length
    · rw [getD_left (by omega)]
      exact h.open_ i e
    · have e1 : i = out.length - 1 := by omega
      subst e1
      rw [getD_left (by omega), h.end_]
      exact hl
/-- A complete message: the places of its parts. -/
structure Chn (ps : List Part) (k : Nat) (ch : List Nat) : Prop where
  cn : Cn ps (ch.getD (ch.length - 1) 0) ch
  last : (pAt ps (ch.getD (ch.length - 1) 0)).last = true
  head : ch.getD 0 0 = k
theorem chainP_is {ps : List Part} : ∀ (f k : Nat) (out : List Nat), Cn ps k out → chainP ps f k out ≠ [] → Chn ps (out.getD 0 0) (chainP ps f k out)
  | 0, _, _, _, h => absurd rfl h
  | f + 1, k, out, hc, h => by
    unfold chainP at h ⊢
    split
    · rename_i hl
      have e := hc.end_
      exact ⟨by rw [e]; exact hc, by rw [e]; exact hl, rfl⟩
    · rename_i hl
      rw [if_neg hl] at h
      have hl' : (pAt ps k).last = false := by simpa using hl
      split
      · rename_i hj
        rw [hj] at h
        exact absurd rfl h
      · rename_i j hj
        rw [hj] at h
        simp only at h
        split
        · rename_i hb
          rw [if_pos hb] at h
          exact absurd rfl h
        · rename_i hb
          rw [if_neg hb] at h
          simp only [Bool.or_eq_true, Bool.not_eq_true', decide_eq_true_iff, not_or] at hb
          have hpos : 0 < out.length := List.length_pos_iff.2 hc.ne
          have hs : sameM (pAt ps k) (pAt ps j) = true := by simpa using hb.1.2
          have := chainP_is f j (out ++ [j]) (cn_step hc hl' hj (by simpa using hb.1.1) hs (by omega)) h
          rwa [getD_left hpos] at this
theorem chain_is {ps : List Part} {k : Nat} (hk : k < ps.length) (ht : Ser (pAt ps k).tsn) (h : chainOf ps k ≠ []) : Chn ps k (chainOf ps k) := chainP_is 14 k [k] (cn_start hk ht) h
theorem addS_inj {t : Int} {i j : Nat} (hi : i ≤ 1000) (hj : j ≤ 1000) (h : addS t i = addS t j) : i = j := by
  unfold addS at h
  omega
/-- The places of a message are different. -/
theorem Chn.nodup {ps : List Part} {k : Nat} {ch : List Nat} (h : Chn ps k ch) : ∀ i j, i < ch.length → j < ch.length → ch.getD i 0 = ch.getD j 0 → i = j := fun i j hi hj e => by
  have h1 := h.cn.tsn i hi
  have h2 := h.cn.tsn j hj
  rw [e] at h1
  have hl := h.cn.len
  exact addS_inj (t := (pAt ps (ch.getD 0 0)).tsn) (by omega) (by omega) (h1.symm.trans h2)

end Go.Proofs.Ytncbgejggfkdmaa

/- Parts in memory, one after the other: slices of parts. -/
namespace Go.Proofs.Ytncbgejggfkdmaa
open Go.RowKit Go.PlainAid

/-- The cells of a part. -/
def cellsP (p : Part) : List Value := [.int .i64 p.tsn, .int .i64 p.stream, .int .i64 p.ssn, .bool p.first, .bool p.last, .bool p.loose, .string p.text]
/-- The value of a part. -/
def partV (p : Part) : Value := .agg #[.int .i64 p.tsn, .int .i64 p.stream, .int .i64 p.ssn, .bool p.first, .bool p.last, .bool p.loose, .string p.text]
def flatP : List Part → List Value
  | [] => []
  | p :: ps => cellsP p ++ flatP ps
theorem flatP_append (ps qs : List Part) : flatP (ps ++ qs) = flatP ps ++ flatP qs := by
  induction ps with
  | nil => rfl
  | cons p ps ih => simp [flatP, ih]
theorem cellsP_length (p : Part) : (cellsP p).length = 7 := rfl
theorem flatP_length (ps : List Part) : (flatP ps).length = ps.length * 7 := by
  induction ps with
  | nil => rfl
  | cons p ps ih =>
    show (cellsP p ++ flatP ps).length = _
    rw [List.length_append, cellsP_length, ih, List.length_cons]
    omega
theorem cellsP_one (p : Part) : ∀ u ∈ cellsP p, u.oneCell' = true := by
  intro u hu
  simp only [cellsP, List.mem_cons, List.not_mem_nil, or_false] at hu
  rcases hu with rfl | rfl | rfl | rfl | rfl | rfl | rfl <;> rfl
theorem flatP_one (ps : List Part) : ∀ u ∈ flatP ps, u.oneCell' = true := by
  induction ps with
  | nil => intro u hu; simp [flatP] at hu
  | cons p ps ih =>
    intro u hu
    rcases List.mem_append.1 hu with h | h
    · exact cellsP_one p u h
    · exact ih u h
theorem take_pAt {ps : List Part} {k : Nat} (h : k < ps.length) : ps.take (k + 1) = ps.take k ++ [pAt ps k] := by
  unfold pAt
  rw [List.take_add_one, List.getD_eq_getElem?_getD, List.getElem?_eq_getElem h]
  rfl
theorem flatP_get (ps : List Part) (i j : Nat) (h : i < ps.length) (hj : j < 7) : (flatP ps)[i * 7 + j]? = (cellsP (pAt ps i))[j]? := by
  induction ps generalizing i with
  | nil => simp at h
  | cons p ps ih =>
    show (cellsP p ++ flatP ps)[i * 7 + j]? = _
    cases i with
    | zero =>
      rw [Nat.zero_mul, Nat.zero_add, List.getElem?_append_left (by rw [cellsP_length]; exact hj)]
      rfl
    | succ i =>
      rw [List.getElem?_append_right (by rw [cellsP_length]; omega), cellsP_length, show (i + 1) * 7 + j - 7 = i * 7 + j from by omega, ih i (by simpa using h)]
      rfl
/-- The cell j of the part i. -/
def atP (x : Addr) (i : Nat) : Nat → Addr
  | 0 => x.add (i * 7)
  | j + 1 => ⟨(x.add (i * 7)).block, (x.add (i * 7)).off + (j + 1), none⟩
/-- A slice of parts: nil, or the cells of 'len' parts, seven each, from an address on. -/
def Pts (w : World) (a : Option Addr) (len cap : Nat) (ps : List Part) : Prop :=
  (a = none ∧ len = 0 ∧ cap = 0 ∧ ps = []) ∨
  ∃ x : Addr, a = some x ∧ len ≤ cap ∧ cap ≤ maxLen ∧ ps.length = len ∧ ∀ i, i < len → ∀ j v, (cellsP (pAt ps i))[j]? = some v → w.cell? (atP x i j) = some v
theorem Pts.length {w : World} {a : Option Addr} {len cap : Nat} {ps : List Part} (h : Pts w a len cap ps) : ps.length = len := by
  rcases h with ⟨_, rfl, _, rfl⟩ | ⟨_, _, _, _, h, _⟩
  · rfl
  · exact h
theorem Pts.len_le {w : World} {a : Option Addr} {len cap : Nat} {ps : List Part} (h : Pts w a len cap ps) : len ≤ cap ∧ cap ≤ maxLen := by
  rcases h with ⟨_, rfl, rfl, rfl⟩ | ⟨_, _, h1, h2, _, _⟩
  · exact ⟨Nat.le_refl _, Nat.zero_le _⟩
  · exact ⟨h1, h2⟩
theorem Pts.len_int {w : World} {a : Option Addr} {len cap : Nat} {ps : List Part} (h : Pts w a len cap ps) : len ≤ 9223372036854775807 := by
  have := h.len_le
  unfold maxLen at this
  omega
theorem Pts.nil (w : World) : Pts w none 0 0 [] := .inl ⟨rfl, rfl, rfl, rfl⟩
theorem Pts.moved {w w' : World} {a : Option Addr} {len cap : Nat} {ps : List Part} (h : Pts w a len cap ps) (hk : ∀ x, a = some x → ∀ i j v, i < len → w.cell? (atP x i j) = some v → w'.cell? (atP x i j) = some v) : Pts w' a len cap ps := by
  rcases h with h | ⟨x, h1, h2, h3, h4, h5⟩
  · exact .inl h
  · exact .inr ⟨x, h1, h2, h3, h4, fun i hi j v hv => hk x h1 i j v hi (h5 i hi j v hv)⟩
theorem Pts.below {w w' : World} {a : Option Addr} {len cap : Nat} {ps : List Part} (h : Pts w a len cap ps) (hb : Below w.heap.size w w') : Pts w' a len cap ps :=
  h.moved fun _ _ _ _ _ _ hc => (hb.cell (World.block_lt_of_cell? w _ hc)).trans hc
theorem Pts.addr {w : World} {a : Option Addr} {len cap : Nat} {ps : List Part} (h : Pts w a len cap ps) {k : Nat} (hk : k < len) : ∃ x, a = some x := by
  rcases h with ⟨_, h0, _⟩ | ⟨y, hy, _⟩
  · omega
  · exact ⟨y, hy⟩
/-- The cells of the part at a place, in another world. -/
theorem Pts.cells {w wr : World} {x : Addr} {len cap : Nat} {ps : List Part} (h : Pts w (some x) len cap ps) (hb : Below w.heap.size w wr) {k : Nat} (hk : k < len) (j : Nat) (v : Value) (hv : (cellsP (pAt ps k))[j]? = some v) : wr.cell? (atP x k j) = some v := by
  rcases h with ⟨h0, _⟩ | ⟨y, hy, _, _, _, h5⟩
  · cases h0
  · obtain rfl : x = y := by simpa using hy
    have := h5 k hk j v hv
    exact (hb.cell (World.block_lt_of_cell? w _ this)).trans this
theorem Pts.at {w wr : World} {x : Addr} {len cap : Nat} {ps : List Part} (h : Pts w (some x) len cap ps) (hb : Below w.heap.size w wr) {k : Nat} (hk : k < len) :
    wr.cell? (x.add (k * 7)) = some (.int .i64 (pAt ps k).tsn) ∧ wr.cell? ⟨(x.add (k * 7)).block, (x.add (k * 7)).off + 1, none⟩ = some (.int .i64 (pAt ps k).stream) ∧ wr.cell? ⟨(x.add (k * 7)).block, (x.add (k * 7)).off + 2, none⟩ = some (.int .i64 (pAt ps k).ssn) ∧
      wr.cell? ⟨(x.add (k * 7)).block, (x.add (k * 7)).off + 3, none⟩ = some (.bool (pAt ps k).first) ∧ wr.cell? ⟨(x.add (k * 7)).block, (x.add (k * 7)).off + 4, none⟩ = some (.bool (pAt ps k).last) ∧ wr.cell? ⟨(x.add (k * 7)).block, (x.add (k * 7)).off + 5, none⟩ = some (.bool (pAt ps k).loose) ∧
      wr.cell? ⟨(x.add (k * 7)).block, (x.add (k * 7)).off + 6, none⟩ = some (.string (pAt ps k).text) :=
  ⟨h.cells hb hk 0 _ rfl, h.cells hb hk 1 _ rfl, h.cells hb hk 2 _ rfl, h.cells hb hk 3 _ rfl, h.cells hb hk 4 _ rfl, h.cells hb hk 5 _ rfl, h.cells hb hk 6 _ rfl⟩
theorem pt_add (g j : Nat) : (⟨g, 0, none⟩ : Addr).add j = ⟨g, j, none⟩ := by unfold Addr.add; split <;> simp_all
theorem atP_zero (g i j : Nat) : atP ⟨g, 0, none⟩ i j = ⟨g, i * 7 + j, none⟩ := by
  cases j with
  | zero => exact pt_add g (i * 7)
  | succ j =>
    show (⟨((⟨g, 0, none⟩ : Addr).add (i * 7)).block, ((⟨g, 0, none⟩ : Addr).add (i * 7)).off + (j + 1), none⟩ : Addr) = _
    rw [pt_add]
theorem Pts.far {w : World} {g k cap d i : Nat} {ps : List Part} (h : Pts w (some ⟨g, 0, none⟩) k cap ps) (hd : d ≠ g) (v : Value) : Pts (w.setCell ⟨d, i, none⟩ v) (some ⟨g, 0, none⟩) k cap ps :=
  h.moved fun x hx i j u _ hc => by
    obtain rfl : ⟨g, 0, none⟩ = x := by simpa using hx
    rw [atP_zero] at hc ⊢
    exact cell_far hd hc
theorem Pts.aside {w w' : World} {g k cap r : Nat} {ps : List Part} (h : Pts w (some ⟨g, 0, none⟩) k cap ps) (ha : Aside w.heap.size r w w') (hr : g ≠ r) : Pts w' (some ⟨g, 0, none⟩) k cap ps :=
  h.moved fun x hx i j u _ hc => by
    obtain rfl : ⟨g, 0, none⟩ = x := by simpa using hx
    rw [atP_zero] at hc ⊢
    exact ha.cell (lt_of_cell hc) hr hc
theorem Pts.under {W W' : World} {g n cap C : Nat} {ps : List Part} (h : Pts W (some ⟨g, 0, none⟩) n cap ps) (hb : Below C W W') (hg : g < C ∨ n = 0) : Pts W' (some ⟨g, 0, none⟩) n cap ps :=
  h.moved fun x hx i j u hi hc => by
    obtain rfl : ⟨g, 0, none⟩ = x := by simpa using hx
    rw [atP_zero] at hc ⊢
    rcases hg with hg | h0
    · exact kept_cell hb hg hc
    · omega
theorem pts_lt {W : World} {g n cap : Nat} {ps : List Part} (h : Pts W (some ⟨g, 0, none⟩) n cap ps) : g < W.heap.size ∨ n = 0 := by
  by_cases hk0 : 0 < n
  · have := (h.at (Below.refl _ _) hk0).1
    rw [pt_add] at this
    exact .inl (lt_of_cell this)
  · exact .inr (by omega)
/-- The first parts of a slice. -/
theorem pts_take {w : World} {x : Addr} {len cap j : Nat} {ps : List Part} (h : Pts w (some x) len cap ps) (hj : j ≤ len) : Pts w (some x) j cap (ps.take j) := by
  rcases h with ⟨h0, _⟩ | ⟨y, hy, h1, h2, h3, h4⟩
  · cases h0
  · refine .inr ⟨y, hy, by omega, h2, by rw [List.length_take]; omega, fun i hi => ?_⟩
    have e : pAt (ps.take j) i = pAt ps i := by
      unfold pAt
      rw [List.getD_eq_getElem?_getD, List.getD_eq_getElem?_getD, List.getElem?_take_of_lt hi]
    rw [e]
    exact h4 i (by omega)
/-- The cells of a slice of parts, as a source of an append. -/
theorem pts_flat {W : World} {g k cap : Nat} {ps : List Part} (h : Pts W (some ⟨g, 0, none⟩) k cap ps) : ∀ j u, (flatP ps)[j]? = some u → W.cell? ((⟨g, 0, none⟩ : Addr).add j) = some u := by
  intro j u hu
  have hl := h.length
  have hj : j < k * 7 := by have := (List.getElem?_eq_some_iff.1 hu).1; rw [flatP_length, hl] at this; exact this
  have e : j = j / 7 * 7 + j % 7 := by omega
  have hm : j % 7 < 7 := by omega
  generalize hq : j / 7 = q at e
  generalize j % 7 = r at e hm
  subst e
  rw [flatP_get ps q r (by omega) hm] at hu
  have := h.cells (Below.refl _ _) (k := q) (by omega) r u hu
  rw [atP_zero] at this
  rw [pt_add]
  exact this

theorem own_pts {W : World} {base cap k : Nat} {a : Option Addr} {ps : List Part} (h : W.ownsRow base 28 7 (.slice a k cap) k (flatP ps)) : Pts W a k cap ps := by
  have hl := h.1
  rw [flatP_length] at hl
  rcases h.2 with ⟨h1, h2⟩ | ⟨g, cap', cur, h1, _, _, h4, h5, _⟩
  · obtain ⟨rfl, rfl, rfl⟩ : a = none ∧ k = 0 ∧ cap = 0 := by simpa using h1
    exact .inl ⟨rfl, rfl, rfl, by cases ps with | nil => rfl | cons c l => simp at hl⟩
  · obtain ⟨rfl, rfl⟩ : a = some ⟨g, 0, none⟩ ∧ cap = cap' := by simpa using h1
    refine .inr ⟨_, rfl, h4, h5, by omega, fun i hi j v hv => ?_⟩
    have hj : j < 7 := by have := (List.getElem?_eq_some_iff.1 hv).1; rwa [cellsP_length] at this
    rw [atP_zero]
    exact (h.cellAt (i * 7 + j) (by omega)).trans ((flatP_get ps i j (by omega) hj).trans hv)
theorem info_pt : (Try.prog.info? 28).map (fun i => (i.zero, i.size, i.bytes)) = some (some (partV ⟨0, 0, 0, false, false, false, ByteArray.mk #[]⟩), 7, 48) := by kernel_rfl

end Go.Proofs.Ytncbgejggfkdmaa

/- Assemblies, plain: a message is taken out. -/
namespace Go.Proofs.Ytncbgejggfkdmaa
open Go.RowKit Go.PlainAid

/-- An assembly is valid. -/
structure AsmOk (next : List Int) (ps : List Part) : Prop where
  n1 : 1 ≤ next.length
  n4 : next.length ≤ 4
  nums : ∀ n ∈ next, Ser n
  few : ps.length ≤ 12
  ok : ∀ p ∈ ps, DataOk p.tsn p.stream p.ssn p.text ∧ p.stream < next.length
  diff : (ps.map fun p => p.tsn).Nodup
/-- A part may begin a message that is told. -/
def dueP (next : List Int) (p : Part) : Bool := p.first && (p.loose || p.ssn == next.getD p.stream.toNat 0)
/-- The parts of the first message that is due, or none. -/
def findFrom (next : List Int) (ps : List Part) : Nat → Nat → List Nat
  | _, 0 => []
  | i, m + 1 => if dueP next (pAt ps i) && !(chainOf ps i).isEmpty then chainOf ps i else findFrom next ps (i + 1) m
def findP (next : List Int) (ps : List Part) : List Nat := findFrom next ps 0 ps.length
theorem findFrom_some {next : List Int} {ps : List Part} : ∀ (m i : Nat), findFrom next ps i m ≠ [] → ∃ k, i ≤ k ∧ k < i + m ∧ dueP next (pAt ps k) = true ∧ chainOf ps k ≠ [] ∧ findFrom next ps i m = chainOf ps k
  | 0, _, h => absurd rfl h
  | m + 1, i, h => by
    unfold findFrom at h ⊢
    split
    · rename_i hc
      simp only [Bool.and_eq_true, Bool.not_eq_true', List.isEmpty_eq_false_iff] at hc
      exact ⟨i, by omega, by omega, hc.1, hc.2, rfl⟩
    · rename_i hc
      rw [if_neg hc] at h
      obtain ⟨k, h1, h2, h3⟩ := findFrom_some m (i + 1) h
      exact ⟨k, by omega, by omega, h3⟩
theorem findFrom_none {next : List Int} {ps : List Part} : ∀ (m i : Nat), findFrom next ps i m = [] → ∀ k, i ≤ k → k < i + m → dueP next (pAt ps k) = true → chainOf ps k = []
  | 0, _, _, k, h1, h2, _ => by omega
  | m + 1, i, h, k, h1, h2, hd => by
    unfold findFrom at h
    split at h
    · rename_i hc
      simp only [Bool.and_eq_true, Bool.not_eq_true', List.isEmpty_eq_false_iff] at hc
      exact absurd h hc.2
    · rename_i hc
      by_cases e : k = i
      · subst e
        by_cases e2 : chainOf ps k = []
        · exact e2
        · exact absurd (by simp [hd, e2]) hc
      · exact findFrom_none m (i + 1) h k (by omega) (by omega) hd
/-- The parts that are left. -/
def restTo (ps : List Part) (ch : List Nat) (n : Nat) : List Part := ((List.range n).filter fun i => !decide (i ∈ ch)).map (pAt ps)
def restP (ps : List Part) (ch : List Nat) : List Part := restTo ps ch ps.length
theorem restTo_zero (ps : List Part) (ch : List Nat) : restTo ps ch 0 = [] := rfl
theorem restTo_in {ps : List Part} {ch : List Nat} {n : Nat} (h : n ∈ ch) : restTo ps ch (n + 1) = restTo ps ch n := by
  unfold restTo
  rw [List.range_succ, List.filter_append]
  simp [h]
theorem restTo_out {ps : List Part} {ch : List Nat} {n : Nat} (h : n ∉ ch) : restTo ps ch (n + 1) = restTo ps ch n ++ [pAt ps n] := by
  unfold restTo
  rw [List.range_succ, List.filter_append]
  simp [h]
/-- The text of a message. -/
def textP (ps : List Part) : List Nat → ByteArray
  | [] => ByteArray.mk #[]
  | i :: is => (pAt ps i).text ++ textP ps is
theorem textP_snoc (ps : List Part) (is : List Nat) (i : Nat) : textP ps (is ++ [i]) = textP ps is ++ (pAt ps i).text := by
  induction is with
  | nil =>
    show (pAt ps i).text ++ ByteArray.mk #[] = ByteArray.mk #[] ++ (pAt ps i).text
    have e : ByteArray.mk #[] = ByteArray.empty := rfl
    rw [e, ByteArray.append_empty, ByteArray.empty_append]
  | cons x xs ih =>
    show (pAt ps x).text ++ textP ps (xs ++ [i]) = (pAt ps x).text ++ textP ps xs ++ (pAt ps i).text
    rw [ih, ByteArray.append_assoc]
/-- The bytes of parts, and of messages. -/
def sumB (ps : List Part) : Nat := (ps.map fun p => p.text.size).sum
def sumM (ms : List Msg) : Nat := (ms.map fun m => m.text.size).sum
theorem sumB_append (ps qs : List Part) : sumB (ps ++ qs) = sumB ps + sumB qs := by unfold sumB; rw [List.map_append, List.sum_append]
theorem textP_size (ps : List Part) (is : List Nat) : (textP ps is).size = sumB (is.map (pAt ps)) := by
  induction is with
  | nil => rfl
  | cons x xs ih =>
    show ((pAt ps x).text ++ textP ps xs).size = _
    rw [ByteArray.size_append, ih]
    rfl
theorem ps_range (ps : List Part) : (List.range ps.length).map (pAt ps) = ps := by
  refine List.ext_getElem (by simp) fun i h1 h2 => ?_
  rw [List.getElem_map, List.getElem_range, pAt_get h2]
/-- The parts left and those of the message are all. -/
theorem rest_perm {ps : List Part} {ch : List Nat} (hn : ch.Nodup) (hl : ∀ i ∈ ch, i < ps.length) : (restP ps ch ++ ch.map (pAt ps)).Perm ps := by
  have h1 : ((List.range ps.length).filter fun i => decide (i ∈ ch)).Perm ch := by
    rw [List.perm_ext_iff_of_nodup (List.Pairwise.filter _ List.nodup_range) hn]
    intro i
    simp only [List.mem_filter, List.mem_range, decide_eq_true_eq]
    exact ⟨fun h => h.2, fun h => ⟨hl i h, h⟩⟩
  have h2 : (((List.range ps.length).filter fun i => !decide (i ∈ ch)) ++ ((List.range ps.length).filter fun i => decide (i ∈ ch))).Perm (List.range ps.length) :=
    List.perm_append_comm.trans (List.filter_append_perm _ _)
  have h3 := ((List.Perm.append_left ((List.range ps.length).filter fun i => !decide (i ∈ ch)) h1).symm.trans h2).map (pAt ps)
  rw [List.map_append, ps_range] at h3
  exact h3
theorem Chn.nd {ps : List Part} {k : Nat} {ch : List Nat} (h : Chn ps k ch) : ch.Nodup := by
  rw [List.nodup_iff_pairwise_ne, List.pairwise_iff_getElem]
  intro i j hi hj hij e
  have := h.nodup i j hi hj (by rw [List.getD_eq_getElem?_getD, List.getD_eq_getElem?_getD, List.getElem?_eq_getElem hi, List.getElem?_eq_getElem hj]; exact e)
  omega
section
variable {next : List Int} {ps : List Part} {ch : List Nat} {k : Nat}
theorem Chn.perm (h : Chn ps k ch) : (restP ps ch ++ ch.map (pAt ps)).Perm ps := rest_perm h.nd h.cn.lt
theorem Chn.bytes (h : Chn ps k ch) : sumB (restP ps ch) + (textP ps ch).size = sumB ps := by
  rw [textP_size, ← sumB_append]
  unfold sumB
  exact (h.perm.map _).sum_nat
theorem Chn.fewer (h : Chn ps k ch) : (restP ps ch).length < ps.length := by
  have h1 := h.perm.length_eq
  rw [List.length_append, List.length_map] at h1
  have := List.length_pos_iff.2 h.cn.ne
  omega
theorem Chn.sub (h : Chn ps k ch) : ∀ p ∈ restP ps ch, p ∈ ps := fun _ hp => h.perm.mem_iff.1 (List.mem_append_left _ hp)
theorem Chn.diff (h : Chn ps k ch) (hd : (ps.map fun p => p.tsn).Nodup) : ((restP ps ch).map fun p => p.tsn).Nodup := by
  have h1 := ((h.perm.map fun p => p.tsn).nodup_iff).2 hd
  rw [List.map_append] at h1
  exact (List.nodup_append.1 h1).1
/-- What is left is valid. -/
theorem AsmOk.rest (ha : AsmOk next ps) (h : Chn ps k ch) {next2 : List Int} (hl : next2.length = next.length) (hs : ∀ n ∈ next2, Ser n) : AsmOk next2 (restP ps ch) :=
  ⟨by rw [hl]; exact ha.n1, by rw [hl]; exact ha.n4, hs, by have := h.fewer; have := ha.few; omega, fun p hp => by rw [hl]; exact ha.ok p (h.sub p hp), h.diff ha.diff⟩
end
/-- The number of a stream moves on. -/
def nextP (next : List Int) (d : Part) : List Int := if d.loose then next else next.set d.stream.toNat (addS d.ssn 1)
theorem nextP_length (next : List Int) (d : Part) : (nextP next d).length = next.length := by unfold nextP; split <;> simp
theorem nextP_ser {next : List Int} {d : Part} (h : ∀ n ∈ next, Ser n) : ∀ n ∈ nextP next d, Ser n := by
  unfold nextP
  split
  · exact h
  · intro n hn
    rcases List.mem_or_eq_of_mem_set hn with hn | rfl
    · exact h n hn
    · exact addS_ser _ _
/-- The message that is taken out. -/
def msgP (ps : List Part) (ch : List Nat) : Msg := ⟨(pAt ps (ch.getD 0 0)).stream, (pAt ps (ch.getD 0 0)).ssn, (pAt ps (ch.getD 0 0)).loose, textP ps ch⟩

end Go.Proofs.Ytncbgejggfkdmaa
