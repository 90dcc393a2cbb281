/- Texts that a proof needs, merged: G, G2, G8, G9, G10, G11, G20, G21, G22, G23, G24, K1, K2, K13, K3. -/
import Derived.Test.YtncbgejggfkdmabProg
import Derived.WalkKit
import Derived.WalkSpells
import Derived.WalkLawsBesides
import Derived.Lib.Hide
import Derived.PlainAid
import Derived.Deep.QuietTactic
import Derived.BigQuiet
import Derived.Deep.RegionHeldLaw
import Derived.IntWalk
import Derived.OpenShut

/- Small laws on worlds and bytes, for any program: how a new row of bytes is turned into a string. -/
namespace Go.Proofs.Ytncbgejggfkdmab
open Go.RowKit

theorem conv_new2 {P : Program} (src e dst : TypeId) (hs : P.underlying src = some (.slice e)) (he : P.underlying e = some (.int .u8)) (hd : P.underlying dst = some .string) (w : World) (x y : Int) (c : Nat) :
    (convert src dst (.slice (some ⟨w.heap.size, 0, none⟩) 2 c)).run P (w.alloc (.cells #[.int .u8 x, .int .u8 y] e)) = .ok (.string (strOfNums [x, y])) (w.alloc (.cells #[.int .u8 x, .int .u8 y] e)) :=
  run_convert_bytes_arg _ src e hs he w.heap.size 0 2 c [x, y] rfl (fun i hi => by
    match i, hi with
    | 0, _ => simp
    | 1, _ => simp) dst hd

theorem conv_new4 {P : Program} (src e dst : TypeId) (hs : P.underlying src = some (.slice e)) (he : P.underlying e = some (.int .u8)) (hd : P.underlying dst = some .string) (w : World) (x y z t : Int) (c : Nat) :
    (convert src dst (.slice (some ⟨w.heap.size, 0, none⟩) 4 c)).run P (w.alloc (.cells #[.int .u8 x, .int .u8 y, .int .u8 z, .int .u8 t] e)) = .ok (.string (strOfNums [x, y, z, t])) (w.alloc (.cells #[.int .u8 x, .int .u8 y, .int .u8 z, .int .u8 t] e)) :=
  run_convert_bytes_arg _ src e hs he w.heap.size 0 4 c [x, y, z, t] rfl (fun i hi => by
    match i, hi with
    | 0, _ => simp
    | 1, _ => simp
    | 2, _ => simp
    | 3, _ => simp) dst hd

theorem or_byte (x y : Int) (hx0 : 0 ≤ x) (hx : x % 256 = 0) (hx1 : x < 1099511627776) (hy0 : 0 ≤ y) (hy : y < 256) : bits .or .i64 x y = x + y :=
  bits_join .i64 40 (by decide) (fun n h0 h1 => by
    have : n < 1099511627776 := h1
    rw [IntKind.wrap_i64]; omega) 8 x y hx0 hx hx1 hy0 hy (by have : y < 1099511627776 := by omega
                                                              exact this)

theorem xor_nonneg (a b : Int) (h1 : 0 ≤ a) (h2 : a < 4611686018427387904) (h3 : 0 ≤ b) (h4 : b < 4611686018427387904) : 0 ≤ bits .xor .i64 a b ∧ bits .xor .i64 a b < 4611686018427387904 := by
  obtain ⟨A, rfl⟩ := Int.eq_ofNat_of_zero_le h1
  obtain ⟨B, rfl⟩ := Int.eq_ofNat_of_zero_le h3
  have hx : A ^^^ B < 2 ^ 62 := Nat.xor_lt_two_pow (by omega) (by omega)
  have e : bits .xor .i64 (A : Int) (B : Int) = ((A ^^^ B : Nat) : Int) := by
    show IntKind.i64.wrap ((BitVec.ofInt 64 (A : Int) ^^^ BitVec.ofInt 64 (B : Int)).toNat : Int) = _
    have ha : A % 2 ^ 64 = A := Nat.mod_eq_of_lt (by omega)
    have hb : B % 2 ^ 64 = B := Nat.mod_eq_of_lt (by omega)
    rw [BitVec.toNat_xor, BitVec.ofInt_natCast, BitVec.ofInt_natCast, BitVec.toNat_ofNat, BitVec.toNat_ofNat, ha, hb, IntKind.wrap_i64]
    omega
  rw [e]
  constructor
  · omega
  · have : ((A ^^^ B : Nat) : Int) < ((2 ^ 62 : Nat) : Int) := by exact_mod_cast hx
    simpa using this

theorem ret_i {a b : Int} (h : a = b) : Ending.returned (.int .i64 a) = .returned (.int .i64 b) := by rw [h]
theorem ret_ib {a b : Int} {t : Bool} (h : a = b) : Ending.returned (.tuple #[.int .i64 a, .bool t]) = .returned (.tuple #[.int .i64 b, .bool t]) := by rw [h]
theorem ret_s {a b : ByteArray} (h : a = b) : Ending.returned (.string a) = .returned (.string b) := by rw [h]
theorem ret_sb {a b : ByteArray} {t : Bool} (h : a = b) : Ending.returned (.tuple #[.string a, .bool t]) = .returned (.tuple #[.string b, .bool t]) := by rw [h]
theorem ret_b {a b : Bool} (h : a = b) : Ending.returned (.bool a) = .returned (.bool b) := by rw [h]

/-- The number of k bytes of a text from a place on, the higher ones first. -/
def be (s : ByteArray) (p : Nat) : Nat → Int
  | 0 => 0
  | k + 1 => be s p k * 256 + PlainAid.bt s (p + k)
theorem be_nonneg (s : ByteArray) (p : Nat) : ∀ k, 0 ≤ be s p k
  | 0 => by simp [be]
  | k + 1 => by have := be_nonneg s p k; have := PlainAid.bt_nonneg s (p + k); simp only [be]; omega
theorem be_three (s : ByteArray) (p k : Nat) (h : k ≤ 3) : be s p k ≤ 16777215 := by
  have b0 := PlainAid.bt_le s p
  have b1 := PlainAid.bt_le s (p + 1)
  have b2 := PlainAid.bt_le s (p + 2)
  match k, h with
  | 0, _ => simp [be]
  | 1, _ => simp [be]; omega
  | 2, _ => simp [be]; omega
  | 3, _ => simp [be]; omega

theorem cell_other {w : World} {c i j : Nat} {v u : Value} (hij : i ≠ j) (h : w.cell? ⟨c, j, none⟩ = some u) : (w.setCell ⟨c, i, none⟩ v).cell? ⟨c, j, none⟩ = some u :=
  (World.cell?_setCell_other w _ _ v (by intro e; injection e; omega)).trans h
theorem cell_far {w : World} {c d i j : Nat} {v u : Value} (hcd : c ≠ d) (h : w.cell? ⟨d, j, none⟩ = some u) : (w.setCell ⟨c, i, none⟩ v).cell? ⟨d, j, none⟩ = some u :=
  (World.cell?_setCell_other w _ _ v (by intro e; injection e; omega)).trans h

theorem be_two (s : ByteArray) (p : Nat) : be s p 2 = 256 * PlainAid.bt s p + PlainAid.bt s (p + 1) := by simp [be]; omega
theorem be_four (s : ByteArray) (p : Nat) : be s p 4 = 65536 * be s p 2 + be s (p + 2) 2 := by
  simp only [be, Nat.add_assoc, Nat.add_zero, Nat.reduceAdd]
  omega
theorem str_append (xs ys : List Int) : strOfNums xs ++ strOfNums ys = strOfNums (xs ++ ys) := by
  unfold strOfNums
  rw [ByteArray.mk_append_mk, List.map_append]
/-- The four bytes of a number. -/
def longS (n : Int) : ByteArray := strOfNums [n / 256 / 256 / 256, n / 256 / 256 % 256, n / 256 % 256, n % 256]
def wordS (n : Int) : ByteArray := strOfNums [n / 256, n % 256]
theorem long_words (n : Int) : wordS (n / 65536) ++ wordS (n % 65536) = longS n := by
  unfold longS wordS
  rw [str_append]
  have e1 : n / 65536 / 256 = n / 256 / 256 / 256 := by omega
  have e2 : n / 65536 % 256 = n / 256 / 256 % 256 := by omega
  have e3 : n % 65536 / 256 = n / 256 % 256 := by omega
  have e4 : n % 65536 % 256 = n % 256 := by omega
  simp only [List.cons_append, List.nil_append, e1, e2, e3, e4]
theorem wordS_size (n : Int) : (wordS n).size = 2 := by simp [wordS, strOfNums_size]
theorem longS_size (n : Int) : (longS n).size = 4 := by simp [longS, strOfNums_size]

/-- A slice of numbers that came in: it is nil, or it leads to a row of 'cap' cells that hold the numbers 'zs'. -/
def IsRow (k : IntKind) (w : World) (a : Option Addr) (len cap : Nat) (zs : List Int) : Prop :=
  (a = none ∧ len = 0 ∧ cap = 0 ∧ zs = []) ∨
  ∃ x, a = some x ∧ len ≤ cap ∧ cap ≤ maxLen ∧ zs.length = cap ∧ (∀ i, i < zs.length → w.cell? (x.add i) = some (.int k (zs.getD i 0))) ∧ ∀ n ∈ zs, (Lit.int k n).wf = true

theorem lt_of_cell {w : World} {b o : Nat} {v : Value} (h : w.cell? ⟨b, o, none⟩ = some v) : b < w.heap.size := by
  rcases Nat.lt_or_ge b w.heap.size with g | g
  · exact g
  · exfalso
    unfold World.cell? at h
    simp [Array.getElem?_eq_none g] at h

end Go.Proofs.Ytncbgejggfkdmab

/- Plain lemmas on texts and numbers: the bytes of a number give it back, and a number at a place depends on its bytes alone. -/
namespace Go.Proofs.Ytncbgejggfkdmab
open Go.RowKit Go.PlainAid

theorem bt_list (s : ByteArray) (k : Nat) : bt s k = ((s.data.toList.getD k 0).toNat : Int) := by
  unfold bt
  by_cases h : k < s.size
  · rw [dif_pos h]
    have : s[k] = s.data.toList.getD k 0 := by
      have h' : k < s.data.toList.length := by simpa using h
      simp [List.getD, List.getElem?_eq_getElem h']
      rfl
    rw [this]
  · rw [dif_neg h]
    have h' : s.data.toList.length ≤ k := by simpa using h
    simp [List.getD, List.getElem?_eq_none h']
theorem bt_append_right (x s : ByteArray) (k : Nat) : bt (x ++ s) (k + x.size) = bt s k := by
  rw [bt_list, bt_list]
  have e : (x ++ s).data.toList = x.data.toList ++ s.data.toList := by simp
  have hx : x.data.toList.length = x.size := by simp
  rw [e, List.getD, List.getD, List.getElem?_append_right (by omega), hx, Nat.add_sub_cancel]
theorem bt_append_left (s y : ByteArray) (k : Nat) (h : k < s.size) : bt (s ++ y) k = bt s k := by
  rw [bt_list, bt_list]
  have h' : k < s.data.toList.length := by simpa using h
  simp [List.getD, List.getElem?_append_left h']
theorem be_congr (s t : ByteArray) (p q : Nat) : ∀ k, (∀ i, i < k → bt s (p + i) = bt t (q + i)) → be s p k = be t q k
  | 0, _ => rfl
  | k + 1, h => by
    have := be_congr s t p q k (fun i hi => h i (by omega))
    simp only [be, this, h k (by omega)]
theorem be_move (x s : ByteArray) (p k : Nat) (h : p + k ≤ s.size) : be (x ++ s ++ x) (p + x.size) k = be s p k :=
  be_congr _ _ _ _ k (fun i hi => by
    rw [show p + x.size + i = (p + i) + x.size by omega, bt_append_left _ _ _ (by rw [ByteArray.size_append]; omega), bt_append_right])
theorem bt_nums (xs : List Int) (k : Nat) (z : Int) (h : xs[k]? = some z) (h0 : 0 ≤ z) (h1 : z ≤ 255) : bt (strOfNums xs) k = z := by
  rw [bt_list, strOfNums_data]
  simp [List.getD, List.getElem?_map, h]
  omega
theorem be_wordS (n : Int) (h0 : 0 ≤ n) (h1 : n ≤ 65535) : be (wordS n) 0 2 = n := by
  rw [be_two]
  unfold wordS
  rw [bt_nums _ 0 (n / 256) rfl (by omega) (by omega), bt_nums _ (0 + 1) (n % 256) rfl (by omega) (by omega)]
  omega
theorem be_longS (n : Int) (h0 : 0 ≤ n) (h1 : n ≤ 4294967295) : be (longS n) 0 4 = n := by
  rw [be_four, be_two, be_two]
  unfold longS
  rw [bt_nums _ 0 (n / 256 / 256 / 256) rfl (by omega) (by omega), bt_nums _ (0 + 1) (n / 256 / 256 % 256) rfl (by omega) (by omega),
    bt_nums _ (0 + 2) (n / 256 % 256) rfl (by omega) (by omega), bt_nums _ (0 + 2 + 1) (n % 256) rfl (by omega) (by omega)]
  omega
theorem extract_two (s : ByteArray) (p : Nat) (h : p + 2 ≤ s.size) : (s.extract p (p + 2)).data.toList = [UInt8.ofNat (bt s p).toNat, UInt8.ofNat (bt s (p + 1)).toNat] := by
  rw [bt_list, bt_list]
  have h' : p + 2 ≤ s.data.toList.length := by simpa using h
  have e : (s.extract p (p + 2)).data.toList = (s.data.toList.drop p).take 2 := by
    simp [ByteArray.data_extract]
  rw [e, List.drop_eq_getElem_cons (by omega), List.drop_eq_getElem_cons (by omega)]
  simp [List.getD, List.getElem?_eq_getElem (show p < s.data.toList.length by omega), List.getElem?_eq_getElem (show p + 1 < s.data.toList.length by omega)]
theorem wordS_extract (s : ByteArray) (p : Nat) (h : p + 2 ≤ s.size) : (wordS (be s p 2)).toList = (s.extract p (p + 2)).toList := by
  rw [ByteArray.toList_eq, ByteArray.toList_eq, extract_two s p h, be_two]
  unfold wordS
  rw [strOfNums_data]
  have := bt_le s (p + 1)
  have := bt_nonneg s (p + 1)
  have e1 : (256 * bt s p + bt s (p + 1)) / 256 = bt s p := by omega
  have e2 : (256 * bt s p + bt s (p + 1)) % 256 = bt s (p + 1) := by omega
  simp [e1, e2]
theorem be_two_bound (s : ByteArray) (p : Nat) : 0 ≤ be s p 2 ∧ be s p 2 ≤ 65535 := by
  have := bt_le s (p + 1); have := bt_nonneg s (p + 1); have := bt_le s p; have := bt_nonneg s p
  rw [be_two]; omega

end Go.Proofs.Ytncbgejggfkdmab

/- Plain lemmas on serial numbers: steps, differences, and which one is ahead. -/
namespace Go.Proofs.Ytncbgejggfkdmab
open Go.RowKit Go.PlainAid

/-- A serial number. -/
def Ser (a : Int) : Prop := 0 ≤ a ∧ a < 65536
/-- Some steps behind a number. -/
def addS (a n : Int) : Int := (a + n) % 65536
/-- The steps from one number to another one. -/
def diffS (a b : Int) : Int := if 32768 < addS b (-a) then addS b (-a) - 65536 else addS b (-a)
/-- One number is ahead of the other. -/
def LessS (a b : Int) : Prop := 1 ≤ diffS a b ∧ diffS a b ≤ 32767
/-- A number is among those that follow each other. -/
def InS (n first many : Int) : Prop := Ser n ∧ Ser first ∧ 0 ≤ many ∧ many ≤ 32768 ∧ addS n (-first) < many

theorem rem_mod (a n : Int) : (a + Int.tmod n 65536 + 65536) % 65536 = addS a n := by
  have := Int.mul_tdiv_add_tmod n 65536
  unfold addS
  omega
theorem rem_range (n : Int) : -65536 < Int.tmod n 65536 ∧ Int.tmod n 65536 < 65536 := by
  have h1 := Int.tmod_lt_of_pos n (show (0 : Int) < 65536 by decide)
  refine ⟨?_, h1⟩
  by_cases h : 0 ≤ n
  · have := Int.tmod_nonneg 65536 h
    omega
  · have h2 := Int.tmod_lt_of_pos (-n) (show (0 : Int) < 65536 by decide)
    rw [Int.neg_tmod] at h2
    omega
theorem addS_ser (a n : Int) : Ser (addS a n) := by unfold Ser addS; omega
theorem addS_back {a : Int} (n : Int) (h : Ser a) : addS (addS a n) (-n) = a := by unfold Ser at h; unfold addS; omega
theorem addS_more (a n : Int) : addS a (n + 65536) = addS a n := by unfold addS; omega
theorem addS_fewer (a n : Int) : addS a (n - 65536) = addS a n := by unfold addS; omega
theorem addS_sum (a n k : Int) : addS (addS a n) k = addS a (n + k) := by unfold addS; omega
theorem addS_none {a : Int} (h : Ser a) : addS a 0 = a := by unfold Ser at h; unfold addS; omega
theorem diffS_range (a b : Int) : -32768 < diffS a b ∧ diffS a b ≤ 32768 := by unfold diffS addS; split <;> omega
theorem diffS_leads (a : Int) {b : Int} (h : Ser b) : addS a (diffS a b) = b := by unfold Ser at h; unfold diffS addS; split <;> omega
theorem diffS_half {a b : Int} (h : diffS a b = 32768) : diffS b a = 32768 := by revert h; unfold diffS addS; split <;> split <;> omega
theorem diffS_back {a b : Int} (h : diffS a b ≠ 32768) : diffS b a = -diffS a b := by revert h; unfold diffS addS; split <;> split <;> omega
theorem diffS_add {a k : Int} (h0 : 0 ≤ k) (h1 : k < 32768) : diffS a (addS a k) = k := by unfold diffS addS; split <;> omega
theorem diffS_sub {a k : Int} (h0 : 0 ≤ k) (h1 : k < 32768) : diffS a (addS a (-k)) = -k := by unfold diffS addS; split <;> omega
theorem diffS_move (a b k : Int) : diffS (addS a k) (addS b k) = diffS a b := by unfold diffS addS; split <;> split <;> omega
theorem diffS_same (a : Int) : diffS a a = 0 := by unfold diffS addS; split <;> omega
theorem diffS_zero {a b : Int} (ha : Ser a) (hb : Ser b) (h : diffS a b = 0) : a = b := by
  unfold Ser at ha hb
  revert h
  unfold diffS addS
  split <;> omega
theorem lessS_other {a b : Int} (h : LessS a b) : ¬ LessS b a := by
  unfold LessS at *
  have := diffS_back (a := a) (b := b) (by omega)
  omega
theorem lessS_ne {a b : Int} (h : LessS a b) : a ≠ b := fun e => by
  unfold LessS at h
  rw [e, diffS_same] at h
  omega
theorem lessS_none (a b : Int) : (¬ LessS a b ∧ ¬ LessS b a) ↔ (diffS a b = 0 ∨ diffS a b = 32768) := by
  have hr := diffS_range a b
  unfold LessS
  by_cases h : diffS a b = 32768
  · have := diffS_half h
    omega
  · have := diffS_back h
    omega
theorem lessS_add {a k : Int} (h0 : 1 ≤ k) (h1 : k ≤ 32767) : LessS a (addS a k) := by
  unfold LessS
  rw [diffS_add (by omega) (by omega)]
  exact ⟨h0, h1⟩
theorem lessS_sub {a k : Int} (h0 : 1 ≤ k) (h1 : k ≤ 32767) : ¬ LessS a (addS a (-k)) := by
  unfold LessS
  rw [diffS_sub (by omega) (by omega)]
  omega
/-- Among them: the steps from the first one are not negative, and fewer than they are. -/
theorem inS_diff {n first many : Int} (hn : Ser n) (hf : Ser first) (h0 : 0 ≤ many) (h1 : many ≤ 32768) : InS n first many ↔ (0 ≤ diffS first n ∧ diffS first n < many) := by
  unfold InS
  unfold Ser at *
  unfold diffS addS
  split <;> omega
theorem inS_first {n first many : Int} (h : InS n first many) : InS first first many := by
  unfold InS Ser addS at *
  omega
theorem inS_end {n first many : Int} (h : InS n first many) : ¬ InS (addS first many) first many := by
  unfold InS Ser addS at *
  omega
theorem inS_last {n first many : Int} (h : InS n first many) : InS (addS first (many - 1)) first many := by
  unfold InS Ser addS at *
  omega

/-- What SerialAdd answers. -/
def addV (a n : Int) : Int := if 0 ≤ a ∧ a ≤ 65535 then addS a n else -1
/-- What SerialDiff answers. -/
def diffV (a b : Int) : Int := if (0 ≤ a ∧ a ≤ 65535) ∧ (0 ≤ b ∧ b ≤ 65535) then diffS a b else -65536
/-- What SerialLess answers. -/
def lessV (a b : Int) : Bool := decide ((0 ≤ a ∧ a ≤ 65535) ∧ (0 ≤ b ∧ b ≤ 65535) ∧ 1 ≤ diffS a b ∧ diffS a b ≤ 32767)
/-- What SerialLast answers. -/
def lastV (a b : Int) : Int := if (0 ≤ a ∧ a ≤ 65535) ∧ (0 ≤ b ∧ b ≤ 65535) then (if lessV a b = true then b else a) else -1
instance (n first many : Int) : Decidable (InS n first many) := by
  unfold InS Ser
  infer_instance
/-- What SerialIn answers. -/
def inV (n first many : Int) : Bool := decide (InS n first many)

theorem ser_le {a : Int} (h : Ser a) : 0 ≤ a ∧ a ≤ 65535 := by unfold Ser at h; omega
theorem ser_not {a : Int} (h : ¬ Ser a) : ¬ (0 ≤ a ∧ a ≤ 65535) := by unfold Ser at h; omega
theorem addV_yes {a : Int} (n : Int) (h : Ser a) : addV a n = addS a n := if_pos (ser_le h)
theorem addV_no {a : Int} (n : Int) (h : ¬ Ser a) : addV a n = -1 := if_neg (ser_not h)
theorem diffV_yes {a b : Int} (ha : Ser a) (hb : Ser b) : diffV a b = diffS a b := if_pos ⟨ser_le ha, ser_le hb⟩
theorem diffV_left {a : Int} (b : Int) (ha : ¬ Ser a) : diffV a b = -65536 := if_neg fun h => ser_not ha h.1
theorem diffV_right (a : Int) {b : Int} (hb : ¬ Ser b) : diffV a b = -65536 := if_neg fun h => ser_not hb h.2
theorem lessV_yes {a b : Int} (ha : Ser a) (hb : Ser b) (h : LessS a b) : lessV a b = true := decide_eq_true ⟨ser_le ha, ser_le hb, h⟩
theorem lessV_no {a b : Int} (h : ¬ LessS a b) : lessV a b = false := decide_eq_false fun g => h g.2.2
theorem lessV_left {a : Int} (b : Int) (ha : ¬ Ser a) : lessV a b = false := decide_eq_false fun h => ser_not ha h.1
theorem lessV_right (a : Int) {b : Int} (hb : ¬ Ser b) : lessV a b = false := decide_eq_false fun h => ser_not hb h.2.1
theorem lessV_ser {a b : Int} (h : lessV a b = true) : Ser a ∧ Ser b ∧ LessS a b := by
  have g := of_decide_eq_true h
  refine ⟨?_, ?_, g.2.2⟩ <;> unfold Ser <;> omega
theorem lastV_less {a b : Int} (ha : Ser a) (hb : Ser b) (h : LessS a b) : lastV a b = b := by
  unfold lastV
  rw [if_pos ⟨ser_le ha, ser_le hb⟩, if_pos (lessV_yes ha hb h)]
theorem lastV_other {a b : Int} (ha : Ser a) (hb : Ser b) (h : ¬ LessS a b) : lastV a b = a := by
  unfold lastV
  rw [if_pos ⟨ser_le ha, ser_le hb⟩, lessV_no h, if_neg (by decide)]
theorem lastV_left {a : Int} (b : Int) (ha : ¬ Ser a) : lastV a b = -1 := if_neg fun h => ser_not ha h.1
theorem lastV_right (a : Int) {b : Int} (hb : ¬ Ser b) : lastV a b = -1 := if_neg fun h => ser_not hb h.2
theorem inV_yes {n first many : Int} (h : InS n first many) : inV n first many = true := decide_eq_true h
theorem inV_no {n first many : Int} (h : ¬ InS n first many) : inV n first many = false := decide_eq_false h
theorem inV_self {n : Int} (h : Ser n) : inV n n 1 = true := by
  refine inV_yes ?_
  unfold InS Ser addS at *
  omega
theorem inV_self_no {n : Int} (h : ¬ Ser n) : inV n n 1 = false := inV_no fun g => h g.1
theorem inV_many_no {n first many : Int} (h : ¬ (0 ≤ many ∧ many ≤ 32768)) : inV n first many = false := inV_no fun g => h ⟨g.2.2.1, g.2.2.2.1⟩

end Go.Proofs.Ytncbgejggfkdmab

/- Plain lemmas on bytes: equal texts, parts of texts, what lies where in a joined text. -/
namespace Go.Proofs.Ytncbgejggfkdmab
open Go.RowKit Go.PlainAid

theorem same_bt {s t : ByteArray} (hz : s.size = t.size) (h : ∀ i, i < s.size → bt s i = bt t i) : s = t := by
  apply ByteArray.ext
  apply Array.ext
  · simpa using hz
  · intro i h1 h2
    have hi : i < s.size := by simpa using h1
    have := h i hi
    rw [bt_list, bt_list] at this
    rw [List.getD_eq_getElem?_getD, List.getD_eq_getElem?_getD, Array.getElem?_toList, Array.getElem?_toList, Array.getElem?_eq_getElem h1, Array.getElem?_eq_getElem h2] at this
    simp only [Option.getD_some] at this
    exact UInt8.toNat_inj.1 (by omega)
theorem bt_cut (s : ByteArray) (a b i : Nat) (h : a + i < b) : bt (s.extract a b) i = bt s (a + i) := by
  rw [bt_list, bt_list]
  have e : (s.extract a b).data.toList = (s.data.toList.drop a).take (b - a) := by
    simp [ByteArray.data_extract]
  rw [e, List.getD_eq_getElem?_getD, List.getD_eq_getElem?_getD, List.getElem?_take, if_pos (by omega), List.getElem?_drop]
theorem bt_left (x y : ByteArray) (i : Nat) (h : i < x.size) : bt (x ++ y) i = bt x i := bt_append_left x y i h
theorem bt_right (x y : ByteArray) (i : Nat) (h : x.size ≤ i) : bt (x ++ y) i = bt y (i - x.size) := by
  have := bt_append_right x y (i - x.size)
  rw [Nat.sub_add_cancel h] at this
  exact this
theorem size_cut (s : ByteArray) (a b : Nat) (h : b ≤ s.size) : (s.extract a b).size = b - a := by rw [ByteArray.size_extract, Nat.min_eq_left h]
theorem bt_zeros (j i : Nat) : bt (strOfNums (List.replicate j 0)) i = 0 := by
  by_cases h : i < j
  · exact bt_nums _ i 0 (by rw [List.getElem?_replicate, if_pos h]) (by decide) (by decide)
  · rw [bt_list, List.getD_eq_getElem?_getD, List.getElem?_eq_none (by rw [strOfNums_data]; simp; omega)]
    rfl

theorem text_some {s : ByteArray} (h : ¬ s.size = 0) : ¬ s.toList = [] := fun e => by
  rw [ByteArray.toList_eq] at e
  exact h (by have := congrArg List.length e; simpa using this)
theorem text_ne {a b : ByteArray} (h : a ≠ b) : (a.toList == b.toList) = false := by
  rw [beq_eq_false_iff_ne]
  intro e
  rw [ByteArray.toList_eq, ByteArray.toList_eq] at e
  exact h (ByteArray.ext (Array.toList_inj.1 e))

end Go.Proofs.Ytncbgejggfkdmab

/- Plain lemmas on chunks: the bytes of a chunk, when bytes at a place are those of a chunk, and what of them counts. -/
namespace Go.Proofs.Ytncbgejggfkdmab
open Go.RowKit Go.PlainAid

/-- The bytes 0 that fill up. -/
def pad (n : Nat) : Nat := (4 - n % 4) % 4
/-- The bytes of a chunk. -/
def chunkS (k f : Int) (b : ByteArray) : ByteArray := strOfNums [k, f] ++ wordS (4 + b.size) ++ b ++ strOfNums (List.replicate (pad b.size) 0)
/-- The two bytes behind the second one. -/
def lenAt (s : ByteArray) (p : Nat) : Nat := (be s (p + 2) 2).toNat
/-- Where the body ends, and where the bytes of the chunk end. -/
def bodyEnd (s : ByteArray) (p : Nat) : Nat := p + lenAt s p
def chunkEnd (s : ByteArray) (p : Nat) : Nat := p + lenAt s p + pad (lenAt s p)
def bodyAt (s : ByteArray) (p : Nat) : ByteArray := s.extract (p + 4) (p + lenAt s p)
/-- The bytes of a chunk begin at a place. -/
def Has (s : ByteArray) (p : Nat) : Prop := p + 4 ≤ s.size ∧ 4 ≤ lenAt s p ∧ lenAt s p ≤ 64 ∧ chunkEnd s p ≤ s.size ∧ ∀ i, bodyEnd s p ≤ i → i < chunkEnd s p → bt s i = 0
/-- A chunk is valid. -/
def Chk (k f : Int) (b : ByteArray) : Prop := (0 ≤ k ∧ k ≤ 255) ∧ (0 ≤ f ∧ f ≤ 255) ∧ b.size ≤ 60

instance (k f : Int) (b : ByteArray) : Decidable (Chk k f b) := by
  unfold Chk
  infer_instance
/-- Whether a chunk is valid. -/
def chkV (k f : Int) (b : ByteArray) : Bool := decide (Chk k f b)
theorem chkV_yes {k f : Int} {b : ByteArray} (h : Chk k f b) : chkV k f b = true := decide_eq_true h
theorem chkV_no {k f : Int} {b : ByteArray} (h : ¬ Chk k f b) : chkV k f b = false := decide_eq_false h

theorem pad_lt (n : Nat) : pad n < 4 := by unfold pad; omega
theorem pad_four (n : Nat) : pad (4 + n) = pad n := by unfold pad; omega
theorem pad_mod (n : Nat) : (n + pad n) % 4 = 0 := by unfold pad; omega
theorem pad_sub {n : Nat} (h : 4 ≤ n) : pad (n - 4) = pad n := by unfold pad; omega
theorem lenAt_be (s : ByteArray) (p : Nat) : be s (p + 2) 2 = (lenAt s p : Int) := by
  have := (be_two_bound s (p + 2)).1
  unfold lenAt
  omega
theorem lenAt_bt (s : ByteArray) (p : Nat) : (lenAt s p : Int) = 256 * bt s (p + 2) + bt s (p + 3) := by
  rw [← lenAt_be, be_two]
theorem chunkS_size (k f : Int) (b : ByteArray) : (chunkS k f b).size = 4 + b.size + pad b.size := by
  unfold chunkS
  rw [ByteArray.size_append, ByteArray.size_append, ByteArray.size_append, wordS_size, strOfNums_size, strOfNums_size, List.length_replicate]
  rfl
theorem chunkS_mod (k f : Int) (b : ByteArray) : (chunkS k f b).size % 4 = 0 := by
  rw [chunkS_size]
  have := pad_mod b.size
  omega
theorem chunkS_le (k f : Int) (b : ByteArray) (h : b.size ≤ 60) : (chunkS k f b).size ≤ 64 := by
  rw [chunkS_size]
  unfold pad
  omega
theorem head_size (k f : Int) (n : Int) : (strOfNums [k, f] ++ wordS n).size = 4 := by rw [ByteArray.size_append, wordS_size, strOfNums_size]; rfl
theorem bt_first (k f : Int) (b : ByteArray) (h : Chk k f b) : bt (chunkS k f b) 0 = k := by
  unfold chunkS
  have hz := head_size k f (4 + b.size)
  rw [bt_left _ _ 0 (by rw [ByteArray.size_append]; omega), bt_left _ _ 0 (by omega), bt_left _ _ 0 (by rw [strOfNums_size]; simp)]
  exact bt_nums _ 0 k rfl h.1.1 h.1.2
theorem bt_second (k f : Int) (b : ByteArray) (h : Chk k f b) : bt (chunkS k f b) 1 = f := by
  unfold chunkS
  have hz := head_size k f (4 + b.size)
  rw [bt_left _ _ 1 (by rw [ByteArray.size_append]; omega), bt_left _ _ 1 (by omega), bt_left _ _ 1 (by rw [strOfNums_size]; simp)]
  exact bt_nums _ 1 f rfl h.2.1.1 h.2.1.2
theorem bt_length (k f : Int) (b : ByteArray) (h : b.size ≤ 60) : bt (chunkS k f b) 2 = 0 ∧ bt (chunkS k f b) 3 = 4 + b.size := by
  unfold chunkS
  have hz := head_size k f (4 + b.size)
  have h2 : (strOfNums [k, f]).size = 2 := by rw [strOfNums_size]; rfl
  constructor
  · rw [bt_left _ _ 2 (by rw [ByteArray.size_append]; omega), bt_left _ _ 2 (by omega), bt_right _ _ 2 (by omega), h2, Nat.sub_self]
    have := bt_nums [((4 : Int) + b.size) / 256, ((4 : Int) + b.size) % 256] 0 _ rfl (by omega) (by omega)
    unfold wordS
    omega
  · rw [bt_left _ _ 3 (by rw [ByteArray.size_append]; omega), bt_left _ _ 3 (by omega), bt_right _ _ 3 (by omega), h2, show 3 - 2 = 1 by rfl]
    have := bt_nums [((4 : Int) + b.size) / 256, ((4 : Int) + b.size) % 256] 1 _ rfl (by omega) (by omega)
    unfold wordS
    omega
theorem bt_body (k f : Int) (b : ByteArray) (i : Nat) (hi : i < b.size) : bt (chunkS k f b) (4 + i) = bt b i := by
  unfold chunkS
  have hz := head_size k f (4 + b.size)
  rw [bt_left _ _ _ (by rw [ByteArray.size_append]; omega), bt_right _ _ _ (by omega), hz, Nat.add_sub_cancel_left]
theorem bt_pad (k f : Int) (b : ByteArray) (i : Nat) (hi : 4 + b.size ≤ i) : bt (chunkS k f b) i = 0 := by
  unfold chunkS
  have hz := head_size k f (4 + b.size)
  rw [bt_right _ _ _ (by rw [ByteArray.size_append]; omega), bt_zeros]
theorem lenAt_chunkS (k f : Int) (b : ByteArray) (h : b.size ≤ 60) : lenAt (chunkS k f b) 0 = 4 + b.size := by
  have h1 := lenAt_bt (chunkS k f b) 0
  have h2 := bt_length k f b h
  rw [Nat.zero_add, Nat.zero_add, h2.1, h2.2] at h1
  omega
theorem chunkEnd_chunkS (k f : Int) (b : ByteArray) (h : b.size ≤ 60) : chunkEnd (chunkS k f b) 0 = (chunkS k f b).size := by
  unfold chunkEnd
  rw [lenAt_chunkS k f b h, chunkS_size, pad_four]
  omega
theorem bodyAt_chunkS (k f : Int) (b : ByteArray) (h : b.size ≤ 60) : bodyAt (chunkS k f b) 0 = b := by
  unfold bodyAt
  rw [lenAt_chunkS k f b h]
  have hz := chunkS_size k f b
  refine same_bt ?_ fun i hi => ?_
  · rw [size_cut _ _ _ (by omega)]
    omega
  · rw [size_cut _ _ _ (by omega)] at hi
    rw [bt_cut _ _ _ _ (by omega), Nat.zero_add, bt_body _ _ _ _ (by omega)]
theorem has_chunkS (k f : Int) (b : ByteArray) (h : b.size ≤ 60) : Has (chunkS k f b) 0 := by
  have hz := chunkS_size k f b
  have hl := lenAt_chunkS k f b h
  refine ⟨by omega, by omega, by omega, by rw [chunkEnd_chunkS k f b h]; exact Nat.le_refl _, fun i hi _ => ?_⟩
  unfold bodyEnd at hi
  exact bt_pad k f b i (by omega)
/-- What lies at a place is the same as at another place of another text. -/
theorem has_same {s t : ByteArray} {p q : Nat} (h : Has s p) (hq : q + (lenAt s p + pad (lenAt s p)) ≤ t.size) (hb : ∀ i, i < lenAt s p + pad (lenAt s p) → bt t (q + i) = bt s (p + i)) :
    Has t q ∧ lenAt t q = lenAt s p ∧ bodyAt t q = bodyAt s p ∧ bt t q = bt s p ∧ bt t (q + 1) = bt s (p + 1) := by
  obtain ⟨h1, h2, h3, h4, h5⟩ := h
  have hl : lenAt t q = lenAt s p := by
    have e1 := lenAt_bt t q
    have e2 := lenAt_bt s p
    rw [hb 2 (by omega), hb 3 (by omega)] at e1
    omega
  unfold chunkEnd at h4 h5
  unfold bodyEnd at h5
  refine ⟨⟨by omega, by omega, by omega, ?_, ?_⟩, hl, ?_, hb 0 (by omega), hb 1 (by omega)⟩
  · unfold chunkEnd
    rw [hl]
    omega
  · unfold bodyEnd chunkEnd
    rw [hl]
    intro i hi hi2
    have e := hb (i - q) (by omega)
    have e0 := h5 (p + (i - q)) (by omega) (by omega)
    rw [show q + (i - q) = i by omega] at e
    rw [e, e0]
  · unfold bodyAt
    rw [hl]
    refine same_bt ?_ fun i hi => ?_
    · rw [size_cut _ _ _ (by omega), size_cut _ _ _ (by omega)]
      omega
    · rw [size_cut _ _ _ (by omega)] at hi
      have e := hb (4 + i) (by omega)
      rw [bt_cut _ _ _ _ (by omega), bt_cut _ _ _ _ (by omega), Nat.add_assoc, Nat.add_assoc, e]
theorem bodyAt_size {s : ByteArray} {p : Nat} (h : Has s p) : (bodyAt s p).size = lenAt s p - 4 := by
  obtain ⟨h1, h2, h3, h4, h5⟩ := h
  unfold chunkEnd at h4
  unfold bodyAt
  rw [size_cut _ _ _ (by omega)]
  omega
theorem has_chk {s : ByteArray} {p : Nat} (h : Has s p) : Chk (bt s p) (bt s (p + 1)) (bodyAt s p) := by
  have hz := bodyAt_size h
  have h3 := h.2.2.1
  exact ⟨⟨bt_nonneg s p, bt_le s p⟩, ⟨bt_nonneg s _, bt_le s _⟩, by omega⟩
theorem has_size {s : ByteArray} {p : Nat} (h : Has s p) : (chunkS (bt s p) (bt s (p + 1)) (bodyAt s p)).size = lenAt s p + pad (lenAt s p) := by
  have h2 := h.2.1
  rw [chunkS_size, bodyAt_size h, pad_sub h2]
  omega
/-- The bytes that lie at a place are those of the chunk that is read. -/
theorem has_text {s : ByteArray} {p : Nat} (h : Has s p) : s.extract p (chunkEnd s p) = chunkS (bt s p) (bt s (p + 1)) (bodyAt s p) := by
  have hz := has_size h
  have hb := bodyAt_size h
  have hc := has_chk h
  have hl := lenAt_bt s p
  obtain ⟨h1, h2, h3, h4, h5⟩ := h
  unfold chunkEnd at h4 h5
  unfold bodyEnd at h5
  have hs : (s.extract p (chunkEnd s p)).size = lenAt s p + pad (lenAt s p) := by
    unfold chunkEnd
    rw [size_cut _ _ _ h4]
    omega
  refine same_bt (by omega) fun i hi => ?_
  rw [hs] at hi
  unfold chunkEnd
  rw [bt_cut _ _ _ _ (by omega)]
  rcases (show i = 0 ∨ i = 1 ∨ i = 2 ∨ i = 3 ∨ 4 ≤ i by omega) with rfl | rfl | rfl | rfl | h6
  · rw [bt_first _ _ _ hc]
    rfl
  · rw [bt_second _ _ _ hc]
  · rw [(bt_length _ _ _ hc.2.2).1]
    have := bt_nonneg s (p + 2)
    have := bt_nonneg s (p + 3)
    omega
  · rw [(bt_length _ _ _ hc.2.2).2, hb]
    have := bt_nonneg s (p + 2)
    have := bt_nonneg s (p + 3)
    have := bt_le s (p + 3)
    omega
  · rcases Nat.lt_or_ge i (lenAt s p) with h7 | h7
    · have e := bt_body (bt s p) (bt s (p + 1)) (bodyAt s p) (i - 4) (by omega)
      rw [show 4 + (i - 4) = i by omega] at e
      rw [e]
      unfold bodyAt
      rw [bt_cut _ _ _ _ (by omega), show p + 4 + (i - 4) = p + i by omega]
    · rw [bt_pad _ _ _ i (by omega)]
      exact h5 (p + i) (by omega) (by omega)
/-- Bytes that are those of the chunk that is read are filled up with 0. -/
theorem has_of_text {s : ByteArray} {p : Nat} (h1 : p + 4 ≤ s.size) (h2 : 4 ≤ lenAt s p) (h3 : lenAt s p ≤ 64) (h4 : chunkEnd s p ≤ s.size)
    (h : s.extract p (chunkEnd s p) = chunkS (bt s p) (bt s (p + 1)) (bodyAt s p)) : Has s p := by
  refine ⟨h1, h2, h3, h4, fun i h5 h6 => ?_⟩
  have hb : (bodyAt s p).size = lenAt s p - 4 := by
    unfold chunkEnd at h4
    unfold bodyAt
    rw [size_cut _ _ _ (by omega)]
    omega
  unfold bodyEnd at h5
  have e := bt_pad (bt s p) (bt s (p + 1)) (bodyAt s p) (i - p) (by omega)
  rw [← h, bt_cut _ _ _ _ (by omega), show p + (i - p) = i by omega] at e
  exact e
theorem end_eq {s t : ByteArray} {p q : Nat} (h : lenAt t q = lenAt s p) : chunkEnd t q + p = chunkEnd s p + q := by
  unfold chunkEnd
  rw [h]
  omega
theorem body_size {s : ByteArray} {p : Nat} (h2 : 4 ≤ lenAt s p) (hle : p + lenAt s p ≤ s.size) : (bodyAt s p).size = lenAt s p - 4 := by
  unfold bodyAt
  rw [size_cut _ _ _ hle]
  omega
theorem text_size {s : ByteArray} {p : Nat} (k f : Int) (h2 : 4 ≤ lenAt s p) (hle : p + lenAt s p ≤ s.size) : (chunkS k f (bodyAt s p)).size = lenAt s p + pad (lenAt s p) := by
  rw [chunkS_size, body_size h2 hle, pad_sub h2]
  omega
theorem chk_at {s : ByteArray} {p : Nat} (h2 : 4 ≤ lenAt s p) (h3 : lenAt s p ≤ 64) (hle : p + lenAt s p ≤ s.size) : Chk (bt s p) (bt s (p + 1)) (bodyAt s p) := by
  have hz := body_size h2 hle
  exact ⟨⟨bt_nonneg s p, bt_le s p⟩, ⟨bt_nonneg s _, bt_le s _⟩, by omega⟩
/-- Without the last byte there is none. -/
theorem has_cut {s : ByteArray} {p : Nat} (h : Has s p) : ¬ Has (s.extract 0 (chunkEnd s p - 1)) p := fun g => by
  obtain ⟨h1, h2, h3, h4, h5⟩ := h
  obtain ⟨g1, g2, g3, g4, g5⟩ := g
  have hz := size_cut s 0 (chunkEnd s p - 1) (by omega)
  have hl : lenAt (s.extract 0 (chunkEnd s p - 1)) p = lenAt s p := by
    have e1 := lenAt_bt (s.extract 0 (chunkEnd s p - 1)) p
    have e2 := lenAt_bt s p
    rw [bt_cut _ _ _ _ (by omega), bt_cut _ _ _ _ (by omega), Nat.zero_add, Nat.zero_add] at e1
    omega
  unfold chunkEnd at g4 h4 hz hl
  rw [hl, hz] at g4
  omega
/-- What follows does not matter. -/
theorem has_more {s : ByteArray} {p : Nat} (h : Has s p) (x : ByteArray) :
    Has (s.extract 0 (chunkEnd s p) ++ x) p ∧ lenAt (s.extract 0 (chunkEnd s p) ++ x) p = lenAt s p ∧ bodyAt (s.extract 0 (chunkEnd s p) ++ x) p = bodyAt s p ∧ bt (s.extract 0 (chunkEnd s p) ++ x) p = bt s p ∧ bt (s.extract 0 (chunkEnd s p) ++ x) (p + 1) = bt s (p + 1) := by
  have h4 := h.2.2.2.1
  have hz := size_cut s 0 (chunkEnd s p) h4
  have he : chunkEnd s p = p + (lenAt s p + pad (lenAt s p)) := Nat.add_assoc _ _ _
  refine has_same h ?_ fun i hi => ?_
  · rw [ByteArray.size_append]
    omega
  · rw [bt_left _ _ _ (by omega), bt_cut _ _ _ _ (by omega), Nat.zero_add]
/-- A chunk may be anywhere. -/
theorem has_move {s : ByteArray} {p : Nat} (h : Has s p) (x : ByteArray) :
    Has (x ++ s) (p + x.size) ∧ lenAt (x ++ s) (p + x.size) = lenAt s p ∧ bodyAt (x ++ s) (p + x.size) = bodyAt s p ∧ bt (x ++ s) (p + x.size) = bt s p ∧ bt (x ++ s) (p + x.size + 1) = bt s (p + 1) := by
  have h4 := h.2.2.2.1
  have he : chunkEnd s p = p + (lenAt s p + pad (lenAt s p)) := Nat.add_assoc _ _ _
  refine has_same h ?_ fun i _ => ?_
  · rw [ByteArray.size_append]
    omega
  · rw [bt_right _ _ _ (by omega), show p + x.size + i - x.size = p + i by omega]
/-- Another last byte of a chunk that is filled up: there is none. -/
theorem has_pad {s : ByteArray} {p : Nat} (h : Has s p) (hp : chunkEnd s p ≠ p + lenAt s p) (x : ByteArray) (hx : bt x 0 ≠ 0) : ¬ Has (s.extract 0 (chunkEnd s p - 1) ++ x) p := fun g => by
  obtain ⟨h1, h2, h3, h4, h5⟩ := h
  have hz := size_cut s 0 (chunkEnd s p - 1) (by omega)
  have he : chunkEnd s p = p + lenAt s p + pad (lenAt s p) := rfl
  have hl : lenAt (s.extract 0 (chunkEnd s p - 1) ++ x) p = lenAt s p := by
    have e1 := lenAt_bt (s.extract 0 (chunkEnd s p - 1) ++ x) p
    have e2 := lenAt_bt s p
    rw [bt_left _ _ _ (by omega), bt_left _ _ _ (by omega), bt_cut _ _ _ _ (by omega), bt_cut _ _ _ _ (by omega), Nat.zero_add, Nat.zero_add] at e1
    omega
  have ge : chunkEnd (s.extract 0 (chunkEnd s p - 1) ++ x) p = chunkEnd s p := by
    have := end_eq hl
    omega
  have e := g.2.2.2.2 (chunkEnd s p - 1) (by unfold bodyEnd; omega) (by omega)
  rw [bt_right _ _ _ (by omega), hz, Nat.sub_zero, Nat.sub_self] at e
  exact hx e
theorem has_last {s : ByteArray} {p : Nat} (h : Has s p) (hp : chunkEnd s p ≠ p + lenAt s p) : bt s (chunkEnd s p - 1) = 0 := by
  have he : chunkEnd s p = p + lenAt s p + pad (lenAt s p) := rfl
  exact h.2.2.2.2 _ (by unfold bodyEnd; omega) (by omega)
/-- A chunk may follow. -/
theorem has_next (s : ByteArray) (k f : Int) (b : ByteArray) (h : Chk k f b) :
    Has (s ++ chunkS k f b) s.size ∧ lenAt (s ++ chunkS k f b) s.size = 4 + b.size ∧ bodyAt (s ++ chunkS k f b) s.size = b ∧ bt (s ++ chunkS k f b) s.size = k ∧ bt (s ++ chunkS k f b) (s.size + 1) = f := by
  have g := has_move (has_chunkS k f b h.2.2) s
  rw [Nat.zero_add, bt_first k f b h, bt_second k f b h, lenAt_chunkS k f b h.2.2, bodyAt_chunkS k f b h.2.2] at g
  exact g
theorem has_not_end (s : ByteArray) : ¬ Has s s.size := fun h => by
  have := h.1
  omega

/-- The length of a text value. -/
def szOf : Value → Nat
  | .string s => s.size
  | _ => 0
/-- One byte 0 more. -/
theorem fill_step {X : ByteArray} (h : X.size % 4 ≠ 0) : X ++ ByteArray.mk #[0] ++ strOfNums (List.replicate (pad (X ++ ByteArray.mk #[0]).size) 0) = X ++ strOfNums (List.replicate (pad X.size) 0) := by
  have hz : (ByteArray.mk #[0]).size = 1 := rfl
  have e0 : ByteArray.mk #[0] = strOfNums [0] := rfl
  have e : pad X.size = 1 + pad (X ++ ByteArray.mk #[0]).size := by
    rw [ByteArray.size_append, hz]
    unfold pad
    omega
  rw [e, ByteArray.append_assoc, e0, str_append, Nat.add_comm 1, List.replicate_succ]
  rfl
theorem fill_end {X Y : ByteArray} (h : X.size % 4 = 0) (hE : X ++ strOfNums (List.replicate (pad X.size) 0) = Y) : X = Y := by
  have e : pad X.size = 0 := by unfold pad; omega
  rw [e] at hE
  rw [← hE]
  exact ByteArray.append_empty.symm
theorem fill_less {X : ByteArray} (h : X.size % 4 ≠ 0) : pad (X ++ ByteArray.mk #[0]).size < pad X.size := by
  have hz : (ByteArray.mk #[0]).size = 1 := rfl
  rw [ByteArray.size_append, hz]
  unfold pad
  omega
theorem fill_size {X : ByteArray} (h : X.size % 4 ≠ 0) : (X ++ ByteArray.mk #[0]).size + pad (X ++ ByteArray.mk #[0]).size = X.size + pad X.size := by
  have hz : (ByteArray.mk #[0]).size = 1 := rfl
  rw [ByteArray.size_append, hz]
  unfold pad
  omega
theorem fill_start (k f : Int) (b : ByteArray) : strOfNums [k, f] ++ wordS (4 + b.size) ++ b ++ strOfNums (List.replicate (pad (strOfNums [k, f] ++ wordS (4 + b.size) ++ b).size) 0) = chunkS k f b := by
  have hz := head_size k f (4 + b.size)
  rw [ByteArray.size_append, hz, pad_four]
  rfl

end Go.Proofs.Ytncbgejggfkdmab

/- Plain lemmas on bodies: parts and inits as bytes, read back; which chunks hold them. -/
namespace Go.Proofs.Ytncbgejggfkdmab
open Go.RowKit Go.PlainAid

theorem cut_join (s : ByteArray) (i j n : Nat) (h1 : i ≤ j) (h2 : j ≤ n) (h3 : n ≤ s.size) : s.extract i j ++ s.extract j n = s.extract i n := by
  have z1 := size_cut s i j (by omega)
  have z2 := size_cut s j n h3
  have z3 := size_cut s i n h3
  refine same_bt ?_ fun k hk => ?_
  · rw [ByteArray.size_append]
    omega
  · rw [ByteArray.size_append] at hk
    rcases Nat.lt_or_ge k (j - i) with h | h
    · rw [bt_left _ _ _ (by omega), bt_cut _ _ _ _ (by omega), bt_cut _ _ _ _ (by omega)]
    · rw [bt_right _ _ _ (by omega), bt_cut _ _ _ _ (by omega), bt_cut _ _ _ _ (by omega), z1, show j + (k - (j - i)) = i + k by omega]
theorem cut_all (s : ByteArray) : s.extract 0 s.size = s := by
  have z := size_cut s 0 s.size (Nat.le_refl _)
  refine same_bt (by omega) fun k hk => ?_
  rw [bt_cut _ _ _ _ (by omega), Nat.zero_add]
theorem word_cut (s : ByteArray) (p : Nat) (h : p + 2 ≤ s.size) : wordS (be s p 2) = s.extract p (p + 2) := by
  have e := wordS_extract s p h
  rw [ByteArray.toList_eq, ByteArray.toList_eq] at e
  exact ByteArray.ext (Array.toList_inj.1 e)
theorem be_four_bound (s : ByteArray) (p : Nat) : 0 ≤ be s p 4 ∧ be s p 4 ≤ 4294967295 := by
  have h1 := be_two_bound s p
  have h2 := be_two_bound s (p + 2)
  rw [be_four]
  omega
theorem long_cut (s : ByteArray) (p : Nat) (h : p + 4 ≤ s.size) : longS (be s p 4) = s.extract p (p + 4) := by
  have h1 := be_two_bound s p
  have h2 := be_two_bound s (p + 2)
  rw [← long_words, be_four, show (65536 * be s p 2 + be s (p + 2) 2) / 65536 = be s p 2 by omega, show (65536 * be s p 2 + be s (p + 2) 2) % 65536 = be s (p + 2) 2 by omega,
    word_cut s p (by omega), word_cut s (p + 2) (by omega), cut_join s p (p + 2) (p + 2 + 2) (by omega) (by omega) (by omega)]
theorem be_left (x y : ByteArray) (p k : Nat) (h : p + k ≤ x.size) : be (x ++ y) p k = be x p k := be_congr _ _ _ _ k fun i hi => bt_left x y (p + i) (by omega)
theorem be_right (x y : ByteArray) (p k : Nat) : be (x ++ y) (x.size + p) k = be y p k := be_congr _ _ _ _ k fun i _ => by
  rw [bt_right x y _ (by omega), show x.size + p + i - x.size = p + i by omega]
theorem cut_right (x y : ByteArray) : (x ++ y).extract x.size (x ++ y).size = y := by
  have hz : (x ++ y).size = x.size + y.size := ByteArray.size_append ..
  have z := size_cut (x ++ y) x.size (x ++ y).size (Nat.le_refl _)
  refine same_bt (by omega) fun k hk => ?_
  rw [bt_cut _ _ _ _ (by omega), bt_right _ _ _ (by omega), Nat.add_sub_cancel_left]

/-- The body of a part. -/
def dataS (a b c : Int) (t : ByteArray) : ByteArray := wordS a ++ wordS b ++ wordS c ++ t
/-- A part is valid. -/
def DataOk (a b c : Int) (t : ByteArray) : Prop := (0 ≤ a ∧ a ≤ 65535) ∧ (0 ≤ b ∧ b ≤ 65535) ∧ (0 ≤ c ∧ c ≤ 65535) ∧ 1 ≤ t.size ∧ t.size ≤ 20
/-- The flags of a part. -/
def flagsV (first last loose : Bool) : Int := (if last then 1 else 0) + (if first then 2 else 0) + (if loose then 4 else 0)
/-- A chunk holds a part. -/
def HasData (k f : Int) (b : ByteArray) : Prop := k = 0 ∧ (0 ≤ f ∧ f ≤ 7) ∧ 7 ≤ b.size ∧ b.size ≤ 26
theorem dataS_size (a b c : Int) (t : ByteArray) : (dataS a b c t).size = 6 + t.size := by
  unfold dataS
  rw [ByteArray.size_append, ByteArray.size_append, ByteArray.size_append, wordS_size, wordS_size, wordS_size]
theorem flagsV_range (x y z : Bool) : 0 ≤ flagsV x y z ∧ flagsV x y z ≤ 7 := by cases x <;> cases y <;> cases z <;> decide
theorem flagsV_last (x y z : Bool) : (flagsV x y z % 2 == 1) = y := by cases x <;> cases y <;> cases z <;> rfl
theorem flagsV_first (x y z : Bool) : (flagsV x y z / 2 % 2 == 1) = x := by cases x <;> cases y <;> cases z <;> rfl
theorem flagsV_loose (x y z : Bool) : (flagsV x y z / 4 == 1) = z := by cases x <;> cases y <;> cases z <;> rfl
theorem flagsV_of {f : Int} (h0 : 0 ≤ f) (h1 : f ≤ 7) : flagsV (f / 2 % 2 == 1) (f % 2 == 1) (f / 4 == 1) = f := by
  rcases (show f = 0 ∨ f = 1 ∨ f = 2 ∨ f = 3 ∨ f = 4 ∨ f = 5 ∨ f = 6 ∨ f = 7 by omega) with rfl | rfl | rfl | rfl | rfl | rfl | rfl | rfl <;> decide
theorem hasData_put {a b c : Int} {t : ByteArray} (x y z : Bool) (h : DataOk a b c t) : HasData 0 (flagsV x y z) (dataS a b c t) := by
  have hz := dataS_size a b c t
  have h4 := h.2.2.2
  exact ⟨rfl, flagsV_range x y z, by omega, by omega⟩
theorem data_first {a b c : Int} {t : ByteArray} (h : DataOk a b c t) : be (dataS a b c t) 0 2 = a := by
  unfold dataS
  rw [be_left _ _ _ _ (by rw [ByteArray.size_append, ByteArray.size_append, wordS_size, wordS_size, wordS_size]; omega), be_left _ _ _ _ (by rw [ByteArray.size_append, wordS_size, wordS_size]; omega), be_left _ _ _ _ (by rw [wordS_size]; omega)]
  exact be_wordS a h.1.1 h.1.2
theorem data_second {a b c : Int} {t : ByteArray} (h : DataOk a b c t) : be (dataS a b c t) 2 2 = b := by
  unfold dataS
  rw [be_left _ _ _ _ (by rw [ByteArray.size_append, ByteArray.size_append, wordS_size, wordS_size, wordS_size]; omega), be_left _ _ _ _ (by rw [ByteArray.size_append, wordS_size, wordS_size]; omega)]
  have e := be_right (wordS a) (wordS b) 0 2
  rw [wordS_size] at e
  rw [e]
  exact be_wordS b h.2.1.1 h.2.1.2
theorem data_third {a b c : Int} {t : ByteArray} (h : DataOk a b c t) : be (dataS a b c t) 4 2 = c := by
  unfold dataS
  rw [be_left _ _ _ _ (by rw [ByteArray.size_append, ByteArray.size_append, wordS_size, wordS_size, wordS_size]; omega)]
  have e := be_right (wordS a ++ wordS b) (wordS c) 0 2
  rw [ByteArray.size_append, wordS_size, wordS_size] at e
  rw [e]
  exact be_wordS c h.2.2.1.1 h.2.2.1.2
theorem data_text (a b c : Int) (t : ByteArray) : (dataS a b c t).extract 6 (dataS a b c t).size = t := by
  have e := cut_right (wordS a ++ wordS b ++ wordS c) t
  rw [show (wordS a ++ wordS b ++ wordS c).size = 6 by rw [ByteArray.size_append, ByteArray.size_append, wordS_size, wordS_size, wordS_size]] at e
  exact e
theorem data_ok {k f : Int} {b : ByteArray} (h : HasData k f b) : DataOk (be b 0 2) (be b 2 2) (be b 4 2) (b.extract 6 b.size) := by
  obtain ⟨_, _, h2, h3⟩ := h
  have z := size_cut b 6 b.size (Nat.le_refl _)
  exact ⟨be_two_bound b 0, be_two_bound b 2, be_two_bound b 4, by omega, by omega⟩
theorem data_back {k f : Int} {b : ByteArray} (h : HasData k f b) : dataS (be b 0 2) (be b 2 2) (be b 4 2) (b.extract 6 b.size) = b := by
  obtain ⟨_, _, h2, h3⟩ := h
  unfold dataS
  rw [word_cut b 0 (by omega), word_cut b 2 (by omega), word_cut b 4 (by omega), cut_join b 0 (0 + 2) (2 + 2) (by omega) (by omega) (by omega), cut_join b 0 (2 + 2) (4 + 2) (by omega) (by omega) (by omega), cut_join b 0 (4 + 2) b.size (by omega) (by omega) (Nat.le_refl _), cut_all]

/-- The body of an init. -/
def initS (a b c d : Int) : ByteArray := longS a ++ wordS b ++ wordS c ++ wordS d
/-- An init is valid. -/
def InitOk (a b c d : Int) : Prop := (1 ≤ a ∧ a ≤ 4294967295) ∧ (0 ≤ b ∧ b ≤ 65535) ∧ (1 ≤ c ∧ c ≤ 4) ∧ 0 ≤ d ∧ d ≤ 65535
/-- A chunk holds an init. -/
def HasInit (k f : Int) (b : ByteArray) : Prop := (k = 1 ∨ k = 2) ∧ f = 0 ∧ b.size = 10 ∧ 1 ≤ be b 0 4 ∧ 1 ≤ be b 6 2 ∧ be b 6 2 ≤ 4
theorem initS_size (a b c d : Int) : (initS a b c d).size = 10 := by
  unfold initS
  rw [ByteArray.size_append, ByteArray.size_append, ByteArray.size_append, longS_size, wordS_size, wordS_size, wordS_size]
theorem init_tag {a b c d : Int} (h : InitOk a b c d) : be (initS a b c d) 0 4 = a := by
  unfold initS
  rw [be_left _ _ _ _ (by rw [ByteArray.size_append, ByteArray.size_append, longS_size, wordS_size, wordS_size]; omega), be_left _ _ _ _ (by rw [ByteArray.size_append, longS_size, wordS_size]; omega), be_left _ _ _ _ (by rw [longS_size]; omega)]
  exact be_longS a (by have := h.1.1; omega) h.1.2
theorem init_window {a b c d : Int} (h : InitOk a b c d) : be (initS a b c d) 4 2 = b := by
  unfold initS
  rw [be_left _ _ _ _ (by rw [ByteArray.size_append, ByteArray.size_append, longS_size, wordS_size, wordS_size]; omega), be_left _ _ _ _ (by rw [ByteArray.size_append, longS_size, wordS_size]; omega)]
  have e := be_right (longS a) (wordS b) 0 2
  rw [longS_size] at e
  rw [e]
  exact be_wordS b h.2.1.1 h.2.1.2
theorem init_streams {a b c d : Int} (h : InitOk a b c d) : be (initS a b c d) 6 2 = c := by
  unfold initS
  rw [be_left _ _ _ _ (by rw [ByteArray.size_append, ByteArray.size_append, longS_size, wordS_size, wordS_size]; omega)]
  have e := be_right (longS a ++ wordS b) (wordS c) 0 2
  rw [ByteArray.size_append, longS_size, wordS_size] at e
  rw [e]
  exact be_wordS c (by have := h.2.2.1.1; omega) (by have := h.2.2.1.2; omega)
theorem init_tsn {a b c d : Int} (h : InitOk a b c d) : be (initS a b c d) 8 2 = d := by
  unfold initS
  have e := be_right (longS a ++ wordS b ++ wordS c) (wordS d) 0 2
  rw [ByteArray.size_append, ByteArray.size_append, longS_size, wordS_size, wordS_size] at e
  rw [e]
  exact be_wordS d h.2.2.2.1 h.2.2.2.2
theorem hasInit_put {k a b c d : Int} (hk : k = 1 ∨ k = 2) (h : InitOk a b c d) : HasInit k 0 (initS a b c d) :=
  ⟨hk, rfl, initS_size a b c d, by rw [init_tag h]; exact h.1.1, by rw [init_streams h]; exact h.2.2.1.1, by rw [init_streams h]; exact h.2.2.1.2⟩
theorem init_ok {k f : Int} {b : ByteArray} (h : HasInit k f b) : InitOk (be b 0 4) (be b 4 2) (be b 6 2) (be b 8 2) := by
  obtain ⟨_, _, _, h3, h4, h5⟩ := h
  exact ⟨⟨h3, (be_four_bound b 0).2⟩, be_two_bound b 4, ⟨h4, h5⟩, be_two_bound b 8⟩
theorem init_back {k f : Int} {b : ByteArray} (h : HasInit k f b) : initS (be b 0 4) (be b 4 2) (be b 6 2) (be b 8 2) = b := by
  have h2 := h.2.2.1
  unfold initS
  rw [long_cut b 0 (by omega), word_cut b 4 (by omega), word_cut b 6 (by omega), word_cut b 8 (by omega), cut_join b 0 (0 + 4) (4 + 2) (by omega) (by omega) (by omega), cut_join b 0 (4 + 2) (6 + 2) (by omega) (by omega) (by omega), cut_join b 0 (6 + 2) (8 + 2) (by omega) (by omega) (by omega)]
  have e := cut_all b
  rw [h2] at e
  exact e

end Go.Proofs.Ytncbgejggfkdmab

/- Assemblies, plain: parts that wait, messages that are complete. -/
namespace Go.Proofs.Ytncbgejggfkdmab
open Go.RowKit Go.PlainAid

/-- A part of a message. -/
structure Part where
  tsn : Int
  stream : Int
  ssn : Int
  first : Bool
  last : Bool
  loose : Bool
  text : ByteArray
/-- A message. -/
structure Msg where
  stream : Int
  ssn : Int
  loose : Bool
  text : ByteArray
def noPart : Part := ⟨0, 0, 0, false, false, false, ByteArray.mk #[]⟩
/-- The part at a place. -/
def pAt (ps : List Part) (i : Nat) : Part := ps.getD i noPart
theorem pAt_mem {ps : List Part} {i : Nat} (h : i < ps.length) : pAt ps i ∈ ps := by
  unfold pAt
  rw [List.getD_eq_getElem?_getD, List.getElem?_eq_getElem h]
  exact List.getElem_mem _
theorem pAt_get {ps : List Part} {i : Nat} (h : i < ps.length) : ps[i] = pAt ps i := by
  unfold pAt
  rw [List.getD_eq_getElem?_getD, List.getElem?_eq_getElem h]
  rfl
/-- Where the part with a number lies. -/
def idxP (ps : List Part) (t : Int) : Option Nat := ps.findIdx? fun p => p.tsn == t
theorem idx_some {ps : List Part} {t : Int} {j : Nat} (h : idxP ps t = some j) : j < ps.length ∧ (pAt ps j).tsn = t ∧ ∀ i, i < j → (pAt ps i).tsn ≠ t := by
  obtain ⟨hj, h1, h2⟩ := List.findIdx?_eq_some_iff_getElem.1 h
  refine ⟨hj, by rw [← pAt_get hj]; simpa using h1, fun i hi => ?_⟩
  have := h2 i hi
  rw [pAt_get (by omega)] at this
  simpa using this
theorem idx_none {ps : List Part} {t : Int} (h : idxP ps t = none) : ∀ p ∈ ps, p.tsn ≠ t := by
  intro p hp
  have := List.findIdx?_eq_none_iff.1 h p hp
  simpa using this
theorem idx_is {ps : List Part} {t : Int} {j : Nat} (hj : j < ps.length) (ht : (pAt ps j).tsn = t) (hb : ∀ i, i < j → (pAt ps i).tsn ≠ t) : idxP ps t = some j := by
  refine List.findIdx?_eq_some_iff_getElem.2 ⟨hj, by rw [pAt_get hj]; simpa using ht, fun i hi => ?_⟩
  rw [pAt_get (by omega)]
  simpa using hb i hi
/-- Two parts are of one message. -/
def sameM (a b : Part) : Bool := a.stream == b.stream && a.ssn == b.ssn && a.loose == b.loose
/-- The places of a message's parts, from one on. -/
def chainP (ps : List Part) : Nat → Nat → List Nat → List Nat
  | 0, _, _ => []
  | f + 1, k, out => if (pAt ps k).last then out else
    match idxP ps (addS (pAt ps k).tsn 1) with
    | none => []
    | some j => if (pAt ps j).first || !sameM (pAt ps k) (pAt ps j) || decide (12 < out.length) then [] else chainP ps f j (out ++ [j])
def chainOf (ps : List Part) (k : Nat) : List Nat := chainP ps 14 k [k]
theorem chainP_le (ps : List Part) : ∀ f k out, (chainP ps f k out).length ≤ 13 + out.length ∧ (out.length ≤ 13 → (chainP ps f k out).length ≤ 13)
  | 0, _, _ => ⟨by simp [chainP], fun _ => by simp [chainP]⟩
  | f + 1, k, out => by
    unfold chainP
    split
    · exact ⟨by omega, fun h => h⟩
    · split
      · exact ⟨by simp, fun _ => by simp⟩
      · rename_i j hj
        split
        · exact ⟨by simp, fun _ => by simp⟩
        · rename_i hc
          have h12 : out.length ≤ 12 := by
            simp at hc
            omega
          have := chainP_le ps f j (out ++ [j])
          rw [List.length_append, List.length_singleton] at this
          exact ⟨Nat.le_trans (this.2 (by omega)) (by omega), fun _ => this.2 (by omega)⟩
/-- While a message is followed: the places so far, of which k is the newest. -/
structure Cn (ps : List Part) (k : Nat) (out : List Nat) : Prop where
  ne : out ≠ []
  end_ : out.getD (out.length - 1) 0 = k
  lt : ∀ i ∈ out, i < ps.length
  tsn : ∀ i, i < out.length → (pAt ps (out.getD i 0)).tsn = addS (pAt ps (out.getD 0 0)).tsn i
  len : out.length ≤ 13
  same : ∀ j ∈ out, (pAt ps j).stream = (pAt ps (out.getD 0 0)).stream ∧ (pAt ps j).ssn = (pAt ps (out.getD 0 0)).ssn ∧ (pAt ps j).loose = (pAt ps (out.getD 0 0)).loose
  mid : ∀ i, 1 ≤ i → i < out.length → (pAt ps (out.getD i 0)).first = false
  open_ : ∀ i, i + 1 < out.length → (pAt ps (out.getD i 0)).last = false
theorem cn_start {ps : List Part} {k : Nat} (hk : k < ps.length) (ht : Ser (pAt ps k).tsn) : Cn ps k [k] where
  ne := by simp
  end_ := rfl
  lt := fun i hi => by
    have e : i = k := by simpa using hi
    rw [e]
    exact hk
  tsn := fun i hi => by
    obtain rfl : i = 0 := by simpa using hi
    exact (addS_none ht).symm
  len := by simp
  same := fun j hj => by
    have e : j = k := by simpa using hj
    rw [e]
    exact ⟨rfl, rfl, rfl⟩
  mid := fun i h1 h2 => by simp at h2; omega
  open_ := fun i h => by simp at h
theorem getD_left {out : List Nat} {j i : Nat} (h : i < out.length) : (out ++ [j]).getD i 0 = out.getD i 0 := by
  rw [List.getD_eq_getElem?_getD, List.getD_eq_getElem?_getD, List.getElem?_append_left h]
theorem getD_last (out : List Nat) (j : Nat) : (out ++ [j]).getD out.length 0 = j := by simp
theorem getD_in {out : List Nat} {i : Nat} (h : i < out.length) : out.getD i 0 ∈ out := by
  rw [List.getD_eq_getElem?_getD, List.getElem?_eq_getElem h]
  exact List.getElem_mem _
theorem cn_step {ps : List Part} {k j : Nat} {out : List Nat} (h : Cn ps k out) (hl : (pAt ps k).last = false) (hj : idxP ps (addS (pAt ps k).tsn 1) = some j) (hf : (pAt ps j).first = false) (hs : sameM (pAt ps k) (pAt ps j) = true) (hn : out.length ≤ 12) : Cn ps j (out ++ [j]) := by
  have hpos : 0 < out.length := List.length_pos_iff.2 h.ne
  obtain ⟨j1, j2, _⟩ := idx_some hj
  have hk : k ∈ out := by have := getD_in (out := out) (i := out.length - 1) (by omega); rwa [h.end_] at this
  have hk2 := h.same k hk
  have h0 : (out ++ [j]).getD 0 0 = out.getD 0 0 := getD_left hpos
  unfold sameM at hs
  simp only [Bool.and_eq_true, beq_iff_eq] at hs
  refine ⟨by simp, by rw [List.length_append, List.length_singleton, Nat.add_sub_cancel]; exact getD_last out j, fun i hi => ?_, fun i hi => ?_, by rw [List.length_append, List.length_singleton]; omega, fun i hi => ?_, fun i h1 h2 => ?_, fun i h1 => ?_⟩
  · rcases List.mem_append.1 hi with hi | hi
    · exact h.lt i hi
    · obtain rfl : i = j := by simpa using hi
      exact j1
  · rw [List.length_append, List.length_singleton] at hi
    rw [h0]
    by_cases e : i < out.length
    · rw [getD_left e]
      exact h.tsn i e
    · obtain rfl : i = out.length := by omega
      have := h.tsn (out.length - 1) (by omega)
      rw [h.end_] at this
      rw [getD_last, j2, this, addS_sum]
      congr 1
      omega
  · rw [h0]
    rcases List.mem_append.1 hi with hi | hi
    · exact h.same i hi
    · obtain rfl : i = j := by simpa using hi
      exact ⟨hs.1.1.symm.trans hk2.1, hs.1.2.symm.trans hk2.2.1, hs.2.symm.trans hk2.2.2⟩
  · rw [List.length_append, List.length_singleton] at h2
    by_cases e : i < out.length
    · rw [getD_left e]
      exact h.mid i h1 e
    · obtain rfl : i = out.length := by omega
      rw [getD_last]
      exact hf
  · rw [List.length_append, List.length_singleton] at h1
    by_cases e : i + 1 < out.length
    · rw [getD_left (by omega)]
      exact h.open_ i e
    · have e1 : i = out.length - 1 := by omega
      subst e1
      rw [getD_left (by omega), h.end_]
      exact hl
/-- A complete message: the places of its parts. -/
structure Chn (ps : List Part) (k : Nat) (ch : List Nat) : Prop where
  cn : Cn ps (ch.getD (ch.length - 1) 0) ch
  last : (pAt ps (ch.getD (ch.length - 1) 0)).last = true
  head : ch.getD 0 0 = k
theorem chainP_is {ps : List Part} : ∀ (f k : Nat) (out : List Nat), Cn ps k out → chainP ps f k out ≠ [] → Chn ps (out.getD 0 0) (chainP ps f k out)
  | 0, _, _, _, h => absurd rfl h
  | f + 1, k, out, hc, h => by
    unfold chainP at h ⊢
    split
    · rename_i hl
      have e := hc.end_
      exact ⟨by rw [e]; exact hc, by rw [e]; exact hl, rfl⟩
    · rename_i hl
      rw [if_neg hl] at h
      have hl' : (pAt ps k).last = false := by simpa using hl
      split
      · rename_i hj
        rw [hj] at h
        exact absurd rfl h
      · rename_i j hj
        rw [hj] at h
        simp only at h
        split
        · rename_i hb
          rw [if_pos hb] at h
          exact absurd rfl h
        · rename_i hb
          rw [if_neg hb] at h
          simp only [Bool.or_eq_true, Bool.not_eq_true', decide_eq_true_iff, not_or] at hb
          have hpos : 0 < out.length := List.length_pos_iff.2 hc.ne
          have hs : sameM (pAt ps k) (pAt ps j) = true := by simpa using hb.1.2
          have := chainP_is f j (out ++ [j]) (cn_step hc hl' hj (by simpa using hb.1.1) hs (by omega)) h
          rwa [getD_left hpos] at this
theorem chain_is {ps : List Part} {k : Nat} (hk : k < ps.length) (ht : Ser (pAt ps k).tsn) (h : chainOf ps k ≠ []) : Chn ps k (chainOf ps k) := chainP_is 14 k [k] (cn_start hk ht) h
theorem addS_inj {t : Int} {i j : Nat} (hi : i ≤ 1000) (hj : j ≤ 1000) (h : addS t i = addS t j) : i = j := by
  unfold addS at h
  omega
/-- The places of a message are different. -/
theorem Chn.nodup {ps : List Part} {k : Nat} {ch : List Nat} (h : Chn ps k ch) : ∀ i j, i < ch.length → j < ch.length → ch.getD i 0 = ch.getD j 0 → i = j := fun i j hi hj e => by
  have h1 := h.cn.tsn i hi
  have h2 := h.cn.tsn j hj
  rw [e] at h1
  have hl := h.cn.len
  exact addS_inj (t := (pAt ps (ch.getD 0 0)).tsn) (by omega) (by omega) (h1.symm.trans h2)

end Go.Proofs.Ytncbgejggfkdmab

/- Assemblies, plain: a message is taken out. -/
namespace Go.Proofs.Ytncbgejggfkdmab
open Go.RowKit Go.PlainAid

/-- An assembly is valid. -/
structure AsmOk (next : List Int) (ps : List Part) : Prop where
  n1 : 1 ≤ next.length
  n4 : next.length ≤ 4
  nums : ∀ n ∈ next, Ser n
  few : ps.length ≤ 12
  ok : ∀ p ∈ ps, DataOk p.tsn p.stream p.ssn p.text ∧ p.stream < next.length
  diff : (ps.map fun p => p.tsn).Nodup
/-- A part may begin a message that is told. -/
def dueP (next : List Int) (p : Part) : Bool := p.first && (p.loose || p.ssn == next.getD p.stream.toNat 0)
/-- The parts of the first message that is due, or none. -/
def findFrom (next : List Int) (ps : List Part) : Nat → Nat → List Nat
  | _, 0 => []
  | i, m + 1 => if dueP next (pAt ps i) && !(chainOf ps i).isEmpty then chainOf ps i else findFrom next ps (i + 1) m
def findP (next : List Int) (ps : List Part) : List Nat := findFrom next ps 0 ps.length
theorem findFrom_some {next : List Int} {ps : List Part} : ∀ (m i : Nat), findFrom next ps i m ≠ [] → ∃ k, i ≤ k ∧ k < i + m ∧ dueP next (pAt ps k) = true ∧ chainOf ps k ≠ [] ∧ findFrom next ps i m = chainOf ps k
  | 0, _, h => absurd rfl h
  | m + 1, i, h => by
    unfold findFrom at h ⊢
    split
    · rename_i hc
      simp only [Bool.and_eq_true, Bool.not_eq_true', List.isEmpty_eq_false_iff] at hc
      exact ⟨i, by omega, by omega, hc.1, hc.2, rfl⟩
    · rename_i hc
      rw [if_neg hc] at h
      obtain ⟨k, h1, h2, h3⟩ := findFrom_some m (i + 1) h
      exact ⟨k, by omega, by omega, h3⟩
theorem findFrom_none {next : List Int} {ps : List Part} : ∀ (m i : Nat), findFrom next ps i m = [] → ∀ k, i ≤ k → k < i + m → dueP next (pAt ps k) = true → chainOf ps k = []
  | 0, _, _, k, h1, h2, _ => by omega
  | m + 1, i, h, k, h1, h2, hd => by
    unfold findFrom at h
    split at h
    · rename_i hc
      simp only [Bool.and_eq_true, Bool.not_eq_true', List.isEmpty_eq_false_iff] at hc
      exact absurd h hc.2
    · rename_i hc
      by_cases e : k = i
      · subst e
        by_cases e2 : chainOf ps k = []
        · exact e2
        · exact absurd (by simp [hd, e2]) hc
      · exact findFrom_none m (i + 1) h k (by omega) (by omega) hd
/-- The parts that are left. -/
def restTo (ps : List Part) (ch : List Nat) (n : Nat) : List Part := ((List.range n).filter fun i => !decide (i ∈ ch)).map (pAt ps)
def restP (ps : List Part) (ch : List Nat) : List Part := restTo ps ch ps.length
theorem restTo_zero (ps : List Part) (ch : List Nat) : restTo ps ch 0 = [] := rfl
theorem restTo_in {ps : List Part} {ch : List Nat} {n : Nat} (h : n ∈ ch) : restTo ps ch (n + 1) = restTo ps ch n := by
  unfold restTo
  rw [List.range_succ, List.filter_append]
  simp [h]
theorem restTo_out {ps : List Part} {ch : List Nat} {n : Nat} (h : n ∉ ch) : restTo ps ch (n + 1) = restTo ps ch n ++ [pAt ps n] := by
  unfold restTo
  rw [List.range_succ, List.filter_append]
  simp [h]
/-- The text of a message. -/
def textP (ps : List Part) : List Nat → ByteArray
  | [] => ByteArray.mk #[]
  | i :: is => (pAt ps i).text ++ textP ps is
theorem textP_snoc (ps : List Part) (is : List Nat) (i : Nat) : textP ps (is ++ [i]) = textP ps is ++ (pAt ps i).text := by
  induction is with
  | nil =>
    show (pAt ps i).text ++ ByteArray.mk #[] = ByteArray.mk #[] ++ (pAt ps i).text
    have e : ByteArray.mk #[] = ByteArray.empty := rfl
    rw [e, ByteArray.append_empty, ByteArray.empty_append]
  | cons x xs ih =>
    show (pAt ps x).text ++ textP ps (xs ++ [i]) = (pAt ps x).text ++ textP ps xs ++ (pAt ps i).text
    rw [ih, ByteArray.append_assoc]
/-- The bytes of parts, and of messages. -/
def sumB (ps : List Part) : Nat := (ps.map fun p => p.text.size).sum
def sumM (ms : List Msg) : Nat := (ms.map fun m => m.text.size).sum
theorem sumB_append (ps qs : List Part) : sumB (ps ++ qs) = sumB ps + sumB qs := by unfold sumB; rw [List.map_append, List.sum_append]
theorem textP_size (ps : List Part) (is : List Nat) : (textP ps is).size = sumB (is.map (pAt ps)) := by
  induction is with
  | nil => rfl
  | cons x xs ih =>
    show ((pAt ps x).text ++ textP ps xs).size = _
    rw [ByteArray.size_append, ih]
    rfl
theorem ps_range (ps : List Part) : (List.range ps.length).map (pAt ps) = ps := by
  refine List.ext_getElem (by simp) fun i h1 h2 => ?_
  rw [List.getElem_map, List.getElem_range, pAt_get h2]
/-- The parts left and those of the message are all. -/
theorem rest_perm {ps : List Part} {ch : List Nat} (hn : ch.Nodup) (hl : ∀ i ∈ ch, i < ps.length) : (restP ps ch ++ ch.map (pAt ps)).Perm ps := by
  have h1 : ((List.range ps.length).filter fun i => decide (i ∈ ch)).Perm ch := by
    rw [List.perm_ext_iff_of_nodup (List.Pairwise.filter _ List.nodup_range) hn]
    intro i
    simp only [List.mem_filter, List.mem_range, decide_eq_true_eq]
    exact ⟨fun h => h.2, fun h => ⟨hl i h, h⟩⟩
  have h2 : (((List.range ps.length).filter fun i => !decide (i ∈ ch)) ++ ((List.range ps.length).filter fun i => decide (i ∈ ch))).Perm (List.range ps.length) :=
    List.perm_append_comm.trans (List.filter_append_perm _ _)
  have h3 := ((List.Perm.append_left ((List.range ps.length).filter fun i => !decide (i ∈ ch)) h1).symm.trans h2).map (pAt ps)
  rw [List.map_append, ps_range] at h3
  exact h3
theorem Chn.nd {ps : List Part} {k : Nat} {ch : List Nat} (h : Chn ps k ch) : ch.Nodup := by
  rw [List.nodup_iff_pairwise_ne, List.pairwise_iff_getElem]
  intro i j hi hj hij e
  have := h.nodup i j hi hj (by rw [List.getD_eq_getElem?_getD, List.getD_eq_getElem?_getD, List.getElem?_eq_getElem hi, List.getElem?_eq_getElem hj]; exact e)
  omega
section
variable {next : List Int} {ps : List Part} {ch : List Nat} {k : Nat}
theorem Chn.perm (h : Chn ps k ch) : (restP ps ch ++ ch.map (pAt ps)).Perm ps := rest_perm h.nd h.cn.lt
theorem Chn.bytes (h : Chn ps k ch) : sumB (restP ps ch) + (textP ps ch).size = sumB ps := by
  rw [textP_size, ← sumB_append]
  unfold sumB
  exact (h.perm.map _).sum_nat
theorem Chn.fewer (h : Chn ps k ch) : (restP ps ch).length < ps.length := by
  have h1 := h.perm.length_eq
  rw [List.length_append, List.length_map] at h1
  have := List.length_pos_iff.2 h.cn.ne
  omega
theorem Chn.sub (h : Chn ps k ch) : ∀ p ∈ restP ps ch, p ∈ ps := fun _ hp => h.perm.mem_iff.1 (List.mem_append_left _ hp)
theorem Chn.diff (h : Chn ps k ch) (hd : (ps.map fun p => p.tsn).Nodup) : ((restP ps ch).map fun p => p.tsn).Nodup := by
  have h1 := ((h.perm.map fun p => p.tsn).nodup_iff).2 hd
  rw [List.map_append] at h1
  exact (List.nodup_append.1 h1).1
/-- What is left is valid. -/
theorem AsmOk.rest (ha : AsmOk next ps) (h : Chn ps k ch) {next2 : List Int} (hl : next2.length = next.length) (hs : ∀ n ∈ next2, Ser n) : AsmOk next2 (restP ps ch) :=
  ⟨by rw [hl]; exact ha.n1, by rw [hl]; exact ha.n4, hs, by have := h.fewer; have := ha.few; omega, fun p hp => by rw [hl]; exact ha.ok p (h.sub p hp), h.diff ha.diff⟩
end
/-- The number of a stream moves on. -/
def nextP (next : List Int) (d : Part) : List Int := if d.loose then next else next.set d.stream.toNat (addS d.ssn 1)
theorem nextP_length (next : List Int) (d : Part) : (nextP next d).length = next.length := by unfold nextP; split <;> simp
theorem nextP_ser {next : List Int} {d : Part} (h : ∀ n ∈ next, Ser n) : ∀ n ∈ nextP next d, Ser n := by
  unfold nextP
  split
  · exact h
  · intro n hn
    rcases List.mem_or_eq_of_mem_set hn with hn | rfl
    · exact h n hn
    · exact addS_ser _ _
/-- The message that is taken out. -/
def msgP (ps : List Part) (ch : List Nat) : Msg := ⟨(pAt ps (ch.getD 0 0)).stream, (pAt ps (ch.getD 0 0)).ssn, (pAt ps (ch.getD 0 0)).loose, textP ps ch⟩

end Go.Proofs.Ytncbgejggfkdmab

/- Assemblies, plain: messages are taken out as long as one is due. -/
namespace Go.Proofs.Ytncbgejggfkdmab
open Go.RowKit Go.PlainAid

/-- What is left in the end, and the messages. -/
structure Ran where
  next : List Int
  ps : List Part
  ms : List Msg
/-- The first part of a message. -/
def headD (ps : List Part) (ch : List Nat) : Part := pAt ps (ch.getD 0 0)
def runF : Nat → List Int → List Part → Ran
  | 0, next, ps => ⟨next, ps, []⟩
  | f + 1, next, ps =>
    if findP next ps = [] then ⟨next, ps, []⟩
    else
      let r := runF f (nextP next (headD ps (findP next ps))) (restP ps (findP next ps))
      ⟨r.next, r.ps, msgP ps (findP next ps) :: r.ms⟩
def runP (next : List Int) (ps : List Part) : Ran := runF ps.length next ps
theorem find_none_nil (next : List Int) : findP next [] = [] := rfl
/-- What is found is a complete message that is due. -/
theorem find_is {next : List Int} {ps : List Part} (ha : AsmOk next ps) (h : findP next ps ≠ []) : ∃ k, k < ps.length ∧ dueP next (pAt ps k) = true ∧ Chn ps k (findP next ps) := by
  obtain ⟨k, _, h2, h3, h4, h5⟩ := findFrom_some ps.length 0 h
  have hk : k < ps.length := by omega
  refine ⟨k, hk, h3, ?_⟩
  show Chn ps k (findFrom next ps 0 ps.length)
  rw [h5]
  exact chain_is hk ⟨(ha.ok _ (pAt_mem hk)).1.1.1, by have := (ha.ok _ (pAt_mem hk)).1.1.2; omega⟩ h4
theorem find_head {next : List Int} {ps : List Part} (ha : AsmOk next ps) (h : findP next ps ≠ []) : dueP next (headD ps (findP next ps)) = true := by
  obtain ⟨k, _, h2, h3⟩ := find_is ha h
  unfold headD
  rw [h3.head]
  exact h2
theorem find_shorter {next : List Int} {ps : List Part} (ha : AsmOk next ps) (h : findP next ps ≠ []) : (restP ps (findP next ps)).length < ps.length := by
  obtain ⟨k, _, _, h3⟩ := find_is ha h
  exact h3.fewer
theorem find_ok {next : List Int} {ps : List Part} (ha : AsmOk next ps) (h : findP next ps ≠ []) : AsmOk (nextP next (headD ps (findP next ps))) (restP ps (findP next ps)) := by
  obtain ⟨k, _, _, h3⟩ := find_is ha h
  exact ha.rest h3 (nextP_length _ _) (nextP_ser ha.nums)
theorem runF_more {next : List Int} {ps : List Part} (ha : AsmOk next ps) : ∀ f g, ps.length ≤ f → ps.length ≤ g → runF f next ps = runF g next ps := by
  intro f
  induction f generalizing next ps with
  | zero =>
    intro g h1 _
    obtain rfl : ps = [] := List.eq_nil_of_length_eq_zero (by omega)
    cases g with
    | zero => rfl
    | succ g =>
      show _ = if findP next [] = [] then (⟨next, [], []⟩ : Ran) else _
      rw [if_pos (find_none_nil next)]
      rfl
  | succ f ih =>
    intro g h1 h2
    cases g with
    | zero =>
      obtain rfl : ps = [] := List.eq_nil_of_length_eq_zero (by omega)
      show (if findP next [] = [] then (⟨next, [], []⟩ : Ran) else _) = _
      rw [if_pos (find_none_nil next)]
      rfl
    | succ g =>
      unfold runF
      by_cases hf : findP next ps = []
      · rw [if_pos hf, if_pos hf]
      · rw [if_neg hf, if_neg hf]
        have hs := find_shorter ha hf
        have := ih (find_ok ha hf) g (by omega) (by omega)
        simp only [this]
theorem run_stop {next : List Int} {ps : List Part} (h : findP next ps = []) : runP next ps = ⟨next, ps, []⟩ := by
  unfold runP
  cases hl : ps.length with
  | zero => rfl
  | succ f =>
    unfold runF
    rw [if_pos h]
theorem run_step {next : List Int} {ps : List Part} (ha : AsmOk next ps) (h : findP next ps ≠ []) :
    runP next ps = ⟨(runP (nextP next (headD ps (findP next ps))) (restP ps (findP next ps))).next, (runP (nextP next (headD ps (findP next ps))) (restP ps (findP next ps))).ps, msgP ps (findP next ps) :: (runP (nextP next (headD ps (findP next ps))) (restP ps (findP next ps))).ms⟩ := by
  have hs := find_shorter ha h
  have e : runP next ps = runF (ps.length - 1 + 1) next ps := by
    unfold runP
    exact runF_more ha _ _ (Nat.le_refl _) (by omega)
  rw [e]
  unfold runF
  rw [if_neg h]
  have := runF_more (find_ok ha h) (ps.length - 1) (restP ps (findP next ps)).length (by omega) (Nat.le_refl _)
  simp only [this]
  rfl
/-- A property that every step keeps holds in the end. -/
theorem run_ind {C : List Int → List Part → Ran → Prop} (h0 : ∀ next ps, AsmOk next ps → findP next ps = [] → C next ps ⟨next, ps, []⟩)
    (h1 : ∀ next ps r, AsmOk next ps → findP next ps ≠ [] → C (nextP next (headD ps (findP next ps))) (restP ps (findP next ps)) r → C next ps ⟨r.next, r.ps, msgP ps (findP next ps) :: r.ms⟩) :
    ∀ {next : List Int} {ps : List Part}, AsmOk next ps → C next ps (runP next ps) := by
  have : ∀ n (next : List Int) (ps : List Part), ps.length ≤ n → AsmOk next ps → C next ps (runP next ps) := by
    intro n
    induction n with
    | zero =>
      intro next ps hl ha
      obtain rfl : ps = [] := List.eq_nil_of_length_eq_zero (by omega)
      rw [run_stop (find_none_nil next)]
      exact h0 _ _ ha (find_none_nil next)
    | succ n ih =>
      intro next ps hl ha
      by_cases hf : findP next ps = []
      · rw [run_stop hf]
        exact h0 _ _ ha hf
      · rw [run_step ha hf]
        have hs := find_shorter ha hf
        exact h1 _ _ _ ha hf (ih _ _ (by omega) (find_ok ha hf))
  intro next ps ha
  exact this _ _ _ (Nat.le_refl _) ha
theorem run_ok {next : List Int} {ps : List Part} (ha : AsmOk next ps) : AsmOk (runP next ps).next (runP next ps).ps :=
  run_ind (C := fun _ _ r => AsmOk r.next r.ps) (fun _ _ h _ => h) (fun _ _ _ _ _ h => h) ha
theorem run_length {next : List Int} {ps : List Part} (ha : AsmOk next ps) : (runP next ps).next.length = next.length :=
  run_ind (C := fun n _ r => r.next.length = n.length) (fun _ _ _ _ => rfl) (fun _ _ _ _ _ h => h.trans (nextP_length _ _)) ha
theorem sumM_cons (m : Msg) (ms : List Msg) : sumM (m :: ms) = m.text.size + sumM ms := rfl
/-- No byte is lost. -/
theorem run_bytes {next : List Int} {ps : List Part} (ha : AsmOk next ps) : sumB (runP next ps).ps + sumM (runP next ps).ms = sumB ps :=
  run_ind (C := fun _ ps r => sumB r.ps + sumM r.ms = sumB ps) (fun _ _ _ _ => rfl) (fun next ps r ha hf h => by
    obtain ⟨k, _, _, h3⟩ := find_is ha hf
    have := h3.bytes
    show sumB r.ps + sumM (msgP ps (findP next ps) :: r.ms) = sumB ps
    rw [sumM_cons]
    show sumB r.ps + ((textP ps (findP next ps)).size + sumM r.ms) = sumB ps
    omega) ha
/-- Without a message, nothing has changed. -/
theorem run_quiet {next : List Int} {ps : List Part} (ha : AsmOk next ps) (h : (runP next ps).ms = []) : (runP next ps).next = next ∧ (runP next ps).ps = ps := by
  by_cases hf : findP next ps = []
  · rw [run_stop hf]
    exact ⟨rfl, rfl⟩
  · rw [run_step ha hf] at h
    cases h
/-- The ordered messages of a stream. -/
def ofS (ms : List Msg) (s : Int) : List Msg := ms.filter fun m => m.stream == s && !m.loose
theorem ofS_cons_yes {m : Msg} {s : Int} (ms : List Msg) (h : m.stream = s) (hl : m.loose = false) : ofS (m :: ms) s = m :: ofS ms s := by
  unfold ofS
  rw [List.filter_cons_of_pos (by simp [h, hl])]
theorem ofS_cons_no {m : Msg} {s : Int} (ms : List Msg) (h : m.stream ≠ s ∨ m.loose = true) : ofS (m :: ms) s = ofS ms s := by
  unfold ofS
  rw [List.filter_cons_of_neg (by simp; intro h2; cases h with | inl h => exact absurd h2 h | inr h => exact h)]
theorem ofS_append (a b : List Msg) (s : Int) : ofS (a ++ b) s = ofS a s ++ ofS b s := by
  unfold ofS
  exact List.filter_append ..
theorem addS_addS {t : Int} {a b : Nat} : addS (addS t a) b = addS t ((a + b : Nat) : Int) := by
  unfold addS
  omega
/-- The numbers of the ordered messages follow each other, and the next number has moved on by as many. -/
theorem run_order {next : List Int} {ps : List Part} (ha : AsmOk next ps) (s : Nat) (hs : s < next.length) :
    (ofS (runP next ps).ms s).length ≤ ps.length ∧ (runP next ps).next.getD s 0 = addS (next.getD s 0) ((ofS (runP next ps).ms s).length : Int) ∧
      ∀ i, i < (ofS (runP next ps).ms s).length → ((ofS (runP next ps).ms s).map fun m => m.ssn).getD i 0 = addS (next.getD s 0) (i : Int) := by
  refine run_ind (C := fun next ps r => s < next.length → (ofS r.ms s).length ≤ ps.length ∧ r.next.getD s 0 = addS (next.getD s 0) ((ofS r.ms s).length : Int) ∧
      ∀ i, i < (ofS r.ms s).length → ((ofS r.ms s).map fun m => m.ssn).getD i 0 = addS (next.getD s 0) (i : Int)) ?_ ?_ ha hs
  · intro next ps ha _ hs
    refine ⟨Nat.zero_le _, ?_, fun i hi => absurd hi (Nat.not_lt_zero _)⟩
    have : Ser (next.getD s 0) := ha.nums _ (by rw [List.getD_eq_getElem?_getD, List.getElem?_eq_getElem hs]; exact List.getElem_mem _)
    show next.getD s 0 = addS (next.getD s 0) 0
    unfold Ser at this
    unfold addS
    omega
  · intro next ps r ha hf h hs
    obtain ⟨k, hk, hd, h3⟩ := find_is ha hf
    have hlt := h3.fewer
    have few := ha.few
    have hd' := find_head ha hf
    have hok := (ha.ok _ (pAt_mem hk))
    have hD : headD ps (findP next ps) = pAt ps k := by unfold headD; rw [h3.head]
    obtain ⟨g1, g2, g3⟩ := h (by rw [nextP_length]; exact hs)
    rw [hD] at g2 g3 hd'
    have hst : (msgP ps (findP next ps)).stream = (pAt ps k).stream := by unfold msgP; rw [h3.head]
    have hlo : (msgP ps (findP next ps)).loose = (pAt ps k).loose := by unfold msgP; rw [h3.head]
    have hsn : (msgP ps (findP next ps)).ssn = (pAt ps k).ssn := by unfold msgP; rw [h3.head]
    have h0 : 0 ≤ (pAt ps k).stream := hok.1.2.1.1
    by_cases hc : (pAt ps k).stream = s ∧ (pAt ps k).loose = false
    · have e := ofS_cons_yes r.ms (hst.trans hc.1) (hlo.trans hc.2)
      have hsn2 : (pAt ps k).ssn = next.getD s 0 := by
        unfold dueP at hd'
        simp only [hc.2, Bool.false_or, Bool.and_eq_true, beq_iff_eq] at hd'
        rw [hd'.2, hc.1]
        rfl
      have hn : (nextP next (pAt ps k)).getD s 0 = addS (next.getD s 0) 1 := by
        unfold nextP
        rw [if_neg (by simp [hc.2]), hsn2, hc.1]
        show (next.set s _).getD s 0 = _
        rw [List.getD_eq_getElem?_getD, List.getElem?_set_self hs]
        rfl
      rw [hn] at g2 g3
      refine ⟨?_, ?_, ?_⟩
      · show (ofS (msgP ps (findP next ps) :: r.ms) s).length ≤ _
        rw [e, List.length_cons]
        omega
      · show r.next.getD s 0 = addS _ ((ofS (msgP ps (findP next ps) :: r.ms) s).length : Int)
        rw [e, g2, List.length_cons]
        have := addS_addS (t := next.getD s 0) (a := 1) (b := (ofS r.ms s).length)
        rw [show ((ofS r.ms s).length + 1 : Nat) = 1 + (ofS r.ms s).length from by omega]
        exact this
      · show ∀ i, i < (ofS (msgP ps (findP next ps) :: r.ms) s).length → ((ofS (msgP ps (findP next ps) :: r.ms) s).map fun m => m.ssn).getD i 0 = _
        rw [e]
        intro i hi
        cases i with
        | zero =>
          show (msgP ps (findP next ps)).ssn = addS _ 0
          rw [hsn, hsn2]
          have : Ser (next.getD s 0) := ha.nums _ (by rw [List.getD_eq_getElem?_getD, List.getElem?_eq_getElem hs]; exact List.getElem_mem _)
          unfold Ser at this
          unfold addS
          omega
        | succ i =>
          rw [List.length_cons] at hi
          have := g3 i (by omega)
          show ((ofS r.ms s).map fun m => m.ssn).getD i 0 = _
          rw [this]
          have := addS_addS (t := next.getD s 0) (a := 1) (b := i)
          rw [show (i + 1 : Nat) = 1 + i from by omega]
          exact this
    · have hor : (pAt ps k).stream ≠ s ∨ (pAt ps k).loose = true := by
        by_cases h1 : (pAt ps k).stream = s
        · exact Or.inr (by have := mt (And.intro h1) hc; simpa using this)
        · exact Or.inl h1
      have e := ofS_cons_no (m := msgP ps (findP next ps)) (s := (s : Int)) r.ms (by rw [hst, hlo]; exact hor)
      have hn : (nextP next (pAt ps k)).getD s 0 = next.getD s 0 := by
        unfold nextP
        split
        · rfl
        · rename_i hl
          have hne : (pAt ps k).stream.toNat ≠ s := fun h1 => hc ⟨by omega, by simpa using hl⟩
          rw [List.getD_eq_getElem?_getD, List.getElem?_set_ne hne, ← List.getD_eq_getElem?_getD]
      rw [hn] at g2 g3
      refine ⟨?_, ?_, ?_⟩
      · show (ofS (msgP ps (findP next ps) :: r.ms) s).length ≤ _
        rw [e]
        omega
      · show r.next.getD s 0 = addS _ ((ofS (msgP ps (findP next ps) :: r.ms) s).length : Int)
        rw [e]
        exact g2
      · show ∀ i, i < (ofS (msgP ps (findP next ps) :: r.ms) s).length → ((ofS (msgP ps (findP next ps) :: r.ms) s).map fun m => m.ssn).getD i 0 = _
        rw [e]
        exact g3

end Go.Proofs.Ytncbgejggfkdmab

/- Assemblies, plain: a part is taken, and a list of parts. -/
namespace Go.Proofs.Ytncbgejggfkdmab
open Go.RowKit Go.PlainAid

/-- A part may be put to an assembly of some streams. -/
def PartOk (n : Nat) (d : Part) : Prop := DataOk d.tsn d.stream d.ssn d.text ∧ d.stream < n
instance (n : Nat) (d : Part) : Decidable (PartOk n d) := by unfold PartOk DataOk; infer_instance
/-- A part with a number waits. -/
def hasT (ps : List Part) (t : Int) : Bool := ps.any fun p => p.tsn == t
theorem hasT_no {ps : List Part} {t : Int} (h : hasT ps t = false) : ∀ p ∈ ps, p.tsn ≠ t := by
  intro p hp e
  unfold hasT at h
  rw [List.any_eq_false] at h
  exact h p hp (by simp [e])
theorem hasT_yes {ps : List Part} {p : Part} (h : p ∈ ps) : hasT ps p.tsn = true := by
  unfold hasT
  rw [List.any_eq_true]
  exact ⟨p, h, by simp⟩
theorem AsmOk.push {next : List Int} {ps : List Part} {d : Part} (ha : AsmOk next ps) (hd : PartOk next.length d) (ht : hasT ps d.tsn = false) (hf : ps.length < 12) : AsmOk next (ps ++ [d]) where
  n1 := ha.n1
  n4 := ha.n4
  nums := ha.nums
  few := by rw [List.length_append]; simp; omega
  ok := fun p hp => by
    rcases List.mem_append.1 hp with hp | hp
    · exact ha.ok p hp
    · rw [List.mem_singleton.1 hp]
      exact hd
  diff := by
    rw [List.map_append, List.nodup_append]
    refine ⟨ha.diff, by simp, ?_⟩
    intro a h1 b h2 e
    obtain ⟨p, hp, rfl⟩ := List.mem_map.1 h1
    have h2' : b = d.tsn := by simpa using h2
    exact hasT_no ht p hp (e.trans h2')
/-- What a part does: a code, and what is then. -/
def addC (ps : List Part) (d : Part) : Int := if hasT ps d.tsn then 1 else if 12 ≤ ps.length then 2 else 0
def addR (next : List Int) (ps : List Part) (d : Part) : Ran := if hasT ps d.tsn then ⟨next, ps, []⟩ else if 12 ≤ ps.length then ⟨next, ps, []⟩ else runP next (ps ++ [d])
theorem addC_done {ps : List Part} {d : Part} (h : addC ps d = 0) : hasT ps d.tsn = false ∧ ps.length < 12 := by
  unfold addC at h
  split at h
  · cases h
  · rename_i h1
    split at h
    · cases h
    · exact ⟨by simpa using h1, by omega⟩
theorem addR_done {next : List Int} {ps : List Part} {d : Part} (h : addC ps d = 0) : addR next ps d = runP next (ps ++ [d]) := by
  obtain ⟨h1, h2⟩ := addC_done h
  unfold addR
  rw [if_neg (by simp [h1]), if_neg (by omega)]
theorem addR_not {next : List Int} {ps : List Part} {d : Part} (h : addC ps d ≠ 0) : addR next ps d = ⟨next, ps, []⟩ := by
  unfold addC at h
  unfold addR
  split
  · rfl
  · rename_i h1
    rw [if_neg h1] at h
    split
    · rfl
    · rename_i h2
      rw [if_neg h2] at h
      exact absurd rfl h
theorem addR_ok {next : List Int} {ps : List Part} {d : Part} (ha : AsmOk next ps) (hd : PartOk next.length d) : AsmOk (addR next ps d).next (addR next ps d).ps ∧ (addR next ps d).next.length = next.length := by
  by_cases h : addC ps d = 0
  · rw [addR_done h]
    have hp := ha.push hd (addC_done h).1 (addC_done h).2
    exact ⟨run_ok hp, run_length hp⟩
  · rw [addR_not h]
    exact ⟨ha, rfl⟩
/-- A part that was taken waits, or messages are told. -/
theorem add_waits {next : List Int} {ps : List Part} {d : Part} (ha : AsmOk next ps) (hd : PartOk next.length d) (h : addC ps d = 0) (hm : (addR next ps d).ms = []) : (addR next ps d).next = next ∧ (addR next ps d).ps = ps ++ [d] := by
  rw [addR_done h] at hm ⊢
  exact run_quiet (ha.push hd (addC_done h).1 (addC_done h).2) hm
theorem add_bytes {next : List Int} {ps : List Part} {d : Part} (ha : AsmOk next ps) (hd : PartOk next.length d) (h : addC ps d = 0) : sumB (addR next ps d).ps + sumM (addR next ps d).ms = sumB ps + d.text.size := by
  rw [addR_done h, run_bytes (ha.push hd (addC_done h).1 (addC_done h).2), sumB_append]
  unfold sumB
  simp
/-- A list of parts: what is then. -/
def goP (n : Nat) : List Part → List Int → List Part → Ran
  | [], next, ps => ⟨next, ps, []⟩
  | d :: ds, next, ps =>
    if PartOk n d then
      let r := goP n ds (addR next ps d).next (addR next ps d).ps
      ⟨r.next, r.ps, (addR next ps d).ms ++ r.ms⟩
    else goP n ds next ps
/-- The messages of a list of parts. -/
def runL (n : Nat) (ds : List Part) : List Msg := (goP n ds (List.replicate n 0) []).ms
theorem goP_yes {n : Nat} {d : Part} (h : PartOk n d) (ds : List Part) (next : List Int) (ps : List Part) : goP n (d :: ds) next ps = ⟨(goP n ds (addR next ps d).next (addR next ps d).ps).next, (goP n ds (addR next ps d).next (addR next ps d).ps).ps, (addR next ps d).ms ++ (goP n ds (addR next ps d).next (addR next ps d).ps).ms⟩ := by
  show (if PartOk n d then _ else _) = _
  rw [if_pos h]
theorem goP_no {n : Nat} {d : Part} (h : ¬ PartOk n d) (ds : List Part) (next : List Int) (ps : List Part) : goP n (d :: ds) next ps = goP n ds next ps := by
  show (if PartOk n d then _ else _) = _
  rw [if_neg h]
theorem goP_append {n : Nat} (ds es : List Part) : ∀ (next : List Int) (ps : List Part), goP n (ds ++ es) next ps =
    ⟨(goP n es (goP n ds next ps).next (goP n ds next ps).ps).next, (goP n es (goP n ds next ps).next (goP n ds next ps).ps).ps, (goP n ds next ps).ms ++ (goP n es (goP n ds next ps).next (goP n ds next ps).ps).ms⟩ := by
  induction ds with
  | nil => intro next ps; rfl
  | cons d ds ih =>
    intro next ps
    show goP n (d :: (ds ++ es)) next ps = _
    by_cases hd : PartOk n d
    · rw [goP_yes hd, goP_yes hd, ih]
      simp only [List.append_assoc]
    · rw [goP_no hd, goP_no hd, ih]
theorem goP_snoc {n : Nat} (ds : List Part) (d : Part) (next : List Int) (ps : List Part) : goP n (ds ++ [d]) next ps =
    if PartOk n d then ⟨(addR (goP n ds next ps).next (goP n ds next ps).ps d).next, (addR (goP n ds next ps).next (goP n ds next ps).ps d).ps, (goP n ds next ps).ms ++ (addR (goP n ds next ps).next (goP n ds next ps).ps d).ms⟩ else goP n ds next ps := by
  rw [goP_append]
  by_cases hd : PartOk n d
  · rw [goP_yes hd, if_pos hd]
    show (⟨_, _, _ ++ (_ ++ [])⟩ : Ran) = _
    rw [List.append_nil]
    rfl
  · rw [goP_no hd, if_neg hd]
    show (⟨_, _, _ ++ []⟩ : Ran) = _
    rw [List.append_nil]
    rfl
/-- Later parts change no earlier message. -/
theorem runL_part {n : Nat} (ds : List Part) (k : Nat) : ∃ ms, runL n ds = runL n (ds.take k) ++ ms := by
  refine ⟨(goP n (ds.drop k) (goP n (ds.take k) (List.replicate n 0) []).next (goP n (ds.take k) (List.replicate n 0) []).ps).ms, ?_⟩
  have := goP_append (n := n) (ds.take k) (ds.drop k) (List.replicate n 0) []
  rw [List.take_append_drop] at this
  unfold runL
  rw [this]
theorem asm_new {n : Nat} (h1 : 1 ≤ n) (h2 : n ≤ 4) : AsmOk (List.replicate n 0) [] where
  n1 := by rw [List.length_replicate]; exact h1
  n4 := by rw [List.length_replicate]; exact h2
  nums := fun x hx => by rw [(List.mem_replicate.1 hx).2]; exact ⟨by omega, by omega⟩
  few := by simp
  ok := fun p hp => by cases hp
  diff := by simp
theorem go_ok {n : Nat} (ds : List Part) : ∀ {next : List Int} {ps : List Part}, AsmOk next ps → next.length = n → AsmOk (goP n ds next ps).next (goP n ds next ps).ps ∧ (goP n ds next ps).next.length = n := by
  induction ds with
  | nil => intro next ps ha hl; exact ⟨ha, hl⟩
  | cons d ds ih =>
    intro next ps ha hl
    unfold goP
    split
    · rename_i hd
      have h := addR_ok ha (hl ▸ hd)
      exact ih h.1 (h.2.trans hl)
    · exact ih ha hl
/-- The ordered messages of a run: their numbers follow each other, and the next number has moved on by as many. -/
theorem addR_order {next : List Int} {ps : List Part} {d : Part} (ha : AsmOk next ps) (hd : PartOk next.length d) (s : Nat) (hs : s < next.length) :
    (ofS (addR next ps d).ms s).length ≤ 13 ∧ (addR next ps d).next.getD s 0 = addS (next.getD s 0) ((ofS (addR next ps d).ms s).length : Int) ∧
      ∀ i, i < (ofS (addR next ps d).ms s).length → ((ofS (addR next ps d).ms s).map fun m => m.ssn).getD i 0 = addS (next.getD s 0) (i : Int) := by
  by_cases h : addC ps d = 0
  · rw [addR_done h]
    have hp := ha.push hd (addC_done h).1 (addC_done h).2
    obtain ⟨h1, h2, h3⟩ := run_order hp s hs
    exact ⟨Nat.le_trans h1 (Nat.le_trans hp.few (by omega)), h2, h3⟩
  · rw [addR_not h]
    refine ⟨Nat.zero_le _, ?_, fun i hi => absurd hi (Nat.not_lt_zero _)⟩
    have : Ser (next.getD s 0) := ha.nums _ (by rw [List.getD_eq_getElem?_getD, List.getElem?_eq_getElem hs]; exact List.getElem_mem _)
    show next.getD s 0 = addS (next.getD s 0) 0
    unfold Ser at this
    unfold addS
    omega
theorem go_order {n : Nat} (ds : List Part) : ∀ {next : List Int} {ps : List Part}, AsmOk next ps → next.length = n → ∀ s, s < n →
    (ofS (goP n ds next ps).ms s).length ≤ 13 * ds.length ∧ ∀ i, i < (ofS (goP n ds next ps).ms s).length → ((ofS (goP n ds next ps).ms s).map fun m => m.ssn).getD i 0 = addS (next.getD s 0) (i : Int) := by
  induction ds with
  | nil => intro next ps _ _ s _; exact ⟨Nat.zero_le _, fun i hi => absurd hi (Nat.not_lt_zero _)⟩
  | cons d ds ih =>
    intro next ps ha hl s hs
    rw [List.length_cons]
    unfold goP
    split
    · rename_i hd
      have h := addR_ok ha (hl ▸ hd)
      obtain ⟨g1, g2⟩ := ih h.1 (h.2.trans hl) s hs
      obtain ⟨f1, f2, f3⟩ := addR_order ha (hl ▸ hd) s (by omega)
      show (ofS ((addR next ps d).ms ++ _) s).length ≤ _ ∧ ∀ i, i < (ofS ((addR next ps d).ms ++ _) s).length → ((ofS ((addR next ps d).ms ++ _) s).map _).getD i 0 = _
      rw [ofS_append, List.length_append, List.map_append]
      refine ⟨by omega, fun i hi => ?_⟩
      by_cases hc : i < (ofS (addR next ps d).ms s).length
      · rw [List.getD_eq_getElem?_getD, List.getElem?_append_left (by rw [List.length_map]; exact hc), ← List.getD_eq_getElem?_getD]
        exact f3 i hc
      · rw [List.getD_eq_getElem?_getD, List.getElem?_append_right (by rw [List.length_map]; omega), ← List.getD_eq_getElem?_getD, List.length_map]
        rw [g2 _ (by omega), f2, addS_addS]
        congr 1
        omega
    · obtain ⟨g1, g2⟩ := ih ha hl s hs
      exact ⟨by omega, g2⟩
/-- The ordered messages of a stream have the numbers 0, 1 and so on. -/
theorem runL_order {n : Nat} (h1 : 1 ≤ n) (h2 : n ≤ 4) (ds : List Part) (hd : ds.length ≤ 5000) (s i : Nat) (hs : s < n) (hi : i < (ofS (runL n ds) s).length) : ((ofS (runL n ds) s).map fun m => m.ssn).getD i 0 = (i : Int) := by
  obtain ⟨g1, g2⟩ := go_order (n := n) ds (asm_new h1 h2) List.length_replicate s hs
  have h := g2 i hi
  unfold runL at hi ⊢
  rw [h]
  have : (List.replicate n (0 : Int)).getD s 0 = 0 := by
    rw [List.getD_eq_getElem?_getD, List.getElem?_replicate]
    split <;> rfl
  rw [this]
  unfold addS
  omega

end Go.Proofs.Ytncbgejggfkdmab

/- Assemblies, plain: messages without order; parts that are missing. -/
namespace Go.Proofs.Ytncbgejggfkdmab
open Go.RowKit Go.PlainAid

theorem mem_at {ps : List Part} {p : Part} (h : p ∈ ps) : ∃ k, k < ps.length ∧ pAt ps k = p := by
  obtain ⟨k, hk, e⟩ := List.getElem_of_mem h
  exact ⟨k, hk, by rw [← pAt_get hk]; exact e⟩
/-- A part that is the first and the last one is a message. -/
theorem chain_one {ps : List Part} {k : Nat} (h : (pAt ps k).last = true) : chainOf ps k = [k] := by
  unfold chainOf chainP
  rw [if_pos h]
/-- A whole message without order is told. -/
theorem loose_told {next : List Int} {ps : List Part} (ha : AsmOk next ps) : ∀ p ∈ ps, p.first = true → p.last = true → p.loose = true → (⟨p.stream, p.ssn, true, p.text⟩ : Msg) ∈ (runP next ps).ms := by
  refine run_ind (C := fun _ ps r => ∀ p ∈ ps, p.first = true → p.last = true → p.loose = true → (⟨p.stream, p.ssn, true, p.text⟩ : Msg) ∈ r.ms) ?_ ?_ ha
  · intro next ps _ hf p hp h1 h2 h3
    obtain ⟨k, hk, rfl⟩ := mem_at hp
    have := findFrom_none ps.length 0 hf k (by omega) (by omega) (by unfold dueP; simp [h1, h3])
    rw [chain_one h2] at this
    cases this
  · intro next ps r ha hf ih p hp h1 h2 h3
    obtain ⟨k, hk, hd, hc⟩ := find_is ha hf
    show _ ∈ msgP ps (findP next ps) :: r.ms
    rcases List.mem_append.1 (hc.perm.mem_iff.2 hp) with hr | hr
    · exact List.mem_cons_of_mem _ (ih p hr h1 h2 h3)
    · obtain ⟨j, hj, rfl⟩ := List.mem_map.1 hr
      obtain ⟨i, hi, rfl⟩ := List.getElem_of_mem hj
      have ei : (findP next ps)[i] = (findP next ps).getD i 0 := by rw [List.getD_eq_getElem?_getD, List.getElem?_eq_getElem hi]; rfl
      rw [ei] at h1 h2 h3 ⊢
      have i0 : i = 0 := by
        by_cases h : 1 ≤ i
        · have := hc.cn.mid i h hi
          rw [h1] at this
          cases this
        · omega
      subst i0
      have hl : (findP next ps).length = 1 := by
        by_cases h : 0 + 1 < (findP next ps).length
        · have := hc.cn.open_ 0 h
          rw [h2] at this
          cases this
        · omega
      refine List.mem_cons.2 (Or.inl ?_)
      have e1 : findP next ps = [(findP next ps).getD 0 0] := by
        obtain ⟨x, hx⟩ := List.length_eq_one_iff.1 hl
        rw [hx]
        rfl
      have et : textP ps (findP next ps) = (pAt ps ((findP next ps).getD 0 0)).text := by
        rw [e1]
        show (pAt ps ((findP next ps).getD 0 0)).text ++ ByteArray.mk #[] = _
        have e : ByteArray.mk #[] = ByteArray.empty := rfl
        rw [e, ByteArray.append_empty]
        rfl
      unfold msgP
      rw [et, h3]
theorem add_loose {next : List Int} {ps : List Part} {d : Part} (ha : AsmOk next ps) (hd : PartOk next.length d) (h : addC ps d = 0) (h1 : d.first = true) (h2 : d.last = true) (h3 : d.loose = true) : (⟨d.stream, d.ssn, true, d.text⟩ : Msg) ∈ (addR next ps d).ms := by
  rw [addR_done h]
  exact loose_told (ha.push hd (addC_done h).1 (addC_done h).2) d (by simp) h1 h2 h3
/-- Parts may be missing. -/
theorem AsmOk.less {next : List Int} {ps qs : List Part} (ha : AsmOk next ps) (h : qs.Sublist ps) : AsmOk next qs where
  n1 := ha.n1
  n4 := ha.n4
  nums := ha.nums
  few := Nat.le_trans h.length_le ha.few
  ok := fun p hp => ha.ok p (h.subset hp)
  diff := (h.map fun p => p.tsn).nodup ha.diff
theorem asm_drop {next : List Int} {ps : List Part} (ha : AsmOk next ps) (k : Nat) : AsmOk next (ps.take k ++ ps.drop (k + 1)) := by
  refine ha.less ?_
  rw [← List.eraseIdx_eq_take_drop_succ]
  exact List.eraseIdx_sublist ..
theorem asm_twice {next : List Int} {ps : List Part} {k : Nat} (hk : k < ps.length) : ¬ AsmOk next (ps.take (k + 1) ++ ps.drop k) := by
  intro h
  have hd := h.diff
  rw [List.map_append, List.nodup_append] at hd
  have h1 : ps[k] ∈ ps.take (k + 1) := by
    rw [List.mem_take_iff_getElem]
    exact ⟨k, by omega, rfl⟩
  have h2 : ps[k] ∈ ps.drop k := by
    rw [List.mem_drop_iff_getElem]
    exact ⟨0, by omega, by simp⟩
  exact hd.2.2 _ (List.mem_map_of_mem h1) _ (List.mem_map_of_mem h2) rfl

end Go.Proofs.Ytncbgejggfkdmab

/- The contracts of the two-byte number functions of chapter 1: what each call returns, for every number. -/
namespace Go.Proofs.Ytncbgejggfkdmab
open Go.RowKit

set_option maxHeartbeats 400000 in
theorem l6In_any (n lo hi : Int) (w : World) :
    Calls Try.prog 39 #[.int .i64 n, .int .i64 lo, .int .i64 hi] w fun e w' => e = .returned (.bool (decide (lo ≤ n ∧ n ≤ hi))) ∧ w = w' := by
  by_cases h : lo ≤ n
  all_goals
    go_enter Try.func39, Try.ntmps39
    go_wp2
    go_ret
    simp [h]
    try omega

end Go.Proofs.Ytncbgejggfkdmab

/- The contracts of the reading functions of chapter 1: the cursor, WordGet and LongGet, for every text and place. -/
namespace Go.Proofs.Ytncbgejggfkdmab
open Go.RowKit Go.PlainAid

end Go.Proofs.Ytncbgejggfkdmab

/- The contracts of chapter 11's model: whether a chunk is valid, its bytes, the chunk at a place, names. -/
namespace Go.Proofs.Ytncbgejggfkdmab
open Go.RowKit Go.PlainAid

theorem kept_cell {B b i : Nat} {w w' : World} {v : Value} (hb : Below B w w') (h : b < B) (hc : w.cell? ⟨b, i, none⟩ = some v) : w'.cell? ⟨b, i, none⟩ = some v :=
  (hb.cell (p := ⟨b, i, none⟩) h).trans hc
theorem kept_frozen {B b i : Nat} {w w' : World} (hb : Below B w w') (h : b < B) (hf : w.frozen? ⟨b, i, none⟩ = false) : w'.frozen? ⟨b, i, none⟩ = false :=
  (hb.frozen (p := ⟨b, i, none⟩) h).trans hf
theorem below_box {B : Nat} {w : World} (o : Obj) (h : B ≤ w.heap.size) : Below B w (w.alloc o) := (Below.refl B w).alloc h o

/-- Two bytes that lie anywhere, as a text. -/
theorem conv_two (w : World) (g cap : Nat) (x y : Int) (h0 : w.cell? ⟨g, 0, none⟩ = some (.int .u8 x)) (h1 : w.cell? ⟨g, 1, none⟩ = some (.int .u8 y)) :
    (convert 22 9 (.slice (some ⟨g, 0, none⟩) 2 cap)).run Try.prog w = .ok (.string (strOfNums [x, y])) w := by
  refine run_convert_bytes_arg w 22 5 Try.underlying22 Try.underlying5 g 0 2 cap [x, y] rfl (fun i hi => ?_) 9 Try.underlying9
  rcases (show i = 0 ∨ i = 1 by omega) with rfl | rfl
  · exact h0
  · exact h1

end Go.Proofs.Ytncbgejggfkdmab

/- The contracts of the drawing helper: a reader is opened over the given bytes, and each pick is a number in its range. -/
namespace Go.Proofs.Ytncbgejggfkdmab
open Go.RowKit

/-- The bytes that a reader goes over: none, or a row below block B. -/
def Src (B : Nat) (w : World) (src : Option Addr) (len : Nat) : Prop :=
  len ≤ 2000 ∧ (len = 0 ∨ ∃ b off, src = some ⟨b, off, none⟩ ∧ b < B ∧ ∀ i, i < len → ∃ z : Int, 0 ≤ z ∧ z ≤ 255 ∧ w.cell? ⟨b, off + i, none⟩ = some (.int .u8 z))
/-- A reader at block r, from B on, whose place is at most m. -/
def Rd (B : Nat) (r m : Nat) (w : World) : Prop :=
  B ≤ r ∧ r < w.heap.size ∧ w.frozen? ⟨r, 1, none⟩ = false ∧ (∃ p : Nat, p ≤ m ∧ w.cell? ⟨r, 1, none⟩ = some (.int .i64 p)) ∧ ∃ src len cap, w.cell? ⟨r, 0, none⟩ = some (.slice src len cap) ∧ Src B w src len
/-- Only the place of the reader at block r has turned. -/
def Only (r : Nat) (w w' : World) : Prop := ∃ v q, w' = (w.setCell ⟨r, 1, none⟩ v).drewN q
/-- What a pick leaves. -/
def Picked (B r m : Nat) (n : Int) (w : World) (e : Ending) (w' : World) : Prop :=
  ∃ k : Int, e = .returned (.int .i64 k) ∧ 0 ≤ k ∧ k < n ∧ Rd B r (m + 1) w' ∧ Only r w w'

theorem Src.keep {B : Nat} {w w' : World} {src : Option Addr} {len : Nat} (h : Src B w src len) (hb : Below B w w') : Src B w' src len := by
  obtain ⟨h1, h2⟩ := h
  refine ⟨h1, ?_⟩
  rcases h2 with h2 | ⟨b, off, e, hlt, hc⟩
  · exact .inl h2
  · exact .inr ⟨b, off, e, hlt, fun i hi => by
      obtain ⟨z, a1, a2, a3⟩ := hc i hi
      exact ⟨z, a1, a2, (hb.cell (p := ⟨b, off + i, none⟩) hlt).trans a3⟩⟩
theorem Only.below {r B : Nat} {w w' : World} (h : Only r w w') (hB : B ≤ r) : Below B w w' := by
  obtain ⟨v, q, rfl⟩ := h
  exact below_drewN ((Below.refl _ _).setCell hB _) _
theorem Only.size {r : Nat} {w w' : World} (h : Only r w w') : w'.heap.size = w.heap.size := by
  obtain ⟨v, q, rfl⟩ := h
  simp [World.drewN]
/-- Whatever keeps all blocks that were there keeps a reader. -/
theorem Rd.keep {B r m C : Nat} {w w' : World} (h : Rd B r m w) (hb : Below C w w') (hC : r < C) : Rd B r m w' := by
  obtain ⟨h1, h2, h3, ⟨p, h4, h5⟩, src, len, cap, h6, h7⟩ := h
  exact ⟨h1, Nat.lt_of_lt_of_le h2 hb.size, (hb.frozen (p := ⟨r, 1, none⟩) hC).trans h3, ⟨p, h4, (hb.cell (p := ⟨r, 1, none⟩) hC).trans h5⟩, src, len, cap, (hb.cell (p := ⟨r, 0, none⟩) hC).trans h6, h7.keep (hb.mono (by omega))⟩
theorem Rd.mono {B r m m' : Nat} {w : World} (h : Rd B r m w) (hm : m ≤ m') : Rd B r m' w := by
  obtain ⟨h1, h2, h3, ⟨p, h4, h5⟩, h6⟩ := h
  exact ⟨h1, h2, h3, ⟨p, Nat.le_trans h4 hm, h5⟩, h6⟩
theorem picked_of {B r m p : Nat} {n k : Int} {w : World} {q : Nat} (h : Rd B r m w) (hp : p ≤ m) (h0 : 0 ≤ k) (h1 : k < n) :
    Picked B r m n w (.returned (.int .i64 k)) ((w.setCell ⟨r, 1, none⟩ (.int .i64 ((p : Int) + 1))).drewN q) := by
  have hb : Below B w ((w.setCell ⟨r, 1, none⟩ (.int .i64 ((p : Int) + 1))).drewN q) := below_drewN ((Below.refl _ _).setCell h.1 _) _
  obtain ⟨g1, g2, g3, ⟨p', g4, g5⟩, src, len, cap, g6, g7⟩ := h
  refine ⟨k, rfl, h0, h1, ⟨g1, by simpa [World.drewN] using g2, by rw [World.frozen?_drewN, World.frozen?_setCell]; exact g3, ⟨p + 1, by omega, ?_⟩, src, len, cap, ?_, g7.keep hb⟩, _, _, rfl⟩
  · rw [World.cell?_drewN, World.cell?_setCell_same _ _ _ g5]; simp
  · rw [World.cell?_drewN]; exact cell_other (by decide) g6
theorem picked_of' {B r m p : Nat} {n k : Int} {w : World} (h : Rd B r m w) (hp : p ≤ m) (h0 : 0 ≤ k) (h1 : k < n) :
    Picked B r m n w (.returned (.int .i64 k)) (w.setCell ⟨r, 1, none⟩ (.int .i64 ((p : Int) + 1))) := picked_of (q := 0) h hp h0 h1
theorem mod_lo (x n : Int) (h : 1 ≤ n) : 0 ≤ x % n := Int.emod_nonneg _ (by omega)
theorem mod_hi (x n : Int) (h : 1 ≤ n) : x % n < n := Int.emod_lt_of_pos _ (by omega)

set_option maxHeartbeats 1000000 in
theorem pick_any (B r m : Nat) (n : Int) (w : World) (h : Rd B r m w) (hm : m ≤ 1000000000) (hn : 1 ≤ n) (hn2 : n ≤ 4294967296) :
    Calls Try.prog 38 #[.pointer (some ⟨r, 0, none⟩), .int .i64 n] w (Picked B r m n w) := by
  have h' := h
  obtain ⟨g1, g2, g3, ⟨p, g4, g5⟩, src, len, cap, g6, g7, g8⟩ := h'
  by_cases hl : len = 0
  · subst hl
    have hnn : decide (n < 1) = false := by simp; omega
    go_enter Try.func38, Try.ntmps38
    go_wp2
    go_ret
    exact picked_of' h g4 (by omega) (by omega)
  · rcases g8 with g8 | ⟨b, off, rfl, hb, hc⟩
    · exact absurd g8 hl
    · have hne : ((len : Int) == 0) = false := by simp; omega
      by_cases hp : p < len
      · obtain ⟨z, z0, z1, hz⟩ := hc p hp
        have hzz : (w.setCell ⟨r, 1, none⟩ (.int .i64 (p + 1))).cell? ⟨b, off + p, none⟩ = some (.int .u8 z) := cell_far (by omega) hz
        go_enter Try.func38, Try.ntmps38
        go_wp2
        go_ret
        exact picked_of' h g4 (mod_lo _ _ hn) (mod_hi _ _ hn)
      · have hpl : ¬ (p : Int) < len := by omega
        have hlp : 0 < len := by omega
        obtain ⟨z1, z10, z11, hz1⟩ := hc (p % len) (Nat.mod_lt _ hlp)
        obtain ⟨z2, z20, z21, hz2⟩ := hc ((p * 7 + 3) % len) (Nat.mod_lt _ hlp)
        have hzz1 : (w.setCell ⟨r, 1, none⟩ (.int .i64 (p + 1))).cell? ⟨b, off + p % len, none⟩ = some (.int .u8 z1) := cell_far (by omega) hz1
        have hzz2 : (w.setCell ⟨r, 1, none⟩ (.int .i64 (p + 1))).cell? ⟨b, off + (p * 7 + 3) % len, none⟩ = some (.int .u8 z2) := cell_far (by omega) hz2
        have i0 : (0 : Int) ≤ (p : Int) % len := Int.emod_nonneg _ (by omega)
        have i1 : (p : Int) % len < len := Int.emod_lt_of_pos _ (by omega)
        have j0 : (0 : Int) ≤ ((p : Int) * 7 + 3) % len := Int.emod_nonneg _ (by omega)
        have j1 : ((p : Int) * 7 + 3) % len < len := Int.emod_lt_of_pos _ (by omega)
        have d0 : (0 : Int) ≤ (p : Int) / len := Int.ediv_nonneg (by omega) (by omega)
        have d1 : (p : Int) / len ≤ 1000000000 := Int.le_trans (Int.ediv_le_self _ (by omega)) (by omega)
        clear hz1 hz2 hc
        go_enter Try.func38, Try.ntmps38
        go_wp2
        go_quiet (fail)
        go_wp2
        go_ret
        exact picked_of h g4 (Int.tmod_nonneg _ (xor_nonneg _ _ (by omega) (by omega) (by omega) (by omega)).1) (Int.tmod_lt_of_pos _ (by omega))

/-- What opening a reader leaves. -/
def Opened (w : World) (e : Ending) (w' : World) : Prop :=
  ∃ r : Nat, e = .returned (.pointer (some ⟨r, 0, none⟩)) ∧ Rd w.heap.size r 0 w' ∧ Below w.heap.size w w'

theorem src_of {w : World} {x : Addr} {len cap n : Nat} {zs : List Int} (hl : len ≤ cap) (hz : zs.length = cap) (hn : n ≤ len) (hn2 : n ≤ 2000)
    (hc : ∀ i, i < zs.length → w.cell? (x.add i) = some (.int .u8 (zs.getD i 0))) (hw : ∀ z ∈ zs, (Lit.int .u8 z).wf = true) : Src w.heap.size w (some x) n := by
  refine ⟨hn2, ?_⟩
  rcases Nat.eq_zero_or_pos n with h0 | h0
  · exact .inl h0
  · obtain ⟨b, off, spot⟩ := x
    have h00 := hc 0 (by omega)
    have hspot : spot = none := by simpa [Addr.add] using World.cell?_spot h00
    subst hspot
    have hadd : ∀ i, (⟨b, off, none⟩ : Addr).add i = ⟨b, off + i, none⟩ := fun i => by unfold Addr.add; split <;> simp_all
    have hplain : ∀ i, w.cell? ⟨b, off + i, none⟩ = w.cell? ((⟨b, off, none⟩ : Addr).add i) := fun i => by rw [hadd]
    refine .inr ⟨b, off, rfl, lt_of_cell (by rw [hplain]; exact h00), fun i hi => ?_⟩
    have hi' : i < zs.length := by omega
    have hwf := hw (zs.getD i 0) (by rw [show zs.getD i 0 = zs[i] by simp [List.getD, List.getElem?_eq_getElem hi']]; exact List.getElem_mem hi')
    have hb := bounds_u8 hwf
    exact ⟨zs.getD i 0, hb.1, hb.2, by rw [hplain]; exact hc i hi'⟩

theorem opened_of {w : World} {src : Option Addr} {len cap : Nat} (h : Src w.heap.size w src len) :
    Opened w (.returned (.pointer (some ⟨w.heap.size, 0, none⟩))) (w.alloc (.cells #[.slice src len cap, .int .i64 0] 92)) := by
  have hb : Below w.heap.size w (w.alloc (.cells #[.slice src len cap, .int .i64 0] 92)) := (Below.refl _ _).alloc (Nat.le_refl _) _
  exact ⟨w.heap.size, rfl, ⟨Nat.le_refl _, by simp, by simp, ⟨0, Nat.le_refl _, by simp⟩, src, len, cap, by simp, h.keep hb⟩, hb⟩

set_option maxHeartbeats 400000 in
theorem l6Open_any (a : Option Addr) (len cap : Nat) (zs : List Int) (w : World) (h : IsRow .u8 w a len cap zs) :
    Calls Try.prog 37 #[.slice a len cap] w (Opened w) := by
  rcases h with ⟨rfl, rfl, rfl, rfl⟩ | ⟨x, rfl, hl, hm, hz, hc, hw⟩
  · go_enter Try.func37, Try.ntmps37
    go_wp2
    go_ret
    exact opened_of ⟨by omega, .inl rfl⟩
  · unfold maxLen at hm
    by_cases h2 : (2000 : Int) < len
    · have hs := src_of hl hz (n := 2000) (by omega) (by omega) hc hw
      clear hc hw
      go_enter Try.func37, Try.ntmps37
      go_wp2
      go_ret
      exact opened_of hs
    · have hs := src_of hl hz (n := len) (by omega) (by omega) hc hw
      clear hc hw
      go_enter Try.func37, Try.ntmps37
      go_wp2
      go_ret
      exact opened_of hs

end Go.Proofs.Ytncbgejggfkdmab
