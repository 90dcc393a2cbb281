/- Plain lemmas on texts and numbers: the bytes of a number give it back, and a number at a place depends on its bytes alone. -/
import Derived.Test.YtpdoegococcblaaG
namespace Go.Proofs.Ytpdoegococcblaa
open Go.RowKit Go.PlainAid

theorem bt_list (s : ByteArray) (k : Nat) : bt s k = ((s.data.toList.getD k 0).toNat : Int) := by
  unfold bt
  by_cases h : k < s.size
  · rw [dif_pos h]
    have : s[k] = s.data.toList.getD k 0 := by
      have h' : k < s.data.toList.length := by simpa using h
      simp [List.getD, List.getElem?_eq_getElem h']
      rfl
    rw [this]
  · rw [dif_neg h]
    have h' : s.data.toList.length ≤ k := by simpa using h
    simp [List.getD, List.getElem?_eq_none h']
theorem bt_append_right (x s : ByteArray) (k : Nat) : bt (x ++ s) (k + x.size) = bt s k := by
  rw [bt_list, bt_list]
  have e : (x ++ s).data.toList = x.data.toList ++ s.data.toList := by simp
  have hx : x.data.toList.length = x.size := by simp
  rw [e, List.getD, List.getD, List.getElem?_append_right (by omega), hx, Nat.add_sub_cancel]
theorem bt_append_left (s y : ByteArray) (k : Nat) (h : k < s.size) : bt (s ++ y) k = bt s k := by
  rw [bt_list, bt_list]
  have h' : k < s.data.toList.length := by simpa using h
  simp [List.getD, List.getElem?_append_left h']
theorem be_congr (s t : ByteArray) (p q : Nat) : ∀ k, (∀ i, i < k → bt s (p + i) = bt t (q + i)) → be s p k = be t q k
  | 0, _ => rfl
  | k + 1, h => by
    have := be_congr s t p q k (fun i hi => h i (by omega))
    simp only [be, this, h k (by omega)]
theorem be_move (x s : ByteArray) (p k : Nat) (h : p + k ≤ s.size) : be (x ++ s ++ x) (p + x.size) k = be s p k :=
  be_congr _ _ _ _ k (fun i hi => by
    rw [show p + x.size + i = (p + i) + x.size by omega, bt_append_left _ _ _ (by rw [ByteArray.size_append]; omega), bt_append_right])
theorem bt_nums (xs : List Int) (k : Nat) (z : Int) (h : xs[k]? = some z) (h0 : 0 ≤ z) (h1 : z ≤ 255) : bt (strOfNums xs) k = z := by
  rw [bt_list, strOfNums_data]
  simp [List.getD, List.getElem?_map, h]
  omega
theorem be_wordS (n : Int) (h0 : 0 ≤ n) (h1 : n ≤ 65535) : be (wordS n) 0 2 = n := by
  rw [be_two]
  unfold wordS
  rw [bt_nums _ 0 (n / 256) rfl (by omega) (by omega), bt_nums _ (0 + 1) (n % 256) rfl (by omega) (by omega)]
  omega
theorem be_longS (n : Int) (h0 : 0 ≤ n) (h1 : n ≤ 4294967295) : be (longS n) 0 4 = n := by
  rw [be_four, be_two, be_two]
  unfold longS
  rw [bt_nums _ 0 (n / 256 / 256 / 256) rfl (by omega) (by omega), bt_nums _ (0 + 1) (n / 256 / 256 % 256) rfl (by omega) (by omega),
    bt_nums _ (0 + 2) (n / 256 % 256) rfl (by omega) (by omega), bt_nums _ (0 + 2 + 1) (n % 256) rfl (by omega) (by omega)]
  omega
theorem extract_two (s : ByteArray) (p : Nat) (h : p + 2 ≤ s.size) : (s.extract p (p + 2)).data.toList = [UInt8.ofNat (bt s p).toNat, UInt8.ofNat (bt s (p + 1)).toNat] := by
  rw [bt_list, bt_list]
  have h' : p + 2 ≤ s.data.toList.length := by simpa using h
  have e : (s.extract p (p + 2)).data.toList = (s.data.toList.drop p).take 2 := by
    simp [ByteArray.data_extract]
  rw [e, List.drop_eq_getElem_cons (by omega), List.drop_eq_getElem_cons (by omega)]
  simp [List.getD, List.getElem?_eq_getElem (show p < s.data.toList.length by omega), List.getElem?_eq_getElem (show p + 1 < s.data.toList.length by omega)]
theorem wordS_extract (s : ByteArray) (p : Nat) (h : p + 2 ≤ s.size) : (wordS (be s p 2)).toList = (s.extract p (p + 2)).toList := by
  rw [ByteArray.toList_eq, ByteArray.toList_eq, extract_two s p h, be_two]
  unfold wordS
  rw [strOfNums_data]
  have := bt_le s (p + 1)
  have := bt_nonneg s (p + 1)
  have e1 : (256 * bt s p + bt s (p + 1)) / 256 = bt s p := by omega
  have e2 : (256 * bt s p + bt s (p + 1)) % 256 = bt s (p + 1) := by omega
  simp [e1, e2]
theorem be_two_bound (s : ByteArray) (p : Nat) : 0 ≤ be s p 2 ∧ be s p 2 ≤ 65535 := by
  have := bt_le s (p + 1); have := bt_nonneg s (p + 1); have := bt_le s p; have := bt_nonneg s p
  rw [be_two]; omega

end Go.Proofs.Ytpdoegococcblaa
