/- Plain lemmas on the bytes of a text as numbers: parts of a text, and what the checksums of changed texts are. -/
import Derived.Test.YtcpdpamoddmpaaaG6
namespace Go.Proofs.Ytcpdpamoddmpaaa
open Go.RowKit Go.PlainAid

theorem nums_length (s : ByteArray) : (nums s).length = s.size := by simp [nums]
theorem nums_at (s : ByteArray) (k : Nat) (h : k < s.size) : (nums s)[k]? = some (bt s k) := by
  rw [bt_list]
  have h' : k < s.data.toList.length := by simpa using h
  simp only [nums, List.getElem?_map, List.getElem?_eq_getElem h', List.getD, Option.map_some, Option.getD_some]
theorem nums_take (s : ByteArray) (k : Nat) (h : k < s.size) : (nums s).take (k + 1) = (nums s).take k ++ [bt s k] := by
  rw [List.take_add_one, nums_at s k h]
  rfl
theorem nums_all (s : ByteArray) : (nums s).take s.size = nums s := by
  rw [← nums_length]
  exact List.take_length
theorem nums_append (s t : ByteArray) : nums (s ++ t) = nums s ++ nums t := by simp [nums]
theorem nums_extract (s : ByteArray) (i j : Nat) : nums (s.extract i j) = ((nums s).drop i).take (j - i) := by
  simp [nums, ByteArray.data_extract, List.map_drop, List.map_take]
theorem nums_split (s : ByteArray) (k : Nat) : nums (s.extract 0 k) ++ nums (s.extract k s.size) = nums s := by
  have e : (nums s).drop k = ((nums s).drop k).take (s.size - k) := by
    rw [List.take_of_length_le]
    exact Nat.le_of_eq (by rw [List.length_drop, nums_length])
  rw [nums_extract, nums_extract, ← e, List.drop_zero, Nat.sub_zero, List.take_append_drop]
theorem nums_of (xs : List Int) (h : ∀ x ∈ xs, 0 ≤ x ∧ x ≤ 255) : nums (strOfNums xs) = xs := by
  unfold nums
  rw [strOfNums_data]
  induction xs with
  | nil => rfl
  | cons x l ih =>
    have hx := h x (by simp)
    have hl := ih (fun y hy => h y (by simp [hy]))
    simp only [List.map_cons, List.cons.injEq] at hl ⊢
    exact ⟨by simp; omega, hl⟩
theorem nums_one (s : ByteArray) (k : Nat) (h : k < s.size) : nums (s.extract k (k + 1)) = [bt s k] := by
  rw [nums_extract, Nat.add_sub_cancel_left, List.take_one, List.head?_drop, nums_at s k h]
  rfl
theorem sumRun_snoc (a b : Int) (s : ByteArray) (k : Nat) (h : k < s.size) :
    sumRun a b ((nums s).take (k + 1)) = (((sumRun a b ((nums s).take k)).1 + bt s k) % 65521, ((sumRun a b ((nums s).take k)).2 + ((sumRun a b ((nums s).take k)).1 + bt s k) % 65521) % 65521) := by
  rw [nums_take s k h, sumRun_append]
  rfl
/-- The two halves of a text, one after the other. -/
theorem sumNext_split (sum : Int) (s : ByteArray) (k : Nat) (h : 0 ≤ sum ∧ sum % 65536 < 65521 ∧ sum / 65536 < 65521) :
    sumNext (sumNext sum (s.extract 0 k)) (s.extract k s.size) = sumNext sum s := by
  have := sumNext_join sum (nums (s.extract 0 k)) (nums (s.extract k s.size)) h
  rw [nums_split s k] at this
  exact this
/-- A checksum that comes of a valid one is valid. -/
theorem sumNext_valid (sum : Int) (s : ByteArray) (h : 0 ≤ sum ∧ sum % 65536 < 65521 ∧ sum / 65536 < 65521) :
    0 ≤ sumNext sum s ∧ sumNext sum s % 65536 < 65521 ∧ sumNext sum s / 65536 < 65521 := by
  have hr := sumRun_range (sum % 65536) (sum / 65536) (nums s) (by omega) (by omega)
  unfold sumNext sumOf
  omega
theorem sumNext_empty (sum : Int) (s : ByteArray) (hs : s.size = 0) : sumNext sum s = sum := by
  have e : nums s = [] := List.eq_nil_of_length_eq_zero (by rw [nums_length]; exact hs)
  unfold sumNext
  rw [e]
  simp only [sumRun, sumOf]
  omega
/-- The first part is the sum of all bytes. -/
theorem sumNext_first (s : ByteArray) : sumNext 1 s % 65536 = (1 + tot (nums s)) % 65521 := by
  have h := sumRun_range 1 0 (nums s) (by omega) (by omega)
  have e := sumRun_first 1 0 (nums s) (by omega) (by omega)
  have p := sumOf_parts (sumRun 1 0 (nums s)) h.1
  unfold sumNext
  rw [show (1 : Int) % 65536 = 1 from rfl, show (1 : Int) / 65536 = 0 from rfl, p.1, e]
/-- A text with another byte at a place. -/
theorem sumNext_byte (s : ByteArray) (k : Nat) (hk : k < s.size) (c : Int) (h0 : 0 ≤ c) (h1 : c ≤ 255) (hc : c ≠ bt s k) :
    sumNext 1 (s.extract 0 k ++ strOfNums [c] ++ s.extract (k + 1) s.size) ≠ sumNext 1 s := by
  have hd := bt_nonneg s k
  have hd' := bt_le s k
  have e1 : nums (s.extract 0 k ++ strOfNums [c] ++ s.extract (k + 1) s.size) = (nums s).take k ++ c :: (nums s).drop (k + 1) := by
    have e : (nums s).drop (k + 1) = ((nums s).drop (k + 1)).take (s.size - (k + 1)) := by
      rw [List.take_of_length_le]
      exact Nat.le_of_eq (by rw [List.length_drop, nums_length])
    rw [nums_append, nums_append, nums_of [c] (by simp; omega), nums_extract, nums_extract, ← e]
    simp
  have e2 : nums s = (nums s).take k ++ bt s k :: (nums s).drop (k + 1) := by
    conv => lhs; rw [← List.take_append_drop k (nums s)]
    have hl : k < (nums s).length := by rw [nums_length]; exact hk
    have := nums_at s k hk
    rw [List.getElem?_eq_getElem hl] at this
    injection this with this
    rw [List.drop_eq_getElem_cons hl, this]
  have hb := sum_byte 1 0 ((nums s).take k) ((nums s).drop (k + 1)) c (bt s k) (by omega) (by omega) hc ⟨h0, h1⟩ ⟨hd, hd'⟩
  unfold sumNext
  rw [e1]
  conv => rhs; rw [e2]
  exact hb
/-- A text with two bytes that follow each other exchanged. -/
theorem sumNext_swap (s : ByteArray) (k : Nat) (hk : k + 2 ≤ s.size) :
    sumNext 1 (s.extract 0 k ++ s.extract (k + 1) (k + 2) ++ s.extract k (k + 1) ++ s.extract (k + 2) s.size) = sumNext 1 s ↔ bt s k = bt s (k + 1) := by
  have hl1 : k < (nums s).length := by rw [nums_length]; omega
  have hl2 : k + 1 < (nums s).length := by rw [nums_length]; omega
  have g1 := nums_at s k (by omega)
  have g2 := nums_at s (k + 1) (by omega)
  rw [List.getElem?_eq_getElem hl1] at g1
  rw [List.getElem?_eq_getElem hl2] at g2
  injection g1 with g1
  injection g2 with g2
  have e : (nums s).drop (k + 2) = ((nums s).drop (k + 2)).take (s.size - (k + 2)) := by
    rw [List.take_of_length_le]
    exact Nat.le_of_eq (by rw [List.length_drop, nums_length])
  have e1 : nums (s.extract 0 k ++ s.extract (k + 1) (k + 2) ++ s.extract k (k + 1) ++ s.extract (k + 2) s.size) = (nums s).take k ++ bt s (k + 1) :: bt s k :: (nums s).drop (k + 2) := by
    rw [nums_append, nums_append, nums_append, nums_one s (k + 1) (by omega), nums_one s k (by omega), nums_extract s 0 k, nums_extract s (k + 2), ← e]
    simp
  have e2 : nums s = (nums s).take k ++ bt s k :: bt s (k + 1) :: (nums s).drop (k + 2) := by
    conv => lhs; rw [← List.take_append_drop k (nums s)]
    rw [List.drop_eq_getElem_cons hl1, List.drop_eq_getElem_cons hl2, g1, g2]
  have hb := sum_swap 1 0 ((nums s).take k) ((nums s).drop (k + 2)) (bt s k) (bt s (k + 1)) (by omega) (by omega) ⟨bt_nonneg _ _, bt_le _ _⟩ ⟨bt_nonneg _ _, bt_le _ _⟩
  unfold sumNext
  rw [e1, ← hb]
  conv => lhs; rhs; rw [e2]
  exact eq_comm
theorem tot_bound (l : List Int) (h : ∀ x ∈ l, 0 ≤ x ∧ x ≤ 255) : 0 ≤ tot l ∧ tot l ≤ 255 * l.length := by
  induction l with
  | nil => simp [tot]
  | cons c l ih =>
    have := h c (by simp)
    have := ih (fun y hy => h y (by simp [hy]))
    simp only [tot, List.length_cons]
    omega
theorem nums_bytes (s : ByteArray) : ∀ x ∈ nums s, 0 ≤ x ∧ x ≤ 255 := by
  intro x hx
  simp only [nums, List.mem_map] at hx
  obtain ⟨c, _, rfl⟩ := hx
  have := c.toNat_lt
  omega
/-- A further byte 0 behind a short text. -/
theorem sumNext_zero (s z : ByteArray) (hs : s.size ≤ 200) (hz : nums z = [0]) : sumNext 1 (s ++ z) ≠ sumNext 1 s := by
  have ht := tot_bound (nums s) (nums_bytes s)
  rw [nums_length] at ht
  have := sum_zero 1 0 (nums s) (by omega) (by omega) (by omega)
  unfold sumNext
  rw [nums_append, hz]
  exact this

end Go.Proofs.Ytcpdpamoddmpaaa
