/- Plain lemmas on bytes: equal texts, parts of texts, what lies where in a joined text. -/
import Derived.Test.YtpdoegococcblaaG2
namespace Go.Proofs.Ytpdoegococcblaa
open Go.RowKit Go.PlainAid

theorem same_bt {s t : ByteArray} (hz : s.size = t.size) (h : ∀ i, i < s.size → bt s i = bt t i) : s = t := by
  apply ByteArray.ext
  apply Array.ext
  · simpa using hz
  · intro i h1 h2
    have hi : i < s.size := by simpa using h1
    have := h i hi
    rw [bt_list, bt_list] at this
    rw [List.getD_eq_getElem?_getD, List.getD_eq_getElem?_getD, Array.getElem?_toList, Array.getElem?_toList, Array.getElem?_eq_getElem h1, Array.getElem?_eq_getElem h2] at this
    simp only [Option.getD_some] at this
    exact UInt8.toNat_inj.1 (by omega)
theorem bt_cut (s : ByteArray) (a b i : Nat) (h : a + i < b) : bt (s.extract a b) i = bt s (a + i) := by
  rw [bt_list, bt_list]
  have e : (s.extract a b).data.toList = (s.data.toList.drop a).take (b - a) := by
    simp [ByteArray.data_extract]
  rw [e, List.getD_eq_getElem?_getD, List.getD_eq_getElem?_getD, List.getElem?_take, if_pos (by omega), List.getElem?_drop]
theorem bt_left (x y : ByteArray) (i : Nat) (h : i < x.size) : bt (x ++ y) i = bt x i := bt_append_left x y i h
theorem bt_right (x y : ByteArray) (i : Nat) (h : x.size ≤ i) : bt (x ++ y) i = bt y (i - x.size) := by
  have := bt_append_right x y (i - x.size)
  rw [Nat.sub_add_cancel h] at this
  exact this
theorem size_cut (s : ByteArray) (a b : Nat) (h : b ≤ s.size) : (s.extract a b).size = b - a := by rw [ByteArray.size_extract, Nat.min_eq_left h]
theorem bt_zeros (j i : Nat) : bt (strOfNums (List.replicate j 0)) i = 0 := by
  by_cases h : i < j
  · exact bt_nums _ i 0 (by rw [List.getElem?_replicate, if_pos h]) (by decide) (by decide)
  · rw [bt_list, List.getD_eq_getElem?_getD, List.getElem?_eq_none (by rw [strOfNums_data]; simp; omega)]
    rfl

theorem text_some {s : ByteArray} (h : ¬ s.size = 0) : ¬ s.toList = [] := fun e => by
  rw [ByteArray.toList_eq] at e
  exact h (by have := congrArg List.length e; simpa using this)
theorem text_ne {a b : ByteArray} (h : a ≠ b) : (a.toList == b.toList) = false := by
  rw [beq_eq_false_iff_ne]
  intro e
  rw [ByteArray.toList_eq, ByteArray.toList_eq] at e
  exact h (ByteArray.ext (Array.toList_inj.1 e))

end Go.Proofs.Ytpdoegococcblaa
