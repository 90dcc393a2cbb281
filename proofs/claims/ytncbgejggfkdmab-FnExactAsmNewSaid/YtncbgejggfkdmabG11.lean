/- Plain lemmas on bodies: parts and inits as bytes, read back; which chunks hold them. -/
import Derived.Test.YtncbgejggfkdmabG10
namespace Go.Proofs.Ytncbgejggfkdmab
open Go.RowKit Go.PlainAid

theorem cut_join (s : ByteArray) (i j n : Nat) (h1 : i ≤ j) (h2 : j ≤ n) (h3 : n ≤ s.size) : s.extract i j ++ s.extract j n = s.extract i n := by
  have z1 := size_cut s i j (by omega)
  have z2 := size_cut s j n h3
  have z3 := size_cut s i n h3
  refine same_bt ?_ fun k hk => ?_
  · rw [ByteArray.size_append]
    omega
  · rw [ByteArray.size_append] at hk
    rcases Nat.lt_or_ge k (j - i) with h | h
    · rw [bt_left _ _ _ (by omega), bt_cut _ _ _ _ (by omega), bt_cut _ _ _ _ (by omega)]
    · rw [bt_right _ _ _ (by omega), bt_cut _ _ _ _ (by omega), bt_cut _ _ _ _ (by omega), z1, show j + (k - (j - i)) = i + k by omega]
theorem cut_all (s : ByteArray) : s.extract 0 s.size = s := by
  have z := size_cut s 0 s.size (Nat.le_refl _)
  refine same_bt (by omega) fun k hk => ?_
  rw [bt_cut _ _ _ _ (by omega), Nat.zero_add]
theorem word_cut (s : ByteArray) (p : Nat) (h : p + 2 ≤ s.size) : wordS (be s p 2) = s.extract p (p + 2) := by
  have e := wordS_extract s p h
  rw [ByteArray.toList_eq, ByteArray.toList_eq] at e
  exact ByteArray.ext (Array.toList_inj.1 e)
theorem be_four_bound (s : ByteArray) (p : Nat) : 0 ≤ be s p 4 ∧ be s p 4 ≤ 4294967295 := by
  have h1 := be_two_bound s p
  have h2 := be_two_bound s (p + 2)
  rw [be_four]
  omega
theorem long_cut (s : ByteArray) (p : Nat) (h : p + 4 ≤ s.size) : longS (be s p 4) = s.extract p (p + 4) := by
  have h1 := be_two_bound s p
  have h2 := be_two_bound s (p + 2)
  rw [← long_words, be_four, show (65536 * be s p 2 + be s (p + 2) 2) / 65536 = be s p 2 by omega, show (65536 * be s p 2 + be s (p + 2) 2) % 65536 = be s (p + 2) 2 by omega,
    word_cut s p (by omega), word_cut s (p + 2) (by omega), cut_join s p (p + 2) (p + 2 + 2) (by omega) (by omega) (by omega)]
theorem be_left (x y : ByteArray) (p k : Nat) (h : p + k ≤ x.size) : be (x ++ y) p k = be x p k := be_congr _ _ _ _ k fun i hi => bt_left x y (p + i) (by omega)
theorem be_right (x y : ByteArray) (p k : Nat) : be (x ++ y) (x.size + p) k = be y p k := be_congr _ _ _ _ k fun i _ => by
  rw [bt_right x y _ (by omega), show x.size + p + i - x.size = p + i by omega]
theorem cut_right (x y : ByteArray) : (x ++ y).extract x.size (x ++ y).size = y := by
  have hz : (x ++ y).size = x.size + y.size := ByteArray.size_append ..
  have z := size_cut (x ++ y) x.size (x ++ y).size (Nat.le_refl _)
  refine same_bt (by omega) fun k hk => ?_
  rw [bt_cut _ _ _ _ (by omega), bt_right _ _ _ (by omega), Nat.add_sub_cancel_left]

/-- The body of a part. -/
def dataS (a b c : Int) (t : ByteArray) : ByteArray := wordS a ++ wordS b ++ wordS c ++ t
/-- A part is valid. -/
def DataOk (a b c : Int) (t : ByteArray) : Prop := (0 ≤ a ∧ a ≤ 65535) ∧ (0 ≤ b ∧ b ≤ 65535) ∧ (0 ≤ c ∧ c ≤ 65535) ∧ 1 ≤ t.size ∧ t.size ≤ 20
/-- The flags of a part. -/
def flagsV (first last loose : Bool) : Int := (if last then 1 else 0) + (if first then 2 else 0) + (if loose then 4 else 0)
/-- A chunk holds a part. -/
def HasData (k f : Int) (b : ByteArray) : Prop := k = 0 ∧ (0 ≤ f ∧ f ≤ 7) ∧ 7 ≤ b.size ∧ b.size ≤ 26
theorem dataS_size (a b c : Int) (t : ByteArray) : (dataS a b c t).size = 6 + t.size := by
  unfold dataS
  rw [ByteArray.size_append, ByteArray.size_append, ByteArray.size_append, wordS_size, wordS_size, wordS_size]
theorem flagsV_range (x y z : Bool) : 0 ≤ flagsV x y z ∧ flagsV x y z ≤ 7 := by cases x <;> cases y <;> cases z <;> decide
theorem flagsV_last (x y z : Bool) : (flagsV x y z % 2 == 1) = y := by cases x <;> cases y <;> cases z <;> rfl
theorem flagsV_first (x y z : Bool) : (flagsV x y z / 2 % 2 == 1) = x := by cases x <;> cases y <;> cases z <;> rfl
theorem flagsV_loose (x y z : Bool) : (flagsV x y z / 4 == 1) = z := by cases x <;> cases y <;> cases z <;> rfl
theorem flagsV_of {f : Int} (h0 : 0 ≤ f) (h1 : f ≤ 7) : flagsV (f / 2 % 2 == 1) (f % 2 == 1) (f / 4 == 1) = f := by
  rcases (show f = 0 ∨ f = 1 ∨ f = 2 ∨ f = 3 ∨ f = 4 ∨ f = 5 ∨ f = 6 ∨ f = 7 by omega) with rfl | rfl | rfl | rfl | rfl | rfl | rfl | rfl <;> decide
theorem hasData_put {a b c : Int} {t : ByteArray} (x y z : Bool) (h : DataOk a b c t) : HasData 0 (flagsV x y z) (dataS a b c t) := by
  have hz := dataS_size a b c t
  have h4 := h.2.2.2
  exact ⟨rfl, flagsV_range x y z, by omega, by omega⟩
theorem data_first {a b c : Int} {t : ByteArray} (h : DataOk a b c t) : be (dataS a b c t) 0 2 = a := by
  unfold dataS
  rw [be_left _ _ _ _ (by rw [ByteArray.size_append, ByteArray.size_append, wordS_size, wordS_size, wordS_size]; omega), be_left _ _ _ _ (by rw [ByteArray.size_append, wordS_size, wordS_size]; omega), be_left _ _ _ _ (by rw [wordS_size]; omega)]
  exact be_wordS a h.1.1 h.1.2
theorem data_second {a b c : Int} {t : ByteArray} (h : DataOk a b c t) : be (dataS a b c t) 2 2 = b := by
  unfold dataS
  rw [be_left _ _ _ _ (by rw [ByteArray.size_append, ByteArray.size_append, wordS_size, wordS_size, wordS_size]; omega), be_left _ _ _ _ (by rw [ByteArray.size_append, wordS_size, wordS_size]; omega)]
  have e := be_right (wordS a) (wordS b) 0 2
  rw [wordS_size] at e
  rw [e]
  exact be_wordS b h.2.1.1 h.2.1.2
theorem data_third {a b c : Int} {t : ByteArray} (h : DataOk a b c t) : be (dataS a b c t) 4 2 = c := by
  unfold dataS
  rw [be_left _ _ _ _ (by rw [ByteArray.size_append, ByteArray.size_append, wordS_size, wordS_size, wordS_size]; omega)]
  have e := be_right (wordS a ++ wordS b) (wordS c) 0 2
  rw [ByteArray.size_append, wordS_size, wordS_size] at e
  rw [e]
  exact be_wordS c h.2.2.1.1 h.2.2.1.2
theorem data_text (a b c : Int) (t : ByteArray) : (dataS a b c t).extract 6 (dataS a b c t).size = t := by
  have e := cut_right (wordS a ++ wordS b ++ wordS c) t
  rw [show (wordS a ++ wordS b ++ wordS c).size = 6 by rw [ByteArray.size_append, ByteArray.size_append, wordS_size, wordS_size, wordS_size]] at e
  exact e
theorem data_ok {k f : Int} {b : ByteArray} (h : HasData k f b) : DataOk (be b 0 2) (be b 2 2) (be b 4 2) (b.extract 6 b.size) := by
  obtain ⟨_, _, h2, h3⟩ := h
  have z := size_cut b 6 b.size (Nat.le_refl _)
  exact ⟨be_two_bound b 0, be_two_bound b 2, be_two_bound b 4, by omega, by omega⟩
theorem data_back {k f : Int} {b : ByteArray} (h : HasData k f b) : dataS (be b 0 2) (be b 2 2) (be b 4 2) (b.extract 6 b.size) = b := by
  obtain ⟨_, _, h2, h3⟩ := h
  unfold dataS
  rw [word_cut b 0 (by omega), word_cut b 2 (by omega), word_cut b 4 (by omega), cut_join b 0 (0 + 2) (2 + 2) (by omega) (by omega) (by omega), cut_join b 0 (2 + 2) (4 + 2) (by omega) (by omega) (by omega), cut_join b 0 (4 + 2) b.size (by omega) (by omega) (Nat.le_refl _), cut_all]

/-- The body of an init. -/
def initS (a b c d : Int) : ByteArray := longS a ++ wordS b ++ wordS c ++ wordS d
/-- An init is valid. -/
def InitOk (a b c d : Int) : Prop := (1 ≤ a ∧ a ≤ 4294967295) ∧ (0 ≤ b ∧ b ≤ 65535) ∧ (1 ≤ c ∧ c ≤ 4) ∧ 0 ≤ d ∧ d ≤ 65535
/-- A chunk holds an init. -/
def HasInit (k f : Int) (b : ByteArray) : Prop := (k = 1 ∨ k = 2) ∧ f = 0 ∧ b.size = 10 ∧ 1 ≤ be b 0 4 ∧ 1 ≤ be b 6 2 ∧ be b 6 2 ≤ 4
theorem initS_size (a b c d : Int) : (initS a b c d).size = 10 := by
  unfold initS
  rw [ByteArray.size_append, ByteArray.size_append, ByteArray.size_append, longS_size, wordS_size, wordS_size, wordS_size]
theorem init_tag {a b c d : Int} (h : InitOk a b c d) : be (initS a b c d) 0 4 = a := by
  unfold initS
  rw [be_left _ _ _ _ (by rw [ByteArray.size_append, ByteArray.size_append, longS_size, wordS_size, wordS_size]; omega), be_left _ _ _ _ (by rw [ByteArray.size_append, longS_size, wordS_size]; omega), be_left _ _ _ _ (by rw [longS_size]; omega)]
  exact be_longS a (by have := h.1.1; omega) h.1.2
theorem init_window {a b c d : Int} (h : InitOk a b c d) : be (initS a b c d) 4 2 = b := by
  unfold initS
  rw [be_left _ _ _ _ (by rw [ByteArray.size_append, ByteArray.size_append, longS_size, wordS_size, wordS_size]; omega), be_left _ _ _ _ (by rw [ByteArray.size_append, longS_size, wordS_size]; omega)]
  have e := be_right (longS a) (wordS b) 0 2
  rw [longS_size] at e
  rw [e]
  exact be_wordS b h.2.1.1 h.2.1.2
theorem init_streams {a b c d : Int} (h : InitOk a b c d) : be (initS a b c d) 6 2 = c := by
  unfold initS
  rw [be_left _ _ _ _ (by rw [ByteArray.size_append, ByteArray.size_append, longS_size, wordS_size, wordS_size]; omega)]
  have e := be_right (longS a ++ wordS b) (wordS c) 0 2
  rw [ByteArray.size_append, longS_size, wordS_size] at e
  rw [e]
  exact be_wordS c (by have := h.2.2.1.1; omega) (by have := h.2.2.1.2; omega)
theorem init_tsn {a b c d : Int} (h : InitOk a b c d) : be (initS a b c d) 8 2 = d := by
  unfold initS
  have e := be_right (longS a ++ wordS b ++ wordS c) (wordS d) 0 2
  rw [ByteArray.size_append, ByteArray.size_append, longS_size, wordS_size, wordS_size] at e
  rw [e]
  exact be_wordS d h.2.2.2.1 h.2.2.2.2
theorem hasInit_put {k a b c d : Int} (hk : k = 1 ∨ k = 2) (h : InitOk a b c d) : HasInit k 0 (initS a b c d) :=
  ⟨hk, rfl, initS_size a b c d, by rw [init_tag h]; exact h.1.1, by rw [init_streams h]; exact h.2.2.1.1, by rw [init_streams h]; exact h.2.2.1.2⟩
theorem init_ok {k f : Int} {b : ByteArray} (h : HasInit k f b) : InitOk (be b 0 4) (be b 4 2) (be b 6 2) (be b 8 2) := by
  obtain ⟨_, _, _, h3, h4, h5⟩ := h
  exact ⟨⟨h3, (be_four_bound b 0).2⟩, be_two_bound b 4, ⟨h4, h5⟩, be_two_bound b 8⟩
theorem init_back {k f : Int} {b : ByteArray} (h : HasInit k f b) : initS (be b 0 4) (be b 4 2) (be b 6 2) (be b 8 2) = b := by
  have h2 := h.2.2.1
  unfold initS
  rw [long_cut b 0 (by omega), word_cut b 4 (by omega), word_cut b 6 (by omega), word_cut b 8 (by omega), cut_join b 0 (0 + 4) (4 + 2) (by omega) (by omega) (by omega), cut_join b 0 (4 + 2) (6 + 2) (by omega) (by omega) (by omega), cut_join b 0 (6 + 2) (8 + 2) (by omega) (by omega) (by omega)]
  have e := cut_all b
  rw [h2] at e
  exact e

end Go.Proofs.Ytncbgejggfkdmab
