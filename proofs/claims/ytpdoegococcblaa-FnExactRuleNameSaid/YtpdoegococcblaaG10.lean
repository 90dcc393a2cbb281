/- Plain lemmas on chunks: the bytes of a chunk, when bytes at a place are those of a chunk, and what of them counts. -/
import Derived.Test.YtpdoegococcblaaG9
namespace Go.Proofs.Ytpdoegococcblaa
open Go.RowKit Go.PlainAid

/-- The bytes 0 that fill up. -/
def pad (n : Nat) : Nat := (4 - n % 4) % 4
/-- The bytes of a chunk. -/
def chunkS (k f : Int) (b : ByteArray) : ByteArray := strOfNums [k, f] ++ wordS (4 + b.size) ++ b ++ strOfNums (List.replicate (pad b.size) 0)
/-- The two bytes behind the second one. -/
def lenAt (s : ByteArray) (p : Nat) : Nat := (be s (p + 2) 2).toNat
/-- Where the body ends, and where the bytes of the chunk end. -/
def bodyEnd (s : ByteArray) (p : Nat) : Nat := p + lenAt s p
def chunkEnd (s : ByteArray) (p : Nat) : Nat := p + lenAt s p + pad (lenAt s p)
def bodyAt (s : ByteArray) (p : Nat) : ByteArray := s.extract (p + 4) (p + lenAt s p)
/-- The bytes of a chunk begin at a place. -/
def Has (s : ByteArray) (p : Nat) : Prop := p + 4 ≤ s.size ∧ 4 ≤ lenAt s p ∧ lenAt s p ≤ 64 ∧ chunkEnd s p ≤ s.size ∧ ∀ i, bodyEnd s p ≤ i → i < chunkEnd s p → bt s i = 0
/-- A chunk is valid. -/
def Chk (k f : Int) (b : ByteArray) : Prop := (0 ≤ k ∧ k ≤ 255) ∧ (0 ≤ f ∧ f ≤ 255) ∧ b.size ≤ 60

instance (k f : Int) (b : ByteArray) : Decidable (Chk k f b) := by
  unfold Chk
  infer_instance
/-- Whether a chunk is valid. -/
def chkV (k f : Int) (b : ByteArray) : Bool := decide (Chk k f b)
theorem chkV_yes {k f : Int} {b : ByteArray} (h : Chk k f b) : chkV k f b = true := decide_eq_true h
theorem chkV_no {k f : Int} {b : ByteArray} (h : ¬ Chk k f b) : chkV k f b = false := decide_eq_false h

theorem pad_lt (n : Nat) : pad n < 4 := by unfold pad; omega
theorem pad_four (n : Nat) : pad (4 + n) = pad n := by unfold pad; omega
theorem pad_mod (n : Nat) : (n + pad n) % 4 = 0 := by unfold pad; omega
theorem pad_sub {n : Nat} (h : 4 ≤ n) : pad (n - 4) = pad n := by unfold pad; omega
theorem lenAt_be (s : ByteArray) (p : Nat) : be s (p + 2) 2 = (lenAt s p : Int) := by
  have := (be_two_bound s (p + 2)).1
  unfold lenAt
  omega
theorem lenAt_bt (s : ByteArray) (p : Nat) : (lenAt s p : Int) = 256 * bt s (p + 2) + bt s (p + 3) := by
  rw [← lenAt_be, be_two]
theorem chunkS_size (k f : Int) (b : ByteArray) : (chunkS k f b).size = 4 + b.size + pad b.size := by
  unfold chunkS
  rw [ByteArray.size_append, ByteArray.size_append, ByteArray.size_append, wordS_size, strOfNums_size, strOfNums_size, List.length_replicate]
  rfl
theorem chunkS_mod (k f : Int) (b : ByteArray) : (chunkS k f b).size % 4 = 0 := by
  rw [chunkS_size]
  have := pad_mod b.size
  omega
theorem chunkS_le (k f : Int) (b : ByteArray) (h : b.size ≤ 60) : (chunkS k f b).size ≤ 64 := by
  rw [chunkS_size]
  unfold pad
  omega
theorem head_size (k f : Int) (n : Int) : (strOfNums [k, f] ++ wordS n).size = 4 := by rw [ByteArray.size_append, wordS_size, strOfNums_size]; rfl
theorem bt_first (k f : Int) (b : ByteArray) (h : Chk k f b) : bt (chunkS k f b) 0 = k := by
  unfold chunkS
  have hz := head_size k f (4 + b.size)
  rw [bt_left _ _ 0 (by rw [ByteArray.size_append]; omega), bt_left _ _ 0 (by omega), bt_left _ _ 0 (by rw [strOfNums_size]; simp)]
  exact bt_nums _ 0 k rfl h.1.1 h.1.2
theorem bt_second (k f : Int) (b : ByteArray) (h : Chk k f b) : bt (chunkS k f b) 1 = f := by
  unfold chunkS
  have hz := head_size k f (4 + b.size)
  rw [bt_left _ _ 1 (by rw [ByteArray.size_append]; omega), bt_left _ _ 1 (by omega), bt_left _ _ 1 (by rw [strOfNums_size]; simp)]
  exact bt_nums _ 1 f rfl h.2.1.1 h.2.1.2
theorem bt_length (k f : Int) (b : ByteArray) (h : b.size ≤ 60) : bt (chunkS k f b) 2 = 0 ∧ bt (chunkS k f b) 3 = 4 + b.size := by
  unfold chunkS
  have hz := head_size k f (4 + b.size)
  have h2 : (strOfNums [k, f]).size = 2 := by rw [strOfNums_size]; rfl
  constructor
  · rw [bt_left _ _ 2 (by rw [ByteArray.size_append]; omega), bt_left _ _ 2 (by omega), bt_right _ _ 2 (by omega), h2, Nat.sub_self]
    have := bt_nums [((4 : Int) + b.size) / 256, ((4 : Int) + b.size) % 256] 0 _ rfl (by omega) (by omega)
    unfold wordS
    omega
  · rw [bt_left _ _ 3 (by rw [ByteArray.size_append]; omega), bt_left _ _ 3 (by omega), bt_right _ _ 3 (by omega), h2, show 3 - 2 = 1 by rfl]
    have := bt_nums [((4 : Int) + b.size) / 256, ((4 : Int) + b.size) % 256] 1 _ rfl (by omega) (by omega)
    unfold wordS
    omega
theorem bt_body (k f : Int) (b : ByteArray) (i : Nat) (hi : i < b.size) : bt (chunkS k f b) (4 + i) = bt b i := by
  unfold chunkS
  have hz := head_size k f (4 + b.size)
  rw [bt_left _ _ _ (by rw [ByteArray.size_append]; omega), bt_right _ _ _ (by omega), hz, Nat.add_sub_cancel_left]
theorem bt_pad (k f : Int) (b : ByteArray) (i : Nat) (hi : 4 + b.size ≤ i) : bt (chunkS k f b) i = 0 := by
  unfold chunkS
  have hz := head_size k f (4 + b.size)
  rw [bt_right _ _ _ (by rw [ByteArray.size_append]; omega), bt_zeros]
theorem lenAt_chunkS (k f : Int) (b : ByteArray) (h : b.size ≤ 60) : lenAt (chunkS k f b) 0 = 4 + b.size := by
  have h1 := lenAt_bt (chunkS k f b) 0
  have h2 := bt_length k f b h
  rw [Nat.zero_add, Nat.zero_add, h2.1, h2.2] at h1
  omega
theorem chunkEnd_chunkS (k f : Int) (b : ByteArray) (h : b.size ≤ 60) : chunkEnd (chunkS k f b) 0 = (chunkS k f b).size := by
  unfold chunkEnd
  rw [lenAt_chunkS k f b h, chunkS_size, pad_four]
  omega
theorem bodyAt_chunkS (k f : Int) (b : ByteArray) (h : b.size ≤ 60) : bodyAt (chunkS k f b) 0 = b := by
  unfold bodyAt
  rw [lenAt_chunkS k f b h]
  have hz := chunkS_size k f b
  refine same_bt ?_ fun i hi => ?_
  · rw [size_cut _ _ _ (by omega)]
    omega
  · rw [size_cut _ _ _ (by omega)] at hi
    rw [bt_cut _ _ _ _ (by omega), Nat.zero_add, bt_body _ _ _ _ (by omega)]
theorem has_chunkS (k f : Int) (b : ByteArray) (h : b.size ≤ 60) : Has (chunkS k f b) 0 := by
  have hz := chunkS_size k f b
  have hl := lenAt_chunkS k f b h
  refine ⟨by omega, by omega, by omega, by rw [chunkEnd_chunkS k f b h]; exact Nat.le_refl _, fun i hi _ => ?_⟩
  unfold bodyEnd at hi
  exact bt_pad k f b i (by omega)
/-- What lies at a place is the same as at another place of another text. -/
theorem has_same {s t : ByteArray} {p q : Nat} (h : Has s p) (hq : q + (lenAt s p + pad (lenAt s p)) ≤ t.size) (hb : ∀ i, i < lenAt s p + pad (lenAt s p) → bt t (q + i) = bt s (p + i)) :
    Has t q ∧ lenAt t q = lenAt s p ∧ bodyAt t q = bodyAt s p ∧ bt t q = bt s p ∧ bt t (q + 1) = bt s (p + 1) := by
  obtain ⟨h1, h2, h3, h4, h5⟩ := h
  have hl : lenAt t q = lenAt s p := by
    have e1 := lenAt_bt t q
    have e2 := lenAt_bt s p
    rw [hb 2 (by omega), hb 3 (by omega)] at e1
    omega
  unfold chunkEnd at h4 h5
  unfold bodyEnd at h5
  refine ⟨⟨by omega, by omega, by omega, ?_, ?_⟩, hl, ?_, hb 0 (by omega), hb 1 (by omega)⟩
  · unfold chunkEnd
    rw [hl]
    omega
  · unfold bodyEnd chunkEnd
    rw [hl]
    intro i hi hi2
    have e := hb (i - q) (by omega)
    have e0 := h5 (p + (i - q)) (by omega) (by omega)
    rw [show q + (i - q) = i by omega] at e
    rw [e, e0]
  · unfold bodyAt
    rw [hl]
    refine same_bt ?_ fun i hi => ?_
    · rw [size_cut _ _ _ (by omega), size_cut _ _ _ (by omega)]
      omega
    · rw [size_cut _ _ _ (by omega)] at hi
      have e := hb (4 + i) (by omega)
      rw [bt_cut _ _ _ _ (by omega), bt_cut _ _ _ _ (by omega), Nat.add_assoc, Nat.add_assoc, e]
theorem bodyAt_size {s : ByteArray} {p : Nat} (h : Has s p) : (bodyAt s p).size = lenAt s p - 4 := by
  obtain ⟨h1, h2, h3, h4, h5⟩ := h
  unfold chunkEnd at h4
  unfold bodyAt
  rw [size_cut _ _ _ (by omega)]
  omega
theorem has_chk {s : ByteArray} {p : Nat} (h : Has s p) : Chk (bt s p) (bt s (p + 1)) (bodyAt s p) := by
  have hz := bodyAt_size h
  have h3 := h.2.2.1
  exact ⟨⟨bt_nonneg s p, bt_le s p⟩, ⟨bt_nonneg s _, bt_le s _⟩, by omega⟩
theorem has_size {s : ByteArray} {p : Nat} (h : Has s p) : (chunkS (bt s p) (bt s (p + 1)) (bodyAt s p)).size = lenAt s p + pad (lenAt s p) := by
  have h2 := h.2.1
  rw [chunkS_size, bodyAt_size h, pad_sub h2]
  omega
/-- The bytes that lie at a place are those of the chunk that is read. -/
theorem has_text {s : ByteArray} {p : Nat} (h : Has s p) : s.extract p (chunkEnd s p) = chunkS (bt s p) (bt s (p + 1)) (bodyAt s p) := by
  have hz := has_size h
  have hb := bodyAt_size h
  have hc := has_chk h
  have hl := lenAt_bt s p
  obtain ⟨h1, h2, h3, h4, h5⟩ := h
  unfold chunkEnd at h4 h5
  unfold bodyEnd at h5
  have hs : (s.extract p (chunkEnd s p)).size = lenAt s p + pad (lenAt s p) := by
    unfold chunkEnd
    rw [size_cut _ _ _ h4]
    omega
  refine same_bt (by omega) fun i hi => ?_
  rw [hs] at hi
  unfold chunkEnd
  rw [bt_cut _ _ _ _ (by omega)]
  rcases (show i = 0 ∨ i = 1 ∨ i = 2 ∨ i = 3 ∨ 4 ≤ i by omega) with rfl | rfl | rfl | rfl | h6
  · rw [bt_first _ _ _ hc]
    rfl
  · rw [bt_second _ _ _ hc]
  · rw [(bt_length _ _ _ hc.2.2).1]
    have := bt_nonneg s (p + 2)
    have := bt_nonneg s (p + 3)
    omega
  · rw [(bt_length _ _ _ hc.2.2).2, hb]
    have := bt_nonneg s (p + 2)
    have := bt_nonneg s (p + 3)
    have := bt_le s (p + 3)
    omega
  · rcases Nat.lt_or_ge i (lenAt s p) with h7 | h7
    · have e := bt_body (bt s p) (bt s (p + 1)) (bodyAt s p) (i - 4) (by omega)
      rw [show 4 + (i - 4) = i by omega] at e
      rw [e]
      unfold bodyAt
      rw [bt_cut _ _ _ _ (by omega), show p + 4 + (i - 4) = p + i by omega]
    · rw [bt_pad _ _ _ i (by omega)]
      exact h5 (p + i) (by omega) (by omega)
/-- Bytes that are those of the chunk that is read are filled up with 0. -/
theorem has_of_text {s : ByteArray} {p : Nat} (h1 : p + 4 ≤ s.size) (h2 : 4 ≤ lenAt s p) (h3 : lenAt s p ≤ 64) (h4 : chunkEnd s p ≤ s.size)
    (h : s.extract p (chunkEnd s p) = chunkS (bt s p) (bt s (p + 1)) (bodyAt s p)) : Has s p := by
  refine ⟨h1, h2, h3, h4, fun i h5 h6 => ?_⟩
  have hb : (bodyAt s p).size = lenAt s p - 4 := by
    unfold chunkEnd at h4
    unfold bodyAt
    rw [size_cut _ _ _ (by omega)]
    omega
  unfold bodyEnd at h5
  have e := bt_pad (bt s p) (bt s (p + 1)) (bodyAt s p) (i - p) (by omega)
  rw [← h, bt_cut _ _ _ _ (by omega), show p + (i - p) = i by omega] at e
  exact e
theorem end_eq {s t : ByteArray} {p q : Nat} (h : lenAt t q = lenAt s p) : chunkEnd t q + p = chunkEnd s p + q := by
  unfold chunkEnd
  rw [h]
  omega
theorem body_size {s : ByteArray} {p : Nat} (h2 : 4 ≤ lenAt s p) (hle : p + lenAt s p ≤ s.size) : (bodyAt s p).size = lenAt s p - 4 := by
  unfold bodyAt
  rw [size_cut _ _ _ hle]
  omega
theorem text_size {s : ByteArray} {p : Nat} (k f : Int) (h2 : 4 ≤ lenAt s p) (hle : p + lenAt s p ≤ s.size) : (chunkS k f (bodyAt s p)).size = lenAt s p + pad (lenAt s p) := by
  rw [chunkS_size, body_size h2 hle, pad_sub h2]
  omega
theorem chk_at {s : ByteArray} {p : Nat} (h2 : 4 ≤ lenAt s p) (h3 : lenAt s p ≤ 64) (hle : p + lenAt s p ≤ s.size) : Chk (bt s p) (bt s (p + 1)) (bodyAt s p) := by
  have hz := body_size h2 hle
  exact ⟨⟨bt_nonneg s p, bt_le s p⟩, ⟨bt_nonneg s _, bt_le s _⟩, by omega⟩
/-- Without the last byte there is none. -/
theorem has_cut {s : ByteArray} {p : Nat} (h : Has s p) : ¬ Has (s.extract 0 (chunkEnd s p - 1)) p := fun g => by
  obtain ⟨h1, h2, h3, h4, h5⟩ := h
  obtain ⟨g1, g2, g3, g4, g5⟩ := g
  have hz := size_cut s 0 (chunkEnd s p - 1) (by omega)
  have hl : lenAt (s.extract 0 (chunkEnd s p - 1)) p = lenAt s p := by
    have e1 := lenAt_bt (s.extract 0 (chunkEnd s p - 1)) p
    have e2 := lenAt_bt s p
    rw [bt_cut _ _ _ _ (by omega), bt_cut _ _ _ _ (by omega), Nat.zero_add, Nat.zero_add] at e1
    omega
  unfold chunkEnd at g4 h4 hz hl
  rw [hl, hz] at g4
  omega
/-- What follows does not matter. -/
theorem has_more {s : ByteArray} {p : Nat} (h : Has s p) (x : ByteArray) :
    Has (s.extract 0 (chunkEnd s p) ++ x) p ∧ lenAt (s.extract 0 (chunkEnd s p) ++ x) p = lenAt s p ∧ bodyAt (s.extract 0 (chunkEnd s p) ++ x) p = bodyAt s p ∧ bt (s.extract 0 (chunkEnd s p) ++ x) p = bt s p ∧ bt (s.extract 0 (chunkEnd s p) ++ x) (p + 1) = bt s (p + 1) := by
  have h4 := h.2.2.2.1
  have hz := size_cut s 0 (chunkEnd s p) h4
  have he : chunkEnd s p = p + (lenAt s p + pad (lenAt s p)) := Nat.add_assoc _ _ _
  refine has_same h ?_ fun i hi => ?_
  · rw [ByteArray.size_append]
    omega
  · rw [bt_left _ _ _ (by omega), bt_cut _ _ _ _ (by omega), Nat.zero_add]
/-- A chunk may be anywhere. -/
theorem has_move {s : ByteArray} {p : Nat} (h : Has s p) (x : ByteArray) :
    Has (x ++ s) (p + x.size) ∧ lenAt (x ++ s) (p + x.size) = lenAt s p ∧ bodyAt (x ++ s) (p + x.size) = bodyAt s p ∧ bt (x ++ s) (p + x.size) = bt s p ∧ bt (x ++ s) (p + x.size + 1) = bt s (p + 1) := by
  have h4 := h.2.2.2.1
  have he : chunkEnd s p = p + (lenAt s p + pad (lenAt s p)) := Nat.add_assoc _ _ _
  refine has_same h ?_ fun i _ => ?_
  · rw [ByteArray.size_append]
    omega
  · rw [bt_right _ _ _ (by omega), show p + x.size + i - x.size = p + i by omega]
/-- Another last byte of a chunk that is filled up: there is none. -/
theorem has_pad {s : ByteArray} {p : Nat} (h : Has s p) (hp : chunkEnd s p ≠ p + lenAt s p) (x : ByteArray) (hx : bt x 0 ≠ 0) : ¬ Has (s.extract 0 (chunkEnd s p - 1) ++ x) p := fun g => by
  obtain ⟨h1, h2, h3, h4, h5⟩ := h
  have hz := size_cut s 0 (chunkEnd s p - 1) (by omega)
  have he : chunkEnd s p = p + lenAt s p + pad (lenAt s p) := rfl
  have hl : lenAt (s.extract 0 (chunkEnd s p - 1) ++ x) p = lenAt s p := by
    have e1 := lenAt_bt (s.extract 0 (chunkEnd s p - 1) ++ x) p
    have e2 := lenAt_bt s p
    rw [bt_left _ _ _ (by omega), bt_left _ _ _ (by omega), bt_cut _ _ _ _ (by omega), bt_cut _ _ _ _ (by omega), Nat.zero_add, Nat.zero_add] at e1
    omega
  have ge : chunkEnd (s.extract 0 (chunkEnd s p - 1) ++ x) p = chunkEnd s p := by
    have := end_eq hl
    omega
  have e := g.2.2.2.2 (chunkEnd s p - 1) (by unfold bodyEnd; omega) (by omega)
  rw [bt_right _ _ _ (by omega), hz, Nat.sub_zero, Nat.sub_self] at e
  exact hx e
theorem has_last {s : ByteArray} {p : Nat} (h : Has s p) (hp : chunkEnd s p ≠ p + lenAt s p) : bt s (chunkEnd s p - 1) = 0 := by
  have he : chunkEnd s p = p + lenAt s p + pad (lenAt s p) := rfl
  exact h.2.2.2.2 _ (by unfold bodyEnd; omega) (by omega)
/-- A chunk may follow. -/
theorem has_next (s : ByteArray) (k f : Int) (b : ByteArray) (h : Chk k f b) :
    Has (s ++ chunkS k f b) s.size ∧ lenAt (s ++ chunkS k f b) s.size = 4 + b.size ∧ bodyAt (s ++ chunkS k f b) s.size = b ∧ bt (s ++ chunkS k f b) s.size = k ∧ bt (s ++ chunkS k f b) (s.size + 1) = f := by
  have g := has_move (has_chunkS k f b h.2.2) s
  rw [Nat.zero_add, bt_first k f b h, bt_second k f b h, lenAt_chunkS k f b h.2.2, bodyAt_chunkS k f b h.2.2] at g
  exact g
theorem has_not_end (s : ByteArray) : ¬ Has s s.size := fun h => by
  have := h.1
  omega

/-- The length of a text value. -/
def szOf : Value → Nat
  | .string s => s.size
  | _ => 0
/-- One byte 0 more. -/
theorem fill_step {X : ByteArray} (h : X.size % 4 ≠ 0) : X ++ ByteArray.mk #[0] ++ strOfNums (List.replicate (pad (X ++ ByteArray.mk #[0]).size) 0) = X ++ strOfNums (List.replicate (pad X.size) 0) := by
  have hz : (ByteArray.mk #[0]).size = 1 := rfl
  have e0 : ByteArray.mk #[0] = strOfNums [0] := rfl
  have e : pad X.size = 1 + pad (X ++ ByteArray.mk #[0]).size := by
    rw [ByteArray.size_append, hz]
    unfold pad
    omega
  rw [e, ByteArray.append_assoc, e0, str_append, Nat.add_comm 1, List.replicate_succ]
  rfl
theorem fill_end {X Y : ByteArray} (h : X.size % 4 = 0) (hE : X ++ strOfNums (List.replicate (pad X.size) 0) = Y) : X = Y := by
  have e : pad X.size = 0 := by unfold pad; omega
  rw [e] at hE
  rw [← hE]
  exact ByteArray.append_empty.symm
theorem fill_less {X : ByteArray} (h : X.size % 4 ≠ 0) : pad (X ++ ByteArray.mk #[0]).size < pad X.size := by
  have hz : (ByteArray.mk #[0]).size = 1 := rfl
  rw [ByteArray.size_append, hz]
  unfold pad
  omega
theorem fill_size {X : ByteArray} (h : X.size % 4 ≠ 0) : (X ++ ByteArray.mk #[0]).size + pad (X ++ ByteArray.mk #[0]).size = X.size + pad X.size := by
  have hz : (ByteArray.mk #[0]).size = 1 := rfl
  rw [ByteArray.size_append, hz]
  unfold pad
  omega
theorem fill_start (k f : Int) (b : ByteArray) : strOfNums [k, f] ++ wordS (4 + b.size) ++ b ++ strOfNums (List.replicate (pad (strOfNums [k, f] ++ wordS (4 + b.size) ++ b).size) 0) = chunkS k f b := by
  have hz := head_size k f (4 + b.size)
  rw [ByteArray.size_append, hz, pad_four]
  rfl

end Go.Proofs.Ytpdoegococcblaa
