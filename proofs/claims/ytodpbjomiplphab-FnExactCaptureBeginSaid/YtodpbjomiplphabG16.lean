/- Captures, plain: the bytes of records, and which records lie at the beginning of bytes. -/
import Derived.Test.YtodpbjomiplphabG9
import Derived.Test.YtodpbjomiplphabG11
namespace Go.Proofs.Ytodpbjomiplphab
open Go.RowKit Go.PlainAid

def recS (r : Int × ByteArray) : ByteArray := longS r.1 ++ wordS (r.2.size : Int) ++ r.2
def recsS : List (Int × ByteArray) → ByteArray
  | [] => ByteArray.mk #[]
  | r :: rs => recS r ++ recsS rs
def tap1 : ByteArray := ByteArray.mk #[116, 97, 112, 49]
theorem tap1_size : tap1.size = 4 := rfl
def capS (rs : List (Int × ByteArray)) : ByteArray := tap1 ++ recsS rs
theorem recS_size (r : Int × ByteArray) : (recS r).size = 6 + r.2.size := by
  unfold recS
  rw [ByteArray.size_append, ByteArray.size_append, longS_size, wordS_size]
theorem recsS_append (rs ds : List (Int × ByteArray)) : recsS (rs ++ ds) = recsS rs ++ recsS ds := by
  induction rs with
  | nil => exact (ByteArray.empty_append).symm
  | cons r rs ih =>
    show recS r ++ recsS (rs ++ ds) = recS r ++ recsS rs ++ recsS ds
    rw [ih, ByteArray.append_assoc]
theorem recsS_snoc (rs : List (Int × ByteArray)) (r : Int × ByteArray) : recsS (rs ++ [r]) = recsS rs ++ recS r := by
  rw [recsS_append]
  show recsS rs ++ (recS r ++ ByteArray.mk #[]) = _
  rw [show recS r ++ ByteArray.mk #[] = recS r from ByteArray.append_empty]
/-- A record may follow one at the time l. -/
def RecOk (l : Int) (r : Int × ByteArray) : Prop := (l ≤ r.1 ∧ r.1 ≤ 4294967295) ∧ r.2.size ≤ 120
instance (l : Int) (r : Int × ByteArray) : Decidable (RecOk l r) := by
  unfold RecOk
  infer_instance

def RecsOk : Int → List (Int × ByteArray) → Prop
  | _, [] => True
  | l, r :: rs => RecOk l r ∧ RecsOk r.1 rs
instance : (l : Int) → (rs : List (Int × ByteArray)) → Decidable (RecsOk l rs)
  | _, [] => .isTrue trivial
  | l, r :: rs => by
    unfold RecsOk
    have := instDecidableRecsOk r.1 rs
    infer_instance

/-- The time of the last record. -/
def lastT : Int → List (Int × ByteArray) → Int
  | l, [] => l
  | _, r :: rs => lastT r.1 rs
theorem lastT_snoc (l : Int) (rs : List (Int × ByteArray)) (r : Int × ByteArray) : lastT l (rs ++ [r]) = r.1 := by
  induction rs generalizing l with
  | nil => rfl
  | cons s rs ih => exact ih s.1
theorem recsOk_snoc {l : Int} {rs : List (Int × ByteArray)} {r : Int × ByteArray} : RecsOk l (rs ++ [r]) ↔ RecsOk l rs ∧ RecOk (lastT l rs) r := by
  induction rs generalizing l with
  | nil => exact ⟨fun h => ⟨trivial, h.1⟩, fun h => ⟨h.2, trivial⟩⟩
  | cons s rs ih =>
    show RecOk l s ∧ RecsOk s.1 (rs ++ [r]) ↔ (RecOk l s ∧ RecsOk s.1 rs) ∧ RecOk (lastT s.1 rs) r
    rw [ih, and_assoc]
theorem recsOk_left {l : Int} {rs ds : List (Int × ByteArray)} (h : RecsOk l (rs ++ ds)) : RecsOk l rs := by
  induction rs generalizing l with
  | nil => trivial
  | cons s rs ih => exact ⟨h.1, ih h.2⟩
def CapOk (rs : List (Int × ByteArray)) : Prop := RecsOk 0 rs ∧ rs.length ≤ 60
instance (rs : List (Int × ByteArray)) : Decidable (CapOk rs) := by
  unfold CapOk
  infer_instance

def capV (rs : List (Int × ByteArray)) : Bool := decide (CapOk rs)
theorem recsS_le {l : Int} {rs : List (Int × ByteArray)} (h : RecsOk l rs) : (recsS rs).size ≤ 126 * rs.length := by
  induction rs generalizing l with
  | nil => exact Nat.zero_le _
  | cons r rs ih =>
    have := ih h.2
    have := h.1.2
    show (recS r ++ recsS rs).size ≤ _
    rw [ByteArray.size_append, recS_size, List.length_cons]
    omega
/-- How many bytes the text of a record at p has, the record, where it ends. -/
def lenR (s : ByteArray) (p : Nat) : Nat := (be s (p + 4) 2).toNat
def recAt (s : ByteArray) (p : Nat) : Int × ByteArray := (be s p 4, s.extract (p + 6) (p + 6 + lenR s p))
def recEnd (s : ByteArray) (p : Nat) : Nat := p + 6 + lenR s p
/-- A record that may follow one at the time l lies at p. -/
def HasR (s : ByteArray) (p : Nat) (l : Int) : Prop := recEnd s p ≤ s.size ∧ RecOk l (recAt s p)
theorem lenR_int (s : ByteArray) (p : Nat) : (lenR s p : Int) = be s (p + 4) 2 := by
  have := be_two_bound s (p + 4)
  unfold lenR
  omega
theorem recAt_size {s : ByteArray} {p : Nat} (h : recEnd s p ≤ s.size) : (recAt s p).2.size = lenR s p := by
  unfold recEnd at h
  show (s.extract (p + 6) (p + 6 + lenR s p)).size = _
  rw [size_cut _ _ _ h]
  omega
theorem recAt_text {s : ByteArray} {p : Nat} (h : recEnd s p ≤ s.size) : recS (recAt s p) = s.extract p (recEnd s p) := by
  have hz := recAt_size h
  unfold recEnd at h
  unfold recS
  rw [hz, lenR_int]
  show longS (be s p 4) ++ wordS (be s (p + 4) 2) ++ s.extract (p + 6) (p + 6 + lenR s p) = s.extract p (p + 6 + lenR s p)
  rw [long_cut s p (by omega), word_cut s (p + 4) (by omega), cut_join s p (p + 4) (p + 4 + 2) (by omega) (by omega) (by omega), cut_join s p (p + 4 + 2) (p + 6 + lenR s p) (by omega) (by omega) (by omega)]
/-- Records lie one after the other from p to q. -/
def RunR (s : ByteArray) : Nat → Int → List (Int × ByteArray) → Nat → Prop
  | p, _, [], q => p = q
  | p, l, r :: rs, q => HasR s p l ∧ r = recAt s p ∧ RunR s (recEnd s p) r.1 rs q
theorem runR_snoc {s : ByteArray} : ∀ {rs : List (Int × ByteArray)} {p q : Nat} {l : Int}, RunR s p l rs q → HasR s q (lastT l rs) → RunR s p l (rs ++ [recAt s q]) (recEnd s q)
  | [], p, q, l, h, hh => by
    obtain rfl : p = q := h
    exact ⟨hh, rfl, rfl⟩
  | _ :: _, _, _, _, ⟨h1, h2, h3⟩, hh => ⟨h1, h2, runR_snoc h3 hh⟩
theorem runR_le {s : ByteArray} : ∀ {rs : List (Int × ByteArray)} {p q : Nat} {l : Int}, RunR s p l rs q → p + 6 * rs.length ≤ q ∧ (p ≤ s.size → q ≤ s.size)
  | [], p, q, _, h => by
    obtain rfl : p = q := h
    exact ⟨by simp, fun h => h⟩
  | r :: rs, p, q, l, ⟨h1, _, h3⟩ => by
    have i := runR_le h3
    have h4 := h1.1
    refine ⟨?_, fun _ => i.2 h4⟩
    have h5 := i.1
    unfold recEnd at h5
    rw [List.length_cons]
    omega
theorem runR_text {s : ByteArray} : ∀ {rs : List (Int × ByteArray)} {p q : Nat} {l : Int}, RunR s p l rs q → p ≤ s.size → s.extract p q = recsS rs
  | [], p, q, _, h, hp => by
    obtain rfl : p = q := h
    refine same_bt (by rw [size_cut _ _ _ hp]; show p - p = 0; omega) fun i hi => ?_
    rw [size_cut _ _ _ hp] at hi
    omega
  | r :: rs, p, q, l, ⟨h1, h2, h3⟩, hp => by
    have i := runR_le h3
    have h5 := i.1
    show _ = recS r ++ recsS rs
    rw [← runR_text h3 h1.1, h2, recAt_text h1.1, cut_join s p (recEnd s p) q (by unfold recEnd; omega) (by omega) (i.2 h1.1)]
theorem runR_ok {s : ByteArray} : ∀ {rs : List (Int × ByteArray)} {p q : Nat} {l : Int}, RunR s p l rs q → RecsOk l rs
  | [], _, _, _, _ => trivial
  | _ :: _, _, _, _, ⟨h1, h2, h3⟩ => ⟨h2 ▸ h1.2, runR_ok h3⟩
/-- Two readings from one place: the shorter one is the longer one's beginning. -/
theorem runR_take {s : ByteArray} : ∀ {rs ds : List (Int × ByteArray)} {p q r : Nat} {l : Int}, RunR s p l rs q → RunR s p l ds r → rs.length ≤ ds.length → rs = ds.take rs.length ∧ q ≤ r ∧ (rs.length < ds.length → HasR s q (lastT l rs)) ∧ (rs.length = ds.length → q = r)
  | [], ds, p, q, r, l, h, k, _ => by
    obtain rfl : p = q := h
    refine ⟨rfl, by have := (runR_le k).1; omega, fun hl => ?_, fun hl => ?_⟩
    · cases ds with
      | nil => simp at hl
      | cons d ds => exact k.1
    · cases ds with
      | nil => exact k
      | cons d ds => simp at hl
  | a :: rs, [], p, q, r, l, _, _, hl => by simp at hl
  | a :: rs, d :: ds, p, q, r, l, ⟨h1, h2, h3⟩, ⟨k1, k2, k3⟩, hl => by
    obtain rfl : a = d := h2.trans k2.symm
    obtain ⟨e1, e2, e3, e4⟩ := runR_take h3 k3 (by simpa using hl)
    exact ⟨by rw [List.length_cons, List.take_succ_cons, ← e1], e2, fun h => e3 (by simpa using h), fun h => e4 (by simpa using h)⟩
/-- The records at the beginning of bytes, up to q. -/
def BeginIs (s : ByteArray) (rs : List (Int × ByteArray)) (q : Nat) : Prop :=
  (4 ≤ s.size ∧ s.extract 0 4 = tap1) ∧ RunR s 4 0 rs q ∧ rs.length ≤ 60 ∧ (rs.length < 60 → ¬ HasR s q (lastT 0 rs))
theorem begin_one {s : ByteArray} {rs ds : List (Int × ByteArray)} {q r : Nat} (h : BeginIs s rs q) (k : BeginIs s ds r) : rs = ds ∧ q = r := by
  rcases Nat.lt_trichotomy rs.length ds.length with hl | hl | hl
  · exact absurd ((runR_take h.2.1 k.2.1 (by omega)).2.2.1 hl) (h.2.2.2 (by have := k.2.2.1; omega))
  · obtain ⟨e1, _, _, e4⟩ := runR_take h.2.1 k.2.1 (by omega)
    rw [List.take_of_length_le (by omega)] at e1
    exact ⟨e1, e4 hl⟩
  · exact absurd ((runR_take k.2.1 h.2.1 (by omega)).2.2.1 hl) (k.2.2.2 (by have := h.2.2.1; omega))
theorem begin_back {s : ByteArray} {rs : List (Int × ByteArray)} {q : Nat} (h : BeginIs s rs q) : capS rs = s.extract 0 q ∧ CapOk rs ∧ 4 ≤ q ∧ q ≤ s.size := by
  obtain ⟨⟨h1, h2⟩, h3, h4, _⟩ := h
  have l := runR_le h3
  have l1 := l.1
  have l2 := l.2 h1
  refine ⟨?_, ⟨runR_ok h3, h4⟩, by omega, l2⟩
  unfold capS
  rw [← h2, ← runR_text h3 h1, cut_join s 0 4 q (by omega) (by omega) l2]
/-- The bytes of records that are valid, with other bytes ahead and behind, are read as these records. -/
theorem runR_recs : ∀ (rs : List (Int × ByteArray)) (x y : ByteArray) (l : Int), 0 ≤ l → RecsOk l rs → RunR (x ++ recsS rs ++ y) x.size l rs (x ++ recsS rs).size
  | [], x, y, l, _, _ => by
    show x.size = (x ++ ByteArray.mk #[]).size
    rw [ByteArray.size_append]
    rfl
  | r :: rs, x, y, l, h0, h => by
    obtain ⟨⟨⟨ha, hb⟩, hc⟩, hr⟩ := h
    have ih := runR_recs rs (x ++ recS r) y r.1 (by omega) hr
    have e : x ++ recsS (r :: rs) = x ++ recS r ++ recsS rs := by
      show x ++ (recS r ++ recsS rs) = _
      rw [ByteArray.append_assoc]
    rw [e]
    have hz := recS_size r
    have hw : (wordS (r.2.size : Int)).size = 2 := wordS_size _
    have hlz : (longS r.1).size = 4 := longS_size _
    obtain ⟨T, hT⟩ : ∃ T, x ++ recS r ++ recsS rs ++ y = T := ⟨_, rfl⟩
    have hT1 : T = x ++ (recS r ++ (recsS rs ++ y)) := by rw [← hT]; simp only [ByteArray.append_assoc]
    have hTz : x.size + 6 + r.2.size ≤ T.size := by rw [hT1, ByteArray.size_append, ByteArray.size_append, hz]; omega
    have b1 : be T x.size 4 = r.1 := by
      have := be_right x (recS r ++ (recsS rs ++ y)) 0 4
      rw [hT1, show x.size = x.size + 0 from rfl, this, be_left _ _ _ _ (by rw [hz]; omega)]
      unfold recS
      rw [be_left _ _ _ _ (by rw [ByteArray.size_append]; omega), be_left _ _ _ _ (by omega), be_longS r.1 (by omega) hb]
    have b2 : be T (x.size + 4) 2 = (r.2.size : Int) := by
      rw [hT1, be_right x (recS r ++ (recsS rs ++ y)) 4 2, be_left _ _ _ _ (by rw [hz]; omega)]
      unfold recS
      rw [be_left _ _ _ _ (by rw [ByteArray.size_append]; omega)]
      have := be_right (longS r.1) (wordS (r.2.size : Int)) 0 2
      rw [hlz] at this
      rw [this, be_wordS _ (by omega) (by omega)]
    have b3 : lenR T x.size = r.2.size := by
      unfold lenR
      rw [b2]
      omega
    have b4 : recAt T x.size = r := by
      unfold recAt
      rw [b1, b3]
      refine Prod.ext rfl ?_
      show T.extract (x.size + 6) (x.size + 6 + r.2.size) = r.2
      refine same_bt (by rw [size_cut _ _ _ hTz]; omega) fun i hi => ?_
      rw [size_cut _ _ _ hTz] at hi
      rw [bt_cut _ _ _ _ (by omega), hT1, bt_right _ _ _ (by omega), bt_left _ _ _ (by rw [hz]; omega)]
      unfold recS
      rw [bt_right _ _ _ (by rw [ByteArray.size_append]; omega), ByteArray.size_append]
      congr 1
      omega
    have b5 : recEnd T x.size = (x ++ recS r).size := by
      unfold recEnd
      rw [b3, ByteArray.size_append, hz]
      omega
    rw [hT] at ih ⊢
    exact ⟨⟨by rw [b5, ByteArray.size_append, hz]; omega, by rw [b4]; exact ⟨⟨ha, hb⟩, hc⟩⟩, b4.symm, by rw [b5]; exact ih⟩
theorem hasR_not_end (s : ByteArray) (l : Int) : ¬ HasR s s.size l := fun h => by
  have := h.1
  unfold recEnd at this
  omega
theorem cap_begin {rs : List (Int × ByteArray)} (h : CapOk rs) : BeginIs (capS rs) rs (capS rs).size := by
  have r := runR_recs rs tap1 (ByteArray.mk #[]) 0 (by omega) h.1
  rw [show tap1 ++ recsS rs ++ ByteArray.mk #[] = tap1 ++ recsS rs from ByteArray.append_empty] at r
  refine ⟨⟨by unfold capS; rw [ByteArray.size_append, tap1_size]; omega, ?_⟩, r, h.2, fun _ => hasR_not_end _ _⟩
  have hz : 4 ≤ (capS rs).size := by unfold capS; rw [ByteArray.size_append, tap1_size]; omega
  refine same_bt (by rw [size_cut _ _ _ hz, tap1_size]) fun i hi => ?_
  rw [size_cut _ _ _ hz] at hi
  rw [bt_cut _ _ _ _ (by omega), Nat.zero_add]
  exact bt_left tap1 (recsS rs) i (by rw [tap1_size]; omega)
theorem capS_size (rs : List (Int × ByteArray)) : (capS rs).size = 4 + (recsS rs).size := by
  unfold capS
  rw [ByteArray.size_append, tap1_size]

end Go.Proofs.Ytodpbjomiplphab
