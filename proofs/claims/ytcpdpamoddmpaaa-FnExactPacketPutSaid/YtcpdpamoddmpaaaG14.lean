/- Packets, plain: the bytes of a packet, when bytes are those of a packet, and what a changed byte does to the checksum. -/
import Derived.Test.YtcpdpamoddmpaaaG7
import Derived.Test.YtcpdpamoddmpaaaG11
namespace Go.Proofs.Ytcpdpamoddmpaaa
open Go.RowKit Go.PlainAid

/-- The bytes of chunks, one after the other. -/
def chunksS : List (Int × Int × ByteArray) → ByteArray
  | [] => ByteArray.mk #[]
  | c :: cs => chunkS c.1 c.2.1 c.2.2 ++ chunksS cs
theorem chunksS_append (cs ds : List (Int × Int × ByteArray)) : chunksS (cs ++ ds) = chunksS cs ++ chunksS ds := by
  induction cs with
  | nil => exact ByteArray.empty_append.symm
  | cons c cs ih =>
    show chunkS c.1 c.2.1 c.2.2 ++ chunksS (cs ++ ds) = chunkS c.1 c.2.1 c.2.2 ++ chunksS cs ++ chunksS ds
    rw [ih, ByteArray.append_assoc]
theorem chunksS_snoc (cs : List (Int × Int × ByteArray)) (c : Int × Int × ByteArray) : chunksS (cs ++ [c]) = chunksS cs ++ chunkS c.1 c.2.1 c.2.2 := by
  rw [chunksS_append]
  show chunksS cs ++ (chunkS c.1 c.2.1 c.2.2 ++ ByteArray.mk #[]) = _
  rw [show chunkS c.1 c.2.1 c.2.2 ++ ByteArray.mk #[] = chunkS c.1 c.2.1 c.2.2 from ByteArray.append_empty]
theorem chunksS_mod (cs : List (Int × Int × ByteArray)) : (chunksS cs).size % 4 = 0 := by
  induction cs with
  | nil => rfl
  | cons c cs ih =>
    show (chunkS c.1 c.2.1 c.2.2 ++ chunksS cs).size % 4 = 0
    rw [ByteArray.size_append]
    have := chunkS_mod c.1 c.2.1 c.2.2
    omega
theorem chunksS_le {cs : List (Int × Int × ByteArray)} (h : ∀ c ∈ cs, Chk c.1 c.2.1 c.2.2) : (chunksS cs).size ≤ 64 * cs.length := by
  induction cs with
  | nil => exact Nat.zero_le _
  | cons c cs ih =>
    show (chunkS c.1 c.2.1 c.2.2 ++ chunksS cs).size ≤ _
    rw [ByteArray.size_append, List.length_cons]
    have h1 := chunkS_le c.1 c.2.1 c.2.2 (h c (by simp)).2.2
    have h2 := ih fun d hd => h d (by simp [hd])
    omega
theorem chunksS_four {cs : List (Int × Int × ByteArray)} (h : 1 ≤ cs.length) : 4 ≤ (chunksS cs).size := by
  cases cs with
  | nil => simp at h
  | cons c cs =>
    show 4 ≤ (chunkS c.1 c.2.1 c.2.2 ++ chunksS cs).size
    rw [ByteArray.size_append, chunkS_size]
    omega
/-- A packet is valid. -/
def PackOk (f t g : Int) (cs : List (Int × Int × ByteArray)) : Prop :=
  ((1 ≤ f ∧ f ≤ 65535) ∧ (1 ≤ t ∧ t ≤ 65535) ∧ f ≠ t) ∧ (0 ≤ g ∧ g ≤ 4294967295) ∧ (1 ≤ cs.length ∧ cs.length ≤ 4) ∧ ∀ c ∈ cs, Chk c.1 c.2.1 c.2.2

instance (f t g : Int) (cs : List (Int × Int × ByteArray)) : Decidable (PackOk f t g cs) := by
  unfold PackOk
  infer_instance

def packV (f t g : Int) (cs : List (Int × Int × ByteArray)) : Bool := decide (PackOk f t g cs)
def zero4 : ByteArray := ByteArray.mk #[0, 0, 0, 0]
/-- The text whose checksum counts. -/
def bare (s : ByteArray) : ByteArray := s.extract 0 8 ++ zero4 ++ s.extract 12 s.size
def sum13 (s : ByteArray) : Int := sumNext 1 (bare s)
def headP (f t g : Int) : ByteArray := wordS f ++ wordS t ++ longS g
/-- The bytes of a packet. -/
def packS (f t g : Int) (cs : List (Int × Int × ByteArray)) : ByteArray := headP f t g ++ longS (sumNext 1 (headP f t g ++ zero4 ++ chunksS cs)) ++ chunksS cs
theorem headP_size (f t g : Int) : (headP f t g).size = 8 := by
  unfold headP
  rw [ByteArray.size_append, ByteArray.size_append, wordS_size, wordS_size, longS_size]
theorem packS_size (f t g : Int) (cs : List (Int × Int × ByteArray)) : (packS f t g cs).size = 12 + (chunksS cs).size := by
  unfold packS
  rw [ByteArray.size_append, ByteArray.size_append, headP_size, longS_size]
theorem zero4_size : zero4.size = 4 := rfl
theorem bare_size {s : ByteArray} (h : 12 ≤ s.size) : (bare s).size = s.size := by
  unfold bare
  rw [ByteArray.size_append, ByteArray.size_append, size_cut _ _ _ (by omega), size_cut _ _ _ (Nat.le_refl _), zero4_size]
  omega
theorem bare_at {s : ByteArray} (h : 12 ≤ s.size) (i : Nat) (hi : i < 8 ∨ 12 ≤ i) (hs : i < s.size) : bt (bare s) i = bt s i := by
  have z1 := size_cut s 0 8 (by omega)
  have z2 : (s.extract 0 8 ++ zero4).size = 12 := by rw [ByteArray.size_append, z1, zero4_size]
  unfold bare
  rcases hi with hi | hi
  · rw [bt_left _ _ _ (by omega), bt_left _ _ _ (by omega), bt_cut _ _ _ _ (by omega), Nat.zero_add]
  · rw [bt_right _ _ _ (by omega), z2, bt_cut _ _ _ _ (by omega), show 12 + (i - 12) = i by omega]
theorem zero4_bt (i : Nat) (hi : i < 4) : bt zero4 i = 0 := by
  rcases (show i = 0 ∨ i = 1 ∨ i = 2 ∨ i = 3 by omega) with rfl | rfl | rfl | rfl <;> rfl
theorem bare_mid {s : ByteArray} (h : 12 ≤ s.size) (i : Nat) (h1 : 8 ≤ i) (h2 : i < 12) : bt (bare s) i = 0 := by
  have z1 := size_cut s 0 8 (by omega)
  have z2 : (s.extract 0 8 ++ zero4).size = 12 := by rw [ByteArray.size_append, z1, zero4_size]
  unfold bare
  rw [bt_left _ _ _ (by omega), bt_right _ _ _ (by omega)]
  exact zero4_bt _ (by omega)
theorem bare_same {s t : ByteArray} (h : 12 ≤ s.size) (hz : s.size = t.size) (hb : ∀ i, i < s.size → i < 8 ∨ 12 ≤ i → bt s i = bt t i) : bare s = bare t := by
  refine same_bt (by rw [bare_size h, bare_size (by omega), hz]) fun i hi => ?_
  rw [bare_size h] at hi
  by_cases hm : i < 8 ∨ 12 ≤ i
  · rw [bare_at h i hm hi, bare_at (by omega) i hm (by omega), hb i hi hm]
  · rw [bare_mid h i (by omega) (by omega), bare_mid (by omega) i (by omega) (by omega)]
theorem bare_pack (f t g : Int) (cs : List (Int × Int × ByteArray)) : bare (packS f t g cs) = headP f t g ++ zero4 ++ chunksS cs := by
  have h8 := headP_size f t g
  have h12 : (headP f t g ++ longS (sumNext 1 (headP f t g ++ zero4 ++ chunksS cs))).size = 12 := by rw [ByteArray.size_append, h8, longS_size]
  have hz : (headP f t g ++ zero4).size = 12 := by rw [ByteArray.size_append, h8, zero4_size]
  have hp := packS_size f t g cs
  refine same_bt (by rw [bare_size (by omega), hp, ByteArray.size_append, hz]) fun i hi => ?_
  rw [bare_size (by omega)] at hi
  by_cases hm : i < 8 ∨ 12 ≤ i
  · rw [bare_at (by omega) i hm hi]
    unfold packS
    rcases hm with hm | hm
    · rw [bt_left _ _ _ (by omega), bt_left _ _ _ (by omega), bt_left _ _ _ (by omega), bt_left _ _ _ (by omega)]
    · rw [bt_right _ _ _ (by omega), bt_right _ _ _ (by omega), h12, hz]
  · rw [bare_mid (by omega) i (by omega) (by omega), bt_left _ _ _ (by omega), bt_right _ _ _ (by omega), h8, zero4_bt _ (by omega)]
theorem sumNext_four (s : ByteArray) : 0 ≤ sumNext 1 s ∧ sumNext 1 s ≤ 4294967295 := by
  have := sumNext_valid 1 s (by decide)
  omega
theorem pack_sum (f t g : Int) (cs : List (Int × Int × ByteArray)) : be (packS f t g cs) 8 4 = sum13 (packS f t g cs) := by
  have h8 := headP_size f t g
  have hb := sumNext_four (headP f t g ++ zero4 ++ chunksS cs)
  unfold sum13
  rw [bare_pack]
  unfold packS
  rw [be_left _ _ _ _ (by rw [ByteArray.size_append, h8, longS_size]; omega)]
  have := be_right (headP f t g) (longS (sumNext 1 (headP f t g ++ zero4 ++ chunksS cs))) 0 4
  rw [h8] at this
  rw [this, be_longS _ hb.1 hb.2]

/-- Chunks lie one after the other from p to q. -/
def Run (s : ByteArray) : Nat → List (Int × Int × ByteArray) → Nat → Prop
  | p, [], q => p = q
  | p, c :: cs, q => Has s p ∧ c = (bt s p, bt s (p + 1), bodyAt s p) ∧ Run s (chunkEnd s p) cs q
theorem run_snoc {s : ByteArray} : ∀ {cs : List (Int × Int × ByteArray)} {p q : Nat}, Run s p cs q → Has s q → Run s p (cs ++ [(bt s q, bt s (q + 1), bodyAt s q)]) (chunkEnd s q)
  | [], p, q, h, hh => by
    obtain rfl : p = q := h
    exact ⟨hh, rfl, rfl⟩
  | _ :: _, _, _, ⟨h1, h2, h3⟩, hh => ⟨h1, h2, run_snoc h3 hh⟩
theorem chunkEnd_mod (s : ByteArray) (p : Nat) : chunkEnd s p % 4 = p % 4 := by
  have := pad_mod (lenAt s p)
  unfold chunkEnd
  omega
theorem run_mod {s : ByteArray} : ∀ {cs : List (Int × Int × ByteArray)} {p q : Nat}, Run s p cs q → q % 4 = p % 4
  | [], p, q, h => by rw [show p = q from h]
  | _ :: _, p, _, ⟨_, _, h3⟩ => by rw [run_mod h3, chunkEnd_mod]
theorem has_le {s : ByteArray} {p : Nat} (h : Has s p) : p + 4 ≤ chunkEnd s p ∧ chunkEnd s p ≤ s.size := by
  have h2 := h.2.1
  have h4 := h.2.2.2.1
  refine ⟨?_, h4⟩
  unfold chunkEnd
  omega
theorem run_le {s : ByteArray} : ∀ {cs : List (Int × Int × ByteArray)} {p q : Nat}, Run s p cs q → p + 4 * cs.length ≤ q ∧ (p ≤ s.size → q ≤ s.size)
  | [], p, q, h => by
    obtain rfl : p = q := h
    exact ⟨by simp, fun h => h⟩
  | c :: cs, p, q, ⟨h1, _, h3⟩ => by
    have l := has_le h1
    have i := run_le h3
    refine ⟨?_, fun _ => i.2 l.2⟩
    rw [List.length_cons]
    omega
theorem run_text {s : ByteArray} : ∀ {cs : List (Int × Int × ByteArray)} {p q : Nat}, Run s p cs q → p ≤ s.size → s.extract p q = chunksS cs
  | [], p, q, h, hp => by
    obtain rfl : p = q := h
    refine same_bt (by rw [size_cut _ _ _ hp]; show p - p = 0; omega) fun i hi => ?_
    rw [size_cut _ _ _ hp] at hi
    omega
  | c :: cs, p, q, ⟨h1, h2, h3⟩, hp => by
    have l := has_le h1
    have i := run_le h3
    show _ = chunkS c.1 c.2.1 c.2.2 ++ chunksS cs
    rw [← run_text h3 l.2, h2, ← has_text h1, cut_join s p (chunkEnd s p) q (by omega) (by omega) (i.2 l.2)]
theorem run_chk {s : ByteArray} : ∀ {cs : List (Int × Int × ByteArray)} {p q : Nat}, Run s p cs q → ∀ c ∈ cs, Chk c.1 c.2.1 c.2.2
  | [], _, _, _, c, hc => by simp at hc
  | d :: ds, p, q, ⟨h1, h2, h3⟩, c, hc => by
    rcases List.mem_cons.1 hc with rfl | hc
    · rw [h2]
      exact has_chk h1
    · exact run_chk h3 c hc
/-- Where no chunk follows, no further chunks lead to another place. -/
theorem run_stuck {s : ByteArray} : ∀ {cs ds : List (Int × Int × ByteArray)} {p q r : Nat}, Run s p cs q → Run s p ds r → ¬ Has s q → ¬ Has s r → cs = ds ∧ q = r
  | [], [], p, q, r, h, k, _, _ => ⟨rfl, (show p = q from h).symm.trans (show p = r from k)⟩
  | [], d :: ds, p, q, r, h, ⟨k1, _, _⟩, hq, _ => absurd ((show p = q from h) ▸ k1) hq
  | c :: cs, [], p, q, r, ⟨h1, _, _⟩, k, _, hr => absurd ((show p = r from k) ▸ h1) hr
  | c :: cs, d :: ds, p, q, r, ⟨h1, h2, h3⟩, ⟨k1, k2, k3⟩, hq, hr => by
    obtain ⟨e1, e2⟩ := run_stuck h3 k3 hq hr
    exact ⟨by rw [h2, k2, e1], e2⟩
theorem run_chunks : ∀ (cs : List (Int × Int × ByteArray)) (x : ByteArray), (∀ c ∈ cs, Chk c.1 c.2.1 c.2.2) → Run (x ++ chunksS cs) x.size cs (x ++ chunksS cs).size
  | [], x, _ => by
    show x.size = (x ++ ByteArray.mk #[]).size
    rw [ByteArray.size_append]
    rfl
  | c :: cs, x, h => by
    have hc := h c (by simp)
    have ih := run_chunks cs (x ++ chunkS c.1 c.2.1 c.2.2) fun d hd => h d (by simp [hd])
    have e : x ++ chunksS (c :: cs) = x ++ chunkS c.1 c.2.1 c.2.2 ++ chunksS cs := by
      show x ++ (chunkS c.1 c.2.1 c.2.2 ++ chunksS cs) = _
      rw [ByteArray.append_assoc]
    rw [e]
    have hz := chunkS_size c.1 c.2.1 c.2.2
    have hl := lenAt_chunkS c.1 c.2.1 c.2.2 hc.2.2
    have hp : pad (lenAt (chunkS c.1 c.2.1 c.2.2) 0) = pad c.2.2.size := by rw [hl, pad_four]
    have hxz : (x ++ chunkS c.1 c.2.1 c.2.2).size = x.size + (chunkS c.1 c.2.1 c.2.2).size := ByteArray.size_append ..
    obtain ⟨a1, a2, a3, a4, a5⟩ := has_same (t := x ++ chunkS c.1 c.2.1 c.2.2 ++ chunksS cs) (q := x.size) (has_chunkS c.1 c.2.1 c.2.2 hc.2.2) (by rw [ByteArray.size_append]; omega) (fun i hi => by
      rw [bt_left _ _ _ (by omega), bt_right _ _ _ (by omega), Nat.add_sub_cancel_left, Nat.zero_add])
    refine ⟨a1, ?_, ?_⟩
    · rw [a3, a4, a5, bodyAt_chunkS _ _ _ hc.2.2, bt_first _ _ _ hc, bt_second _ _ _ hc]
    · have : chunkEnd (x ++ chunkS c.1 c.2.1 c.2.2 ++ chunksS cs) x.size = (x ++ chunkS c.1 c.2.1 c.2.2).size := by
        unfold chunkEnd
        rw [a2]
        omega
      rw [this]
      exact ih

/-- Bytes are those of a packet. -/
def PackIs (s : ByteArray) (f t g : Int) (cs : List (Int × Int × ByteArray)) : Prop :=
  12 ≤ s.size ∧ be s 8 4 = sum13 s ∧ (f = be s 0 2 ∧ t = be s 2 2 ∧ g = be s 4 4) ∧ Run s 12 cs s.size ∧ PackOk f t g cs
theorem packS_fields {f t g : Int} (cs : List (Int × Int × ByteArray)) (hf : 0 ≤ f ∧ f ≤ 65535) (ht : 0 ≤ t ∧ t ≤ 65535) (hg : 0 ≤ g ∧ g ≤ 4294967295) : be (packS f t g cs) 0 2 = f ∧ be (packS f t g cs) 2 2 = t ∧ be (packS f t g cs) 4 4 = g := by
  have h8 := headP_size f t g
  have e : ∀ p k, p + k ≤ 8 → be (packS f t g cs) p k = be (headP f t g) p k := fun p k h => by
    unfold packS
    rw [be_left _ _ _ _ (by rw [ByteArray.size_append, h8, longS_size]; omega), be_left _ _ _ _ (by omega)]
  have h4 : (wordS f ++ wordS t).size = 4 := by rw [ByteArray.size_append, wordS_size, wordS_size]
  refine ⟨?_, ?_, ?_⟩
  · rw [e 0 2 (by omega)]
    unfold headP
    rw [be_left _ _ _ _ (by omega), be_left _ _ _ _ (by rw [wordS_size]; omega), be_wordS f hf.1 hf.2]
  · rw [e 2 2 (by omega)]
    unfold headP
    rw [be_left _ _ _ _ (by omega)]
    have := be_right (wordS f) (wordS t) 0 2
    rw [wordS_size] at this
    rw [this, be_wordS t ht.1 ht.2]
  · rw [e 4 4 (by omega)]
    unfold headP
    have := be_right (wordS f ++ wordS t) (longS g) 0 4
    rw [h4] at this
    rw [this, be_longS g hg.1 hg.2]
theorem pack_is {f t g : Int} {cs : List (Int × Int × ByteArray)} (h : PackOk f t g cs) : PackIs (packS f t g cs) f t g cs := by
  have hp := packS_size f t g cs
  obtain ⟨e1, e2, e3⟩ := packS_fields cs (f := f) (t := t) (g := g) (by have := h.1.1; omega) (by have := h.1.2.1; omega) h.2.1
  refine ⟨by omega, pack_sum f t g cs, ⟨e1.symm, e2.symm, e3.symm⟩, ?_, h⟩
  have hz : (headP f t g ++ longS (sumNext 1 (headP f t g ++ zero4 ++ chunksS cs))).size = 12 := by rw [ByteArray.size_append, headP_size, longS_size]
  have r := run_chunks cs (headP f t g ++ longS (sumNext 1 (headP f t g ++ zero4 ++ chunksS cs))) h.2.2.2
  rw [hz] at r
  exact r
theorem pack_back {s : ByteArray} {f t g : Int} {cs : List (Int × Int × ByteArray)} (h : PackIs s f t g cs) : s = packS f t g cs := by
  obtain ⟨hz, hs, ⟨rfl, rfl, rfl⟩, hr, _⟩ := h
  have ht := run_text hr hz
  have hh : headP (be s 0 2) (be s 2 2) (be s 4 4) = s.extract 0 8 := by
    unfold headP
    rw [word_cut s 0 (by omega), word_cut s 2 (by omega), long_cut s 4 (by omega), cut_join s 0 (0 + 2) (2 + 2) (by omega) (by omega) (by omega), cut_join s 0 (2 + 2) (4 + 4) (by omega) (by omega) (by omega)]
  unfold packS
  rw [hh, ← ht, show sumNext 1 (s.extract 0 8 ++ zero4 ++ s.extract 12 s.size) = be s 8 4 from hs.symm, long_cut s 8 (by omega), cut_join s 0 8 (8 + 4) (by omega) (by omega) (by omega), cut_join s 0 12 s.size (by omega) (by omega) (Nat.le_refl _), cut_all]
theorem pack_one {s : ByteArray} {f t g f' t' g' : Int} {cs cs' : List (Int × Int × ByteArray)} (h : PackIs s f t g cs) (k : PackIs s f' t' g' cs') : f = f' ∧ t = t' ∧ g = g' ∧ cs = cs' := by
  obtain ⟨_, _, ⟨rfl, rfl, rfl⟩, hr, _⟩ := h
  obtain ⟨_, _, ⟨rfl, rfl, rfl⟩, kr, _⟩ := k
  exact ⟨rfl, rfl, rfl, (run_stuck hr kr (has_not_end s) (has_not_end s)).1⟩
theorem pack_mod {s : ByteArray} {f t g : Int} {cs : List (Int × Int × ByteArray)} (h : PackIs s f t g cs) : s.size % 4 = 0 := run_mod h.2.2.2.1

/-- Bytes that are changed at a place are no good any more: another checksum is wanted, or another one is there. -/
theorem be_four_bt (s : ByteArray) (p : Nat) : be s p 4 = 16777216 * bt s p + 65536 * bt s (p + 1) + 256 * bt s (p + 2) + bt s (p + 3) := by
  rw [be_four, be_two, be_two, show p + 2 + 1 = p + 3 by omega]
  omega
theorem sum13_byte {s : ByteArray} (hz : 12 ≤ s.size) (hs : be s 8 4 = sum13 s) (k : Nat) (hk : k < s.size) (c : Int) (h0 : 0 ≤ c) (h1 : c ≤ 255) (hc : c ≠ bt s k) :
    be (s.extract 0 k ++ strOfNums [c] ++ s.extract (k + 1) s.size) 8 4 ≠ sum13 (s.extract 0 k ++ strOfNums [c] ++ s.extract (k + 1) s.size) := by
  have z1 := size_cut s 0 k (by omega)
  have z3 := size_cut s (k + 1) s.size (Nat.le_refl _)
  have z2 : (s.extract 0 k ++ strOfNums [c]).size = k + 1 := by rw [ByteArray.size_append, z1, strOfNums_size]; rfl
  obtain ⟨s', hs'⟩ : ∃ s', s.extract 0 k ++ strOfNums [c] ++ s.extract (k + 1) s.size = s' := ⟨_, rfl⟩
  have hz' : s'.size = s.size := by rw [← hs', ByteArray.size_append, z2, z3]; omega
  have hne : ∀ i, i ≠ k → i < s.size → bt s' i = bt s i := fun i hi hl => by
    rw [← hs']
    rcases Nat.lt_or_ge i k with h | h
    · rw [bt_left _ _ _ (by omega), bt_left _ _ _ (by omega), bt_cut _ _ _ _ (by omega), Nat.zero_add]
    · rw [bt_right _ _ _ (by omega), z2, bt_cut _ _ _ _ (by omega), show k + 1 + (i - (k + 1)) = i by omega]
  have hat : bt s' k = c := by
    rw [← hs', bt_left _ _ _ (by omega), bt_right _ _ _ (by omega), z1, show k - (k - 0) = 0 by omega]
    exact bt_nums _ 0 c rfl h0 h1
  rw [hs']
  have e1 : be s 8 4 = 16777216 * bt s 8 + 65536 * bt s 9 + 256 * bt s 10 + bt s 11 := be_four_bt s 8
  have e2 : be s' 8 4 = 16777216 * bt s' 8 + 65536 * bt s' 9 + 256 * bt s' 10 + bt s' 11 := be_four_bt s' 8
  by_cases hm : 8 ≤ k ∧ k < 12
  · have hb : bare s' = bare s := bare_same (by omega) hz' fun i hi h => hne i (by omega) (by omega)
    unfold sum13 at hs ⊢
    rw [hb, ← hs]
    have hb := bt_nonneg s k
    have hb' := bt_le s k
    rcases (show k = 8 ∨ k = 9 ∨ k = 10 ∨ k = 11 by omega) with rfl | rfl | rfl | rfl
    · have := hne 9 (by omega) (by omega); have := hne 10 (by omega) (by omega); have := hne 11 (by omega) (by omega); omega
    · have := hne 8 (by omega) (by omega); have := hne 10 (by omega) (by omega); have := hne 11 (by omega) (by omega); omega
    · have := hne 8 (by omega) (by omega); have := hne 9 (by omega) (by omega); have := hne 11 (by omega) (by omega); omega
    · have := hne 8 (by omega) (by omega); have := hne 9 (by omega) (by omega); have := hne 10 (by omega) (by omega); omega
  · have hb : bare s' = (bare s).extract 0 k ++ strOfNums [c] ++ (bare s).extract (k + 1) (bare s).size := by
      have y0 := bare_size hz
      have y1 := size_cut (bare s) 0 k (by omega)
      have y3 := size_cut (bare s) (k + 1) (bare s).size (Nat.le_refl _)
      have y2 : ((bare s).extract 0 k ++ strOfNums [c]).size = k + 1 := by rw [ByteArray.size_append, y1, strOfNums_size]; rfl
      refine same_bt (by rw [bare_size (by omega), ByteArray.size_append, y2, y3]; omega) fun i hi => ?_
      rw [bare_size (by omega)] at hi
      by_cases hik : i = k
      · subst hik
        rw [bare_at (by omega) _ (by omega) (by omega), hat, bt_left _ _ _ (by omega), bt_right _ _ _ (by omega), y1, show i - (i - 0) = 0 by omega]
        exact (bt_nums _ 0 c rfl h0 h1).symm
      · have hr : bt ((bare s).extract 0 k ++ strOfNums [c] ++ (bare s).extract (k + 1) (bare s).size) i = bt (bare s) i := by
          rcases Nat.lt_or_ge i k with h | h
          · rw [bt_left _ _ _ (by omega), bt_left _ _ _ (by omega), bt_cut _ _ _ _ (by omega), Nat.zero_add]
          · rw [bt_right _ _ _ (by omega), y2, bt_cut _ _ _ _ (by omega), show k + 1 + (i - (k + 1)) = i by omega]
        rw [hr]
        by_cases hm : i < 8 ∨ 12 ≤ i
        · rw [bare_at (by omega) i hm (by omega), bare_at hz i hm (by omega), hne i hik (by omega)]
        · rw [bare_mid (by omega) i (by omega) (by omega), bare_mid hz i (by omega) (by omega)]
    have hbk : bt (bare s) k = bt s k := bare_at hz k (by omega) hk
    have hn := sumNext_byte (bare s) k (by rw [bare_size hz]; exact hk) c h0 h1 (by rw [hbk]; exact hc)
    have he : be s' 8 4 = be s 8 4 := by
      rw [e1, e2, hne 8 (by omega) (by omega), hne 9 (by omega) (by omega), hne 10 (by omega) (by omega), hne 11 (by omega) (by omega)]
    rw [he, hs]
    unfold sum13
    rw [hb]
    exact fun h => hn h.symm

/-- Two bytes next to each other that are exchanged, behind the checksum: the checksum is wrong just where they differ. -/
theorem sum13_swap {s : ByteArray} (hz : 12 ≤ s.size) (hs : be s 8 4 = sum13 s) (k : Nat) (hk0 : 12 ≤ k) (hk : k + 2 ≤ s.size) :
    be (s.extract 0 k ++ s.extract (k + 1) (k + 2) ++ s.extract k (k + 1) ++ s.extract (k + 2) s.size) 8 4 = sum13 (s.extract 0 k ++ s.extract (k + 1) (k + 2) ++ s.extract k (k + 1) ++ s.extract (k + 2) s.size) ↔ bt s k = bt s (k + 1) := by
  have sw : ∀ (u : ByteArray), k + 2 ≤ u.size → (u.extract 0 k ++ u.extract (k + 1) (k + 2) ++ u.extract k (k + 1) ++ u.extract (k + 2) u.size).size = u.size ∧ ∀ i, i < u.size → bt (u.extract 0 k ++ u.extract (k + 1) (k + 2) ++ u.extract k (k + 1) ++ u.extract (k + 2) u.size) i = if i = k then bt u (k + 1) else if i = k + 1 then bt u k else bt u i := fun u hu => by
    have z1 := size_cut u 0 k (by omega)
    have z2 := size_cut u (k + 1) (k + 2) (by omega)
    have z3 := size_cut u k (k + 1) (by omega)
    have z4 := size_cut u (k + 2) u.size (Nat.le_refl _)
    have y1 : (u.extract 0 k ++ u.extract (k + 1) (k + 2)).size = k + 1 := by rw [ByteArray.size_append]; omega
    have y2 : (u.extract 0 k ++ u.extract (k + 1) (k + 2) ++ u.extract k (k + 1)).size = k + 2 := by rw [ByteArray.size_append]; omega
    refine ⟨by rw [ByteArray.size_append]; omega, fun i hi => ?_⟩
    by_cases h1 : i = k
    · subst h1
      rw [if_pos rfl, bt_left _ _ _ (by omega), bt_left _ _ _ (by omega), bt_right _ _ _ (by omega), z1, bt_cut _ _ _ _ (by omega), show i + 1 + (i - (i - 0)) = i + 1 by omega]
    · rw [if_neg h1]
      by_cases h2 : i = k + 1
      · subst h2
        rw [if_pos rfl, bt_left _ _ _ (by omega), bt_right _ _ _ (by omega), y1, bt_cut _ _ _ _ (by omega), show k + (k + 1 - (k + 1)) = k by omega]
      · rw [if_neg h2]
        rcases Nat.lt_or_ge i k with h | h
        · rw [bt_left _ _ _ (by omega), bt_left _ _ _ (by omega), bt_left _ _ _ (by omega), bt_cut _ _ _ _ (by omega), Nat.zero_add]
        · rw [bt_right _ _ _ (by omega), y2, bt_cut _ _ _ _ (by omega), show k + 2 + (i - (k + 2)) = i by omega]
  obtain ⟨s', hs'⟩ : ∃ s', s.extract 0 k ++ s.extract (k + 1) (k + 2) ++ s.extract k (k + 1) ++ s.extract (k + 2) s.size = s' := ⟨_, rfl⟩
  obtain ⟨hz', hb'⟩ := sw s hk
  rw [hs'] at hz' hb' ⊢
  have hne : ∀ i, i < 12 → bt s' i = bt s i := fun i hi => by rw [hb' i (by omega), if_neg (by omega), if_neg (by omega)]
  have e1 : be s 8 4 = 16777216 * bt s 8 + 65536 * bt s 9 + 256 * bt s 10 + bt s 11 := be_four_bt s 8
  have e2 : be s' 8 4 = 16777216 * bt s' 8 + 65536 * bt s' 9 + 256 * bt s' 10 + bt s' 11 := be_four_bt s' 8
  have he : be s' 8 4 = be s 8 4 := by rw [e1, e2, hne 8 (by omega), hne 9 (by omega), hne 10 (by omega), hne 11 (by omega)]
  obtain ⟨hu, hv⟩ := sw (bare s) (by rw [bare_size hz]; exact hk)
  have hb : bare s' = (bare s).extract 0 k ++ (bare s).extract (k + 1) (k + 2) ++ (bare s).extract k (k + 1) ++ (bare s).extract (k + 2) (bare s).size := by
    refine same_bt (by rw [bare_size (by omega), hu, bare_size hz, hz']) fun i hi => ?_
    rw [bare_size (by omega)] at hi
    rw [hv i (by rw [bare_size hz]; omega)]
    by_cases hm : i < 8 ∨ 12 ≤ i
    · rw [bare_at (by omega) i hm hi, hb' i (by omega), bare_at hz (k + 1) (by omega) (by omega), bare_at hz k (by omega) (by omega), bare_at hz i hm (by omega)]
    · rw [bare_mid (by omega) i (by omega) (by omega), if_neg (by omega), if_neg (by omega), bare_mid hz i (by omega) (by omega)]
  have hn := sumNext_swap (bare s) k (by rw [bare_size hz]; exact hk)
  rw [bare_at hz k (by omega) (by omega), bare_at hz (k + 1) (by omega) (by omega)] at hn
  rw [he, hs]
  unfold sum13
  rw [hb]
  exact ⟨fun h => hn.1 h.symm, fun h => (hn.2 h).symm⟩

end Go.Proofs.Ytcpdpamoddmpaaa
