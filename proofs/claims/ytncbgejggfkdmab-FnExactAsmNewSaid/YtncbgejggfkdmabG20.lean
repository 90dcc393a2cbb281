/- Assemblies, plain: parts that wait, messages that are complete. -/
import Derived.Test.YtncbgejggfkdmabG8
import Derived.Test.YtncbgejggfkdmabG11
namespace Go.Proofs.Ytncbgejggfkdmab
open Go.RowKit Go.PlainAid

/-- A part of a message. -/
structure Part where
  tsn : Int
  stream : Int
  ssn : Int
  first : Bool
  last : Bool
  loose : Bool
  text : ByteArray
/-- A message. -/
structure Msg where
  stream : Int
  ssn : Int
  loose : Bool
  text : ByteArray
def noPart : Part := ⟨0, 0, 0, false, false, false, ByteArray.mk #[]⟩
/-- The part at a place. -/
def pAt (ps : List Part) (i : Nat) : Part := ps.getD i noPart
theorem pAt_mem {ps : List Part} {i : Nat} (h : i < ps.length) : pAt ps i ∈ ps := by
  unfold pAt
  rw [List.getD_eq_getElem?_getD, List.getElem?_eq_getElem h]
  exact List.getElem_mem _
theorem pAt_get {ps : List Part} {i : Nat} (h : i < ps.length) : ps[i] = pAt ps i := by
  unfold pAt
  rw [List.getD_eq_getElem?_getD, List.getElem?_eq_getElem h]
  rfl
/-- Where the part with a number lies. -/
def idxP (ps : List Part) (t : Int) : Option Nat := ps.findIdx? fun p => p.tsn == t
theorem idx_some {ps : List Part} {t : Int} {j : Nat} (h : idxP ps t = some j) : j < ps.length ∧ (pAt ps j).tsn = t ∧ ∀ i, i < j → (pAt ps i).tsn ≠ t := by
  obtain ⟨hj, h1, h2⟩ := List.findIdx?_eq_some_iff_getElem.1 h
  refine ⟨hj, by rw [← pAt_get hj]; simpa using h1, fun i hi => ?_⟩
  have := h2 i hi
  rw [pAt_get (by omega)] at this
  simpa using this
theorem idx_none {ps : List Part} {t : Int} (h : idxP ps t = none) : ∀ p ∈ ps, p.tsn ≠ t := by
  intro p hp
  have := List.findIdx?_eq_none_iff.1 h p hp
  simpa using this
theorem idx_is {ps : List Part} {t : Int} {j : Nat} (hj : j < ps.length) (ht : (pAt ps j).tsn = t) (hb : ∀ i, i < j → (pAt ps i).tsn ≠ t) : idxP ps t = some j := by
  refine List.findIdx?_eq_some_iff_getElem.2 ⟨hj, by rw [pAt_get hj]; simpa using ht, fun i hi => ?_⟩
  rw [pAt_get (by omega)]
  simpa using hb i hi
/-- Two parts are of one message. -/
def sameM (a b : Part) : Bool := a.stream == b.stream && a.ssn == b.ssn && a.loose == b.loose
/-- The places of a message's parts, from one on. -/
def chainP (ps : List Part) : Nat → Nat → List Nat → List Nat
  | 0, _, _ => []
  | f + 1, k, out => if (pAt ps k).last then out else
    match idxP ps (addS (pAt ps k).tsn 1) with
    | none => []
    | some j => if (pAt ps j).first || !sameM (pAt ps k) (pAt ps j) || decide (12 < out.length) then [] else chainP ps f j (out ++ [j])
def chainOf (ps : List Part) (k : Nat) : List Nat := chainP ps 14 k [k]
theorem chainP_le (ps : List Part) : ∀ f k out, (chainP ps f k out).length ≤ 13 + out.length ∧ (out.length ≤ 13 → (chainP ps f k out).length ≤ 13)
  | 0, _, _ => ⟨by simp [chainP], fun _ => by simp [chainP]⟩
  | f + 1, k, out => by
    unfold chainP
    split
    · exact ⟨by omega, fun h => h⟩
    · split
      · exact ⟨by simp, fun _ => by simp⟩
      · rename_i j hj
        split
        · exact ⟨by simp, fun _ => by simp⟩
        · rename_i hc
          have h12 : out.length ≤ 12 := by
            simp at hc
            omega
          have := chainP_le ps f j (out ++ [j])
          rw [List.length_append, List.length_singleton] at this
          exact ⟨Nat.le_trans (this.2 (by omega)) (by omega), fun _ => this.2 (by omega)⟩
/-- While a message is followed: the places so far, of which k is the newest. -/
structure Cn (ps : List Part) (k : Nat) (out : List Nat) : Prop where
  ne : out ≠ []
  end_ : out.getD (out.length - 1) 0 = k
  lt : ∀ i ∈ out, i < ps.length
  tsn : ∀ i, i < out.length → (pAt ps (out.getD i 0)).tsn = addS (pAt ps (out.getD 0 0)).tsn i
  len : out.length ≤ 13
  same : ∀ j ∈ out, (pAt ps j).stream = (pAt ps (out.getD 0 0)).stream ∧ (pAt ps j).ssn = (pAt ps (out.getD 0 0)).ssn ∧ (pAt ps j).loose = (pAt ps (out.getD 0 0)).loose
  mid : ∀ i, 1 ≤ i → i < out.length → (pAt ps (out.getD i 0)).first = false
  open_ : ∀ i, i + 1 < out.length → (pAt ps (out.getD i 0)).last = false
theorem cn_start {ps : List Part} {k : Nat} (hk : k < ps.length) (ht : Ser (pAt ps k).tsn) : Cn ps k [k] where
  ne := by simp
  end_ := rfl
  lt := fun i hi => by
    have e : i = k := by simpa using hi
    rw [e]
    exact hk
  tsn := fun i hi => by
    obtain rfl : i = 0 := by simpa using hi
    exact (addS_none ht).symm
  len := by simp
  same := fun j hj => by
    have e : j = k := by simpa using hj
    rw [e]
    exact ⟨rfl, rfl, rfl⟩
  mid := fun i h1 h2 => by simp at h2; omega
  open_ := fun i h => by simp at h
theorem getD_left {out : List Nat} {j i : Nat} (h : i < out.length) : (out ++ [j]).getD i 0 = out.getD i 0 := by
  rw [List.getD_eq_getElem?_getD, List.getD_eq_getElem?_getD, List.getElem?_append_left h]
theorem getD_last (out : List Nat) (j : Nat) : (out ++ [j]).getD out.length 0 = j := by simp
theorem getD_in {out : List Nat} {i : Nat} (h : i < out.length) : out.getD i 0 ∈ out := by
  rw [List.getD_eq_getElem?_getD, List.getElem?_eq_getElem h]
  exact List.getElem_mem _
theorem cn_step {ps : List Part} {k j : Nat} {out : List Nat} (h : Cn ps k out) (hl : (pAt ps k).last = false) (hj : idxP ps (addS (pAt ps k).tsn 1) = some j) (hf : (pAt ps j).first = false) (hs : sameM (pAt ps k) (pAt ps j) = true) (hn : out.length ≤ 12) : Cn ps j (out ++ [j]) := by
  have hpos : 0 < out.length := List.length_pos_iff.2 h.ne
  obtain ⟨j1, j2, _⟩ := idx_some hj
  have hk : k ∈ out := by have := getD_in (out := out) (i := out.length - 1) (by omega); rwa [h.end_] at this
  have hk2 := h.same k hk
  have h0 : (out ++ [j]).getD 0 0 = out.getD 0 0 := getD_left hpos
  unfold sameM at hs
  simp only [Bool.and_eq_true, beq_iff_eq] at hs
  refine ⟨by simp, by rw [List.length_append, List.length_singleton, Nat.add_sub_cancel]; exact getD_last out j, fun i hi => ?_, fun i hi => ?_, by rw [List.length_append, List.length_singleton]; omega, fun i hi => ?_, fun i h1 h2 => ?_, fun i h1 => ?_⟩
  · rcases List.mem_append.1 hi with hi | hi
    · exact h.lt i hi
    · obtain rfl : i = j := by simpa using hi
      exact j1
  · rw [List.length_append, List.length_singleton] at hi
    rw [h0]
    by_cases e : i < out.length
    · rw [getD_left e]
      exact h.tsn i e
    · obtain rfl : i = out.length := by omega
      have := h.tsn (out.length - 1) (by omega)
      rw [h.end_] at this
      rw [getD_last, j2, this, addS_sum]
      congr 1
      omega
  · rw [h0]
    rcases List.mem_append.1 hi with hi | hi
    · exact h.same i hi
    · obtain rfl : i = j := by simpa using hi
      exact ⟨hs.1.1.symm.trans hk2.1, hs.1.2.symm.trans hk2.2.1, hs.2.symm.trans hk2.2.2⟩
  · rw [List.length_append, List.length_singleton] at h2
    by_cases e : i < out.length
    · rw [getD_left e]
      exact h.mid i h1 e
    · obtain rfl : i = out.length := by omega
      rw [getD_last]
      exact hf
  · rw [List.length_append, List.length_singleton] at h1
    by_cases e : i + 1 < out.length
    · rw [getD_left (by omega)]
      exact h.open_ i e
    · have e1 : i = out.length - 1 := by omega
      subst e1
      rw [getD_left (by omega), h.end_]
      exact hl
/-- A complete message: the places of its parts. -/
structure Chn (ps : List Part) (k : Nat) (ch : List Nat) : Prop where
  cn : Cn ps (ch.getD (ch.length - 1) 0) ch
  last : (pAt ps (ch.getD (ch.length - 1) 0)).last = true
  head : ch.getD 0 0 = k
theorem chainP_is {ps : List Part} : ∀ (f k : Nat) (out : List Nat), Cn ps k out → chainP ps f k out ≠ [] → Chn ps (out.getD 0 0) (chainP ps f k out)
  | 0, _, _, _, h => absurd rfl h
  | f + 1, k, out, hc, h => by
    unfold chainP at h ⊢
    split
    · rename_i hl
      have e := hc.end_
      exact ⟨by rw [e]; exact hc, by rw [e]; exact hl, rfl⟩
    · rename_i hl
      rw [if_neg hl] at h
      have hl' : (pAt ps k).last = false := by simpa using hl
      split
      · rename_i hj
        rw [hj] at h
        exact absurd rfl h
      · rename_i j hj
        rw [hj] at h
        simp only at h
        split
        · rename_i hb
          rw [if_pos hb] at h
          exact absurd rfl h
        · rename_i hb
          rw [if_neg hb] at h
          simp only [Bool.or_eq_true, Bool.not_eq_true', decide_eq_true_iff, not_or] at hb
          have hpos : 0 < out.length := List.length_pos_iff.2 hc.ne
          have hs : sameM (pAt ps k) (pAt ps j) = true := by simpa using hb.1.2
          have := chainP_is f j (out ++ [j]) (cn_step hc hl' hj (by simpa using hb.1.1) hs (by omega)) h
          rwa [getD_left hpos] at this
theorem chain_is {ps : List Part} {k : Nat} (hk : k < ps.length) (ht : Ser (pAt ps k).tsn) (h : chainOf ps k ≠ []) : Chn ps k (chainOf ps k) := chainP_is 14 k [k] (cn_start hk ht) h
theorem addS_inj {t : Int} {i j : Nat} (hi : i ≤ 1000) (hj : j ≤ 1000) (h : addS t i = addS t j) : i = j := by
  unfold addS at h
  omega
/-- The places of a message are different. -/
theorem Chn.nodup {ps : List Part} {k : Nat} {ch : List Nat} (h : Chn ps k ch) : ∀ i j, i < ch.length → j < ch.length → ch.getD i 0 = ch.getD j 0 → i = j := fun i j hi hj e => by
  have h1 := h.cn.tsn i hi
  have h2 := h.cn.tsn j hj
  rw [e] at h1
  have hl := h.cn.len
  exact addS_inj (t := (pAt ps (ch.getD 0 0)).tsn) (by omega) (by omega) (h1.symm.trans h2)

end Go.Proofs.Ytncbgejggfkdmab
