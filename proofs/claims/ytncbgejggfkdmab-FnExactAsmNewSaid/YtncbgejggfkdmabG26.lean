/- Assemblies, plain: a message is followed, step by step. -/
import Derived.Test.YtncbgejggfkdmabG25
namespace Go.Proofs.Ytncbgejggfkdmab
open Go.RowKit Go.PlainAid

theorem idx_cases (ps : List Part) (t : Int) : idxP ps t = none ∨ ∃ j, j < ps.length ∧ idxP ps t = some j := by
  cases h : idxP ps t with
  | none => exact .inl rfl
  | some j => exact .inr ⟨j, (idx_some h).1, rfl⟩
theorem idx_has {ps : List Part} {t : Int} (h : idxP ps t = none) : hasT ps t = false := by
  cases hc : hasT ps t with
  | false => rfl
  | true =>
    unfold hasT at hc
    rw [List.any_eq_true] at hc
    obtain ⟨p, hp, e⟩ := hc
    exact absurd (by simpa using e) (idx_none h p hp)
theorem chain_last {ps : List Part} {f k : Nat} {out : List Nat} (hf : 1 ≤ f) (h : (pAt ps k).last = true) : chainP ps f k out = out := by
  obtain ⟨f, rfl⟩ : ∃ f', f = f' + 1 := ⟨f - 1, by omega⟩
  unfold chainP
  rw [if_pos h]
theorem chain_stop {ps : List Part} {f k : Nat} {out : List Nat} (hf : 1 ≤ f) (h : (pAt ps k).last = false) (hi : idxP ps (addS (pAt ps k).tsn 1) = none) : chainP ps f k out = [] := by
  obtain ⟨f, rfl⟩ : ∃ f', f = f' + 1 := ⟨f - 1, by omega⟩
  unfold chainP
  rw [if_neg (by simp [h]), hi]
theorem chain_bad {ps : List Part} {f k j : Nat} {out : List Nat} (hf : 1 ≤ f) (h : (pAt ps k).last = false) (hi : idxP ps (addS (pAt ps k).tsn 1) = some j) (hb : (pAt ps j).first = true ∨ sameM (pAt ps k) (pAt ps j) = false ∨ 12 < out.length) : chainP ps f k out = [] := by
  obtain ⟨f, rfl⟩ : ∃ f', f = f' + 1 := ⟨f - 1, by omega⟩
  unfold chainP
  rw [if_neg (by simp [h]), hi]
  simp only
  rw [if_pos]
  rcases hb with h | h | h <;> simp [h]
theorem chain_go {ps : List Part} {f k j : Nat} {out : List Nat} (hf : 1 ≤ f) (h : (pAt ps k).last = false) (hi : idxP ps (addS (pAt ps k).tsn 1) = some j) (h1 : (pAt ps j).first = false) (h2 : sameM (pAt ps k) (pAt ps j) = true) (h3 : out.length ≤ 12) : chainP ps f k out = chainP ps (f - 1) j (out ++ [j]) := by
  obtain ⟨f, rfl⟩ : ∃ f', f = f' + 1 := ⟨f - 1, by omega⟩
  have : f + 1 - 1 = f := rfl
  rw [this]
  conv => lhs; unfold chainP
  rw [if_neg (by simp [h]), hi]
  simp only
  rw [if_neg]
  simp [h1, h2]
  omega
theorem Cn.nd {ps : List Part} {k : Nat} {out : List Nat} (h : Cn ps k out) : out.Nodup := by
  rw [List.nodup_iff_pairwise_ne, List.pairwise_iff_getElem]
  intro i j hi hj hij e
  have h1 := h.tsn i hi
  have h2 := h.tsn j hj
  rw [List.getD_eq_getElem?_getD, List.getElem?_eq_getElem hi] at h1
  rw [List.getD_eq_getElem?_getD, List.getElem?_eq_getElem hj] at h2
  have e2 : (some out[i]).getD 0 = (some out[j]).getD 0 := e
  rw [e2] at h1
  have hl := h.len
  have := addS_inj (t := (pAt ps (out.getD 0 0)).tsn) (by omega) (by omega) (h1.symm.trans h2)
  omega
theorem Cn.fits {ps : List Part} {k : Nat} {out : List Nat} (h : Cn ps k out) : out.length ≤ ps.length := by
  have := (rest_perm h.nd h.lt).length_eq
  rw [List.length_append, List.length_map] at this
  omega
theorem find_skip {next : List Int} {ps : List Part} {i m : Nat} (h : dueP next (pAt ps i) = false ∨ chainOf ps i = []) (hm : 1 ≤ m) : findFrom next ps i m = findFrom next ps (i + 1) (m - 1) := by
  obtain ⟨m, rfl⟩ : ∃ m', m = m' + 1 := ⟨m - 1, by omega⟩
  conv => lhs; unfold findFrom
  rw [if_neg]
  · rfl
  · rcases h with h | h <;> simp [h]
theorem find_here {next : List Int} {ps : List Part} {i m : Nat} (h1 : dueP next (pAt ps i) = true) (h2 : chainOf ps i ≠ []) (hm : 1 ≤ m) : findFrom next ps i m = chainOf ps i := by
  obtain ⟨m, rfl⟩ : ∃ m', m = m' + 1 := ⟨m - 1, by omega⟩
  unfold findFrom
  rw [if_pos (by simp [h1, h2])]

end Go.Proofs.Ytncbgejggfkdmab
