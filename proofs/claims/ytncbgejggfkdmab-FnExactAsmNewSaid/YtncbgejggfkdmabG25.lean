/- Assemblies, plain: parts that wait at blocks of their own; a block is taken out. -/
import Derived.Test.YtncbgejggfkdmabG24
namespace Go.Proofs.Ytncbgejggfkdmab
open Go.RowKit Go.PlainAid

/-- The parts of a list of blocks and parts. -/
def psOf (ns : List (Nat × Part)) : List Part := ns.map Prod.snd
/-- The block at a place. -/
def bk (ns : List (Nat × Part)) (i : Nat) : Option Nat := (ns[i]?).map Prod.fst
/-- The block ahead of a place. -/
def pv (ns : List (Nat × Part)) : Nat → Option Nat
  | 0 => none
  | i + 1 => bk ns i
/-- The block at a place that is there. -/
def bAt (ns : List (Nat × Part)) (i : Nat) : Nat := (ns.map Prod.fst).getD i 0
theorem psOf_length (ns : List (Nat × Part)) : (psOf ns).length = ns.length := List.length_map _
theorem psOf_append (ns ms : List (Nat × Part)) : psOf (ns ++ ms) = psOf ns ++ psOf ms := List.map_append
theorem ns_get {ns : List (Nat × Part)} {i : Nat} (h : i < ns.length) : ns[i]? = some (bAt ns i, pAt (psOf ns) i) := by
  rw [List.getElem?_eq_getElem h]
  unfold bAt pAt psOf
  rw [List.getD_eq_getElem?_getD, List.getD_eq_getElem?_getD, List.getElem?_map, List.getElem?_map, List.getElem?_eq_getElem h]
  rfl
theorem bk_some {ns : List (Nat × Part)} {i : Nat} (h : i < ns.length) : bk ns i = some (bAt ns i) := by
  unfold bk
  rw [ns_get h]
  rfl
theorem bk_none {ns : List (Nat × Part)} {i : Nat} (h : ns.length ≤ i) : bk ns i = none := by
  unfold bk
  rw [List.getElem?_eq_none h]
  rfl
theorem bAt_mem {ns : List (Nat × Part)} {i : Nat} (h : i < ns.length) : (bAt ns i, pAt (psOf ns) i) ∈ ns := List.mem_of_getElem? (ns_get h)
theorem nd_at {ns : List (Nat × Part)} {x : Nat × Part} (h : x ∈ ns) : ∃ i, i < ns.length ∧ x = (bAt ns i, pAt (psOf ns) i) := by
  obtain ⟨i, hi, e⟩ := List.getElem_of_mem h
  refine ⟨i, hi, ?_⟩
  have := ns_get hi
  rw [List.getElem?_eq_getElem hi, e] at this
  exact Option.some.inj this
theorem bAt_inj {ns : List (Nat × Part)} (h : (ns.map Prod.fst).Nodup) {i j : Nat} (hi : i < ns.length) (hj : j < ns.length) (e : bAt ns i = bAt ns j) : i = j := by
  unfold bAt at e
  rw [List.getD_eq_getElem?_getD, List.getD_eq_getElem?_getD, List.getElem?_eq_getElem (by rw [List.length_map]; exact hi), List.getElem?_eq_getElem (by rw [List.length_map]; exact hj)] at e
  rw [List.nodup_iff_pairwise_ne, List.pairwise_iff_getElem] at h
  by_cases hlt : i < j
  · exact absurd e (h i j (by rw [List.length_map]; exact hi) (by rw [List.length_map]; exact hj) hlt)
  · by_cases hgt : j < i
    · exact absurd e.symm (h j i (by rw [List.length_map]; exact hj) (by rw [List.length_map]; exact hi) hgt)
    · omega
theorem ns_range (ns : List (Nat × Part)) : (List.range ns.length).map (fun i => (bAt ns i, pAt (psOf ns) i)) = ns := by
  refine List.ext_getElem (by simp) fun i h1 h2 => ?_
  rw [List.getElem_map, List.getElem_range]
  have := ns_get h2
  rw [List.getElem?_eq_getElem h2] at this
  exact (Option.some.inj this).symm
/-- What is left when some blocks are taken out. -/
def leftB (ns : List (Nat × Part)) (bl : List Nat) : List (Nat × Part) := ns.filter fun x => !decide (x.1 ∈ bl)
theorem leftB_nil (ns : List (Nat × Part)) : leftB ns [] = ns := by
  unfold leftB
  exact List.filter_eq_self.2 fun x _ => by simp
theorem leftB_snoc (ns : List (Nat × Part)) (bl : List Nat) (b : Nat) : leftB ns (bl ++ [b]) = leftB (leftB ns bl) [b] := by
  unfold leftB
  rw [List.filter_filter]
  refine List.filter_congr fun x _ => ?_
  by_cases h1 : x.1 ∈ bl <;> by_cases h2 : x.1 = b <;> simp [h1, h2]
theorem leftB_sub {ns : List (Nat × Part)} {bl : List Nat} {x : Nat × Part} (h : x ∈ leftB ns bl) : x ∈ ns ∧ x.1 ∉ bl := by
  have := List.mem_filter.1 h
  exact ⟨this.1, by simpa using this.2⟩
theorem leftB_in {ns : List (Nat × Part)} {bl : List Nat} {x : Nat × Part} (h : x ∈ ns) (hb : x.1 ∉ bl) : x ∈ leftB ns bl := List.mem_filter.2 ⟨h, by simpa using hb⟩
theorem leftB_sublist (ns : List (Nat × Part)) (bl : List Nat) : (leftB ns bl).Sublist ns := List.filter_sublist
/-- One block is taken out. -/
theorem leftB_one {ns : List (Nat × Part)} (h : (ns.map Prod.fst).Nodup) {j : Nat} (hj : j < ns.length) : leftB ns [bAt ns j] = ns.eraseIdx j := by
  induction ns generalizing j with
  | nil => simp at hj
  | cons x ns ih =>
    rw [List.map_cons, List.nodup_cons] at h
    cases j with
    | zero =>
      rw [List.eraseIdx_cons_zero]
      have e : bAt (x :: ns) 0 = x.1 := rfl
      rw [e]
      unfold leftB
      rw [List.filter_cons]
      rw [if_neg (by simp)]
      refine List.filter_eq_self.2 fun y hy => ?_
      have : y.1 ≠ x.1 := fun e => h.1 (by rw [← e]; exact List.mem_map_of_mem hy)
      simpa using this
    | succ j =>
      rw [List.eraseIdx_cons_succ]
      have hj' : j < ns.length := by simpa using hj
      have e : bAt (x :: ns) (j + 1) = bAt ns j := rfl
      rw [e, ← ih h.2 hj']
      unfold leftB
      rw [List.filter_cons, if_pos]
      have : x.1 ≠ bAt ns j := fun e => h.1 (by rw [e]; exact List.mem_map_of_mem (bAt_mem hj'))
      simpa using this
/-- The parts of what is left. -/
theorem leftB_parts {ns : List (Nat × Part)} (h : (ns.map Prod.fst).Nodup) {ch : List Nat} (hc : ∀ i ∈ ch, i < ns.length) : psOf (leftB ns (ch.map (bAt ns))) = restP (psOf ns) ch := by
  unfold restP restTo
  rw [psOf_length]
  have e : leftB ns (ch.map (bAt ns)) = ((List.range ns.length).filter fun i => !decide (i ∈ ch)).map fun i => (bAt ns i, pAt (psOf ns) i) := by
    conv => lhs; unfold leftB; rw [← ns_range ns]
    rw [ns_range ns]
    rw [← ns_range ns, List.filter_map, ns_range ns]
    congr 1
    refine List.filter_congr fun i hi => ?_
    have hi := List.mem_range.1 hi
    show (!decide (bAt ns i ∈ ch.map (bAt ns))) = !decide (i ∈ ch)
    congr 1
    refine decide_eq_decide.2 ⟨fun hm => ?_, fun hm => List.mem_map_of_mem hm⟩
    obtain ⟨k, hk, e⟩ := List.mem_map.1 hm
    rw [bAt_inj h hi (hc k hk) e.symm]
    exact hk
  rw [e]
  unfold psOf
  rw [List.map_map]
  rfl
/-- Blocks around the one that is taken out. -/
theorem bk_erase (ns : List (Nat × Part)) (j i : Nat) : bk (ns.eraseIdx j) i = if i < j then bk ns i else bk ns (i + 1) := by
  unfold bk
  rw [List.getElem?_eraseIdx]
  split <;> rfl
theorem pv_erase (ns : List (Nat × Part)) (j i : Nat) : pv (ns.eraseIdx j) i = if i ≤ j then pv ns i else pv ns (i + 1) := by
  cases i with
  | zero => simp [pv]
  | succ i =>
    show bk (ns.eraseIdx j) i = _
    rw [bk_erase]
    by_cases h : i < j
    · rw [if_pos h, if_pos (by omega)]
      rfl
    · rw [if_neg h, if_neg (by omega)]
      rfl

end Go.Proofs.Ytncbgejggfkdmab
