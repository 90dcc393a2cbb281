/- Assemblies, plain: messages without order; parts that are missing. -/
import Derived.Test.YtncbgejggfkdmabG23
namespace Go.Proofs.Ytncbgejggfkdmab
open Go.RowKit Go.PlainAid

theorem mem_at {ps : List Part} {p : Part} (h : p ∈ ps) : ∃ k, k < ps.length ∧ pAt ps k = p := by
  obtain ⟨k, hk, e⟩ := List.getElem_of_mem h
  exact ⟨k, hk, by rw [← pAt_get hk]; exact e⟩
/-- A part that is the first and the last one is a message. -/
theorem chain_one {ps : List Part} {k : Nat} (h : (pAt ps k).last = true) : chainOf ps k = [k] := by
  unfold chainOf chainP
  rw [if_pos h]
/-- A whole message without order is told. -/
theorem loose_told {next : List Int} {ps : List Part} (ha : AsmOk next ps) : ∀ p ∈ ps, p.first = true → p.last = true → p.loose = true → (⟨p.stream, p.ssn, true, p.text⟩ : Msg) ∈ (runP next ps).ms := by
  refine run_ind (C := fun _ ps r => ∀ p ∈ ps, p.first = true → p.last = true → p.loose = true → (⟨p.stream, p.ssn, true, p.text⟩ : Msg) ∈ r.ms) ?_ ?_ ha
  · intro next ps _ hf p hp h1 h2 h3
    obtain ⟨k, hk, rfl⟩ := mem_at hp
    have := findFrom_none ps.length 0 hf k (by omega) (by omega) (by unfold dueP; simp [h1, h3])
    rw [chain_one h2] at this
    cases this
  · intro next ps r ha hf ih p hp h1 h2 h3
    obtain ⟨k, hk, hd, hc⟩ := find_is ha hf
    show _ ∈ msgP ps (findP next ps) :: r.ms
    rcases List.mem_append.1 (hc.perm.mem_iff.2 hp) with hr | hr
    · exact List.mem_cons_of_mem _ (ih p hr h1 h2 h3)
    · obtain ⟨j, hj, rfl⟩ := List.mem_map.1 hr
      obtain ⟨i, hi, rfl⟩ := List.getElem_of_mem hj
      have ei : (findP next ps)[i] = (findP next ps).getD i 0 := by rw [List.getD_eq_getElem?_getD, List.getElem?_eq_getElem hi]; rfl
      rw [ei] at h1 h2 h3 ⊢
      have i0 : i = 0 := by
        by_cases h : 1 ≤ i
        · have := hc.cn.mid i h hi
          rw [h1] at this
          cases this
        · omega
      subst i0
      have hl : (findP next ps).length = 1 := by
        by_cases h : 0 + 1 < (findP next ps).length
        · have := hc.cn.open_ 0 h
          rw [h2] at this
          cases this
        · omega
      refine List.mem_cons.2 (Or.inl ?_)
      have e1 : findP next ps = [(findP next ps).getD 0 0] := by
        obtain ⟨x, hx⟩ := List.length_eq_one_iff.1 hl
        rw [hx]
        rfl
      have et : textP ps (findP next ps) = (pAt ps ((findP next ps).getD 0 0)).text := by
        rw [e1]
        show (pAt ps ((findP next ps).getD 0 0)).text ++ ByteArray.mk #[] = _
        have e : ByteArray.mk #[] = ByteArray.empty := rfl
        rw [e, ByteArray.append_empty]
        rfl
      unfold msgP
      rw [et, h3]
theorem add_loose {next : List Int} {ps : List Part} {d : Part} (ha : AsmOk next ps) (hd : PartOk next.length d) (h : addC ps d = 0) (h1 : d.first = true) (h2 : d.last = true) (h3 : d.loose = true) : (⟨d.stream, d.ssn, true, d.text⟩ : Msg) ∈ (addR next ps d).ms := by
  rw [addR_done h]
  exact loose_told (ha.push hd (addC_done h).1 (addC_done h).2) d (by simp) h1 h2 h3
/-- Parts may be missing. -/
theorem AsmOk.less {next : List Int} {ps qs : List Part} (ha : AsmOk next ps) (h : qs.Sublist ps) : AsmOk next qs where
  n1 := ha.n1
  n4 := ha.n4
  nums := ha.nums
  few := Nat.le_trans h.length_le ha.few
  ok := fun p hp => ha.ok p (h.subset hp)
  diff := (h.map fun p => p.tsn).nodup ha.diff
theorem asm_drop {next : List Int} {ps : List Part} (ha : AsmOk next ps) (k : Nat) : AsmOk next (ps.take k ++ ps.drop (k + 1)) := by
  refine ha.less ?_
  rw [← List.eraseIdx_eq_take_drop_succ]
  exact List.eraseIdx_sublist ..
theorem asm_twice {next : List Int} {ps : List Part} {k : Nat} (hk : k < ps.length) : ¬ AsmOk next (ps.take (k + 1) ++ ps.drop k) := by
  intro h
  have hd := h.diff
  rw [List.map_append, List.nodup_append] at hd
  have h1 : ps[k] ∈ ps.take (k + 1) := by
    rw [List.mem_take_iff_getElem]
    exact ⟨k, by omega, rfl⟩
  have h2 : ps[k] ∈ ps.drop k := by
    rw [List.mem_drop_iff_getElem]
    exact ⟨0, by omega, by simp⟩
  exact hd.2.2 _ (List.mem_map_of_mem h1) _ (List.mem_map_of_mem h2) rfl

end Go.Proofs.Ytncbgejggfkdmab
