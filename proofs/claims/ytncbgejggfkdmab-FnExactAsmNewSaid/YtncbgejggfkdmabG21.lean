/- Assemblies, plain: a message is taken out. -/
import Derived.Test.YtncbgejggfkdmabG20
namespace Go.Proofs.Ytncbgejggfkdmab
open Go.RowKit Go.PlainAid

/-- An assembly is valid. -/
structure AsmOk (next : List Int) (ps : List Part) : Prop where
  n1 : 1 ≤ next.length
  n4 : next.length ≤ 4
  nums : ∀ n ∈ next, Ser n
  few : ps.length ≤ 12
  ok : ∀ p ∈ ps, DataOk p.tsn p.stream p.ssn p.text ∧ p.stream < next.length
  diff : (ps.map fun p => p.tsn).Nodup
/-- A part may begin a message that is told. -/
def dueP (next : List Int) (p : Part) : Bool := p.first && (p.loose || p.ssn == next.getD p.stream.toNat 0)
/-- The parts of the first message that is due, or none. -/
def findFrom (next : List Int) (ps : List Part) : Nat → Nat → List Nat
  | _, 0 => []
  | i, m + 1 => if dueP next (pAt ps i) && !(chainOf ps i).isEmpty then chainOf ps i else findFrom next ps (i + 1) m
def findP (next : List Int) (ps : List Part) : List Nat := findFrom next ps 0 ps.length
theorem findFrom_some {next : List Int} {ps : List Part} : ∀ (m i : Nat), findFrom next ps i m ≠ [] → ∃ k, i ≤ k ∧ k < i + m ∧ dueP next (pAt ps k) = true ∧ chainOf ps k ≠ [] ∧ findFrom next ps i m = chainOf ps k
  | 0, _, h => absurd rfl h
  | m + 1, i, h => by
    unfold findFrom at h ⊢
    split
    · rename_i hc
      simp only [Bool.and_eq_true, Bool.not_eq_true', List.isEmpty_eq_false_iff] at hc
      exact ⟨i, by omega, by omega, hc.1, hc.2, rfl⟩
    · rename_i hc
      rw [if_neg hc] at h
      obtain ⟨k, h1, h2, h3⟩ := findFrom_some m (i + 1) h
      exact ⟨k, by omega, by omega, h3⟩
theorem findFrom_none {next : List Int} {ps : List Part} : ∀ (m i : Nat), findFrom next ps i m = [] → ∀ k, i ≤ k → k < i + m → dueP next (pAt ps k) = true → chainOf ps k = []
  | 0, _, _, k, h1, h2, _ => by omega
  | m + 1, i, h, k, h1, h2, hd => by
    unfold findFrom at h
    split at h
    · rename_i hc
      simp only [Bool.and_eq_true, Bool.not_eq_true', List.isEmpty_eq_false_iff] at hc
      exact absurd h hc.2
    · rename_i hc
      by_cases e : k = i
      · subst e
        by_cases e2 : chainOf ps k = []
        · exact e2
        · exact absurd (by simp [hd, e2]) hc
      · exact findFrom_none m (i + 1) h k (by omega) (by omega) hd
/-- The parts that are left. -/
def restTo (ps : List Part) (ch : List Nat) (n : Nat) : List Part := ((List.range n).filter fun i => !decide (i ∈ ch)).map (pAt ps)
def restP (ps : List Part) (ch : List Nat) : List Part := restTo ps ch ps.length
theorem restTo_zero (ps : List Part) (ch : List Nat) : restTo ps ch 0 = [] := rfl
theorem restTo_in {ps : List Part} {ch : List Nat} {n : Nat} (h : n ∈ ch) : restTo ps ch (n + 1) = restTo ps ch n := by
  unfold restTo
  rw [List.range_succ, List.filter_append]
  simp [h]
theorem restTo_out {ps : List Part} {ch : List Nat} {n : Nat} (h : n ∉ ch) : restTo ps ch (n + 1) = restTo ps ch n ++ [pAt ps n] := by
  unfold restTo
  rw [List.range_succ, List.filter_append]
  simp [h]
/-- The text of a message. -/
def textP (ps : List Part) : List Nat → ByteArray
  | [] => ByteArray.mk #[]
  | i :: is => (pAt ps i).text ++ textP ps is
theorem textP_snoc (ps : List Part) (is : List Nat) (i : Nat) : textP ps (is ++ [i]) = textP ps is ++ (pAt ps i).text := by
  induction is with
  | nil =>
    show (pAt ps i).text ++ ByteArray.mk #[] = ByteArray.mk #[] ++ (pAt ps i).text
    have e : ByteArray.mk #[] = ByteArray.empty := rfl
    rw [e, ByteArray.append_empty, ByteArray.empty_append]
  | cons x xs ih =>
    show (pAt ps x).text ++ textP ps (xs ++ [i]) = (pAt ps x).text ++ textP ps xs ++ (pAt ps i).text
    rw [ih, ByteArray.append_assoc]
/-- The bytes of parts, and of messages. -/
def sumB (ps : List Part) : Nat := (ps.map fun p => p.text.size).sum
def sumM (ms : List Msg) : Nat := (ms.map fun m => m.text.size).sum
theorem sumB_append (ps qs : List Part) : sumB (ps ++ qs) = sumB ps + sumB qs := by unfold sumB; rw [List.map_append, List.sum_append]
theorem textP_size (ps : List Part) (is : List Nat) : (textP ps is).size = sumB (is.map (pAt ps)) := by
  induction is with
  | nil => rfl
  | cons x xs ih =>
    show ((pAt ps x).text ++ textP ps xs).size = _
    rw [ByteArray.size_append, ih]
    rfl
theorem ps_range (ps : List Part) : (List.range ps.length).map (pAt ps) = ps := by
  refine List.ext_getElem (by simp) fun i h1 h2 => ?_
  rw [List.getElem_map, List.getElem_range, pAt_get h2]
/-- The parts left and those of the message are all. -/
theorem rest_perm {ps : List Part} {ch : List Nat} (hn : ch.Nodup) (hl : ∀ i ∈ ch, i < ps.length) : (restP ps ch ++ ch.map (pAt ps)).Perm ps := by
  have h1 : ((List.range ps.length).filter fun i => decide (i ∈ ch)).Perm ch := by
    rw [List.perm_ext_iff_of_nodup (List.Pairwise.filter _ List.nodup_range) hn]
    intro i
    simp only [List.mem_filter, List.mem_range, decide_eq_true_eq]
    exact ⟨fun h => h.2, fun h => ⟨hl i h, h⟩⟩
  have h2 : (((List.range ps.length).filter fun i => !decide (i ∈ ch)) ++ ((List.range ps.length).filter fun i => decide (i ∈ ch))).Perm (List.range ps.length) :=
    List.perm_append_comm.trans (List.filter_append_perm _ _)
  have h3 := ((List.Perm.append_left ((List.range ps.length).filter fun i => !decide (i ∈ ch)) h1).symm.trans h2).map (pAt ps)
  rw [List.map_append, ps_range] at h3
  exact h3
theorem Chn.nd {ps : List Part} {k : Nat} {ch : List Nat} (h : Chn ps k ch) : ch.Nodup := by
  rw [List.nodup_iff_pairwise_ne, List.pairwise_iff_getElem]
  intro i j hi hj hij e
  have := h.nodup i j hi hj (by rw [List.getD_eq_getElem?_getD, List.getD_eq_getElem?_getD, List.getElem?_eq_getElem hi, List.getElem?_eq_getElem hj]; exact e)
  omega
section
variable {next : List Int} {ps : List Part} {ch : List Nat} {k : Nat}
theorem Chn.perm (h : Chn ps k ch) : (restP ps ch ++ ch.map (pAt ps)).Perm ps := rest_perm h.nd h.cn.lt
theorem Chn.bytes (h : Chn ps k ch) : sumB (restP ps ch) + (textP ps ch).size = sumB ps := by
  rw [textP_size, ← sumB_append]
  unfold sumB
  exact (h.perm.map _).sum_nat
theorem Chn.fewer (h : Chn ps k ch) : (restP ps ch).length < ps.length := by
  have h1 := h.perm.length_eq
  rw [List.length_append, List.length_map] at h1
  have := List.length_pos_iff.2 h.cn.ne
  omega
theorem Chn.sub (h : Chn ps k ch) : ∀ p ∈ restP ps ch, p ∈ ps := fun _ hp => h.perm.mem_iff.1 (List.mem_append_left _ hp)
theorem Chn.diff (h : Chn ps k ch) (hd : (ps.map fun p => p.tsn).Nodup) : ((restP ps ch).map fun p => p.tsn).Nodup := by
  have h1 := ((h.perm.map fun p => p.tsn).nodup_iff).2 hd
  rw [List.map_append] at h1
  exact (List.nodup_append.1 h1).1
/-- What is left is valid. -/
theorem AsmOk.rest (ha : AsmOk next ps) (h : Chn ps k ch) {next2 : List Int} (hl : next2.length = next.length) (hs : ∀ n ∈ next2, Ser n) : AsmOk next2 (restP ps ch) :=
  ⟨by rw [hl]; exact ha.n1, by rw [hl]; exact ha.n4, hs, by have := h.fewer; have := ha.few; omega, fun p hp => by rw [hl]; exact ha.ok p (h.sub p hp), h.diff ha.diff⟩
end
/-- The number of a stream moves on. -/
def nextP (next : List Int) (d : Part) : List Int := if d.loose then next else next.set d.stream.toNat (addS d.ssn 1)
theorem nextP_length (next : List Int) (d : Part) : (nextP next d).length = next.length := by unfold nextP; split <;> simp
theorem nextP_ser {next : List Int} {d : Part} (h : ∀ n ∈ next, Ser n) : ∀ n ∈ nextP next d, Ser n := by
  unfold nextP
  split
  · exact h
  · intro n hn
    rcases List.mem_or_eq_of_mem_set hn with hn | rfl
    · exact h n hn
    · exact addS_ser _ _
/-- The message that is taken out. -/
def msgP (ps : List Part) (ch : List Nat) : Msg := ⟨(pAt ps (ch.getD 0 0)).stream, (pAt ps (ch.getD 0 0)).ssn, (pAt ps (ch.getD 0 0)).loose, textP ps ch⟩

end Go.Proofs.Ytncbgejggfkdmab
