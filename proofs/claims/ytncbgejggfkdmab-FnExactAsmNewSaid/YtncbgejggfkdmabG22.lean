/- Assemblies, plain: messages are taken out as long as one is due. -/
import Derived.Test.YtncbgejggfkdmabG21
namespace Go.Proofs.Ytncbgejggfkdmab
open Go.RowKit Go.PlainAid

/-- What is left in the end, and the messages. -/
structure Ran where
  next : List Int
  ps : List Part
  ms : List Msg
/-- The first part of a message. -/
def headD (ps : List Part) (ch : List Nat) : Part := pAt ps (ch.getD 0 0)
def runF : Nat → List Int → List Part → Ran
  | 0, next, ps => ⟨next, ps, []⟩
  | f + 1, next, ps =>
    if findP next ps = [] then ⟨next, ps, []⟩
    else
      let r := runF f (nextP next (headD ps (findP next ps))) (restP ps (findP next ps))
      ⟨r.next, r.ps, msgP ps (findP next ps) :: r.ms⟩
def runP (next : List Int) (ps : List Part) : Ran := runF ps.length next ps
theorem find_none_nil (next : List Int) : findP next [] = [] := rfl
/-- What is found is a complete message that is due. -/
theorem find_is {next : List Int} {ps : List Part} (ha : AsmOk next ps) (h : findP next ps ≠ []) : ∃ k, k < ps.length ∧ dueP next (pAt ps k) = true ∧ Chn ps k (findP next ps) := by
  obtain ⟨k, _, h2, h3, h4, h5⟩ := findFrom_some ps.length 0 h
  have hk : k < ps.length := by omega
  refine ⟨k, hk, h3, ?_⟩
  show Chn ps k (findFrom next ps 0 ps.length)
  rw [h5]
  exact chain_is hk ⟨(ha.ok _ (pAt_mem hk)).1.1.1, by have := (ha.ok _ (pAt_mem hk)).1.1.2; omega⟩ h4
theorem find_head {next : List Int} {ps : List Part} (ha : AsmOk next ps) (h : findP next ps ≠ []) : dueP next (headD ps (findP next ps)) = true := by
  obtain ⟨k, _, h2, h3⟩ := find_is ha h
  unfold headD
  rw [h3.head]
  exact h2
theorem find_shorter {next : List Int} {ps : List Part} (ha : AsmOk next ps) (h : findP next ps ≠ []) : (restP ps (findP next ps)).length < ps.length := by
  obtain ⟨k, _, _, h3⟩ := find_is ha h
  exact h3.fewer
theorem find_ok {next : List Int} {ps : List Part} (ha : AsmOk next ps) (h : findP next ps ≠ []) : AsmOk (nextP next (headD ps (findP next ps))) (restP ps (findP next ps)) := by
  obtain ⟨k, _, _, h3⟩ := find_is ha h
  exact ha.rest h3 (nextP_length _ _) (nextP_ser ha.nums)
theorem runF_more {next : List Int} {ps : List Part} (ha : AsmOk next ps) : ∀ f g, ps.length ≤ f → ps.length ≤ g → runF f next ps = runF g next ps := by
  intro f
  induction f generalizing next ps with
  | zero =>
    intro g h1 _
    obtain rfl : ps = [] := List.eq_nil_of_length_eq_zero (by omega)
    cases g with
    | zero => rfl
    | succ g =>
      show _ = if findP next [] = [] then (⟨next, [], []⟩ : Ran) else _
      rw [if_pos (find_none_nil next)]
      rfl
  | succ f ih =>
    intro g h1 h2
    cases g with
    | zero =>
      obtain rfl : ps = [] := List.eq_nil_of_length_eq_zero (by omega)
      show (if findP next [] = [] then (⟨next, [], []⟩ : Ran) else _) = _
      rw [if_pos (find_none_nil next)]
      rfl
    | succ g =>
      unfold runF
      by_cases hf : findP next ps = []
      · rw [if_pos hf, if_pos hf]
      · rw [if_neg hf, if_neg hf]
        have hs := find_shorter ha hf
        have := ih (find_ok ha hf) g (by omega) (by omega)
        simp only [this]
theorem run_stop {next : List Int} {ps : List Part} (h : findP next ps = []) : runP next ps = ⟨next, ps, []⟩ := by
  unfold runP
  cases hl : ps.length with
  | zero => rfl
  | succ f =>
    unfold runF
    rw [if_pos h]
theorem run_step {next : List Int} {ps : List Part} (ha : AsmOk next ps) (h : findP next ps ≠ []) :
    runP next ps = ⟨(runP (nextP next (headD ps (findP next ps))) (restP ps (findP next ps))).next, (runP (nextP next (headD ps (findP next ps))) (restP ps (findP next ps))).ps, msgP ps (findP next ps) :: (runP (nextP next (headD ps (findP next ps))) (restP ps (findP next ps))).ms⟩ := by
  have hs := find_shorter ha h
  have e : runP next ps = runF (ps.length - 1 + 1) next ps := by
    unfold runP
    exact runF_more ha _ _ (Nat.le_refl _) (by omega)
  rw [e]
  unfold runF
  rw [if_neg h]
  have := runF_more (find_ok ha h) (ps.length - 1) (restP ps (findP next ps)).length (by omega) (Nat.le_refl _)
  simp only [this]
  rfl
/-- A property that every step keeps holds in the end. -/
theorem run_ind {C : List Int → List Part → Ran → Prop} (h0 : ∀ next ps, AsmOk next ps → findP next ps = [] → C next ps ⟨next, ps, []⟩)
    (h1 : ∀ next ps r, AsmOk next ps → findP next ps ≠ [] → C (nextP next (headD ps (findP next ps))) (restP ps (findP next ps)) r → C next ps ⟨r.next, r.ps, msgP ps (findP next ps) :: r.ms⟩) :
    ∀ {next : List Int} {ps : List Part}, AsmOk next ps → C next ps (runP next ps) := by
  have : ∀ n (next : List Int) (ps : List Part), ps.length ≤ n → AsmOk next ps → C next ps (runP next ps) := by
    intro n
    induction n with
    | zero =>
      intro next ps hl ha
      obtain rfl : ps = [] := List.eq_nil_of_length_eq_zero (by omega)
      rw [run_stop (find_none_nil next)]
      exact h0 _ _ ha (find_none_nil next)
    | succ n ih =>
      intro next ps hl ha
      by_cases hf : findP next ps = []
      · rw [run_stop hf]
        exact h0 _ _ ha hf
      · rw [run_step ha hf]
        have hs := find_shorter ha hf
        exact h1 _ _ _ ha hf (ih _ _ (by omega) (find_ok ha hf))
  intro next ps ha
  exact this _ _ _ (Nat.le_refl _) ha
theorem run_ok {next : List Int} {ps : List Part} (ha : AsmOk next ps) : AsmOk (runP next ps).next (runP next ps).ps :=
  run_ind (C := fun _ _ r => AsmOk r.next r.ps) (fun _ _ h _ => h) (fun _ _ _ _ _ h => h) ha
theorem run_length {next : List Int} {ps : List Part} (ha : AsmOk next ps) : (runP next ps).next.length = next.length :=
  run_ind (C := fun n _ r => r.next.length = n.length) (fun _ _ _ _ => rfl) (fun _ _ _ _ _ h => h.trans (nextP_length _ _)) ha
theorem sumM_cons (m : Msg) (ms : List Msg) : sumM (m :: ms) = m.text.size + sumM ms := rfl
/-- No byte is lost. -/
theorem run_bytes {next : List Int} {ps : List Part} (ha : AsmOk next ps) : sumB (runP next ps).ps + sumM (runP next ps).ms = sumB ps :=
  run_ind (C := fun _ ps r => sumB r.ps + sumM r.ms = sumB ps) (fun _ _ _ _ => rfl) (fun next ps r ha hf h => by
    obtain ⟨k, _, _, h3⟩ := find_is ha hf
    have := h3.bytes
    show sumB r.ps + sumM (msgP ps (findP next ps) :: r.ms) = sumB ps
    rw [sumM_cons]
    show sumB r.ps + ((textP ps (findP next ps)).size + sumM r.ms) = sumB ps
    omega) ha
/-- Without a message, nothing has changed. -/
theorem run_quiet {next : List Int} {ps : List Part} (ha : AsmOk next ps) (h : (runP next ps).ms = []) : (runP next ps).next = next ∧ (runP next ps).ps = ps := by
  by_cases hf : findP next ps = []
  · rw [run_stop hf]
    exact ⟨rfl, rfl⟩
  · rw [run_step ha hf] at h
    cases h
/-- The ordered messages of a stream. -/
def ofS (ms : List Msg) (s : Int) : List Msg := ms.filter fun m => m.stream == s && !m.loose
theorem ofS_cons_yes {m : Msg} {s : Int} (ms : List Msg) (h : m.stream = s) (hl : m.loose = false) : ofS (m :: ms) s = m :: ofS ms s := by
  unfold ofS
  rw [List.filter_cons_of_pos (by simp [h, hl])]
theorem ofS_cons_no {m : Msg} {s : Int} (ms : List Msg) (h : m.stream ≠ s ∨ m.loose = true) : ofS (m :: ms) s = ofS ms s := by
  unfold ofS
  rw [List.filter_cons_of_neg (by simp; intro h2; cases h with | inl h => exact absurd h2 h | inr h => exact h)]
theorem ofS_append (a b : List Msg) (s : Int) : ofS (a ++ b) s = ofS a s ++ ofS b s := by
  unfold ofS
  exact List.filter_append ..
theorem addS_addS {t : Int} {a b : Nat} : addS (addS t a) b = addS t ((a + b : Nat) : Int) := by
  unfold addS
  omega
/-- The numbers of the ordered messages follow each other, and the next number has moved on by as many. -/
theorem run_order {next : List Int} {ps : List Part} (ha : AsmOk next ps) (s : Nat) (hs : s < next.length) :
    (ofS (runP next ps).ms s).length ≤ ps.length ∧ (runP next ps).next.getD s 0 = addS (next.getD s 0) ((ofS (runP next ps).ms s).length : Int) ∧
      ∀ i, i < (ofS (runP next ps).ms s).length → ((ofS (runP next ps).ms s).map fun m => m.ssn).getD i 0 = addS (next.getD s 0) (i : Int) := by
  refine run_ind (C := fun next ps r => s < next.length → (ofS r.ms s).length ≤ ps.length ∧ r.next.getD s 0 = addS (next.getD s 0) ((ofS r.ms s).length : Int) ∧
      ∀ i, i < (ofS r.ms s).length → ((ofS r.ms s).map fun m => m.ssn).getD i 0 = addS (next.getD s 0) (i : Int)) ?_ ?_ ha hs
  · intro next ps ha _ hs
    refine ⟨Nat.zero_le _, ?_, fun i hi => absurd hi (Nat.not_lt_zero _)⟩
    have : Ser (next.getD s 0) := ha.nums _ (by rw [List.getD_eq_getElem?_getD, List.getElem?_eq_getElem hs]; exact List.getElem_mem _)
    show next.getD s 0 = addS (next.getD s 0) 0
    unfold Ser at this
    unfold addS
    omega
  · intro next ps r ha hf h hs
    obtain ⟨k, hk, hd, h3⟩ := find_is ha hf
    have hlt := h3.fewer
    have few := ha.few
    have hd' := find_head ha hf
    have hok := (ha.ok _ (pAt_mem hk))
    have hD : headD ps (findP next ps) = pAt ps k := by unfold headD; rw [h3.head]
    obtain ⟨g1, g2, g3⟩ := h (by rw [nextP_length]; exact hs)
    rw [hD] at g2 g3 hd'
    have hst : (msgP ps (findP next ps)).stream = (pAt ps k).stream := by unfold msgP; rw [h3.head]
    have hlo : (msgP ps (findP next ps)).loose = (pAt ps k).loose := by unfold msgP; rw [h3.head]
    have hsn : (msgP ps (findP next ps)).ssn = (pAt ps k).ssn := by unfold msgP; rw [h3.head]
    have h0 : 0 ≤ (pAt ps k).stream := hok.1.2.1.1
    by_cases hc : (pAt ps k).stream = s ∧ (pAt ps k).loose = false
    · have e := ofS_cons_yes r.ms (hst.trans hc.1) (hlo.trans hc.2)
      have hsn2 : (pAt ps k).ssn = next.getD s 0 := by
        unfold dueP at hd'
        simp only [hc.2, Bool.false_or, Bool.and_eq_true, beq_iff_eq] at hd'
        rw [hd'.2, hc.1]
        rfl
      have hn : (nextP next (pAt ps k)).getD s 0 = addS (next.getD s 0) 1 := by
        unfold nextP
        rw [if_neg (by simp [hc.2]), hsn2, hc.1]
        show (next.set s _).getD s 0 = _
        rw [List.getD_eq_getElem?_getD, List.getElem?_set_self hs]
        rfl
      rw [hn] at g2 g3
      refine ⟨?_, ?_, ?_⟩
      · show (ofS (msgP ps (findP next ps) :: r.ms) s).length ≤ _
        rw [e, List.length_cons]
        omega
      · show r.next.getD s 0 = addS _ ((ofS (msgP ps (findP next ps) :: r.ms) s).length : Int)
        rw [e, g2, List.length_cons]
        have := addS_addS (t := next.getD s 0) (a := 1) (b := (ofS r.ms s).length)
        rw [show ((ofS r.ms s).length + 1 : Nat) = 1 + (ofS r.ms s).length from by omega]
        exact this
      · show ∀ i, i < (ofS (msgP ps (findP next ps) :: r.ms) s).length → ((ofS (msgP ps (findP next ps) :: r.ms) s).map fun m => m.ssn).getD i 0 = _
        rw [e]
        intro i hi
        cases i with
        | zero =>
          show (msgP ps (findP next ps)).ssn = addS _ 0
          rw [hsn, hsn2]
          have : Ser (next.getD s 0) := ha.nums _ (by rw [List.getD_eq_getElem?_getD, List.getElem?_eq_getElem hs]; exact List.getElem_mem _)
          unfold Ser at this
          unfold addS
          omega
        | succ i =>
          rw [List.length_cons] at hi
          have := g3 i (by omega)
          show ((ofS r.ms s).map fun m => m.ssn).getD i 0 = _
          rw [this]
          have := addS_addS (t := next.getD s 0) (a := 1) (b := i)
          rw [show (i + 1 : Nat) = 1 + i from by omega]
          exact this
    · have hor : (pAt ps k).stream ≠ s ∨ (pAt ps k).loose = true := by
        by_cases h1 : (pAt ps k).stream = s
        · exact Or.inr (by have := mt (And.intro h1) hc; simpa using this)
        · exact Or.inl h1
      have e := ofS_cons_no (m := msgP ps (findP next ps)) (s := (s : Int)) r.ms (by rw [hst, hlo]; exact hor)
      have hn : (nextP next (pAt ps k)).getD s 0 = next.getD s 0 := by
        unfold nextP
        split
        · rfl
        · rename_i hl
          have hne : (pAt ps k).stream.toNat ≠ s := fun h1 => hc ⟨by omega, by simpa using hl⟩
          rw [List.getD_eq_getElem?_getD, List.getElem?_set_ne hne, ← List.getD_eq_getElem?_getD]
      rw [hn] at g2 g3
      refine ⟨?_, ?_, ?_⟩
      · show (ofS (msgP ps (findP next ps) :: r.ms) s).length ≤ _
        rw [e]
        omega
      · show r.next.getD s 0 = addS _ ((ofS (msgP ps (findP next ps) :: r.ms) s).length : Int)
        rw [e]
        exact g2
      · show ∀ i, i < (ofS (msgP ps (findP next ps) :: r.ms) s).length → ((ofS (msgP ps (findP next ps) :: r.ms) s).map fun m => m.ssn).getD i 0 = _
        rw [e]
        exact g3

end Go.Proofs.Ytncbgejggfkdmab
