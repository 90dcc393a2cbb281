/- Texts that a proof needs, merged: G22, G23, G24, G25, G30, K190, K10, K4b, K19, K20v, K23, G12, G17, K40. -/
import Derived.Test.YtncbgejggfkdmaaM1
import Derived.Deep.RegionHeldLaw
import Derived.Deep.QuietTactic
import Derived.BigQuiet
import Derived.IntWalk
import Derived.Deep.DeepCutAuto
import Derived.Handy
import Derived.Laws.AppendOwn
import Derived.Deep.AppendLies

/- Assemblies, plain: messages are taken out as long as one is due. -/
namespace Go.Proofs.Ytncbgejggfkdmaa
open Go.RowKit Go.PlainAid

/-- What is left in the end, and the messages. -/
structure Ran where
  next : List Int
  ps : List Part
  ms : List Msg
/-- The first part of a message. -/
def headD (ps : List Part) (ch : List Nat) : Part := pAt ps (ch.getD 0 0)
def runF : Nat → List Int → List Part → Ran
  | 0, next, ps => ⟨next, ps, []⟩
  | f + 1, next, ps =>
    if findP next ps = [] then ⟨next, ps, []⟩
    else
      let r := runF f (nextP next (headD ps (findP next ps))) (restP ps (findP next ps))
      ⟨r.next, r.ps, msgP ps (findP next ps) :: r.ms⟩
def runP (next : List Int) (ps : List Part) : Ran := runF ps.length next ps
theorem find_none_nil (next : List Int) : findP next [] = [] := rfl
/-- What is found is a complete message that is due. -/
theorem find_is {next : List Int} {ps : List Part} (ha : AsmOk next ps) (h : findP next ps ≠ []) : ∃ k, k < ps.length ∧ dueP next (pAt ps k) = true ∧ Chn ps k (findP next ps) := by
  obtain ⟨k, _, h2, h3, h4, h5⟩ := findFrom_some ps.length 0 h
  have hk : k < ps.length := by omega
  refine ⟨k, hk, h3, ?_⟩
  show Chn ps k (findFrom next ps 0 ps.length)
  rw [h5]
  exact chain_is hk ⟨(ha.ok _ (pAt_mem hk)).1.1.1, by have := (ha.ok _ (pAt_mem hk)).1.1.2; omega⟩ h4
theorem find_head {next : List Int} {ps : List Part} (ha : AsmOk next ps) (h : findP next ps ≠ []) : dueP next (headD ps (findP next ps)) = true := by
  obtain ⟨k, _, h2, h3⟩ := find_is ha h
  unfold headD
  rw [h3.head]
  exact h2
theorem find_shorter {next : List Int} {ps : List Part} (ha : AsmOk next ps) (h : findP next ps ≠ []) : (restP ps (findP next ps)).length < ps.length := by
  obtain ⟨k, _, _, h3⟩ := find_is ha h
  exact h3.fewer
theorem find_ok {next : List Int} {ps : List Part} (ha : AsmOk next ps) (h : findP next ps ≠ []) : AsmOk (nextP next (headD ps (findP next ps))) (restP ps (findP next ps)) := by
  obtain ⟨k, _, _, h3⟩ := find_is ha h
  exact ha.rest h3 (nextP_length _ _) (nextP_ser ha.nums)
theorem runF_more {next : List Int} {ps : List Part} (ha : AsmOk next ps) : ∀ f g, ps.length ≤ f → ps.length ≤ g → runF f next ps = runF g next ps := by
  intro f
  induction f generalizing next ps with
  | zero =>
    intro g h1 _
    obtain rfl : ps = [] := List.eq_nil_of_length_eq_zero (by omega)
    cases g with
    | zero => rfl
    | succ g =>
      show _ = if findP next [] = [] then (⟨next, [], []⟩ : Ran) else _
      rw [if_pos (find_none_nil next)]
      rfl
  | succ f ih =>
    intro g h1 h2
    cases g with
    | zero =>
      obtain rfl : ps = [] := List.eq_nil_of_length_eq_zero (by omega)
      show (if findP next [] = [] then (⟨next, [], []⟩ : Ran) else _) = _
      rw [if_pos (find_none_nil next)]
      rfl
    | succ g =>
      unfold runF
      by_cases hf : findP next ps = []
      · rw [if_pos hf, if_pos hf]
      · rw [if_neg hf, if_neg hf]
        have hs := find_shorter ha hf
        have := ih (find_ok ha hf) g (by omega) (by omega)
        simp only [this]
theorem run_stop {next : List Int} {ps : List Part} (h : findP next ps = []) : runP next ps = ⟨next, ps, []⟩ := by
  unfold runP
  cases hl : ps.length with
  | zero => rfl
  | succ f =>
    unfold runF
    rw [if_pos h]
theorem run_step {next : List Int} {ps : List Part} (ha : AsmOk next ps) (h : findP next ps ≠ []) :
    runP next ps = ⟨(runP (nextP next (headD ps (findP next ps))) (restP ps (findP next ps))).next, (runP (nextP next (headD ps (findP next ps))) (restP ps (findP next ps))).ps, msgP ps (findP next ps) :: (runP (nextP next (headD ps (findP next ps))) (restP ps (findP next ps))).ms⟩ := by
  have hs := find_shorter ha h
  have e : runP next ps = runF (ps.length - 1 + 1) next ps := by
    unfold runP
    exact runF_more ha _ _ (Nat.le_refl _) (by omega)
  rw [e]
  unfold runF
  rw [if_neg h]
  have := runF_more (find_ok ha h) (ps.length - 1) (restP ps (findP next ps)).length (by omega) (Nat.le_refl _)
  simp only [this]
  rfl
/-- A property that every step keeps holds in the end. -/
theorem run_ind {C : List Int → List Part → Ran → Prop} (h0 : ∀ next ps, AsmOk next ps → findP next ps = [] → C next ps ⟨next, ps, []⟩)
    (h1 : ∀ next ps r, AsmOk next ps → findP next ps ≠ [] → C (nextP next (headD ps (findP next ps))) (restP ps (findP next ps)) r → C next ps ⟨r.next, r.ps, msgP ps (findP next ps) :: r.ms⟩) :
    ∀ {next : List Int} {ps : List Part}, AsmOk next ps → C next ps (runP next ps) := by
  have : ∀ n (next : List Int) (ps : List Part), ps.length ≤ n → AsmOk next ps → C next ps (runP next ps) := by
    intro n
    induction n with
    | zero =>
      intro next ps hl ha
      obtain rfl : ps = [] := List.eq_nil_of_length_eq_zero (by omega)
      rw [run_stop (find_none_nil next)]
      exact h0 _ _ ha (find_none_nil next)
    | succ n ih =>
      intro next ps hl ha
      by_cases hf : findP next ps = []
      · rw [run_stop hf]
        exact h0 _ _ ha hf
      · rw [run_step ha hf]
        have hs := find_shorter ha hf
        exact h1 _ _ _ ha hf (ih _ _ (by omega) (find_ok ha hf))
  intro next ps ha
  exact this _ _ _ (Nat.le_refl _) ha
theorem run_ok {next : List Int} {ps : List Part} (ha : AsmOk next ps) : AsmOk (runP next ps).next (runP next ps).ps :=
  run_ind (C := fun _ _ r => AsmOk r.next r.ps) (fun _ _ h _ => h) (fun _ _ _ _ _ h => h) ha
theorem run_length {next : List Int} {ps : List Part} (ha : AsmOk next ps) : (runP next ps).next.length = next.length :=
  run_ind (C := fun n _ r => r.next.length = n.length) (fun _ _ _ _ => rfl) (fun _ _ _ _ _ h => h.trans (nextP_length _ _)) ha
theorem sumM_cons (m : Msg) (ms : List Msg) : sumM (m :: ms) = m.text.size + sumM ms := rfl
/-- No byte is lost. -/
theorem run_bytes {next : List Int} {ps : List Part} (ha : AsmOk next ps) : sumB (runP next ps).ps + sumM (runP next ps).ms = sumB ps :=
  run_ind (C := fun _ ps r => sumB r.ps + sumM r.ms = sumB ps) (fun _ _ _ _ => rfl) (fun next ps r ha hf h => by
    obtain ⟨k, _, _, h3⟩ := find_is ha hf
    have := h3.bytes
    show sumB r.ps + sumM (msgP ps (findP next ps) :: r.ms) = sumB ps
    rw [sumM_cons]
    show sumB r.ps + ((textP ps (findP next ps)).size + sumM r.ms) = sumB ps
    omega) ha
/-- Without a message, nothing has changed. -/
theorem run_quiet {next : List Int} {ps : List Part} (ha : AsmOk next ps) (h : (runP next ps).ms = []) : (runP next ps).next = next ∧ (runP next ps).ps = ps := by
  by_cases hf : findP next ps = []
  · rw [run_stop hf]
    exact ⟨rfl, rfl⟩
  · rw [run_step ha hf] at h
    cases h
/-- The ordered messages of a stream. -/
def ofS (ms : List Msg) (s : Int) : List Msg := ms.filter fun m => m.stream == s && !m.loose
theorem ofS_cons_yes {m : Msg} {s : Int} (ms : List Msg) (h : m.stream = s) (hl : m.loose = false) : ofS (m :: ms) s = m :: ofS ms s := by
  unfold ofS
  rw [List.filter_cons_of_pos (by simp [h, hl])]
theorem ofS_cons_no {m : Msg} {s : Int} (ms : List Msg) (h : m.stream ≠ s ∨ m.loose = true) : ofS (m :: ms) s = ofS ms s := by
  unfold ofS
  rw [List.filter_cons_of_neg (by simp; intro h2; cases h with | inl h => exact absurd h2 h | inr h => exact h)]
theorem ofS_append (a b : List Msg) (s : Int) : ofS (a ++ b) s = ofS a s ++ ofS b s := by
  unfold ofS
  exact List.filter_append ..
theorem addS_addS {t : Int} {a b : Nat} : addS (addS t a) b = addS t ((a + b : Nat) : Int) := by
  unfold addS
  omega
/-- The numbers of the ordered messages follow each other, and the next number has moved on by as many. -/
theorem run_order {next : List Int} {ps : List Part} (ha : AsmOk next ps) (s : Nat) (hs : s < next.length) :
    (ofS (runP next ps).ms s).length ≤ ps.length ∧ (runP next ps).next.getD s 0 = addS (next.getD s 0) ((ofS (runP next ps).ms s).length : Int) ∧
      ∀ i, i < (ofS (runP next ps).ms s).length → ((ofS (runP next ps).ms s).map fun m => m.ssn).getD i 0 = addS (next.getD s 0) (i : Int) := by
  refine run_ind (C := fun next ps r => s < next.length → (ofS r.ms s).length ≤ ps.length ∧ r.next.getD s 0 = addS (next.getD s 0) ((ofS r.ms s).length : Int) ∧
      ∀ i, i < (ofS r.ms s).length → ((ofS r.ms s).map fun m => m.ssn).getD i 0 = addS (next.getD s 0) (i : Int)) ?_ ?_ ha hs
  · intro next ps ha _ hs
    refine ⟨Nat.zero_le _, ?_, fun i hi => absurd hi (Nat.not_lt_zero _)⟩
    have : Ser (next.getD s 0) := ha.nums _ (by rw [List.getD_eq_getElem?_getD, List.getElem?_eq_getElem hs]; exact List.getElem_mem _)
    show next.getD s 0 = addS (next.getD s 0) 0
    unfold Ser at this
    unfold addS
    omega
  · intro next ps r ha hf h hs
    obtain ⟨k, hk, hd, h3⟩ := find_is ha hf
    have hlt := h3.fewer
    have few := ha.few
    have hd' := find_head ha hf
    have hok := (ha.ok _ (pAt_mem hk))
    have hD : headD ps (findP next ps) = pAt ps k := by unfold headD; rw [h3.head]
    obtain ⟨g1, g2, g3⟩ := h (by rw [nextP_length]; exact hs)
    rw [hD] at g2 g3 hd'
    have hst : (msgP ps (findP next ps)).stream = (pAt ps k).stream := by unfold msgP; rw [h3.head]
    have hlo : (msgP ps (findP next ps)).loose = (pAt ps k).loose := by unfold msgP; rw [h3.head]
    have hsn : (msgP ps (findP next ps)).ssn = (pAt ps k).ssn := by unfold msgP; rw [h3.head]
    have h0 : 0 ≤ (pAt ps k).stream := hok.1.2.1.1
    by_cases hc : (pAt ps k).stream = s ∧ (pAt ps k).loose = false
    · have e := ofS_cons_yes r.ms (hst.trans hc.1) (hlo.trans hc.2)
      have hsn2 : (pAt ps k).ssn = next.getD s 0 := by
        unfold dueP at hd'
        simp only [hc.2, Bool.false_or, Bool.and_eq_true, beq_iff_eq] at hd'
        rw [hd'.2, hc.1]
        rfl
      have hn : (nextP next (pAt ps k)).getD s 0 = addS (next.getD s 0) 1 := by
        unfold nextP
        rw [if_neg (by simp [hc.2]), hsn2, hc.1]
        show (next.set s _).getD s 0 = _
        rw [List.getD_eq_getElem?_getD, List.getElem?_set_self hs]
        rfl
      rw [hn] at g2 g3
      refine ⟨?_, ?_, ?_⟩
      · show (ofS (msgP ps (findP next ps) :: r.ms) s).length ≤ _
        rw [e, List.length_cons]
        omega
      · show r.next.getD s 0 = addS _ ((ofS (msgP ps (findP next ps) :: r.ms) s).length : Int)
        rw [e, g2, List.length_cons]
        have := addS_addS (t := next.getD s 0) (a := 1) (b := (ofS r.ms s).length)
        rw [show ((ofS r.ms s).length + 1 : Nat) = 1 + (ofS r.ms s).length from by omega]
        exact this
      · show ∀ i, i < (ofS (msgP ps (findP next ps) :: r.ms) s).length → ((ofS (msgP ps (findP next ps) :: r.ms) s).map fun m => m.ssn).getD i 0 = _
        rw [e]
        intro i hi
        cases i with
        | zero =>
          show (msgP ps (findP next ps)).ssn = addS _ 0
          rw [hsn, hsn2]
          have : Ser (next.getD s 0) := ha.nums _ (by rw [List.getD_eq_getElem?_getD, List.getElem?_eq_getElem hs]; exact List.getElem_mem _)
          unfold Ser at this
          unfold addS
          omega
        | succ i =>
          rw [List.length_cons] at hi
          have := g3 i (by omega)
          show ((ofS r.ms s).map fun m => m.ssn).getD i 0 = _
          rw [this]
          have := addS_addS (t := next.getD s 0) (a := 1) (b := i)
          rw [show (i + 1 : Nat) = 1 + i from by omega]
          exact this
    · have hor : (pAt ps k).stream ≠ s ∨ (pAt ps k).loose = true := by
        by_cases h1 : (pAt ps k).stream = s
        · exact Or.inr (by have := mt (And.intro h1) hc; simpa using this)
        · exact Or.inl h1
      have e := ofS_cons_no (m := msgP ps (findP next ps)) (s := (s : Int)) r.ms (by rw [hst, hlo]; exact hor)
      have hn : (nextP next (pAt ps k)).getD s 0 = next.getD s 0 := by
        unfold nextP
        split
        · rfl
        · rename_i hl
          have hne : (pAt ps k).stream.toNat ≠ s := fun h1 => hc ⟨by omega, by simpa using hl⟩
          rw [List.getD_eq_getElem?_getD, List.getElem?_set_ne hne, ← List.getD_eq_getElem?_getD]
      rw [hn] at g2 g3
      refine ⟨?_, ?_, ?_⟩
      · show (ofS (msgP ps (findP next ps) :: r.ms) s).length ≤ _
        rw [e]
        omega
      · show r.next.getD s 0 = addS _ ((ofS (msgP ps (findP next ps) :: r.ms) s).length : Int)
        rw [e]
        exact g2
      · show ∀ i, i < (ofS (msgP ps (findP next ps) :: r.ms) s).length → ((ofS (msgP ps (findP next ps) :: r.ms) s).map fun m => m.ssn).getD i 0 = _
        rw [e]
        exact g3

end Go.Proofs.Ytncbgejggfkdmaa

/- Assemblies, plain: a part is taken, and a list of parts. -/
namespace Go.Proofs.Ytncbgejggfkdmaa
open Go.RowKit Go.PlainAid

/-- A part may be put to an assembly of some streams. -/
def PartOk (n : Nat) (d : Part) : Prop := DataOk d.tsn d.stream d.ssn d.text ∧ d.stream < n
instance (n : Nat) (d : Part) : Decidable (PartOk n d) := by unfold PartOk DataOk; infer_instance
/-- A part with a number waits. -/
def hasT (ps : List Part) (t : Int) : Bool := ps.any fun p => p.tsn == t
theorem hasT_no {ps : List Part} {t : Int} (h : hasT ps t = false) : ∀ p ∈ ps, p.tsn ≠ t := by
  intro p hp e
  unfold hasT at h
  rw [List.any_eq_false] at h
  exact h p hp (by simp [e])
theorem hasT_yes {ps : List Part} {p : Part} (h : p ∈ ps) : hasT ps p.tsn = true := by
  unfold hasT
  rw [List.any_eq_true]
  exact ⟨p, h, by simp⟩
theorem AsmOk.push {next : List Int} {ps : List Part} {d : Part} (ha : AsmOk next ps) (hd : PartOk next.length d) (ht : hasT ps d.tsn = false) (hf : ps.length < 12) : AsmOk next (ps ++ [d]) where
  n1 := ha.n1
  n4 := ha.n4
  nums := ha.nums
  few := by rw [List.length_append]; simp; omega
  ok := fun p hp => by
    rcases List.mem_append.1 hp with hp | hp
    · exact ha.ok p hp
    · rw [List.mem_singleton.1 hp]
      exact hd
  diff := by
    rw [List.map_append, List.nodup_append]
    refine ⟨ha.diff, by simp, ?_⟩
    intro a h1 b h2 e
    obtain ⟨p, hp, rfl⟩ := List.mem_map.1 h1
    have h2' : b = d.tsn := by simpa using h2
    exact hasT_no ht p hp (e.trans h2')
/-- What a part does: a code, and what is then. -/
def addC (ps : List Part) (d : Part) : Int := if hasT ps d.tsn then 1 else if 12 ≤ ps.length then 2 else 0
def addR (next : List Int) (ps : List Part) (d : Part) : Ran := if hasT ps d.tsn then ⟨next, ps, []⟩ else if 12 ≤ ps.length then ⟨next, ps, []⟩ else runP next (ps ++ [d])
theorem addC_done {ps : List Part} {d : Part} (h : addC ps d = 0) : hasT ps d.tsn = false ∧ ps.length < 12 := by
  unfold addC at h
  split at h
  · cases h
  · rename_i h1
    split at h
    · cases h
    · exact ⟨by simpa using h1, by omega⟩
theorem addR_done {next : List Int} {ps : List Part} {d : Part} (h : addC ps d = 0) : addR next ps d = runP next (ps ++ [d]) := by
  obtain ⟨h1, h2⟩ := addC_done h
  unfold addR
  rw [if_neg (by simp [h1]), if_neg (by omega)]
theorem addR_not {next : List Int} {ps : List Part} {d : Part} (h : addC ps d ≠ 0) : addR next ps d = ⟨next, ps, []⟩ := by
  unfold addC at h
  unfold addR
  split
  · rfl
  · rename_i h1
    rw [if_neg h1] at h
    split
    · rfl
    · rename_i h2
      rw [if_neg h2] at h
      exact absurd rfl h
theorem addR_ok {next : List Int} {ps : List Part} {d : Part} (ha : AsmOk next ps) (hd : PartOk next.length d) : AsmOk (addR next ps d).next (addR next ps d).ps ∧ (addR next ps d).next.length = next.length := by
  by_cases h : addC ps d = 0
  · rw [addR_done h]
    have hp := ha.push hd (addC_done h).1 (addC_done h).2
    exact ⟨run_ok hp, run_length hp⟩
  · rw [addR_not h]
    exact ⟨ha, rfl⟩
/-- A part that was taken waits, or messages are told. -/
theorem add_waits {next : List Int} {ps : List Part} {d : Part} (ha : AsmOk next ps) (hd : PartOk next.length d) (h : addC ps d = 0) (hm : (addR next ps d).ms = []) : (addR next ps d).next = next ∧ (addR next ps d).ps = ps ++ [d] := by
  rw [addR_done h] at hm ⊢
  exact run_quiet (ha.push hd (addC_done h).1 (addC_done h).2) hm
theorem add_bytes {next : List Int} {ps : List Part} {d : Part} (ha : AsmOk next ps) (hd : PartOk next.length d) (h : addC ps d = 0) : sumB (addR next ps d).ps + sumM (addR next ps d).ms = sumB ps + d.text.size := by
  rw [addR_done h, run_bytes (ha.push hd (addC_done h).1 (addC_done h).2), sumB_append]
  unfold sumB
  simp
/-- A list of parts: what is then. -/
def goP (n : Nat) : List Part → List Int → List Part → Ran
  | [], next, ps => ⟨next, ps, []⟩
  | d :: ds, next, ps =>
    if PartOk n d then
      let r := goP n ds (addR next ps d).next (addR next ps d).ps
      ⟨r.next, r.ps, (addR next ps d).ms ++ r.ms⟩
    else goP n ds next ps
/-- The messages of a list of parts. -/
def runL (n : Nat) (ds : List Part) : List Msg := (goP n ds (List.replicate n 0) []).ms
theorem goP_yes {n : Nat} {d : Part} (h : PartOk n d) (ds : List Part) (next : List Int) (ps : List Part) : goP n (d :: ds) next ps = ⟨(goP n ds (addR next ps d).next (addR next ps d).ps).next, (goP n ds (addR next ps d).next (addR next ps d).ps).ps, (addR next ps d).ms ++ (goP n ds (addR next ps d).next (addR next ps d).ps).ms⟩ := by
  show (if PartOk n d then _ else _) = _
  rw [if_pos h]
theorem goP_no {n : Nat} {d : Part} (h : ¬ PartOk n d) (ds : List Part) (next : List Int) (ps : List Part) : goP n (d :: ds) next ps = goP n ds next ps := by
  show (if PartOk n d then _ else _) = _
  rw [if_neg h]
theorem goP_append {n : Nat} (ds es : List Part) : ∀ (next : List Int) (ps : List Part), goP n (ds ++ es) next ps =
    ⟨(goP n es (goP n ds next ps).next (goP n ds next ps).ps).next, (goP n es (goP n ds next ps).next (goP n ds next ps).ps).ps, (goP n ds next ps).ms ++ (goP n es (goP n ds next ps).next (goP n ds next ps).ps).ms⟩ := by
  induction ds with
  | nil => intro next ps; rfl
  | cons d ds ih =>
    intro next ps
    show goP n (d :: (ds ++ es)) next ps = _
    by_cases hd : PartOk n d
    · rw [goP_yes hd, goP_yes hd, ih]
      simp only [List.append_assoc]
    · rw [goP_no hd, goP_no hd, ih]
theorem goP_snoc {n : Nat} (ds : List Part) (d : Part) (next : List Int) (ps : List Part) : goP n (ds ++ [d]) next ps =
    if PartOk n d then ⟨(addR (goP n ds next ps).next (goP n ds next ps).ps d).next, (addR (goP n ds next ps).next (goP n ds next ps).ps d).ps, (goP n ds next ps).ms ++ (addR (goP n ds next ps).next (goP n ds next ps).ps d).ms⟩ else goP n ds next ps := by
  rw [goP_append]
  by_cases hd : PartOk n d
  · rw [goP_yes hd, if_pos hd]
    show (⟨_, _, _ ++ (_ ++ [])⟩ : Ran) = _
    rw [List.append_nil]
    rfl
  · rw [goP_no hd, if_neg hd]
    show (⟨_, _, _ ++ []⟩ : Ran) = _
    rw [List.append_nil]
    rfl
/-- Later parts change no earlier message. -/
theorem runL_part {n : Nat} (ds : List Part) (k : Nat) : ∃ ms, runL n ds = runL n (ds.take k) ++ ms := by
  refine ⟨(goP n (ds.drop k) (goP n (ds.take k) (List.replicate n 0) []).next (goP n (ds.take k) (List.replicate n 0) []).ps).ms, ?_⟩
  have := goP_append (n := n) (ds.take k) (ds.drop k) (List.replicate n 0) []
  rw [List.take_append_drop] at this
  unfold runL
  rw [this]
theorem asm_new {n : Nat} (h1 : 1 ≤ n) (h2 : n ≤ 4) : AsmOk (List.replicate n 0) [] where
  n1 := by rw [List.length_replicate]; exact h1
  n4 := by rw [List.length_replicate]; exact h2
  nums := fun x hx => by rw [(List.mem_replicate.1 hx).2]; exact ⟨by omega, by omega⟩
  few := by simp
  ok := fun p hp => by cases hp
  diff := by simp
theorem go_ok {n : Nat} (ds : List Part) : ∀ {next : List Int} {ps : List Part}, AsmOk next ps → next.length = n → AsmOk (goP n ds next ps).next (goP n ds next ps).ps ∧ (goP n ds next ps).next.length = n := by
  induction ds with
  | nil => intro next ps ha hl; exact ⟨ha, hl⟩
  | cons d ds ih =>
    intro next ps ha hl
    unfold goP
    split
    · rename_i hd
      have h := addR_ok ha (hl ▸ hd)
      exact ih h.1 (h.2.trans hl)
    · exact ih ha hl
/-- The ordered messages of a run: their numbers follow each other, and the next number has moved on by as many. -/
theorem addR_order {next : List Int} {ps : List Part} {d : Part} (ha : AsmOk next ps) (hd : PartOk next.length d) (s : Nat) (hs : s < next.length) :
    (ofS (addR next ps d).ms s).length ≤ 13 ∧ (addR next ps d).next.getD s 0 = addS (next.getD s 0) ((ofS (addR next ps d).ms s).length : Int) ∧
      ∀ i, i < (ofS (addR next ps d).ms s).length → ((ofS (addR next ps d).ms s).map fun m => m.ssn).getD i 0 = addS (next.getD s 0) (i : Int) := by
  by_cases h : addC ps d = 0
  · rw [addR_done h]
    have hp := ha.push hd (addC_done h).1 (addC_done h).2
    obtain ⟨h1, h2, h3⟩ := run_order hp s hs
    exact ⟨Nat.le_trans h1 (Nat.le_trans hp.few (by omega)), h2, h3⟩
  · rw [addR_not h]
    refine ⟨Nat.zero_le _, ?_, fun i hi => absurd hi (Nat.not_lt_zero _)⟩
    have : Ser (next.getD s 0) := ha.nums _ (by rw [List.getD_eq_getElem?_getD, List.getElem?_eq_getElem hs]; exact List.getElem_mem _)
    show next.getD s 0 = addS (next.getD s 0) 0
    unfold Ser at this
    unfold addS
    omega
theorem go_order {n : Nat} (ds : List Part) : ∀ {next : List Int} {ps : List Part}, AsmOk next ps → next.length = n → ∀ s, s < n →
    (ofS (goP n ds next ps).ms s).length ≤ 13 * ds.length ∧ ∀ i, i < (ofS (goP n ds next ps).ms s).length → ((ofS (goP n ds next ps).ms s).map fun m => m.ssn).getD i 0 = addS (next.getD s 0) (i : Int) := by
  induction ds with
  | nil => intro next ps _ _ s _; exact ⟨Nat.zero_le _, fun i hi => absurd hi (Nat.not_lt_zero _)⟩
  | cons d ds ih =>
    intro next ps ha hl s hs
    rw [List.length_cons]
    unfold goP
    split
    · rename_i hd
      have h := addR_ok ha (hl ▸ hd)
      obtain ⟨g1, g2⟩ := ih h.1 (h.2.trans hl) s hs
      obtain ⟨f1, f2, f3⟩ := addR_order ha (hl ▸ hd) s (by omega)
      show (ofS ((addR next ps d).ms ++ _) s).length ≤ _ ∧ ∀ i, i < (ofS ((addR next ps d).ms ++ _) s).length → ((ofS ((addR next ps d).ms ++ _) s).map _).getD i 0 = _
      rw [ofS_append, List.length_append, List.map_append]
      refine ⟨by omega, fun i hi => ?_⟩
      by_cases hc : i < (ofS (addR next ps d).ms s).length
      · rw [List.getD_eq_getElem?_getD, List.getElem?_append_left (by rw [List.length_map]; exact hc), ← List.getD_eq_getElem?_getD]
        exact f3 i hc
      · rw [List.getD_eq_getElem?_getD, List.getElem?_append_right (by rw [List.length_map]; omega), ← List.getD_eq_getElem?_getD, List.length_map]
        rw [g2 _ (by omega), f2, addS_addS]
        congr 1
        omega
    · obtain ⟨g1, g2⟩ := ih ha hl s hs
      exact ⟨by omega, g2⟩
/-- The ordered messages of a stream have the numbers 0, 1 and so on. -/
theorem runL_order {n : Nat} (h1 : 1 ≤ n) (h2 : n ≤ 4) (ds : List Part) (hd : ds.length ≤ 5000) (s i : Nat) (hs : s < n) (hi : i < (ofS (runL n ds) s).length) : ((ofS (runL n ds) s).map fun m => m.ssn).getD i 0 = (i : Int) := by
  obtain ⟨g1, g2⟩ := go_order (n := n) ds (asm_new h1 h2) List.length_replicate s hs
  have h := g2 i hi
  unfold runL at hi ⊢
  rw [h]
  have : (List.replicate n (0 : Int)).getD s 0 = 0 := by
    rw [List.getD_eq_getElem?_getD, List.getElem?_replicate]
    split <;> rfl
  rw [this]
  unfold addS
  omega

end Go.Proofs.Ytncbgejggfkdmaa

/- Assemblies, plain: messages without order; parts that are missing. -/
namespace Go.Proofs.Ytncbgejggfkdmaa
open Go.RowKit Go.PlainAid

theorem mem_at {ps : List Part} {p : Part} (h : p ∈ ps) : ∃ k, k < ps.length ∧ pAt ps k = p := by
  obtain ⟨k, hk, e⟩ := List.getElem_of_mem h
  exact ⟨k, hk, by rw [← pAt_get hk]; exact e⟩
/-- A part that is the first and the last one is a message. -/
theorem chain_one {ps : List Part} {k : Nat} (h : (pAt ps k).last = true) : chainOf ps k = [k] := by
  unfold chainOf chainP
  rw [if_pos h]
/-- A whole message without order is told. -/
theorem loose_told {next : List Int} {ps : List Part} (ha : AsmOk next ps) : ∀ p ∈ ps, p.first = true → p.last = true → p.loose = true → (⟨p.stream, p.ssn, true, p.text⟩ : Msg) ∈ (runP next ps).ms := by
  refine run_ind (C := fun _ ps r => ∀ p ∈ ps, p.first = true → p.last = true → p.loose = true → (⟨p.stream, p.ssn, true, p.text⟩ : Msg) ∈ r.ms) ?_ ?_ ha
  · intro next ps _ hf p hp h1 h2 h3
    obtain ⟨k, hk, rfl⟩ := mem_at hp
    have := findFrom_none ps.length 0 hf k (by omega) (by omega) (by unfold dueP; simp [h1, h3])
    rw [chain_one h2] at this
    cases this
  · intro next ps r ha hf ih p hp h1 h2 h3
    obtain ⟨k, hk, hd, hc⟩ := find_is ha hf
    show _ ∈ msgP ps (findP next ps) :: r.ms
    rcases List.mem_append.1 (hc.perm.mem_iff.2 hp) with hr | hr
    · exact List.mem_cons_of_mem _ (ih p hr h1 h2 h3)
    · obtain ⟨j, hj, rfl⟩ := List.mem_map.1 hr
      obtain ⟨i, hi, rfl⟩ := List.getElem_of_mem hj
      have ei : (findP next ps)[i] = (findP next ps).getD i 0 := by rw [List.getD_eq_getElem?_getD, List.getElem?_eq_getElem hi]; rfl
      rw [ei] at h1 h2 h3 ⊢
      have i0 : i = 0 := by
        by_cases h : 1 ≤ i
        · have := hc.cn.mid i h hi
          rw [h1] at this
          cases this
        · omega
      subst i0
      have hl : (findP next ps).length = 1 := by
        by_cases h : 0 + 1 < (findP next ps).length
        · have := hc.cn.open_ 0 h
          rw [h2] at this
          cases this
        · omega
      refine List.mem_cons.2 (Or.inl ?_)
      have e1 : findP next ps = [(findP next ps).getD 0 0] := by
        obtain ⟨x, hx⟩ := List.length_eq_one_iff.1 hl
        rw [hx]
        rfl
      have et : textP ps (findP next ps) = (pAt ps ((findP next ps).getD 0 0)).text := by
        rw [e1]
        show (pAt ps ((findP next ps).getD 0 0)).text ++ ByteArray.mk #[] = _
        have e : ByteArray.mk #[] = ByteArray.empty := rfl
        rw [e, ByteArray.append_empty]
        rfl
      unfold msgP
      rw [et, h3]
theorem add_loose {next : List Int} {ps : List Part} {d : Part} (ha : AsmOk next ps) (hd : PartOk next.length d) (h : addC ps d = 0) (h1 : d.first = true) (h2 : d.last = true) (h3 : d.loose = true) : (⟨d.stream, d.ssn, true, d.text⟩ : Msg) ∈ (addR next ps d).ms := by
  rw [addR_done h]
  exact loose_told (ha.push hd (addC_done h).1 (addC_done h).2) d (by simp) h1 h2 h3
/-- Parts may be missing. -/
theorem AsmOk.less {next : List Int} {ps qs : List Part} (ha : AsmOk next ps) (h : qs.Sublist ps) : AsmOk next qs where
  n1 := ha.n1
  n4 := ha.n4
  nums := ha.nums
  few := Nat.le_trans h.length_le ha.few
  ok := fun p hp => ha.ok p (h.subset hp)
  diff := (h.map fun p => p.tsn).nodup ha.diff
theorem asm_drop {next : List Int} {ps : List Part} (ha : AsmOk next ps) (k : Nat) : AsmOk next (ps.take k ++ ps.drop (k + 1)) := by
  refine ha.less ?_
  rw [← List.eraseIdx_eq_take_drop_succ]
  exact List.eraseIdx_sublist ..
theorem asm_twice {next : List Int} {ps : List Part} {k : Nat} (hk : k < ps.length) : ¬ AsmOk next (ps.take (k + 1) ++ ps.drop k) := by
  intro h
  have hd := h.diff
  rw [List.map_append, List.nodup_append] at hd
  have h1 : ps[k] ∈ ps.take (k + 1) := by
    rw [List.mem_take_iff_getElem]
    exact ⟨k, by omega, rfl⟩
  have h2 : ps[k] ∈ ps.drop k := by
    rw [List.mem_drop_iff_getElem]
    exact ⟨0, by omega, by simp⟩
  exact hd.2.2 _ (List.mem_map_of_mem h1) _ (List.mem_map_of_mem h2) rfl

end Go.Proofs.Ytncbgejggfkdmaa

/- Assemblies, plain: parts that wait at blocks of their own; a block is taken out. -/
namespace Go.Proofs.Ytncbgejggfkdmaa
open Go.RowKit Go.PlainAid

/-- The parts of a list of blocks and parts. -/
def psOf (ns : List (Nat × Part)) : List Part := ns.map Prod.snd
/-- The block at a place. -/
def bk (ns : List (Nat × Part)) (i : Nat) : Option Nat := (ns[i]?).map Prod.fst
/-- The block ahead of a place. -/
def pv (ns : List (Nat × Part)) : Nat → Option Nat
  | 0 => none
  | i + 1 => bk ns i
/-- The block at a place that is there. -/
def bAt (ns : List (Nat × Part)) (i : Nat) : Nat := (ns.map Prod.fst).getD i 0
theorem psOf_length (ns : List (Nat × Part)) : (psOf ns).length = ns.length := List.length_map _
theorem psOf_append (ns ms : List (Nat × Part)) : psOf (ns ++ ms) = psOf ns ++ psOf ms := List.map_append
theorem ns_get {ns : List (Nat × Part)} {i : Nat} (h : i < ns.length) : ns[i]? = some (bAt ns i, pAt (psOf ns) i) := by
  rw [List.getElem?_eq_getElem h]
  unfold bAt pAt psOf
  rw [List.getD_eq_getElem?_getD, List.getD_eq_getElem?_getD, List.getElem?_map, List.getElem?_map, List.getElem?_eq_getElem h]
  rfl
theorem bk_some {ns : List (Nat × Part)} {i : Nat} (h : i < ns.length) : bk ns i = some (bAt ns i) := by
  unfold bk
  rw [ns_get h]
  rfl
theorem bk_none {ns : List (Nat × Part)} {i : Nat} (h : ns.length ≤ i) : bk ns i = none := by
  unfold bk
  rw [List.getElem?_eq_none h]
  rfl
theorem bAt_mem {ns : List (Nat × Part)} {i : Nat} (h : i < ns.length) : (bAt ns i, pAt (psOf ns) i) ∈ ns := List.mem_of_getElem? (ns_get h)
theorem nd_at {ns : List (Nat × Part)} {x : Nat × Part} (h : x ∈ ns) : ∃ i, i < ns.length ∧ x = (bAt ns i, pAt (psOf ns) i) := by
  obtain ⟨i, hi, e⟩ := List.getElem_of_mem h
  refine ⟨i, hi, ?_⟩
  have := ns_get hi
  rw [List.getElem?_eq_getElem hi, e] at this
  exact Option.some.inj this
theorem bAt_inj {ns : List (Nat × Part)} (h : (ns.map Prod.fst).Nodup) {i j : Nat} (hi : i < ns.length) (hj : j < ns.length) (e : bAt ns i = bAt ns j) : i = j := by
  unfold bAt at e
  rw [List.getD_eq_getElem?_getD, List.getD_eq_getElem?_getD, List.getElem?_eq_getElem (by rw [List.length_map]; exact hi), List.getElem?_eq_getElem (by rw [List.length_map]; exact hj)] at e
  rw [List.nodup_iff_pairwise_ne, List.pairwise_iff_getElem] at h
  by_cases hlt : i < j
  · exact absurd e (h i j (by rw [List.length_map]; exact hi) (by rw [List.length_map]; exact hj) hlt)
  · by_cases hgt : j < i
    · exact absurd e.symm (h j i (by rw [List.length_map]; exact hj) (by rw [List.length_map]; exact hi) hgt)
    · omega
theorem ns_range (ns : List (Nat × Part)) : (List.range ns.length).map (fun i => (bAt ns i, pAt (psOf ns) i)) = ns := by
  refine List.ext_getElem (by simp) fun i h1 h2 => ?_
  rw [List.getElem_map, List.getElem_range]
  have := ns_get h2
  rw [List.getElem?_eq_getElem h2] at this
  exact (Option.some.inj this).symm
/-- What is left when some blocks are taken out. -/
def leftB (ns : List (Nat × Part)) (bl : List Nat) : List (Nat × Part) := ns.filter fun x => !decide (x.1 ∈ bl)
theorem leftB_nil (ns : List (Nat × Part)) : leftB ns [] = ns := by
  unfold leftB
  exact List.filter_eq_self.2 fun x _ => by simp
theorem leftB_snoc (ns : List (Nat × Part)) (bl : List Nat) (b : Nat) : leftB ns (bl ++ [b]) = leftB (leftB ns bl) [b] := by
  unfold leftB
  rw [List.filter_filter]
  refine List.filter_congr fun x _ => ?_
  by_cases h1 : x.1 ∈ bl <;> by_cases h2 : x.1 = b <;> simp [h1, h2]
theorem leftB_sub {ns : List (Nat × Part)} {bl : List Nat} {x : Nat × Part} (h : x ∈ leftB ns bl) : x ∈ ns ∧ x.1 ∉ bl := by
  have := List.mem_filter.1 h
  exact ⟨this.1, by simpa using this.2⟩
theorem leftB_in {ns : List (Nat × Part)} {bl : List Nat} {x : Nat × Part} (h : x ∈ ns) (hb : x.1 ∉ bl) : x ∈ leftB ns bl := List.mem_filter.2 ⟨h, by simpa using hb⟩
theorem leftB_sublist (ns : List (Nat × Part)) (bl : List Nat) : (leftB ns bl).Sublist ns := List.filter_sublist
/-- One block is taken out. -/
theorem leftB_one {ns : List (Nat × Part)} (h : (ns.map Prod.fst).Nodup) {j : Nat} (hj : j < ns.length) : leftB ns [bAt ns j] = ns.eraseIdx j := by
  induction ns generalizing j with
  | nil => simp at hj
  | cons x ns ih =>
    rw [List.map_cons, List.nodup_cons] at h
    cases j with
    | zero =>
      rw [List.eraseIdx_cons_zero]
      have e : bAt (x :: ns) 0 = x.1 := rfl
      rw [e]
      unfold leftB
      rw [List.filter_cons]
      rw [if_neg (by simp)]
      refine List.filter_eq_self.2 fun y hy => ?_
      have : y.1 ≠ x.1 := fun e => h.1 (by rw [← e]; exact List.mem_map_of_mem hy)
      simpa using this
    | succ j =>
      rw [List.eraseIdx_cons_succ]
      have hj' : j < ns.length := by simpa using hj
      have e : bAt (x :: ns) (j + 1) = bAt ns j := rfl
      rw [e, ← ih h.2 hj']
      unfold leftB
      rw [List.filter_cons, if_pos]
      have : x.1 ≠ bAt ns j := fun e => h.1 (by rw [e]; exact List.mem_map_of_mem (bAt_mem hj'))
      simpa using this
/-- The parts of what is left. -/
theorem leftB_parts {ns : List (Nat × Part)} (h : (ns.map Prod.fst).Nodup) {ch : List Nat} (hc : ∀ i ∈ ch, i < ns.length) : psOf (leftB ns (ch.map (bAt ns))) = restP (psOf ns) ch := by
  unfold restP restTo
  rw [psOf_length]
  have e : leftB ns (ch.map (bAt ns)) = ((List.range ns.length).filter fun i => !decide (i ∈ ch)).map fun i => (bAt ns i, pAt (psOf ns) i) := by
    conv => lhs; unfold leftB; rw [← ns_range ns]
    rw [ns_range ns]
    rw [← ns_range ns, List.filter_map, ns_range ns]
    congr 1
    refine List.filter_congr fun i hi => ?_
    have hi := List.mem_range.1 hi
    show (!decide (bAt ns i ∈ ch.map (bAt ns))) = !decide (i ∈ ch)
    congr 1
    refine decide_eq_decide.2 ⟨fun hm => ?_, fun hm => List.mem_map_of_mem hm⟩
    obtain ⟨k, hk, e⟩ := List.mem_map.1 hm
    rw [bAt_inj h hi (hc k hk) e.symm]
    exact hk
  rw [e]
  unfold psOf
  rw [List.map_map]
  rfl
/-- Blocks around the one that is taken out. -/
theorem bk_erase (ns : List (Nat × Part)) (j i : Nat) : bk (ns.eraseIdx j) i = if i < j then bk ns i else bk ns (i + 1) := by
  unfold bk
  rw [List.getElem?_eraseIdx]
  split <;> rfl
theorem pv_erase (ns : List (Nat × Part)) (j i : Nat) : pv (ns.eraseIdx j) i = if i ≤ j then pv ns i else pv ns (i + 1) := by
  cases i with
  | zero => simp [pv]
  | succ i =>
    show bk (ns.eraseIdx j) i = _
    rw [bk_erase]
    by_cases h : i < j
    · rw [if_pos h, if_pos (by omega)]
      rfl
    · rw [if_neg h, if_neg (by omega)]
      rfl

end Go.Proofs.Ytncbgejggfkdmaa

/- Talks, plain: what is said, and the parts of a side. -/
namespace Go.Proofs.Ytncbgejggfkdmaa
open Go.RowKit Go.PlainAid

/-- A message of a talk. -/
structure SayP where
  byB : Bool
  stream : Int
  loose : Bool
  text : ByteArray
def noSay : SayP := ⟨false, 0, false, ByteArray.mk #[]⟩
def sAt (ss : List SayP) (i : Nat) : SayP := ss.getD i noSay
theorem sAt_get {ss : List SayP} {i : Nat} (h : i < ss.length) : ss[i] = sAt ss i := by
  unfold sAt
  rw [List.getD_eq_getElem?_getD, List.getElem?_eq_getElem h]
  rfl
theorem sAt_mem {ss : List SayP} {i : Nat} (h : i < ss.length) : sAt ss i ∈ ss := by
  rw [← sAt_get h]
  exact List.getElem_mem _
theorem take_snoc {ss : List SayP} {i : Nat} (h : i < ss.length) : ss.take (i + 1) = ss.take i ++ [sAt ss i] := by
  rw [← sAt_get h, List.take_add_one, List.getElem?_eq_getElem h]
  rfl
/-- How many parts a message has. -/
def manyN (len size : Nat) : Nat := (len + size - 1) / size
/-- Whether a message is of a side's streams, and of a size. -/
def sayOk (sa sb : Int) (x : SayP) : Prop := 1 ≤ x.text.size ∧ x.text.size ≤ 60 ∧ 0 ≤ x.stream ∧ x.stream < (if x.byB then sb else sa)
/-- How many parts the messages of a side have. -/
def sumMany (size : Nat) (b : Bool) : List SayP → Nat
  | [] => 0
  | x :: xs => (if x.byB = b then manyN x.text.size size else 0) + sumMany size b xs
theorem sumMany_append (size : Nat) (b : Bool) : ∀ xs ys, sumMany size b (xs ++ ys) = sumMany size b xs + sumMany size b ys
  | [], ys => by simp [sumMany]
  | x :: xs, ys => by
    show (if x.byB = b then _ else 0) + sumMany size b (xs ++ ys) = (if x.byB = b then _ else 0) + sumMany size b xs + sumMany size b ys
    rw [sumMany_append size b xs ys]
    omega
theorem sumMany_snoc {ss : List SayP} {i : Nat} (size : Nat) (b : Bool) (h : i < ss.length) : sumMany size b (ss.take (i + 1)) = sumMany size b (ss.take i) + (if (sAt ss i).byB = b then manyN (sAt ss i).text.size size else 0) := by
  rw [take_snoc h, sumMany_append]
  simp [sumMany]
theorem manyN_le {len size : Nat} (h : len ≤ 60) (hs : 1 ≤ size) : manyN len size ≤ 60 := by
  unfold manyN
  have h1 : (len + size - 1) / size ≤ (60 * size) / size := Nat.div_le_div_right (by
    have := Nat.mul_le_mul_left 59 hs
    omega)
  rw [Nat.mul_div_cancel _ (by omega)] at h1
  exact h1
/-- What a side tells first. -/
structure IniP where
  tag : Int
  window : Int
  streams : Int
  tsn : Int
/-- A talk. -/
structure TalkP where
  f : Int
  t : Int
  a : IniP
  b : IniP
  size : Int
  says : List SayP
def iniOk (x : IniP) : Prop := InitOk x.tag x.window x.streams x.tsn
/-- The talk is valid but for what is said. -/
def headOk (t : TalkP) : Prop := (1 ≤ t.f ∧ t.f ≤ 65535) ∧ (1 ≤ t.t ∧ t.t ≤ 65535) ∧ t.f ≠ t.t ∧ iniOk t.a ∧ iniOk t.b ∧ 1 ≤ t.size ∧ t.size ≤ 20
def TalkOk (t : TalkP) : Prop := headOk t ∧ (∀ x ∈ t.says, sayOk t.a.streams t.b.streams x) ∧ t.says.length ≤ 4 ∧ sumMany t.size.toNat false t.says ≤ 12 ∧ sumMany t.size.toNat true t.says ≤ 12
noncomputable instance (t : TalkP) : Decidable (TalkOk t) := Classical.propDecidable _
noncomputable def talkV (t : TalkP) : Bool := decide (TalkOk t)
theorem talkV_yes {t : TalkP} (h : TalkOk t) : talkV t = true := by unfold talkV; exact decide_eq_true h
theorem talkV_no {t : TalkP} (h : ¬ TalkOk t) : talkV t = false := by unfold talkV; exact decide_eq_false h
/-- How many ordered messages of a stream begin in parts. -/
def beginsIn (ps : List Part) (s : Int) : Nat := (ps.filter fun p => p.first && !p.loose && p.stream == s).length
theorem beginsIn_le (ps : List Part) (s : Int) : beginsIn ps s ≤ ps.length := List.length_filter_le _ _
theorem beginsIn_snoc {ps : List Part} {i : Nat} (s : Int) (h : i < ps.length) : beginsIn (ps.take (i + 1)) s = beginsIn (ps.take i) s + (if (pAt ps i).first && !(pAt ps i).loose && (pAt ps i).stream == s then 1 else 0) := by
  unfold beginsIn
  rw [List.take_add_one, List.getElem?_eq_getElem h, pAt_get h]
  rw [Option.toList_some, List.filter_append, List.length_append]
  congr 1
  by_cases hc : ((pAt ps i).first && !(pAt ps i).loose && (pAt ps i).stream == s) = true
  · rw [List.filter_cons_of_pos (by exact hc), if_pos hc]; rfl
  · rw [List.filter_cons_of_neg (by exact hc), if_neg hc]; rfl
/-- A piece of a message. -/
def pieceP (first : Int) (x : SayP) (ssn : Int) (size n0 k : Nat) : Part :=
  ⟨addS first ((n0 + k : Nat) : Int), x.stream, ssn, decide (k = 0), decide (min ((k + 1) * size) x.text.size = x.text.size), x.loose, x.text.extract (k * size) (min ((k + 1) * size) x.text.size)⟩
def cutP (first : Int) (x : SayP) (ssn : Int) (size n0 k : Nat) : List Part := (List.range k).map (pieceP first x ssn size n0)
theorem cutP_length (first : Int) (x : SayP) (ssn : Int) (size n0 k : Nat) : (cutP first x ssn size n0 k).length = k := by simp [cutP]
theorem cutP_snoc (first : Int) (x : SayP) (ssn : Int) (size n0 k : Nat) : cutP first x ssn size n0 (k + 1) = cutP first x ssn size n0 k ++ [pieceP first x ssn size n0 k] := by
  unfold cutP
  rw [List.range_succ, List.map_append]
  rfl
def ssnOf (out : List Part) (x : SayP) : Int := if x.loose then 0 else (beginsIn out x.stream : Int)
def addSay (first : Int) (size : Nat) (b : Bool) (out : List Part) (x : SayP) : List Part :=
  if x.byB = b then out ++ cutP first x (ssnOf out x) size out.length (manyN x.text.size size) else out
/-- The parts of a side. -/
def partsS (first : Int) (size : Nat) (b : Bool) (ss : List SayP) : List Part := ss.foldl (addSay first size b) []
theorem partsS_snoc {ss : List SayP} {i : Nat} (first : Int) (size : Nat) (b : Bool) (h : i < ss.length) : partsS first size b (ss.take (i + 1)) = addSay first size b (partsS first size b (ss.take i)) (sAt ss i) := by
  unfold partsS
  rw [take_snoc h, List.foldl_append]
  rfl
theorem addSay_yes {first : Int} {size : Nat} {b : Bool} {out : List Part} {x : SayP} (h : x.byB = b) : addSay first size b out x = out ++ cutP first x (ssnOf out x) size out.length (manyN x.text.size size) := by
  unfold addSay
  rw [if_pos h]
theorem addSay_no {first : Int} {size : Nat} {b : Bool} {out : List Part} {x : SayP} (h : x.byB ≠ b) : addSay first size b out x = out := by
  unfold addSay
  rw [if_neg h]
theorem partsS_length (first : Int) (size : Nat) (b : Bool) (ss : List SayP) : (partsS first size b ss).length = sumMany size b ss := by
  have key : ∀ (ss : List SayP) (out : List Part), (ss.foldl (addSay first size b) out).length = out.length + sumMany size b ss := by
    intro ss
    induction ss with
    | nil => intro out; simp [sumMany]
    | cons x xs ih =>
      intro out
      rw [List.foldl_cons, ih]
      show _ = out.length + ((if x.byB = b then manyN x.text.size size else 0) + sumMany size b xs)
      by_cases h : x.byB = b
      · rw [addSay_yes h, List.length_append, cutP_length, if_pos h]
        omega
      · rw [addSay_no h, if_neg h]
        omega
  have := key ss []
  simpa [partsS] using this
/-- The side that is asked about. -/
def sideI (t : TalkP) (b : Bool) : IniP := if b then t.b else t.a
def partsT (t : TalkP) (b : Bool) : List Part := partsS (sideI t b).tsn t.size.toNat b t.says
noncomputable def partsV (t : TalkP) (b : Bool) : List Part := if TalkOk t then partsT t b else []
theorem partsV_yes {t : TalkP} (b : Bool) (h : TalkOk t) : partsV t b = partsT t b := if_pos h
theorem partsV_no {t : TalkP} (b : Bool) (h : ¬ TalkOk t) : partsV t b = [] := if_neg h
/-- A part that a talk may have. -/
def Smally (p : Part) : Prop := (-1 ≤ p.tsn ∧ p.tsn ≤ 65536) ∧ (-1 ≤ p.stream ∧ p.stream ≤ 65536) ∧ (-1 ≤ p.ssn ∧ p.ssn ≤ 65536) ∧ p.text.size ≤ 30
theorem partsT_small {t : TalkP} (b : Bool) (h : TalkOk t) : ∀ p ∈ partsT t b, Smally p := by
  obtain ⟨⟨_, _, _, ha, hb, hs1, hs2⟩, hx, hl, h1, h2⟩ := h
  have hst : t.a.streams ≤ 4 ∧ t.b.streams ≤ 4 := ⟨ha.2.2.1.2, hb.2.2.1.2⟩
  have hsz : t.size.toNat ≤ 20 := by omega
  have key : ∀ (ss : List SayP) (out : List Part), (∀ x ∈ ss, x ∈ t.says) → out.length + sumMany t.size.toNat b ss ≤ 1000 → (∀ p ∈ out, Smally p) → ∀ p ∈ ss.foldl (addSay (sideI t b).tsn t.size.toNat b) out, Smally p := by
    intro ss
    induction ss with
    | nil => intro out _ _ ho; exact ho
    | cons x xs ih =>
      intro out hm hn ho
      rw [List.foldl_cons]
      have hn' : out.length + ((if x.byB = b then manyN x.text.size t.size.toNat else 0) + sumMany t.size.toNat b xs) ≤ 1000 := hn
      have hok := hx x (hm x List.mem_cons_self)
      have hsx : x.stream ≤ 4 := by
        have := hok.2.2.2
        split at this <;> omega
      refine ih _ (fun y hy => hm y (List.mem_cons_of_mem _ hy)) ?_ ?_
      · by_cases he : x.byB = b
        · rw [addSay_yes he, List.length_append, cutP_length]
          rw [if_pos he] at hn'
          omega
        · rw [addSay_no he]
          omega
      · by_cases he : x.byB = b
        · rw [addSay_yes he]
          intro p hp
          rcases List.mem_append.1 hp with hp | hp
          · exact ho p hp
          · obtain ⟨k, _, rfl⟩ := List.mem_map.1 hp
            refine ⟨?_, ⟨?_, ?_⟩, ?_, ?_⟩
            · have := addS_ser (sideI t b).tsn ((out.length + k : Nat) : Int)
              exact ⟨by show -1 ≤ addS _ _; have := this.1; omega, by show addS _ _ ≤ 65536; have := this.2; omega⟩
            · have := hok.2.2.1
              show -1 ≤ x.stream
              omega
            · show x.stream ≤ 65536
              omega
            · show -1 ≤ ssnOf out x ∧ ssnOf out x ≤ 65536
              unfold ssnOf
              have := beginsIn_le out x.stream
              split <;> omega
            · show (x.text.extract _ _).size ≤ 30
              rw [ByteArray.size_extract]
              have : (k + 1) * t.size.toNat = k * t.size.toNat + t.size.toNat := Nat.succ_mul _ _
              omega
        · rw [addSay_no he]
          exact ho
  exact key t.says [] (fun _ h => h) (by cases b <;> simp <;> omega) (by simp)
theorem partsT_length {t : TalkP} (b : Bool) (h : TalkOk t) : (partsT t b).length ≤ 12 := by
  unfold partsT
  rw [partsS_length]
  cases b
  · exact h.2.2.2.1
  · exact h.2.2.2.2

end Go.Proofs.Ytncbgejggfkdmaa

/- What is said in a talk, in memory: slices of messages of a talk. -/
namespace Go.Proofs.Ytncbgejggfkdmaa
open Go.RowKit Go.PlainAid

/-- The value of a message of a talk. -/
def sayV (m : SayP) : Value := .agg #[.bool m.byB, .int .i64 m.stream, .bool m.loose, .string m.text]
/-- The cells of a part. -/
def cellsY (p : SayP) : List Value := [.bool p.byB, .int .i64 p.stream, .bool p.loose, .string p.text]
def flatY : List SayP → List Value
  | [] => []
  | p :: ps => cellsY p ++ flatY ps
theorem flatY_append (ps qs : List SayP) : flatY (ps ++ qs) = flatY ps ++ flatY qs := by
  induction ps with
  | nil => rfl
  | cons p ps ih => simp [flatY, ih]
theorem cellsY_length (p : SayP) : (cellsY p).length = 4 := rfl
theorem flatY_length (ps : List SayP) : (flatY ps).length = ps.length * 4 := by
  induction ps with
  | nil => rfl
  | cons p ps ih =>
    show (cellsY p ++ flatY ps).length = _
    rw [List.length_append, cellsY_length, ih, List.length_cons]
    omega
theorem cellsY_one (p : SayP) : ∀ u ∈ cellsY p, u.oneCell' = true := by
  intro u hu
  simp only [cellsY, List.mem_cons, List.not_mem_nil, or_false] at hu
  rcases hu with rfl | rfl | rfl | rfl <;> rfl
theorem flatY_one (ps : List SayP) : ∀ u ∈ flatY ps, u.oneCell' = true := by
  induction ps with
  | nil => intro u hu; simp [flatY] at hu
  | cons p ps ih =>
    intro u hu
    rcases List.mem_append.1 hu with h | h
    · exact cellsY_one p u h
    · exact ih u h
theorem take_sAt {ps : List SayP} {k : Nat} (h : k < ps.length) : ps.take (k + 1) = ps.take k ++ [sAt ps k] := by
  unfold sAt
  rw [List.take_add_one, List.getD_eq_getElem?_getD, List.getElem?_eq_getElem h]
  rfl
theorem flatY_get (ps : List SayP) (i j : Nat) (h : i < ps.length) (hj : j < 4) : (flatY ps)[i * 4 + j]? = (cellsY (sAt ps i))[j]? := by
  induction ps generalizing i with
  | nil => simp at h
  | cons p ps ih =>
    show (cellsY p ++ flatY ps)[i * 4 + j]? = _
    cases i with
    | zero =>
      rw [Nat.zero_mul, Nat.zero_add, List.getElem?_append_left (by rw [cellsY_length]; exact hj)]
      rfl
    | succ i =>
      rw [List.getElem?_append_right (by rw [cellsY_length]; omega), cellsY_length, show (i + 1) * 4 + j - 4 = i * 4 + j from by omega, ih i (by simpa using h)]
      rfl
/-- The cell j of the part i. -/
def atY (x : Addr) (i : Nat) : Nat → Addr
  | 0 => x.add (i * 4)
  | j + 1 => ⟨(x.add (i * 4)).block, (x.add (i * 4)).off + (j + 1), none⟩
/-- A slice of parts: nil, or the cells of 'len' parts, seven each, from an address on. -/
def Sys (w : World) (a : Option Addr) (len cap : Nat) (ps : List SayP) : Prop :=
  (a = none ∧ len = 0 ∧ cap = 0 ∧ ps = []) ∨
  ∃ x : Addr, a = some x ∧ len ≤ cap ∧ cap ≤ maxLen ∧ ps.length = len ∧ ∀ i, i < len → ∀ j v, (cellsY (sAt ps i))[j]? = some v → w.cell? (atY x i j) = some v
theorem Sys.length {w : World} {a : Option Addr} {len cap : Nat} {ps : List SayP} (h : Sys w a len cap ps) : ps.length = len := by
  rcases h with ⟨_, rfl, _, rfl⟩ | ⟨_, _, _, _, h, _⟩
  · rfl
  · exact h
theorem Sys.len_le {w : World} {a : Option Addr} {len cap : Nat} {ps : List SayP} (h : Sys w a len cap ps) : len ≤ cap ∧ cap ≤ maxLen := by
  rcases h with ⟨_, rfl, rfl, rfl⟩ | ⟨_, _, h1, h2, _, _⟩
  · exact ⟨Nat.le_refl _, Nat.zero_le _⟩
  · exact ⟨h1, h2⟩
theorem Sys.len_int {w : World} {a : Option Addr} {len cap : Nat} {ps : List SayP} (h : Sys w a len cap ps) : len ≤ 9223372036854775807 := by
  have := h.len_le
  unfold maxLen at this
  omega
theorem Sys.nil (w : World) : Sys w none 0 0 [] := .inl ⟨rfl, rfl, rfl, rfl⟩
theorem Sys.moved {w w' : World} {a : Option Addr} {len cap : Nat} {ps : List SayP} (h : Sys w a len cap ps) (hk : ∀ x, a = some x → ∀ i j v, i < len → w.cell? (atY x i j) = some v → w'.cell? (atY x i j) = some v) : Sys w' a len cap ps := by
  rcases h with h | ⟨x, h1, h2, h3, h4, h5⟩
  · exact .inl h
  · exact .inr ⟨x, h1, h2, h3, h4, fun i hi j v hv => hk x h1 i j v hi (h5 i hi j v hv)⟩
theorem Sys.below {w w' : World} {a : Option Addr} {len cap : Nat} {ps : List SayP} (h : Sys w a len cap ps) (hb : Below w.heap.size w w') : Sys w' a len cap ps :=
  h.moved fun _ _ _ _ _ _ hc => (hb.cell (World.block_lt_of_cell? w _ hc)).trans hc
theorem Sys.addr {w : World} {a : Option Addr} {len cap : Nat} {ps : List SayP} (h : Sys w a len cap ps) {k : Nat} (hk : k < len) : ∃ x, a = some x := by
  rcases h with ⟨_, h0, _⟩ | ⟨y, hy, _⟩
  · omega
  · exact ⟨y, hy⟩
/-- The cells of the part at a place, in another world. -/
theorem Sys.cells {w wr : World} {x : Addr} {len cap : Nat} {ps : List SayP} (h : Sys w (some x) len cap ps) (hb : Below w.heap.size w wr) {k : Nat} (hk : k < len) (j : Nat) (v : Value) (hv : (cellsY (sAt ps k))[j]? = some v) : wr.cell? (atY x k j) = some v := by
  rcases h with ⟨h0, _⟩ | ⟨y, hy, _, _, _, h5⟩
  · cases h0
  · obtain rfl : x = y := by simpa using hy
    have := h5 k hk j v hv
    exact (hb.cell (World.block_lt_of_cell? w _ this)).trans this
theorem Sys.at {w wr : World} {x : Addr} {len cap : Nat} {ps : List SayP} (h : Sys w (some x) len cap ps) (hb : Below w.heap.size w wr) {k : Nat} (hk : k < len) :
    wr.cell? (x.add (k * 4)) = some (.bool (sAt ps k).byB) ∧ wr.cell? ⟨(x.add (k * 4)).block, (x.add (k * 4)).off + 1, none⟩ = some (.int .i64 (sAt ps k).stream) ∧ wr.cell? ⟨(x.add (k * 4)).block, (x.add (k * 4)).off + 2, none⟩ = some (.bool (sAt ps k).loose) ∧
      wr.cell? ⟨(x.add (k * 4)).block, (x.add (k * 4)).off + 3, none⟩ = some (.string (sAt ps k).text) :=
  ⟨h.cells hb hk 0 _ rfl, h.cells hb hk 1 _ rfl, h.cells hb hk 2 _ rfl, h.cells hb hk 3 _ rfl⟩
theorem sy_add (g j : Nat) : (⟨g, 0, none⟩ : Addr).add j = ⟨g, j, none⟩ := by unfold Addr.add; split <;> simp_all
theorem atY_zero (g i j : Nat) : atY ⟨g, 0, none⟩ i j = ⟨g, i * 4 + j, none⟩ := by
  cases j with
  | zero => exact sy_add g (i * 4)
  | succ j =>
    show (⟨((⟨g, 0, none⟩ : Addr).add (i * 4)).block, ((⟨g, 0, none⟩ : Addr).add (i * 4)).off + (j + 1), none⟩ : Addr) = _
    rw [sy_add]
theorem Sys.far {w : World} {g k cap d i : Nat} {ps : List SayP} (h : Sys w (some ⟨g, 0, none⟩) k cap ps) (hd : d ≠ g) (v : Value) : Sys (w.setCell ⟨d, i, none⟩ v) (some ⟨g, 0, none⟩) k cap ps :=
  h.moved fun x hx i j u _ hc => by
    obtain rfl : ⟨g, 0, none⟩ = x := by simpa using hx
    rw [atY_zero] at hc ⊢
    exact cell_far hd hc
theorem Sys.aside {w w' : World} {g k cap r : Nat} {ps : List SayP} (h : Sys w (some ⟨g, 0, none⟩) k cap ps) (ha : Aside w.heap.size r w w') (hr : g ≠ r) : Sys w' (some ⟨g, 0, none⟩) k cap ps :=
  h.moved fun x hx i j u _ hc => by
    obtain rfl : ⟨g, 0, none⟩ = x := by simpa using hx
    rw [atY_zero] at hc ⊢
    exact ha.cell (lt_of_cell hc) hr hc
theorem Sys.under {W W' : World} {g n cap C : Nat} {ps : List SayP} (h : Sys W (some ⟨g, 0, none⟩) n cap ps) (hb : Below C W W') (hg : g < C ∨ n = 0) : Sys W' (some ⟨g, 0, none⟩) n cap ps :=
  h.moved fun x hx i j u hi hc => by
    obtain rfl : ⟨g, 0, none⟩ = x := by simpa using hx
    rw [atY_zero] at hc ⊢
    rcases hg with hg | h0
    · exact kept_cell hb hg hc
    · omega
theorem sys_lt {W : World} {g n cap : Nat} {ps : List SayP} (h : Sys W (some ⟨g, 0, none⟩) n cap ps) : g < W.heap.size ∨ n = 0 := by
  by_cases hk0 : 0 < n
  · have := (h.at (Below.refl _ _) hk0).1
    rw [sy_add] at this
    exact .inl (lt_of_cell this)
  · exact .inr (by omega)
/-- The first parts of a slice. -/
theorem sys_take {w : World} {x : Addr} {len cap j : Nat} {ps : List SayP} (h : Sys w (some x) len cap ps) (hj : j ≤ len) : Sys w (some x) j cap (ps.take j) := by
  rcases h with ⟨h0, _⟩ | ⟨y, hy, h1, h2, h3, h4⟩
  · cases h0
  · refine .inr ⟨y, hy, by omega, h2, by rw [List.length_take]; omega, fun i hi => ?_⟩
    have e : sAt (ps.take j) i = sAt ps i := by
      unfold sAt
      rw [List.getD_eq_getElem?_getD, List.getD_eq_getElem?_getD, List.getElem?_take_of_lt hi]
    rw [e]
    exact h4 i (by omega)
/-- The cells of a slice of parts, as a source of an append. -/
theorem sys_flat {W : World} {g k cap : Nat} {ps : List SayP} (h : Sys W (some ⟨g, 0, none⟩) k cap ps) : ∀ j u, (flatY ps)[j]? = some u → W.cell? ((⟨g, 0, none⟩ : Addr).add j) = some u := by
  intro j u hu
  have hl := h.length
  have hj : j < k * 4 := by have := (List.getElem?_eq_some_iff.1 hu).1; rw [flatY_length, hl] at this; exact this
  have e : j = j / 4 * 4 + j % 4 := by omega
  have hm : j % 4 < 4 := by omega
  generalize hq : j / 4 = q at e
  generalize j % 4 = r at e hm
  subst e
  rw [flatY_get ps q r (by omega) hm] at hu
  have := h.cells (Below.refl _ _) (k := q) (by omega) r u hu
  rw [atY_zero] at this
  rw [sy_add]
  exact this

theorem own_sys {W : World} {base cap k : Nat} {a : Option Addr} {ps : List SayP} (h : W.ownsRow base 113 4 (.slice a k cap) k (flatY ps)) : Sys W a k cap ps := by
  have hl := h.1
  rw [flatY_length] at hl
  rcases h.2 with ⟨h1, h2⟩ | ⟨g, cap', cur, h1, _, _, h4, h5, _⟩
  · obtain ⟨rfl, rfl, rfl⟩ : a = none ∧ k = 0 ∧ cap = 0 := by simpa using h1
    exact .inl ⟨rfl, rfl, rfl, by cases ps with | nil => rfl | cons c l => simp at hl⟩
  · obtain ⟨rfl, rfl⟩ : a = some ⟨g, 0, none⟩ ∧ cap = cap' := by simpa using h1
    refine .inr ⟨_, rfl, h4, h5, by omega, fun i hi j v hv => ?_⟩
    have hj : j < 4 := by have := (List.getElem?_eq_some_iff.1 hv).1; rwa [cellsY_length] at this
    rw [atY_zero]
    exact (h.cellAt (i * 4 + j) (by omega)).trans ((flatY_get ps i j (by omega) hj).trans hv)
theorem info_sy : (Try.prog.info? 113).map (fun i => (i.zero, i.size, i.bytes)) = some (some (sayV ⟨false, 0, false, ByteArray.mk #[]⟩), 4, 40) := by kernel_rfl
/-- A slice of messages of one's own, in blocks from R on. -/
theorem flatY_one_ (m : SayP) : flatY [m] = cellsY m := by simp [flatY]

end Go.Proofs.Ytncbgejggfkdmaa

/- The contracts of chapter 3's model and of the drawing functions for serial numbers. -/
namespace Go.Proofs.Ytncbgejggfkdmaa
open Go.RowKit

theorem ser_true {n : Int} (h : Ser n) : decide (0 ≤ n ∧ n ≤ 65535) = true := by unfold Ser at h; simp; omega
theorem ser_false {n : Int} (h : ¬ Ser n) : decide (0 ≤ n ∧ n ≤ 65535) = false := by unfold Ser at h; simp; omega

set_option maxHeartbeats 400000 in
theorem l3Ok_yes (n : Int) (w : World) (h : Ser n) :
    Calls Try.prog 41 #[.int .i64 n] w fun e w' => e = .returned (.bool true) ∧ w = w' := by
  have H := Lib.hid (ser_true h)
  clear h
  go_enter Try.func41, Try.ntmps41
  go_wp2_with fail
  refine (l6In_any n 0 65535 _).mono ?_
  rintro e w1 ⟨rfl, rfl⟩
  rw [H.out]
  go_wp2
  go_ret
  exact ⟨rfl, rfl⟩

set_option maxHeartbeats 400000 in
theorem l3Ok_no (n : Int) (w : World) (h : ¬ Ser n) :
    Calls Try.prog 41 #[.int .i64 n] w fun e w' => e = .returned (.bool false) ∧ w = w' := by
  have H := Lib.hid (ser_false h)
  clear h
  go_enter Try.func41, Try.ntmps41
  go_wp2_with fail
  refine (l6In_any n 0 65535 _).mono ?_
  rintro e w1 ⟨rfl, rfl⟩
  rw [H.out]
  go_wp2
  go_ret
  exact ⟨rfl, rfl⟩

set_option maxHeartbeats 400000 in
theorem l3Add_any (a n : Int) (w : World) (h : Ser a) :
    Calls Try.prog 39 #[.int .i64 a, .int .i64 n] w fun e w' => e = .returned (.int .i64 (addS a n)) ∧ w = w' := by
  have E := Lib.hid (rem_mod a n)
  obtain ⟨t0, t1⟩ := rem_range n
  obtain ⟨a0, a1⟩ := h
  go_enter Try.func39, Try.ntmps39
  go_wp2
  go_ret
  exact ⟨ret_i E.out, rfl⟩

end Go.Proofs.Ytncbgejggfkdmaa

/- A variable of several cells, at a block of its own. -/
namespace Go.Proofs.Ytncbgejggfkdmaa
open Go.RowKit

/-- The values vs lie at block c, from its first cell on, and may be written. -/
def VarN (c : Nat) (vs : List Value) (w : World) : Prop := ∀ i v, vs[i]? = some v → w.cell? ⟨c, i, none⟩ = some v ∧ w.frozen? ⟨c, i, none⟩ = false
theorem VarN.new (w : World) (vs : List Value) (T : TypeId) : VarN w.heap.size vs (w.alloc (.cells vs.toArray T)) := fun i v h =>
  ⟨by rw [World.cell?_alloc_at _ _ _ _ rfl]; simpa using h, by simp⟩
theorem VarN.aside {c C r : Nat} {vs : List Value} {w w' : World} (h : VarN c vs w) (ha : Aside C r w w') (hc : c < C) (hr : c ≠ r) : VarN c vs w' := fun i v hi =>
  ⟨ha.cell hc hr (h i v hi).1, ha.frozen hc hr (h i v hi).2⟩
theorem VarN.below {c C : Nat} {vs : List Value} {w w' : World} (h : VarN c vs w) (hb : Below C w w') (hc : c < C) : VarN c vs w' :=
  h.aside (below_aside (r := C) hb (Nat.le_refl _)) hc (by omega)
theorem VarN.only {c r : Nat} {vs : List Value} {w w' : World} (h : VarN c vs w) (ho : Only r w w') (hr : c ≠ r) : VarN c vs w' :=
  h.aside (ho.aside (C := c + 1)) (by omega) hr
theorem VarN.alloc {c : Nat} {vs : List Value} {w : World} (h : VarN c vs w) (o : Obj) (hc : c < w.heap.size) : VarN c vs (w.alloc o) :=
  h.below ((Below.refl w.heap.size w).alloc (Nat.le_refl _) o) hc
theorem VarN.set {c i : Nat} {vs : List Value} {w : World} (h : VarN c vs w) (v : Value) : VarN c (vs.set i v) (w.setCell ⟨c, i, none⟩ v) := fun j u hj => by
  by_cases e : i = j
  · subst e
    rw [List.getElem?_set_self' ] at hj
    cases hg : vs[i]? with
    | none => simp [hg] at hj
    | some u' =>
      simp [hg] at hj
      subst hj
      exact ⟨World.cell?_setCell_same _ _ _ (h i u' hg).1, by rw [World.frozen?_setCell]; exact (h i u' hg).2⟩
  · rw [List.getElem?_set_ne e] at hj
    exact ⟨cell_other e (h j u hj).1, by rw [World.frozen?_setCell]; exact (h j u hj).2⟩
theorem VarN.far {c d i : Nat} {vs : List Value} {w : World} (h : VarN c vs w) (v : Value) (hd : d ≠ c) : VarN c vs (w.setCell ⟨d, i, none⟩ v) := fun j u hj =>
  ⟨cell_far hd (h j u hj).1, by rw [World.frozen?_setCell]; exact (h j u hj).2⟩

set_option maxHeartbeats 1000000 in
theorem l91Good_as (B r m : Nat) (w : World) (h : Rd B r m w) (hm : m ≤ 100000000) :
    Calls Try.prog 72 #[.pointer (some ⟨r, 0, none⟩)] w fun e w' => DrewInt B r (m + 3) (fun n => 0 ≤ n ∧ n ≤ 65535) w e w' ∧ Aside w.heap.size r w w' := by
  go_enter Try.func72, Try.ntmps72
  go_wp2_with fail
  refine (l91Word_as B r m _ h hm).mono ?_
  rintro e w1 ⟨⟨k, rfl, ⟨k0, k1⟩, hr1, hb1⟩, ha1⟩
  go_wp2
  all_goals
    go_ret
    exact ⟨⟨_, rfl, ⟨by omega, by omega⟩, hr1, hb1⟩, ha1⟩

end Go.Proofs.Ytncbgejggfkdmaa

/- The contracts of chapter 12's model on parts and inits. -/
namespace Go.Proofs.Ytncbgejggfkdmaa
open Go.RowKit Go.PlainAid

/-- A number for a condition. -/
def bitV (x : Bool) (n : Int) : Int := if x then n else 0
theorem past_cell {w : World} {b i : Nat} {v : Value} (h : w.cell? ⟨b, i, none⟩ = some v) (o : Obj) : (w.alloc o).cell? ⟨b, i, none⟩ = some v := by
  rw [World.cell?_alloc_lt _ _ _ (World.block_lt_of_cell? w _ h)]
  exact h
theorem past3 {w : World} {b i : Nat} {v : Value} {o p q : Obj} (h : w.cell? ⟨b, i, none⟩ = some v) : (((w.alloc o).alloc p).alloc q).drew.cell? ⟨b, i, none⟩ = some v :=
  (World.cell?_drew _ _).trans (past_cell (past_cell (past_cell h o) p) q)
theorem stored3 {w : World} {b d i : Nat} {v x y z : Value} {o p q : Obj} (hd : d ≠ b) (h : w.cell? ⟨b, i, none⟩ = some v) :
    ((((((w.alloc o).alloc p).alloc q).setCell ⟨d, 0, none⟩ x).setCell ⟨d, 1, none⟩ y).setCell ⟨d, 2, none⟩ z).drew.cell? ⟨b, i, none⟩ = some v :=
  (World.cell?_drew _ _).trans (cell_far hd (cell_far hd (cell_far hd (past_cell (past_cell (past_cell h o) p) q))))
theorem pastN {w : World} {c : Nat} {vs : List Value} (h : VarN c vs w) (hc : c < w.heap.size) (i : Nat) (v : Value) (hi : vs[i]? = some v) (o p q : Obj) :
    (((w.alloc o).alloc p).alloc q).cell? ⟨c, i, none⟩ = some v ∧ (((w.alloc o).alloc p).alloc q).frozen? ⟨c, i, none⟩ = false :=
  (((h.alloc o hc).alloc p (by simp; omega)).alloc q (by simp; omega)) i v hi
theorem bits_flags (fi la lo : Bool) : bitV la 1 + bitV fi 2 + bitV lo 4 = flagsV fi la lo := rfl
theorem bits_range (fi la : Bool) : 0 ≤ bitV la 1 + bitV fi 2 ∧ bitV la 1 + bitV fi 2 ≤ 3 := by cases fi <;> cases la <;> decide
instance (a b c : Int) (t : ByteArray) : Decidable (DataOk a b c t) := by
  unfold DataOk
  infer_instance
/-- Whether a part is valid. -/
def dataOkV (a b c : Int) (t : ByteArray) : Bool := decide (DataOk a b c t)
theorem dataOkV_yes {a b c : Int} {t : ByteArray} (h : DataOk a b c t) : dataOkV a b c t = true := decide_eq_true h
theorem dataOkV_no {a b c : Int} {t : ByteArray} (h : ¬ DataOk a b c t) : dataOkV a b c t = false := decide_eq_false h
instance (a b c d : Int) : Decidable (InitOk a b c d) := by
  unfold InitOk
  infer_instance
/-- Whether an init is valid. -/
def initOkV (a b c d : Int) : Bool := decide (InitOk a b c d)
theorem initOkV_yes {a b c d : Int} (h : InitOk a b c d) : initOkV a b c d = true := decide_eq_true h
theorem initOkV_no {a b c d : Int} (h : ¬ InitOk a b c d) : initOkV a b c d = false := decide_eq_false h

set_option maxHeartbeats 400000 in
theorem l12Data_any (a b c : Int) (fi la lo : Bool) (t : ByteArray) (w : World) :
    Calls Try.prog 38 #[.agg #[.int .i64 a, .int .i64 b, .int .i64 c, .bool fi, .bool la, .bool lo, .string t]] w fun e w' => e = .returned (.bool (dataOkV a b c t)) ∧ Below w.heap.size w w' := by
  by_cases h1 : Ser a
  · have H1 := Lib.hid h1
    clear h1
    by_cases h2 : Ser b
    · have H2 := Lib.hid h2
      clear h2
      by_cases h3 : Ser c
      · have H3 := Lib.hid h3
        clear h3
        have E := Lib.hid (show decide ((1 : Int) ≤ t.size ∧ (t.size : Int) ≤ 20) = dataOkV a b c t by
          by_cases g : 1 ≤ t.size ∧ t.size ≤ 20
          · rw [dataOkV_yes ⟨ser_le H1.out, ser_le H2.out, ser_le H3.out, g.1, g.2⟩]; exact decide_eq_true (by omega)
          · rw [dataOkV_no fun h => g h.2.2.2]; exact decide_eq_false (by omega))
        go_enter Try.func38, Try.ntmps38
        go_wp2_with fail
        refine (l3Ok_yes a _ H1.out).mono ?_
        rintro e w1 ⟨rfl, rfl⟩
        go_wp2_with fail
        refine (l3Ok_yes b _ H2.out).mono ?_
        rintro e w1 ⟨rfl, rfl⟩
        go_wp2_with fail
        refine (l3Ok_yes c _ H3.out).mono ?_
        rintro e w1 ⟨rfl, rfl⟩
        go_wp2_with fail
        refine (l6In_any (t.size : Int) 1 20 _).mono ?_
        rintro e w1 ⟨rfl, rfl⟩
        rw [E.out]
        go_wp2
        go_ret
        exact ⟨rfl, below_box _ (Nat.le_refl _)⟩
      · have H3 := Lib.hid h3
        clear h3
        rw [dataOkV_no fun h => ser_not H3.out h.2.2.1]
        go_enter Try.func38, Try.ntmps38
        go_wp2_with fail
        refine (l3Ok_yes a _ H1.out).mono ?_
        rintro e w1 ⟨rfl, rfl⟩
        go_wp2_with fail
        refine (l3Ok_yes b _ H2.out).mono ?_
        rintro e w1 ⟨rfl, rfl⟩
        go_wp2_with fail
        refine (l3Ok_no c _ H3.out).mono ?_
        rintro e w1 ⟨rfl, rfl⟩
        go_wp2
        go_ret
        exact ⟨rfl, below_box _ (Nat.le_refl _)⟩
    · have H2 := Lib.hid h2
      clear h2
      rw [dataOkV_no fun h => ser_not H2.out h.2.1]
      go_enter Try.func38, Try.ntmps38
      go_wp2_with fail
      refine (l3Ok_yes a _ H1.out).mono ?_
      rintro e w1 ⟨rfl, rfl⟩
      go_wp2_with fail
      refine (l3Ok_no b _ H2.out).mono ?_
      rintro e w1 ⟨rfl, rfl⟩
      go_wp2
      go_ret
      exact ⟨rfl, below_box _ (Nat.le_refl _)⟩
  · have H1 := Lib.hid h1
    clear h1
    rw [dataOkV_no fun h => ser_not H1.out h.1]
    go_enter Try.func38, Try.ntmps38
    go_wp2_with fail
    refine (l3Ok_no a _ H1.out).mono ?_
    rintro e w1 ⟨rfl, rfl⟩
    go_wp2
    go_ret
    exact ⟨rfl, below_box _ (Nat.le_refl _)⟩

/-- A chunk was made, or none. -/
def madeV (k f : Int) (b : ByteArray) : Value := .tuple #[.agg #[.int .i64 k, .int .i64 f, .string b], .bool true]
def notMadeV : Value := .tuple #[.agg #[.int .i64 0, .int .i64 0, .string (ByteArray.mk #[])], .bool false]

end Go.Proofs.Ytncbgejggfkdmaa

/- Variables of several cells, further. -/
namespace Go.Proofs.Ytncbgejggfkdmaa
open Go.RowKit Go.PlainAid

theorem VarN.drewN {c : Nat} {vs : List Value} {w : World} (h : VarN c vs w) (q : Nat) : VarN c vs (w.drewN q) := fun i v hi => ⟨by simpa using (h i v hi).1, by simpa using (h i v hi).2⟩
theorem VarN.new_at {d : Nat} {w : World} (e : w.heap.size = d) (vs : List Value) (T : TypeId) : VarN d vs (w.alloc (.cells vs.toArray T)) := e ▸ VarN.new w vs T
/-- Seven values are stored over a variable's. -/
theorem VarN.put7 {c : Nat} {z0 z1 z2 z3 z4 z5 z6 : Value} {w : World} (h : VarN c [z0, z1, z2, z3, z4, z5, z6] w) (a0 a1 a2 a3 a4 a5 a6 : Value) :
    VarN c [a0, a1, a2, a3, a4, a5, a6] (((((((w.setCell ⟨c, 0, none⟩ a0).setCell ⟨c, 1, none⟩ a1).setCell ⟨c, 2, none⟩ a2).setCell ⟨c, 3, none⟩ a3).setCell ⟨c, 4, none⟩ a4).setCell ⟨c, 5, none⟩ a5).setCell ⟨c, 6, none⟩ a6) :=
  (((((((h.set (i := 0) a0).set (i := 1) a1).set (i := 2) a2).set (i := 3) a3).set (i := 4) a4).set (i := 5) a5).set (i := 6) a6)
/-- Four values, three values are stored over a variable's. -/
theorem VarN.put4 {c : Nat} {z0 z1 z2 z3 : Value} {w : World} (h : VarN c [z0, z1, z2, z3] w) (a0 a1 a2 a3 : Value) :
    VarN c [a0, a1, a2, a3] ((((w.setCell ⟨c, 0, none⟩ a0).setCell ⟨c, 1, none⟩ a1).setCell ⟨c, 2, none⟩ a2).setCell ⟨c, 3, none⟩ a3) :=
  ((((h.set (i := 0) a0).set (i := 1) a1).set (i := 2) a2).set (i := 3) a3)
theorem VarN.put3 {c : Nat} {z0 z1 z2 : Value} {w : World} (h : VarN c [z0, z1, z2] w) (a0 a1 a2 : Value) :
    VarN c [a0, a1, a2] (((w.setCell ⟨c, 0, none⟩ a0).setCell ⟨c, 1, none⟩ a1).setCell ⟨c, 2, none⟩ a2) :=
  (((h.set (i := 0) a0).set (i := 1) a1).set (i := 2) a2)

end Go.Proofs.Ytncbgejggfkdmaa

/- The contracts of chapter 12's model: inits, written. -/
namespace Go.Proofs.Ytncbgejggfkdmaa
open Go.RowKit Go.PlainAid

theorem VarN.drew {c : Nat} {vs : List Value} {w : World} (h : VarN c vs w) : VarN c vs w.drew := h
theorem pastD0 {w : World} {b i : Nat} {v : Value} (h : w.cell? ⟨b, i, none⟩ = some v) : (w).drew.cell? ⟨b, i, none⟩ = some v :=
  (World.cell?_drew _ _).trans (h)
theorem pastD1 {w : World} {b i : Nat} {v : Value} {o0 : Obj} (h : w.cell? ⟨b, i, none⟩ = some v) : (w.alloc o0).drew.cell? ⟨b, i, none⟩ = some v :=
  (World.cell?_drew _ _).trans (past_cell (h) _)
theorem pastD2 {w : World} {b i : Nat} {v : Value} {o0 o1 : Obj} (h : w.cell? ⟨b, i, none⟩ = some v) : ((w.alloc o0).alloc o1).drew.cell? ⟨b, i, none⟩ = some v :=
  (World.cell?_drew _ _).trans (past_cell (past_cell (h) _) _)
theorem pastD3 {w : World} {b i : Nat} {v : Value} {o0 o1 o2 : Obj} (h : w.cell? ⟨b, i, none⟩ = some v) : (((w.alloc o0).alloc o1).alloc o2).drew.cell? ⟨b, i, none⟩ = some v :=
  (World.cell?_drew _ _).trans (past_cell (past_cell (past_cell (h) _) _) _)
theorem pastD4 {w : World} {b i : Nat} {v : Value} {o0 o1 o2 o3 : Obj} (h : w.cell? ⟨b, i, none⟩ = some v) : ((((w.alloc o0).alloc o1).alloc o2).alloc o3).drew.cell? ⟨b, i, none⟩ = some v :=
  (World.cell?_drew _ _).trans (past_cell (past_cell (past_cell (past_cell (h) _) _) _) _)
theorem pastD5 {w : World} {b i : Nat} {v : Value} {o0 o1 o2 o3 o4 : Obj} (h : w.cell? ⟨b, i, none⟩ = some v) : (((((w.alloc o0).alloc o1).alloc o2).alloc o3).alloc o4).drew.cell? ⟨b, i, none⟩ = some v :=
  (World.cell?_drew _ _).trans (past_cell (past_cell (past_cell (past_cell (past_cell (h) _) _) _) _) _)
theorem pastD6 {w : World} {b i : Nat} {v : Value} {o0 o1 o2 o3 o4 o5 : Obj} (h : w.cell? ⟨b, i, none⟩ = some v) : ((((((w.alloc o0).alloc o1).alloc o2).alloc o3).alloc o4).alloc o5).drew.cell? ⟨b, i, none⟩ = some v :=
  (World.cell?_drew _ _).trans (past_cell (past_cell (past_cell (past_cell (past_cell (past_cell (h) _) _) _) _) _) _)
theorem pastD7 {w : World} {b i : Nat} {v : Value} {o0 o1 o2 o3 o4 o5 o6 : Obj} (h : w.cell? ⟨b, i, none⟩ = some v) : (((((((w.alloc o0).alloc o1).alloc o2).alloc o3).alloc o4).alloc o5).alloc o6).drew.cell? ⟨b, i, none⟩ = some v :=
  (World.cell?_drew _ _).trans (past_cell (past_cell (past_cell (past_cell (past_cell (past_cell (past_cell (h) _) _) _) _) _) _) _)

set_option maxHeartbeats 400000 in
theorem l12Init_any (a b c d : Int) (w : World) :
    Calls Try.prog 90 #[.agg #[.int .i64 a, .int .i64 b, .int .i64 c, .int .i64 d]] w fun e w' => e = .returned (.bool (initOkV a b c d)) ∧ Below w.heap.size w w' := by
  by_cases h0 : 1 ≤ a ∧ a ≤ 4294967295
  · have H0 := Lib.hid (decide_eq_true h0)
    have G0 := Lib.hid h0
    clear h0
    by_cases h1 : 0 ≤ b ∧ b ≤ 65535
    · have H1 := Lib.hid (decide_eq_true h1)
      have G1 := Lib.hid h1
      clear h1
      by_cases h2 : 1 ≤ c ∧ c ≤ 4
      · have H2 := Lib.hid (decide_eq_true h2)
        have G2 := Lib.hid h2
        clear h2
        by_cases h3 : Ser d
        · have E := Lib.hid (initOkV_yes (a := a) (b := b) (c := c) (d := d) ⟨G0.out, G1.out, G2.out, ser_le h3⟩)
          have H3 := Lib.hid h3
          clear h3
          rw [E.out]
          go_enter Try.func90, Try.ntmps90
          go_wp2_with fail
          refine (l6In_any a 1 4294967295 _).mono ?_
          rintro e w1 ⟨rfl, rfl⟩
          rw [H0.out]
          go_wp2_with fail
          refine (l6In_any b 0 65535 _).mono ?_
          rintro e w1 ⟨rfl, rfl⟩
          rw [H1.out]
          go_wp2_with fail
          refine (l6In_any c 1 4 _).mono ?_
          rintro e w1 ⟨rfl, rfl⟩
          rw [H2.out]
          go_wp2_with fail
          refine (l3Ok_yes d _ H3.out).mono ?_
          rintro e w1 ⟨rfl, rfl⟩
          go_wp2
          go_ret
          exact ⟨rfl, below_box _ (Nat.le_refl _)⟩
        · have H3 := Lib.hid h3
          clear h3
          rw [initOkV_no fun h => ser_not H3.out h.2.2.2]
          go_enter Try.func90, Try.ntmps90
          go_wp2_with fail
          refine (l6In_any a 1 4294967295 _).mono ?_
          rintro e w1 ⟨rfl, rfl⟩
          rw [H0.out]
          go_wp2_with fail
          refine (l6In_any b 0 65535 _).mono ?_
          rintro e w1 ⟨rfl, rfl⟩
          rw [H1.out]
          go_wp2_with fail
          refine (l6In_any c 1 4 _).mono ?_
          rintro e w1 ⟨rfl, rfl⟩
          rw [H2.out]
          go_wp2_with fail
          refine (l3Ok_no d _ H3.out).mono ?_
          rintro e w1 ⟨rfl, rfl⟩
          go_wp2
          go_ret
          exact ⟨rfl, below_box _ (Nat.le_refl _)⟩
      · have H2 := Lib.hid (decide_eq_false h2)
        rw [initOkV_no fun h => h2 h.2.2.1]
        clear h2
        go_enter Try.func90, Try.ntmps90
        go_wp2_with fail
        refine (l6In_any a 1 4294967295 _).mono ?_
        rintro e w1 ⟨rfl, rfl⟩
        rw [H0.out]
        go_wp2_with fail
        refine (l6In_any b 0 65535 _).mono ?_
        rintro e w1 ⟨rfl, rfl⟩
        rw [H1.out]
        go_wp2_with fail
        refine (l6In_any c 1 4 _).mono ?_
        rintro e w1 ⟨rfl, rfl⟩
        rw [H2.out]
        go_wp2
        go_ret
        exact ⟨rfl, below_box _ (Nat.le_refl _)⟩
    · have H1 := Lib.hid (decide_eq_false h1)
      rw [initOkV_no fun h => h1 h.2.1]
      clear h1
      go_enter Try.func90, Try.ntmps90
      go_wp2_with fail
      refine (l6In_any a 1 4294967295 _).mono ?_
      rintro e w1 ⟨rfl, rfl⟩
      rw [H0.out]
      go_wp2_with fail
      refine (l6In_any b 0 65535 _).mono ?_
      rintro e w1 ⟨rfl, rfl⟩
      rw [H1.out]
      go_wp2
      go_ret
      exact ⟨rfl, below_box _ (Nat.le_refl _)⟩
  · have H0 := Lib.hid (decide_eq_false h0)
    rw [initOkV_no fun h => h0 h.1]
    clear h0
    go_enter Try.func90, Try.ntmps90
    go_wp2_with fail
    refine (l6In_any a 1 4294967295 _).mono ?_
    rintro e w1 ⟨rfl, rfl⟩
    rw [H0.out]
    go_wp2
    go_ret
    exact ⟨rfl, below_box _ (Nat.le_refl _)⟩

end Go.Proofs.Ytncbgejggfkdmaa

/- Plain lemmas on receipts: valid blocks, their bytes; blocks that lie in memory. -/
namespace Go.Proofs.Ytncbgejggfkdmaa
open Go.RowKit Go.PlainAid

theorem ser_of {a : Int} (h : 0 ≤ a ∧ a ≤ 65535) : Ser a := ⟨h.1, by omega⟩
/-- Blocks are in order and do not touch; all of them are behind 'l'. -/
def GapsOk : Int → List (Int × Int) → Prop
  | _, [] => True
  | l, g :: gs => l + 2 ≤ g.1 ∧ g.1 ≤ g.2 ∧ g.2 ≤ 16 ∧ GapsOk g.2 gs

instance gapsOkDec : (l : Int) → (gs : List (Int × Int)) → Decidable (GapsOk l gs)
  | _, [] => isTrue trivial
  | l, g :: gs => by
    have := gapsOkDec g.2 gs
    unfold GapsOk
    infer_instance

/-- A receipt is valid. -/
def SackOk (c : Int) (gs : List (Int × Int)) : Prop := (0 ≤ c ∧ c ≤ 65535) ∧ GapsOk 0 gs

instance (c : Int) (gs : List (Int × Int)) : Decidable (SackOk c gs) := by
  unfold SackOk
  infer_instance

/-- Whether a receipt is valid. -/
def sackV (c : Int) (gs : List (Int × Int)) : Bool := decide (SackOk c gs)
theorem sackV_yes {c : Int} {gs : List (Int × Int)} (h : SackOk c gs) : sackV c gs = true := decide_eq_true h
theorem sackV_no {c : Int} {gs : List (Int × Int)} (h : ¬ SackOk c gs) : sackV c gs = false := decide_eq_false h
theorem gaps_few : ∀ {l : Int} {gs : List (Int × Int)}, GapsOk l gs → l ≤ 16 → l + 2 * gs.length ≤ 16
  | _, [], _, h => by simpa using h
  | l, g :: gs, ⟨h1, h2, h3, h4⟩, _ => by
    have := gaps_few h4 h3
    simp only [List.length_cons]
    omega
theorem sack_few {c : Int} {gs : List (Int × Int)} (h : SackOk c gs) : gs.length ≤ 8 := by
  have := gaps_few h.2 (by decide)
  omega
/-- The number behind which the next block must lie. -/
def lastOf (l : Int) : List (Int × Int) → Int
  | [] => l
  | g :: gs => lastOf g.2 gs
theorem gaps_append : ∀ {l : Int} {gs hs : List (Int × Int)}, GapsOk l (gs ++ hs) ↔ GapsOk l gs ∧ GapsOk (lastOf l gs) hs
  | _, [], _ => by simp [GapsOk, lastOf]
  | l, g :: gs, hs => by
    simp only [List.cons_append, GapsOk, lastOf]
    rw [gaps_append (l := g.2) (gs := gs) (hs := hs)]
    constructor
    · rintro ⟨a, b, c, d, e⟩
      exact ⟨⟨a, b, c, d⟩, e⟩
    · rintro ⟨⟨a, b, c, d⟩, e⟩
      exact ⟨a, b, c, d, e⟩
theorem lastOf_append (l : Int) (gs : List (Int × Int)) (g : Int × Int) : lastOf l (gs ++ [g]) = g.2 := by
  induction gs generalizing l with
  | nil => rfl
  | cons x xs ih => exact ih x.2
theorem last_range {l : Int} {gs : List (Int × Int)} (h : GapsOk l gs) (h0 : 0 ≤ l) (h1 : l ≤ 16) : 0 ≤ lastOf l gs ∧ lastOf l gs ≤ 16 := by
  induction gs generalizing l with
  | nil => exact ⟨h0, h1⟩
  | cons g gs ih =>
    obtain ⟨k1, k2, k3, k4⟩ := h
    exact ih k4 (by omega) k3
theorem gaps_next {gs : List (Int × Int)} {k : Nat} {f t : Int} (hk : k < gs.length) (hf : (gs.getD k (0, 0)).1 = f) (ht : (gs.getD k (0, 0)).2 = t) (h : GapsOk 0 (gs.take k)) :
    GapsOk 0 (gs.take (k + 1)) ↔ lastOf 0 (gs.take k) + 2 ≤ f ∧ f ≤ t ∧ t ≤ 16 := by
  have e : gs.take (k + 1) = gs.take k ++ [gs.getD k (0, 0)] := by
    rw [List.take_add_one, List.getD_eq_getElem?_getD, List.getElem?_eq_getElem hk]
    rfl
  rw [e, gaps_append]
  simp only [GapsOk, hf, ht, and_true]
  exact ⟨fun h => h.2, fun k => ⟨h, k⟩⟩
theorem gaps_head {l : Int} {gs : List (Int × Int)} {k : Nat} (h : GapsOk l gs) : GapsOk l (gs.take k) := by
  rw [← List.take_append_drop k gs, gaps_append] at h
  exact h.1
theorem last_next {gs : List (Int × Int)} {k : Nat} (hk : k < gs.length) : lastOf 0 (gs.take (k + 1)) = (gs.getD k (0, 0)).2 := by
  have e : gs.take (k + 1) = gs.take k ++ [gs.getD k (0, 0)] := by
    rw [List.take_add_one, List.getD_eq_getElem?_getD, List.getElem?_eq_getElem hk]
    rfl
  rw [e, lastOf_append]
/-- The bytes of blocks. -/
def gapsS : List (Int × Int) → ByteArray
  | [] => ByteArray.mk #[]
  | g :: gs => wordS g.1 ++ wordS g.2 ++ gapsS gs
def sackS (c : Int) (gs : List (Int × Int)) : ByteArray := wordS c ++ gapsS gs
theorem gapsS_size : ∀ gs : List (Int × Int), (gapsS gs).size = 4 * gs.length
  | [] => rfl
  | g :: gs => by
    unfold gapsS
    rw [ByteArray.size_append, ByteArray.size_append, wordS_size, wordS_size, gapsS_size gs, List.length_cons]
    omega
theorem sackS_size (c : Int) (gs : List (Int × Int)) : (sackS c gs).size = 2 + 4 * gs.length := by
  unfold sackS
  rw [ByteArray.size_append, wordS_size, gapsS_size]
theorem gapsS_append (gs : List (Int × Int)) (g : Int × Int) : gapsS (gs ++ [g]) = gapsS gs ++ (wordS g.1 ++ wordS g.2) := by
  induction gs with
  | nil =>
    show wordS g.1 ++ wordS g.2 ++ ByteArray.mk #[] = ByteArray.mk #[] ++ (wordS g.1 ++ wordS g.2)
    exact (ByteArray.append_empty).trans (ByteArray.empty_append).symm
  | cons x xs ih =>
    show wordS x.1 ++ wordS x.2 ++ gapsS (xs ++ [g]) = wordS x.1 ++ wordS x.2 ++ gapsS xs ++ (wordS g.1 ++ wordS g.2)
    rw [ih]
    simp only [ByteArray.append_assoc]
theorem sackS_append (c : Int) (gs : List (Int × Int)) (g : Int × Int) : sackS c (gs ++ [g]) = sackS c gs ++ wordS g.1 ++ wordS g.2 := by
  unfold sackS
  rw [gapsS_append]
  simp only [ByteArray.append_assoc]
theorem take_next {gs : List (Int × Int)} {k : Nat} (h : k < gs.length) : gs.take (k + 1) = gs.take k ++ [gs.getD k (0, 0)] := by
  rw [List.take_add_one, List.getD_eq_getElem?_getD, List.getElem?_eq_getElem h]
  rfl

/-- The blocks that bytes hold. -/
def gapsAt (b : ByteArray) : Nat → List (Int × Int)
  | 0 => []
  | k + 1 => gapsAt b k ++ [(be b (2 + 4 * k) 2, be b (4 + 4 * k) 2)]
theorem gapsAt_length (b : ByteArray) (k : Nat) : (gapsAt b k).length = k := by
  induction k with
  | zero => rfl
  | succ k ih => rw [gapsAt, List.length_append, ih, List.length_singleton]
/-- The cells of blocks. -/
def flat : List (Int × Int) → List Value
  | [] => []
  | g :: gs => .int .i64 g.1 :: .int .i64 g.2 :: flat gs
theorem flat_append (gs hs : List (Int × Int)) : flat (gs ++ hs) = flat gs ++ flat hs := by
  induction gs with
  | nil => rfl
  | cons g gs ih => simp [flat, ih]
theorem flat_length (gs : List (Int × Int)) : (flat gs).length = 2 * gs.length := by
  induction gs with
  | nil => rfl
  | cons g gs ih => simp [flat, ih]; omega
theorem flat_get (gs : List (Int × Int)) (i : Nat) (h : i < gs.length) : (flat gs)[i * 2]? = some (.int .i64 (gs.getD i (0, 0)).1) ∧ (flat gs)[i * 2 + 1]? = some (.int .i64 (gs.getD i (0, 0)).2) := by
  induction gs generalizing i with
  | nil => simp at h
  | cons g gs ih =>
    cases i with
    | zero => exact ⟨rfl, rfl⟩
    | succ i =>
      have := ih i (by simpa using h)
      have e : (i + 1) * 2 = i * 2 + 1 + 1 := by omega
      rw [e]
      simpa [flat] using this
/-- A number of steps lies in a block. -/
def blockV (n : Int) (gs : List (Int × Int)) : Bool := gs.any fun g => decide (g.1 ≤ n ∧ n ≤ g.2)
theorem blockV_none (n : Int) : blockV n [] = false := rfl
theorem blockV_next {n f t : Int} {gs : List (Int × Int)} {k : Nat} (hk : k < gs.length) (hf : (gs.getD k (0, 0)).1 = f) (ht : (gs.getD k (0, 0)).2 = t) : blockV n (gs.take (k + 1)) = (blockV n (gs.take k) || decide (f ≤ n ∧ n ≤ t)) := by
  rw [take_next hk]
  unfold blockV
  rw [List.any_append, List.any_cons, List.any_nil, Bool.or_false, hf, ht]
theorem blockV_head {n : Int} {gs : List (Int × Int)} {k : Nat} (h : blockV n (gs.take k) = true) : blockV n gs = true := by
  unfold blockV at h ⊢
  rw [List.any_eq_true] at h ⊢
  obtain ⟨g, h1, h2⟩ := h
  exact ⟨g, List.mem_of_mem_take h1, h2⟩
/-- A slice of blocks: nil, or the cells of 'len' blocks, two each, from an address on. -/
def Gaps (w : World) (a : Option Addr) (len cap : Nat) (gs : List (Int × Int)) : Prop :=
  (a = none ∧ len = 0 ∧ cap = 0 ∧ gs = []) ∨
  ∃ x : Addr, a = some x ∧ len ≤ cap ∧ cap ≤ maxLen ∧ gs.length = len ∧ ∀ i, i < len → w.cell? (x.add (i * 2)) = some (.int .i64 (gs.getD i (0, 0)).1) ∧ w.cell? ⟨(x.add (i * 2)).block, (x.add (i * 2)).off + 1, none⟩ = some (.int .i64 (gs.getD i (0, 0)).2)
theorem Gaps.length {w : World} {a : Option Addr} {len cap : Nat} {gs : List (Int × Int)} (h : Gaps w a len cap gs) : gs.length = len := by
  rcases h with ⟨_, rfl, _, rfl⟩ | ⟨_, _, _, _, h, _⟩
  · rfl
  · exact h
theorem Gaps.below {w w' : World} {a : Option Addr} {len cap : Nat} {gs : List (Int × Int)} (h : Gaps w a len cap gs) (hb : Below w.heap.size w w') : Gaps w' a len cap gs := by
  rcases h with h | ⟨x, h1, h2, h3, h4, h5⟩
  · exact .inl h
  · refine .inr ⟨x, h1, h2, h3, h4, fun i hi => ?_⟩
    obtain ⟨p, q⟩ := h5 i hi
    exact ⟨(hb.cell (World.block_lt_of_cell? w _ p)).trans p, (hb.cell (World.block_lt_of_cell? w _ q)).trans q⟩

end Go.Proofs.Ytncbgejggfkdmaa

/- What has arrived, plain: parts ahead, moving on, receipts of it. -/
namespace Go.Proofs.Ytncbgejggfkdmaa
open Go.RowKit Go.PlainAid

/-- Numbers ascend, from behind l up to 16. -/
def AscOk : Int → List Int → Prop
  | _, [] => True
  | l, e :: es => (l + 1 ≤ e ∧ e ≤ 16) ∧ AscOk e es
instance ascDec : (l : Int) → (es : List Int) → Decidable (AscOk l es)
  | _, [] => .isTrue trivial
  | l, e :: es => by
    unfold AscOk
    have := ascDec e es
    infer_instance
/-- The last number. -/
def lastE : Int → List Int → Int
  | l, [] => l
  | _, e :: es => lastE e es
theorem lastE_snoc (l : Int) (es : List Int) (e : Int) : lastE l (es ++ [e]) = e := by
  induction es generalizing l with
  | nil => rfl
  | cons x xs ih => exact ih x
theorem asc_snoc {l : Int} {es : List Int} {e : Int} : AscOk l (es ++ [e]) ↔ AscOk l es ∧ lastE l es + 1 ≤ e ∧ e ≤ 16 := by
  induction es generalizing l with
  | nil => exact ⟨fun h => ⟨trivial, h.1⟩, fun h => ⟨h.2, trivial⟩⟩
  | cons x xs ih =>
    show (l + 1 ≤ x ∧ x ≤ 16) ∧ AscOk x (xs ++ [e]) ↔ ((l + 1 ≤ x ∧ x ≤ 16) ∧ AscOk x xs) ∧ lastE x xs + 1 ≤ e ∧ e ≤ 16
    rw [ih]
    simp only [and_assoc]
theorem asc_left {l : Int} {es ds : List Int} (h : AscOk l (es ++ ds)) : AscOk l es := by
  induction es generalizing l with
  | nil => trivial
  | cons x xs ih => exact ⟨h.1, ih h.2⟩
theorem asc_low {l : Int} {es : List Int} (h : AscOk l es) : ∀ e ∈ es, l + 1 ≤ e ∧ e ≤ 16 := by
  induction es generalizing l with
  | nil => exact fun e he => by simp at he
  | cons x xs ih =>
    intro e he
    rcases List.mem_cons.1 he with rfl | he
    · exact h.1
    · have := ih h.2 e he
      have := h.1.1
      omega
theorem asc_few {l : Int} {es : List Int} (h : AscOk l es) (hl : l ≤ 16) : l + es.length ≤ 16 := by
  induction es generalizing l with
  | nil => simpa using hl
  | cons x xs ih =>
    have := ih h.2 h.1.2
    have := h.1.1
    rw [List.length_cons]
    omega
theorem asc_weak {l l' : Int} {es : List Int} (h : AscOk l es) (hl : l' ≤ l) : AscOk l' es := by
  cases es with
  | nil => trivial
  | cons e es => exact ⟨⟨by have := h.1.1; omega, h.1.2⟩, h.2⟩
theorem lastE_range {l : Int} {es : List Int} (h : AscOk l es) (hl : l ≤ 16) : l ≤ lastE l es ∧ lastE l es ≤ 16 := by
  induction es generalizing l with
  | nil => exact ⟨Int.le_refl _, hl⟩
  | cons x xs ih =>
    have := ih h.2 h.1.2
    have := h.1.1
    show l ≤ lastE x xs ∧ lastE x xs ≤ 16
    omega
/-- Ascending numbers are told by which they are. -/
theorem asc_ext : ∀ {l m : Int} {es ds : List Int}, AscOk l es → AscOk m ds → (∀ j, j ∈ es ↔ j ∈ ds) → es = ds
  | _, _, [], [], _, _, _ => rfl
  | _, _, [], d :: ds, _, _, h => absurd ((h d).2 List.mem_cons_self) (by simp)
  | _, _, e :: es, [], _, _, h => absurd ((h e).1 List.mem_cons_self) (by simp)
  | l, m, e :: es, d :: ds, h1, h2, h => by
    have le := asc_low h1.2
    have ld := asc_low h2.2
    have e1 : e = d := by
      rcases List.mem_cons.1 ((h e).1 List.mem_cons_self) with h3 | h3
      · exact h3
      · rcases List.mem_cons.1 ((h d).2 List.mem_cons_self) with h4 | h4
        · exact h4.symm
        · have := ld e h3
          have := le d h4
          omega
    subst e1
    rw [asc_ext h1.2 h2.2 fun j => ?_]
    constructor
    · intro hj
      rcases List.mem_cons.1 ((h j).1 (List.mem_cons_of_mem _ hj)) with h3 | h3
      · have := le j hj
        omega
      · exact h3
    · intro hj
      rcases List.mem_cons.1 ((h j).2 (List.mem_cons_of_mem _ hj)) with h3 | h3
      · have := ld j hj
        omega
      · exact h3
/-- A value is valid. -/
def SeenOk (c : Int) (es : List Int) : Prop := (0 ≤ c ∧ c ≤ 65535) ∧ AscOk 1 es
instance (c : Int) (es : List Int) : Decidable (SeenOk c es) := by
  unfold SeenOk
  infer_instance
def seenV (c : Int) (es : List Int) : Bool := decide (SeenOk c es)
theorem seenV_yes {c : Int} {es : List Int} (h : SeenOk c es) : seenV c es = true := decide_eq_true h
theorem seenV_no {c : Int} {es : List Int} (h : ¬ SeenOk c es) : seenV c es = false := decide_eq_false h
theorem seen_ser {c : Int} {es : List Int} (h : SeenOk c es) : Ser c := ser_of h.1
instance (a : Int) : Decidable (Ser a) := by
  unfold Ser
  infer_instance
/-- A part has arrived. -/
def HasS (c : Int) (es : List Int) (t : Int) : Prop := diffS c t ≤ 0 ∨ diffS c t ∈ es
instance (c : Int) (es : List Int) (t : Int) : Decidable (HasS c es t) := by
  unfold HasS
  infer_instance
/-- What SeenHas answers. -/
def hasSV (c : Int) (es : List Int) (t : Int) : Bool := decide (SeenOk c es ∧ Ser t ∧ HasS c es t)
/-- The value moves on by n steps, as far as those that P tells have arrived; those left are es. -/
structure Moved (P : Int → Prop) (n : Int) (es : List Int) : Prop where
  n0 : 0 ≤ n
  run : ∀ j, 1 ≤ j → j ≤ n → P j
  stop : ¬ P (n + 1)
  asc : AscOk 1 es
  mem : ∀ j, j ∈ es ↔ 1 ≤ j ∧ P (j + n)
theorem moved_one {P : Int → Prop} {n m : Int} {es ds : List Int} (h : Moved P n es) (k : Moved P m ds) : n = m ∧ es = ds := by
  have e : n = m := by
    rcases Int.lt_trichotomy n m with hl | hl | hl
    · exact absurd (k.run (n + 1) (by have := h.n0; omega) (by omega)) h.stop
    · exact hl
    · exact absurd (h.run (m + 1) (by have := k.n0; omega) (by omega)) k.stop
  subst e
  exact ⟨rfl, asc_ext h.asc k.asc fun j => (h.mem j).trans (k.mem j).symm⟩
theorem moved_congr {P Q : Int → Prop} {n : Int} {es : List Int} (h : Moved P n es) (e : ∀ j, P j ↔ Q j) : Moved Q n es :=
  ⟨h.n0, fun j h1 h2 => (e j).1 (h.run j h1 h2), fun k => h.stop ((e _).2 k), h.asc, fun j => (h.mem j).trans (by rw [e (j + n)])⟩
/-- Moving on twice. -/
theorem moved_two {P : Int → Prop} {n m e : Int} {es ds : List Int} (h : Moved P n es) (k : Moved (fun j => j ∈ es ∨ j = e - n) m ds) : Moved (fun j => P j ∨ j = e) (n + m) ds := by
  have hn := h.n0
  have hm := k.n0
  refine ⟨by omega, fun j h1 h2 => ?_, fun hs => k.stop ?_, k.asc, fun j => (k.mem j).trans ?_⟩
  · by_cases hj : j ≤ n
    · exact .inl (h.run j h1 hj)
    · rcases k.run (j - n) (by omega) (by omega) with h3 | h3
      · have := ((h.mem _).1 h3).2
        rw [show j - n + n = j by omega] at this
        exact .inl this
      · exact .inr (by omega)
  · rcases hs with hs | hs
    · refine .inl ((h.mem _).2 ⟨by omega, ?_⟩)
      rw [show m + 1 + n = n + m + 1 by omega]
      exact hs
    · exact .inr (by omega)
  · constructor
    · rintro ⟨h1, h2 | h2⟩
      · refine ⟨h1, .inl ?_⟩
        have := ((h.mem _).1 h2).2
        rwa [show j + m + n = j + (n + m) by omega] at this
      · exact ⟨h1, .inr (by omega)⟩
    · rintro ⟨h1, h2 | h2⟩
      · refine ⟨h1, .inl ((h.mem _).2 ⟨by omega, ?_⟩)⟩
        rwa [show j + m + n = j + (n + m) by omega]
      · exact ⟨h1, .inr (by omega)⟩
theorem moved_range {P : Int → Prop} {n : Int} {es : List Int} (h : Moved P n es) (hP : ∀ j, P j → 1 ≤ j ∧ j ≤ 16) : n ≤ 16 := by
  by_cases h0 : n = 0
  · omega
  · exact (hP n (h.run n (by have := h.n0; omega) (Int.le_refl _))).2
/-- What arrives ahead: those that had arrived, and the one d steps ahead. -/
def With (es : List Int) (d : Int) : Int → Prop := fun j => j ∈ es ∨ j = d
theorem with_range {es : List Int} {d : Int} (h : AscOk 1 es) (h1 : 1 ≤ d) (h2 : d ≤ 16) : ∀ j, With es d j → 1 ≤ j ∧ j ≤ 16 := by
  rintro j (hj | rfl)
  · have := asc_low h j hj
    omega
  · exact ⟨h1, h2⟩
/-- A part is fresh: d steps ahead, at most 16, and not there. -/
def Fresh (es : List Int) (d : Int) : Prop := 1 ≤ d ∧ d ≤ 16 ∧ d ∉ es
/-- What SeenAdd answers to valid arguments: a value and a code. -/
def AddIs (c : Int) (es : List Int) (t : Int) (c2 : Int) (es2 : List Int) (code : Int) : Prop :=
  (HasS c es t ∧ c2 = c ∧ es2 = es ∧ code = 1)
  ∨ (¬ HasS c es t ∧ 16 < diffS c t ∧ c2 = c ∧ es2 = es ∧ code = 2)
  ∨ (Fresh es (diffS c t) ∧ code = 0 ∧ ∃ n, Moved (With es (diffS c t)) n es2 ∧ c2 = addS c n)
theorem fresh_not {c t : Int} {es : List Int} (h : Fresh es (diffS c t)) : ¬ HasS c es t := by
  rintro (h1 | h1)
  · have := h.1
    omega
  · exact h.2.2 h1
theorem add_one {c t c2 c3 : Int} {es e2 e3 : List Int} {k2 k3 : Int} (h : AddIs c es t c2 e2 k2) (k : AddIs c es t c3 e3 k3) : c2 = c3 ∧ e2 = e3 ∧ k2 = k3 := by
  rcases h with ⟨h1, rfl, rfl, rfl⟩ | ⟨h1, h2, rfl, rfl, rfl⟩ | ⟨h1, rfl, n, h2, rfl⟩ <;> rcases k with ⟨k1, rfl, rfl, rfl⟩ | ⟨k1, k2, rfl, rfl, rfl⟩ | ⟨k1, rfl, m, k2, rfl⟩
  · exact ⟨rfl, rfl, rfl⟩
  · exact absurd h1 k1
  · exact absurd h1 (fresh_not k1)
  · exact absurd k1 h1
  · exact ⟨rfl, rfl, rfl⟩
  · have := k1.2.1
    omega
  · exact absurd k1 (fresh_not h1)
  · have := h1.2.1
    omega
  · obtain ⟨rfl, rfl⟩ := moved_one h2 k2
    exact ⟨rfl, rfl, rfl⟩
theorem diff_two {c d n : Int} (h1 : -100 ≤ d ∧ d ≤ 100) (h2 : -100 ≤ n ∧ n ≤ 100) : diffS (addS c n) (addS c d) = d - n := by
  unfold diffS addS
  split <;> omega
theorem diff_near {c d : Int} (h1 : -100 ≤ d ∧ d ≤ 100) : diffS c (addS c d) = d := by
  unfold diffS addS
  split <;> omega
section
variable {c t c2 : Int} {es es2 : List Int} {n : Int}
/-- What a fresh part leads to. -/
theorem fresh_ok (hs : SeenOk c es) (hf : Fresh es (diffS c t)) (hm : Moved (With es (diffS c t)) n es2) : SeenOk (addS c n) es2 ∧ 0 ≤ n ∧ n ≤ 16 :=
  ⟨⟨ser_le (addS_ser c n), hm.asc⟩, hm.n0, moved_range hm (with_range hs.2 hf.1 hf.2.1)⟩
theorem fresh_has (hs : SeenOk c es) (ht : Ser t) (hf : Fresh es (diffS c t)) (hm : Moved (With es (diffS c t)) n es2) : HasS (addS c n) es2 t := by
  obtain ⟨_, h1, h2⟩ := fresh_ok hs hf hm
  have e : diffS (addS c n) t = diffS c t - n := by
    have h3 := diffS_leads c ht
    have := diff_two (c := c) (d := diffS c t) (n := n) (by have := hf.1; have := hf.2.1; omega) (by omega)
    rwa [h3] at this
  unfold HasS
  rw [e]
  by_cases h3 : diffS c t ≤ n
  · exact .inl (by omega)
  · exact .inr ((hm.mem _).2 ⟨by omega, .inr (by omega)⟩)
theorem fresh_others (hs : SeenOk c es) (hf : Fresh es (diffS c t)) (hm : Moved (With es (diffS c t)) n es2) {k : Int} (hk : -3 ≤ k ∧ k ≤ 17) (hne : k ≠ diffS c t) : HasS (addS c n) es2 (addS c k) ↔ HasS c es (addS c k) := by
  obtain ⟨_, h1, h2⟩ := fresh_ok hs hf hm
  unfold HasS
  rw [diff_two (by omega) (by omega), diff_near (by omega)]
  constructor
  · rintro (h3 | h3)
    · by_cases h4 : k ≤ 0
      · exact .inl h4
      · rcases hm.run k (by omega) (by omega) with h5 | h5
        · exact .inr h5
        · exact absurd h5 hne
    · have h4 := (hm.mem _).1 h3
      rw [show k - n + n = k by omega] at h4
      rcases h4.2 with h5 | h5
      · exact .inr h5
      · exact absurd h5 hne
  · rintro (h3 | h3)
    · exact .inl (by omega)
    · by_cases h4 : k ≤ n
      · exact .inl (by omega)
      · refine .inr ((hm.mem _).2 ⟨by omega, .inl ?_⟩)
        rw [show k - n + n = k by omega]
        exact h3
end
/-- Two fresh parts lead to the same in either order. -/
theorem add_order {c t : Int} {es e1 e2 e3 e4 : List Int} {n1 n2 m1 m2 e : Int} (h1 : Moved (With es (diffS c t)) n1 e1) (h2 : Moved (With e1 (e - n1)) m1 e3) (k1 : Moved (With es e) n2 e2) (k2 : Moved (With e2 (diffS c t - n2)) m2 e4) : addS (addS c n1) m1 = addS (addS c n2) m2 ∧ e3 = e4 := by
  have a := moved_two h1 h2
  have b := moved_two k1 k2
  have := moved_one a (moved_congr b fun j => by unfold With; constructor <;> rintro ((h | h) | h) <;> first | exact .inl (.inl h) | exact .inl (.inr h) | exact .inr h)
  rw [addS_sum, addS_sum, this.1]
  exact ⟨rfl, this.2⟩
theorem next_fresh {c : Int} {es : List Int} (h : SeenOk c es) : Fresh es (diffS c (addS c 1)) := by
  rw [diff_near (by omega)]
  refine ⟨by omega, by omega, fun hj => ?_⟩
  have := asc_low h.2 1 hj
  omega
theorem next_moves {P : Int → Prop} {n : Int} {es : List Int} (h : Moved P n es) (h1 : P 1) : 1 ≤ n := by
  have h0 := h.n0
  by_cases hn : n = 0
  · have := h.stop
    rw [hn] at this
    exact absurd h1 this
  · omega
/-- A number of steps lies in a block. -/
def Blk (gs : List (Int × Int)) (j : Int) : Prop := ∃ g ∈ gs, g.1 ≤ j ∧ j ≤ g.2
theorem blk_nil (j : Int) : ¬ Blk [] j := by rintro ⟨g, hg, _⟩; simp at hg
theorem blk_cons {g : Int × Int} {gs : List (Int × Int)} {j : Int} : Blk (g :: gs) j ↔ (g.1 ≤ j ∧ j ≤ g.2) ∨ Blk gs j := by
  constructor
  · rintro ⟨x, hx, h⟩
    rcases List.mem_cons.1 hx with rfl | hx
    · exact .inl h
    · exact .inr ⟨x, hx, h⟩
  · rintro (h | ⟨x, hx, h⟩)
    · exact ⟨g, List.mem_cons_self, h⟩
    · exact ⟨x, List.mem_cons_of_mem _ hx, h⟩
theorem blk_snoc {g : Int × Int} {gs : List (Int × Int)} {j : Int} : Blk (gs ++ [g]) j ↔ Blk gs j ∨ (g.1 ≤ j ∧ j ≤ g.2) := by
  induction gs with
  | nil => rw [List.nil_append, blk_cons]; exact or_comm
  | cons x xs ih => rw [List.cons_append, blk_cons, blk_cons, ih, or_assoc]
theorem blk_low {l : Int} {gs : List (Int × Int)} (h : GapsOk l gs) : ∀ j, Blk gs j → l + 2 ≤ j ∧ j ≤ 16 := by
  induction gs generalizing l with
  | nil => exact fun j hj => absurd hj (blk_nil j)
  | cons g gs ih =>
    intro j hj
    obtain ⟨h1, h2, h3, h4⟩ := h
    rcases blk_cons.1 hj with h5 | h5
    · omega
    · have := ih h4 j h5
      omega
/-- Blocks are told by which numbers lie in them. -/
theorem gaps_ext : ∀ {l m : Int} {gs hs : List (Int × Int)}, GapsOk l gs → GapsOk m hs → (∀ j, Blk gs j ↔ Blk hs j) → gs = hs
  | _, _, [], [], _, _, _ => rfl
  | _, _, [], g :: gs, _, h2, h => absurd ((h g.1).2 (blk_cons.2 (.inl ⟨Int.le_refl _, h2.2.1⟩))) (blk_nil _)
  | _, _, g :: gs, [], h1, _, h => absurd ((h g.1).1 (blk_cons.2 (.inl ⟨Int.le_refl _, h1.2.1⟩))) (blk_nil _)
  | l, m, (a, b) :: gs, (p, q) :: hs, h1, h2, h => by
    obtain ⟨_, ab, _, h1t⟩ := h1
    obtain ⟨_, pq, _, h2t⟩ := h2
    have lg := blk_low h1t
    have lh := blk_low h2t
    have ea : a = p := by
      have x1 : Blk ((p, q) :: hs) a := (h a).1 (blk_cons.2 (.inl ⟨Int.le_refl _, ab⟩))
      have x2 : Blk ((a, b) :: gs) p := (h p).2 (blk_cons.2 (.inl ⟨Int.le_refl _, pq⟩))
      rcases blk_cons.1 x1 with x1 | x1 <;> rcases blk_cons.1 x2 with x2 | x2
      · simp only at x1 x2; omega
      · have := lg _ x2; simp only at x1 this pq ab; omega
      · have := lh _ x1; simp only at x2 this pq ab; omega
      · have := lg _ x2
        have := lh _ x1
        simp only at *
        omega
    subst ea
    have eb : b = q := by
      rcases Int.lt_trichotomy b q with hl | hl | hl
      · exfalso
        have x := (h (b + 1)).2 (blk_cons.2 (.inl ⟨by simp only at *; omega, by simp only at *; omega⟩))
        rcases blk_cons.1 x with x | x
        · simp only at x; omega
        · have := lg _ x; simp only at this; omega
      · exact hl
      · exfalso
        have x := (h (q + 1)).1 (blk_cons.2 (.inl ⟨by simp only at *; omega, by simp only at *; omega⟩))
        rcases blk_cons.1 x with x | x
        · simp only at x; omega
        · have := lh _ x; simp only at this; omega
    subst eb
    rw [gaps_ext h1t h2t fun j => ?_]
    constructor
    · intro hj
      rcases blk_cons.1 ((h j).1 (blk_cons.2 (.inr hj))) with x | x
      · have := lg _ hj; simp only at this x; omega
      · exact x
    · intro hj
      rcases blk_cons.1 ((h j).2 (blk_cons.2 (.inr hj))) with x | x
      · have := lh _ hj; simp only at this x; omega
      · exact x
/-- The blocks of a receipt tell which parts have arrived ahead. -/
structure Told (es : List Int) (gs : List (Int × Int)) : Prop where
  asc : AscOk 1 es
  gaps : GapsOk 0 gs
  mem : ∀ j, j ∈ es ↔ Blk gs j
theorem told_gaps {es : List Int} {gs hs : List (Int × Int)} (h : Told es gs) (k : Told es hs) : gs = hs := gaps_ext h.gaps k.gaps fun j => (h.mem j).symm.trans (k.mem j)
theorem told_seen {es ds : List Int} {gs : List (Int × Int)} (h : Told es gs) (k : Told ds gs) : es = ds := asc_ext h.asc k.asc fun j => (h.mem j).trans (k.mem j).symm

/-- A part ahead may be missing. -/
theorem asc_drop : ∀ {l : Int} {es : List Int} (k : Nat), AscOk l es → k < es.length → AscOk l (es.take k ++ es.drop (k + 1))
  | l, [], _, _, h => absurd h (by simp)
  | l, e :: es, 0, ⟨h1, h2⟩, _ => asc_weak h2 (by omega)
  | l, e :: es, k + 1, ⟨h1, h2⟩, h => ⟨h1, asc_drop k h2 (by simpa using h)⟩
/-- None may stand twice. -/
theorem asc_twice : ∀ {l : Int} {es : List Int} (k : Nat), k < es.length → ¬ AscOk l (es.take (k + 1) ++ es.drop k)
  | l, [], _, h => absurd h (by simp)
  | l, e :: es, 0, _ => fun h => by
    have := h.2.1.1
    omega
  | l, e :: es, k + 1, h => fun hk => asc_twice k (by simpa using h) hk.2

end Go.Proofs.Ytncbgejggfkdmaa

/- Rows of one's own: what leaves them be. -/
namespace Go.Proofs.Ytncbgejggfkdmaa
open Go.RowKit Go.PlainAid

theorem rowBelow {w w' : World} {base C : Nat} {e : TypeId} {size n m g cap : Nat} {xs : List Value} (h : w.ownsRow base e size (.slice (some ⟨g, 0, none⟩) m cap) n xs) (hb : Below C w w') (hg : g < C) :
    w'.ownsRow base e size (.slice (some ⟨g, 0, none⟩) m cap) n xs := by
  refine ⟨h.1, ?_⟩
  rcases h.2 with ⟨h1, _⟩ | ⟨g', cap', cur, h1, h2, h3, h4⟩
  · exact absurd h1 (by intro e; cases e)
  · obtain ⟨rfl, rfl, rfl⟩ : g = g' ∧ m = n ∧ cap = cap' := by simpa using h1
    exact .inr ⟨g, cap, cur, rfl, h2, by rw [hb.block g hg]; exact h3, h4⟩
theorem rowFar {w : World} {base d i : Nat} {e : TypeId} {size n m g cap : Nat} {xs : List Value} (h : w.ownsRow base e size (.slice (some ⟨g, 0, none⟩) m cap) n xs) (hd : g ≠ d) (v : Value) :
    (w.setCell ⟨d, i, none⟩ v).ownsRow base e size (.slice (some ⟨g, 0, none⟩) m cap) n xs := by
  refine ⟨h.1, ?_⟩
  rcases h.2 with ⟨h1, _⟩ | ⟨g', cap', cur, h1, h2, h3, h4⟩
  · exact absurd h1 (by intro e; cases e)
  · obtain ⟨rfl, rfl, rfl⟩ : g = g' ∧ m = n ∧ cap = cap' := by simpa using h1
    exact .inr ⟨g, cap, cur, rfl, h2, by rw [Below.heap_setCell _ _ _ _ (by simpa using hd)]; exact h3, h4⟩
theorem rowLt {w : World} {base : Nat} {e : TypeId} {size n m g cap : Nat} {xs : List Value} (h : w.ownsRow base e size (.slice (some ⟨g, 0, none⟩) m cap) n xs) : g < w.heap.size := by
  rcases h.2 with ⟨h1, _⟩ | ⟨g', cap', cur, h1, h2, h3, h4⟩
  · exact absurd h1 (by intro e; cases e)
  · obtain ⟨rfl, rfl, rfl⟩ : g = g' ∧ m = n ∧ cap = cap' := by simpa using h1
    exact (Array.getElem?_eq_some_iff.1 h3).1
theorem rowDrewN {w : World} {base : Nat} {e : TypeId} {size : Nat} {v : Value} {n : Nat} {xs : List Value} (h : w.ownsRow base e size v n xs) (q : Nat) : (w.drewN q).ownsRow base e size v n xs := by
  unfold World.ownsRow at h ⊢
  rw [World.heap_drewN]
  exact h
theorem VarN.plus {d g : Nat} {vs : List Value} {w w' : World} (h : VarN d vs w) (hg : w.grownBy w' (some g)) (hd : d < w.heap.size) (hne : d ≠ g) : VarN d vs w' := fun i v hi =>
  ⟨(hg.cell_far ⟨d, i, none⟩ hd (by simpa using hne)).trans (h i v hi).1, (hg.frozen_far ⟨d, i, none⟩ hd (by simpa using hne)).trans (h i v hi).2⟩
theorem news_box {w : World} {vs : List Value} {T : TypeId} {H : Nat} (e : w.heap.size = H) : ∀ j u, vs[j]? = some u → (w.alloc (.cells vs.toArray T)).cell? ((⟨H, 0, none⟩ : Addr).add j) = some u := by
  subst e
  exact World.news_of_block (heap_alloc_new w _)

end Go.Proofs.Ytncbgejggfkdmaa
