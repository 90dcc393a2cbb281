/- Assemblies, plain: a part is taken, and a list of parts. -/
import Derived.Test.YtncbgejggfkdmabG22
namespace Go.Proofs.Ytncbgejggfkdmab
open Go.RowKit Go.PlainAid

/-- A part may be put to an assembly of some streams. -/
def PartOk (n : Nat) (d : Part) : Prop := DataOk d.tsn d.stream d.ssn d.text ∧ d.stream < n
instance (n : Nat) (d : Part) : Decidable (PartOk n d) := by unfold PartOk DataOk; infer_instance
/-- A part with a number waits. -/
def hasT (ps : List Part) (t : Int) : Bool := ps.any fun p => p.tsn == t
theorem hasT_no {ps : List Part} {t : Int} (h : hasT ps t = false) : ∀ p ∈ ps, p.tsn ≠ t := by
  intro p hp e
  unfold hasT at h
  rw [List.any_eq_false] at h
  exact h p hp (by simp [e])
theorem hasT_yes {ps : List Part} {p : Part} (h : p ∈ ps) : hasT ps p.tsn = true := by
  unfold hasT
  rw [List.any_eq_true]
  exact ⟨p, h, by simp⟩
theorem AsmOk.push {next : List Int} {ps : List Part} {d : Part} (ha : AsmOk next ps) (hd : PartOk next.length d) (ht : hasT ps d.tsn = false) (hf : ps.length < 12) : AsmOk next (ps ++ [d]) where
  n1 := ha.n1
  n4 := ha.n4
  nums := ha.nums
  few := by rw [List.length_append]; simp; omega
  ok := fun p hp => by
    rcases List.mem_append.1 hp with hp | hp
    · exact ha.ok p hp
    · rw [List.mem_singleton.1 hp]
      exact hd
  diff := by
    rw [List.map_append, List.nodup_append]
    refine ⟨ha.diff, by simp, ?_⟩
    intro a h1 b h2 e
    obtain ⟨p, hp, rfl⟩ := List.mem_map.1 h1
    have h2' : b = d.tsn := by simpa using h2
    exact hasT_no ht p hp (e.trans h2')
/-- What a part does: a code, and what is then. -/
def addC (ps : List Part) (d : Part) : Int := if hasT ps d.tsn then 1 else if 12 ≤ ps.length then 2 else 0
def addR (next : List Int) (ps : List Part) (d : Part) : Ran := if hasT ps d.tsn then ⟨next, ps, []⟩ else if 12 ≤ ps.length then ⟨next, ps, []⟩ else runP next (ps ++ [d])
theorem addC_done {ps : List Part} {d : Part} (h : addC ps d = 0) : hasT ps d.tsn = false ∧ ps.length < 12 := by
  unfold addC at h
  split at h
  · cases h
  · rename_i h1
    split at h
    · cases h
    · exact ⟨by simpa using h1, by omega⟩
theorem addR_done {next : List Int} {ps : List Part} {d : Part} (h : addC ps d = 0) : addR next ps d = runP next (ps ++ [d]) := by
  obtain ⟨h1, h2⟩ := addC_done h
  unfold addR
  rw [if_neg (by simp [h1]), if_neg (by omega)]
theorem addR_not {next : List Int} {ps : List Part} {d : Part} (h : addC ps d ≠ 0) : addR next ps d = ⟨next, ps, []⟩ := by
  unfold addC at h
  unfold addR
  split
  · rfl
  · rename_i h1
    rw [if_neg h1] at h
    split
    · rfl
    · rename_i h2
      rw [if_neg h2] at h
      exact absurd rfl h
theorem addR_ok {next : List Int} {ps : List Part} {d : Part} (ha : AsmOk next ps) (hd : PartOk next.length d) : AsmOk (addR next ps d).next (addR next ps d).ps ∧ (addR next ps d).next.length = next.length := by
  by_cases h : addC ps d = 0
  · rw [addR_done h]
    have hp := ha.push hd (addC_done h).1 (addC_done h).2
    exact ⟨run_ok hp, run_length hp⟩
  · rw [addR_not h]
    exact ⟨ha, rfl⟩
/-- A part that was taken waits, or messages are told. -/
theorem add_waits {next : List Int} {ps : List Part} {d : Part} (ha : AsmOk next ps) (hd : PartOk next.length d) (h : addC ps d = 0) (hm : (addR next ps d).ms = []) : (addR next ps d).next = next ∧ (addR next ps d).ps = ps ++ [d] := by
  rw [addR_done h] at hm ⊢
  exact run_quiet (ha.push hd (addC_done h).1 (addC_done h).2) hm
theorem add_bytes {next : List Int} {ps : List Part} {d : Part} (ha : AsmOk next ps) (hd : PartOk next.length d) (h : addC ps d = 0) : sumB (addR next ps d).ps + sumM (addR next ps d).ms = sumB ps + d.text.size := by
  rw [addR_done h, run_bytes (ha.push hd (addC_done h).1 (addC_done h).2), sumB_append]
  unfold sumB
  simp
/-- A list of parts: what is then. -/
def goP (n : Nat) : List Part → List Int → List Part → Ran
  | [], next, ps => ⟨next, ps, []⟩
  | d :: ds, next, ps =>
    if PartOk n d then
      let r := goP n ds (addR next ps d).next (addR next ps d).ps
      ⟨r.next, r.ps, (addR next ps d).ms ++ r.ms⟩
    else goP n ds next ps
/-- The messages of a list of parts. -/
def runL (n : Nat) (ds : List Part) : List Msg := (goP n ds (List.replicate n 0) []).ms
theorem goP_yes {n : Nat} {d : Part} (h : PartOk n d) (ds : List Part) (next : List Int) (ps : List Part) : goP n (d :: ds) next ps = ⟨(goP n ds (addR next ps d).next (addR next ps d).ps).next, (goP n ds (addR next ps d).next (addR next ps d).ps).ps, (addR next ps d).ms ++ (goP n ds (addR next ps d).next (addR next ps d).ps).ms⟩ := by
  show (if PartOk n d then _ else _) = _
  rw [if_pos h]
theorem goP_no {n : Nat} {d : Part} (h : ¬ PartOk n d) (ds : List Part) (next : List Int) (ps : List Part) : goP n (d :: ds) next ps = goP n ds next ps := by
  show (if PartOk n d then _ else _) = _
  rw [if_neg h]
theorem goP_append {n : Nat} (ds es : List Part) : ∀ (next : List Int) (ps : List Part), goP n (ds ++ es) next ps =
    ⟨(goP n es (goP n ds next ps).next (goP n ds next ps).ps).next, (goP n es (goP n ds next ps).next (goP n ds next ps).ps).ps, (goP n ds next ps).ms ++ (goP n es (goP n ds next ps).next (goP n ds next ps).ps).ms⟩ := by
  induction ds with
  | nil => intro next ps; rfl
  | cons d ds ih =>
    intro next ps
    show goP n (d :: (ds ++ es)) next ps = _
    by_cases hd : PartOk n d
    · rw [goP_yes hd, goP_yes hd, ih]
      simp only [List.append_assoc]
    · rw [goP_no hd, goP_no hd, ih]
theorem goP_snoc {n : Nat} (ds : List Part) (d : Part) (next : List Int) (ps : List Part) : goP n (ds ++ [d]) next ps =
    if PartOk n d then ⟨(addR (goP n ds next ps).next (goP n ds next ps).ps d).next, (addR (goP n ds next ps).next (goP n ds next ps).ps d).ps, (goP n ds next ps).ms ++ (addR (goP n ds next ps).next (goP n ds next ps).ps d).ms⟩ else goP n ds next ps := by
  rw [goP_append]
  by_cases hd : PartOk n d
  · rw [goP_yes hd, if_pos hd]
    show (⟨_, _, _ ++ (_ ++ [])⟩ : Ran) = _
    rw [List.append_nil]
    rfl
  · rw [goP_no hd, if_neg hd]
    show (⟨_, _, _ ++ []⟩ : Ran) = _
    rw [List.append_nil]
    rfl
/-- Later parts change no earlier message. -/
theorem runL_part {n : Nat} (ds : List Part) (k : Nat) : ∃ ms, runL n ds = runL n (ds.take k) ++ ms := by
  refine ⟨(goP n (ds.drop k) (goP n (ds.take k) (List.replicate n 0) []).next (goP n (ds.take k) (List.replicate n 0) []).ps).ms, ?_⟩
  have := goP_append (n := n) (ds.take k) (ds.drop k) (List.replicate n 0) []
  rw [List.take_append_drop] at this
  unfold runL
  rw [this]
theorem asm_new {n : Nat} (h1 : 1 ≤ n) (h2 : n ≤ 4) : AsmOk (List.replicate n 0) [] where
  n1 := by rw [List.length_replicate]; exact h1
  n4 := by rw [List.length_replicate]; exact h2
  nums := fun x hx => by rw [(List.mem_replicate.1 hx).2]; exact ⟨by omega, by omega⟩
  few := by simp
  ok := fun p hp => by cases hp
  diff := by simp
theorem go_ok {n : Nat} (ds : List Part) : ∀ {next : List Int} {ps : List Part}, AsmOk next ps → next.length = n → AsmOk (goP n ds next ps).next (goP n ds next ps).ps ∧ (goP n ds next ps).next.length = n := by
  induction ds with
  | nil => intro next ps ha hl; exact ⟨ha, hl⟩
  | cons d ds ih =>
    intro next ps ha hl
    unfold goP
    split
    · rename_i hd
      have h := addR_ok ha (hl ▸ hd)
      exact ih h.1 (h.2.trans hl)
    · exact ih ha hl
/-- The ordered messages of a run: their numbers follow each other, and the next number has moved on by as many. -/
theorem addR_order {next : List Int} {ps : List Part} {d : Part} (ha : AsmOk next ps) (hd : PartOk next.length d) (s : Nat) (hs : s < next.length) :
    (ofS (addR next ps d).ms s).length ≤ 13 ∧ (addR next ps d).next.getD s 0 = addS (next.getD s 0) ((ofS (addR next ps d).ms s).length : Int) ∧
      ∀ i, i < (ofS (addR next ps d).ms s).length → ((ofS (addR next ps d).ms s).map fun m => m.ssn).getD i 0 = addS (next.getD s 0) (i : Int) := by
  by_cases h : addC ps d = 0
  · rw [addR_done h]
    have hp := ha.push hd (addC_done h).1 (addC_done h).2
    obtain ⟨h1, h2, h3⟩ := run_order hp s hs
    exact ⟨Nat.le_trans h1 (Nat.le_trans hp.few (by omega)), h2, h3⟩
  · rw [addR_not h]
    refine ⟨Nat.zero_le _, ?_, fun i hi => absurd hi (Nat.not_lt_zero _)⟩
    have : Ser (next.getD s 0) := ha.nums _ (by rw [List.getD_eq_getElem?_getD, List.getElem?_eq_getElem hs]; exact List.getElem_mem _)
    show next.getD s 0 = addS (next.getD s 0) 0
    unfold Ser at this
    unfold addS
    omega
theorem go_order {n : Nat} (ds : List Part) : ∀ {next : List Int} {ps : List Part}, AsmOk next ps → next.length = n → ∀ s, s < n →
    (ofS (goP n ds next ps).ms s).length ≤ 13 * ds.length ∧ ∀ i, i < (ofS (goP n ds next ps).ms s).length → ((ofS (goP n ds next ps).ms s).map fun m => m.ssn).getD i 0 = addS (next.getD s 0) (i : Int) := by
  induction ds with
  | nil => intro next ps _ _ s _; exact ⟨Nat.zero_le _, fun i hi => absurd hi (Nat.not_lt_zero _)⟩
  | cons d ds ih =>
    intro next ps ha hl s hs
    rw [List.length_cons]
    unfold goP
    split
    · rename_i hd
      have h := addR_ok ha (hl ▸ hd)
      obtain ⟨g1, g2⟩ := ih h.1 (h.2.trans hl) s hs
      obtain ⟨f1, f2, f3⟩ := addR_order ha (hl ▸ hd) s (by omega)
      show (ofS ((addR next ps d).ms ++ _) s).length ≤ _ ∧ ∀ i, i < (ofS ((addR next ps d).ms ++ _) s).length → ((ofS ((addR next ps d).ms ++ _) s).map _).getD i 0 = _
      rw [ofS_append, List.length_append, List.map_append]
      refine ⟨by omega, fun i hi => ?_⟩
      by_cases hc : i < (ofS (addR next ps d).ms s).length
      · rw [List.getD_eq_getElem?_getD, List.getElem?_append_left (by rw [List.length_map]; exact hc), ← List.getD_eq_getElem?_getD]
        exact f3 i hc
      · rw [List.getD_eq_getElem?_getD, List.getElem?_append_right (by rw [List.length_map]; omega), ← List.getD_eq_getElem?_getD, List.length_map]
        rw [g2 _ (by omega), f2, addS_addS]
        congr 1
        omega
    · obtain ⟨g1, g2⟩ := ih ha hl s hs
      exact ⟨by omega, g2⟩
/-- The ordered messages of a stream have the numbers 0, 1 and so on. -/
theorem runL_order {n : Nat} (h1 : 1 ≤ n) (h2 : n ≤ 4) (ds : List Part) (hd : ds.length ≤ 5000) (s i : Nat) (hs : s < n) (hi : i < (ofS (runL n ds) s).length) : ((ofS (runL n ds) s).map fun m => m.ssn).getD i 0 = (i : Int) := by
  obtain ⟨g1, g2⟩ := go_order (n := n) ds (asm_new h1 h2) List.length_replicate s hs
  have h := g2 i hi
  unfold runL at hi ⊢
  rw [h]
  have : (List.replicate n (0 : Int)).getD s 0 = 0 := by
    rw [List.getD_eq_getElem?_getD, List.getElem?_replicate]
    split <;> rfl
  rw [this]
  unfold addS
  omega

end Go.Proofs.Ytncbgejggfkdmab
