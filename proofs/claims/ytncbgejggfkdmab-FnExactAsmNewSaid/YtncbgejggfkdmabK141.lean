/- Parts that wait, in memory: a link is added, a link is taken out. -/
import Derived.Test.YtncbgejggfkdmabK140
namespace Go.Proofs.Ytncbgejggfkdmab
open Go.RowKit Go.PlainAid

/-- The cells of a link. -/
def nodeC (p : Part) (bf bh : Option Nat) : List Value := cellsP p ++ [.pointer (pt bf), .pointer (pt bh)]
theorem nodeC_set7 (p : Part) (bf bh x : Option Nat) : (nodeC p bf bh).set 7 (.pointer (pt x)) = nodeC p x bh := rfl
theorem nodeC_set8 (p : Part) (bf bh x : Option Nat) : (nodeC p bf bh).set 8 (.pointer (pt x)) = nodeC p bf x := rfl
/-- The links of a list at block L. -/
structure Lk (w : World) (L M : Nat) (ns : List (Nat × Part)) : Prop where
  l : VarN L [.pointer (pt (bk ns 0)), .pointer (pt (pv ns ns.length)), .map (some M)] w
  nodes : ∀ i, i < ns.length → VarN (bAt ns i) (nodeC (pAt (psOf ns) i) (pv ns i) (bk ns (i + 1))) w
  nd : (ns.map Prod.fst).Nodup
  fl : ∀ x ∈ ns, x.1 ≠ L
section
variable {w w' : World} {L M : Nat} {ns : List (Nat × Part)}
theorem Lk.same (h : Lk w L M ns) (e : ∀ x, x = L ∨ (∃ y ∈ ns, x = y.1) → w'.heap[x]? = w.heap[x]?) : Lk w' L M ns :=
  ⟨h.l.blk (e L (.inl rfl)), fun i hi => (h.nodes i hi).blk (e _ (.inr ⟨_, bAt_mem hi, rfl⟩)), h.nd, h.fl⟩
theorem Lk.lt (h : Lk w L M ns) : L < w.heap.size := h.l.lt
theorem Lk.node_lt (h : Lk w L M ns) {x : Nat × Part} (hx : x ∈ ns) : x.1 < w.heap.size := by
  obtain ⟨i, hi, rfl⟩ := nd_at hx
  exact (h.nodes i hi).lt
theorem bk_snoc (ns : List (Nat × Part)) (x : Nat × Part) (i : Nat) (h : i < ns.length) : bk (ns ++ [x]) i = bk ns i := by
  unfold bk
  rw [List.getElem?_append_left h]
theorem bk_end (ns : List (Nat × Part)) (x : Nat × Part) : bk (ns ++ [x]) ns.length = some x.1 := by
  unfold bk
  rw [List.getElem?_append_right (Nat.le_refl _)]
  simp
theorem pv_snoc (ns : List (Nat × Part)) (x : Nat × Part) (i : Nat) (h : i ≤ ns.length) : pv (ns ++ [x]) i = pv ns i := by
  cases i with
  | zero => rfl
  | succ i => exact bk_snoc ns x i (by omega)
theorem at_snoc {ns : List (Nat × Part)} {x : Nat × Part} {i : Nat} (h : i < ns.length) : bAt (ns ++ [x]) i = bAt ns i ∧ pAt (psOf (ns ++ [x])) i = pAt (psOf ns) i := by
  have h1 := ns_get (ns := ns ++ [x]) (i := i) (by rw [List.length_append]; omega)
  rw [List.getElem?_append_left h, ns_get h] at h1
  have := Option.some.inj h1
  exact ⟨(congrArg Prod.fst this).symm, (congrArg Prod.snd this).symm⟩
theorem at_end {ns : List (Nat × Part)} {x : Nat × Part} : bAt (ns ++ [x]) ns.length = x.1 ∧ pAt (psOf (ns ++ [x])) ns.length = x.2 := by
  have h1 := ns_get (ns := ns ++ [x]) (i := ns.length) (by simp)
  rw [List.getElem?_append_right (Nat.le_refl _), Nat.sub_self] at h1
  have := Option.some.inj h1
  exact ⟨(congrArg Prod.fst this).symm, (congrArg Prod.snd this).symm⟩
theorem nd_snoc {d : Nat} {p : Part} (h : (ns.map Prod.fst).Nodup) (hd : ∀ y ∈ ns, y.1 ≠ d) : ((ns ++ [(d, p)]).map Prod.fst).Nodup := by
  rw [List.map_append, List.nodup_append]
  refine ⟨h, by simp, fun a ha b hb e => ?_⟩
  obtain ⟨y, hy, rfl⟩ := List.mem_map.1 ha
  have : b = d := by simpa using hb
  exact hd y hy (e.trans this)
/-- The first link. -/
theorem Lk.first {d : Nat} {p : Part} (h : Lk w L M []) (hd : VarN d (nodeC p none none) w) (h1 : d ≠ L) :
    Lk ((w.setCell ⟨L, 0, none⟩ (.pointer (some ⟨d, 0, none⟩))).setCell ⟨L, 1, none⟩ (.pointer (some ⟨d, 0, none⟩))) L M [(d, p)] := by
  refine ⟨(h.l.set (i := 0) _).set (i := 1) _, fun i hi => ?_, by simp, fun x hx => ?_⟩
  · obtain rfl : i = 0 := by simpa using hi
    exact (hd.far _ h1.symm).far _ h1.symm
  · obtain rfl : x = (d, p) := by simpa using hx
    exact h1
/-- A further link. -/
theorem Lk.more {d n : Nat} {p : Part} (h : Lk w L M ns) (hn : ns.length = n + 1) (hd : VarN d (nodeC p (some (bAt ns n)) none) w) (h1 : d ≠ L) (h2 : ∀ y ∈ ns, y.1 ≠ d) :
    Lk ((w.setCell ⟨bAt ns n, 8, none⟩ (.pointer (some ⟨d, 0, none⟩))).setCell ⟨L, 1, none⟩ (.pointer (some ⟨d, 0, none⟩))) L M (ns ++ [(d, p)]) := by
  have hl : n < ns.length := by omega
  have hb := bAt_mem hl
  have hbL := h.fl _ hb
  have hbd := h2 _ hb
  refine ⟨?_, fun i hi => ?_, nd_snoc h.nd h2, fun x hx => ?_⟩
  · have := (h.l.far (i := 8) (.pointer (some ⟨d, 0, none⟩)) hbL).set (i := 1) (.pointer (some ⟨d, 0, none⟩))
    rw [bk_snoc _ _ _ (by omega)]
    have e : pv (ns ++ [(d, p)]) (ns ++ [(d, p)]).length = some d := by
      rw [List.length_append, List.length_singleton]
      exact bk_end ns (d, p)
    rw [e]
    exact this
  · rw [List.length_append, List.length_singleton] at hi
    by_cases hc : i < ns.length
    · have h5 := h.nodes i hc
      have h6 := h.fl _ (bAt_mem hc)
      rw [(at_snoc hc).1, (at_snoc hc).2, pv_snoc _ _ _ (by omega)]
      by_cases hin : i = n
      · subst hin
        have e : bk (ns ++ [(d, p)]) (i + 1) = some d := by rw [← hn]; exact bk_end ns (d, p)
        rw [e, ← nodeC_set8 _ _ (bk ns (i + 1))]
        exact (h5.set (i := 8) _).far _ h6.symm
      · have hne : bAt ns n ≠ bAt ns i := fun e => hin (bAt_inj h.nd hl hc e).symm
        rw [bk_snoc _ _ _ (by omega)]
        exact (h5.far _ hne).far _ h6.symm
    · obtain rfl : i = ns.length := by omega
      rw [at_end.1, at_end.2, pv_snoc _ _ _ (Nat.le_refl _)]
      have e1 : pv ns ns.length = some (bAt ns n) := by rw [hn]; exact bk_some hl
      have e2 : bk (ns ++ [(d, p)]) (ns.length + 1) = none := bk_none (by rw [List.length_append]; simp)
      rw [e1, e2]
      exact (hd.far _ hbd).far _ h1.symm
  · rcases List.mem_append.1 hx with hx | hx
    · exact h.fl x hx
    · obtain rfl : x = (d, p) := by simpa using hx
      exact h1
theorem at_erase {j i : Nat} (h : i < ns.length - 1) (hj : j < ns.length) : bAt (ns.eraseIdx j) i = bAt ns (if i < j then i else i + 1) ∧ pAt (psOf (ns.eraseIdx j)) i = pAt (psOf ns) (if i < j then i else i + 1) := by
  have hl : (ns.eraseIdx j).length = ns.length - 1 := by rw [List.length_eraseIdx]; simp [hj]
  have h1 := ns_get (ns := ns.eraseIdx j) (i := i) (by omega)
  rw [List.getElem?_eraseIdx] at h1
  by_cases hc : i < j
  · rw [if_pos hc] at h1 ⊢
    rw [ns_get (by omega)] at h1
    have := Option.some.inj h1
    exact ⟨(congrArg Prod.fst this).symm, (congrArg Prod.snd this).symm⟩
  · rw [if_neg hc] at h1 ⊢
    rw [ns_get (by omega)] at h1
    have := Option.some.inj h1
    exact ⟨(congrArg Prod.fst this).symm, (congrArg Prod.snd this).symm⟩
/-- The world behind the first store, the second store, as a link is taken out. -/
def rm1 (w : World) (ns : List (Nat × Part)) (L : Nat) : Nat → World
  | 0 => w.setCell ⟨L, 0, none⟩ (.pointer (pt (bk ns 1)))
  | j + 1 => w.setCell ⟨bAt ns j, 8, none⟩ (.pointer (pt (bk ns (j + 2))))
def rm2 (w : World) (ns : List (Nat × Part)) (L j : Nat) : World :=
  if j + 1 < ns.length then w.setCell ⟨bAt ns (j + 1), 7, none⟩ (.pointer (pt (pv ns j))) else w.setCell ⟨L, 1, none⟩ (.pointer (pt (pv ns j)))
/-- What the links are behind the first store. -/
structure Mid (w : World) (L M : Nat) (ns : List (Nat × Part)) (j : Nat) : Prop where
  l : VarN L [.pointer (pt (if j = 0 then bk ns 1 else bk ns 0)), .pointer (pt (pv ns ns.length)), .map (some M)] w
  nodes : ∀ i, i < ns.length → VarN (bAt ns i) (nodeC (pAt (psOf ns) i) (pv ns i) (if i + 1 = j then bk ns (j + 1) else bk ns (i + 1))) w
theorem Lk.mid (h : Lk w L M ns) {j : Nat} (hj : j < ns.length) : Mid (rm1 w ns L j) L M ns j := by
  cases j with
  | zero =>
    refine ⟨h.l.set (i := 0) _, fun i hi => ?_⟩
    rw [if_neg (by omega)]
    exact (h.nodes i hi).far _ (h.fl _ (bAt_mem hi)).symm
  | succ j =>
    have hl : j < ns.length := by omega
    refine ⟨?_, fun i hi => ?_⟩
    · rw [if_neg (by omega)]
      exact h.l.far _ (h.fl _ (bAt_mem hl))
    · by_cases e : i = j
      · subst e
        rw [if_pos rfl, ← nodeC_set8 _ _ (bk ns (i + 1))]
        exact (h.nodes i hi).set (i := 8) _
      · rw [if_neg (by omega)]
        exact (h.nodes i hi).far _ fun e2 => e (bAt_inj h.nd hl hi e2).symm
theorem Lk.rm (h : Lk w L M ns) {j : Nat} (hj : j < ns.length) (hm : Mid w' L M ns j) : Lk (rm2 w' ns L j) L M (ns.eraseIdx j) := by
  have hl : (ns.eraseIdx j).length = ns.length - 1 := by rw [List.length_eraseIdx]; simp [hj]
  have fl : ∀ i, i < ns.length → bAt ns i ≠ L := fun i hi => h.fl _ (bAt_mem hi)
  refine ⟨?_, fun i hi => ?_, ?_, fun x hx => h.fl x (List.mem_of_mem_eraseIdx hx)⟩
  · have e0 : bk (ns.eraseIdx j) 0 = if j = 0 then bk ns 1 else bk ns 0 := by
      rw [bk_erase]
      by_cases e : j = 0
      · rw [if_neg (by omega), if_pos e]
      · rw [if_pos (by omega), if_neg e]
    rw [e0, hl]
    unfold rm2
    by_cases hc : j + 1 < ns.length
    · rw [if_pos hc]
      have e1 : pv (ns.eraseIdx j) (ns.length - 1) = pv ns ns.length := by
        rw [pv_erase, if_neg (by omega)]
        congr 1
        omega
      rw [e1]
      exact hm.l.far _ (fl _ hc)
    · rw [if_neg hc]
      have e1 : pv (ns.eraseIdx j) (ns.length - 1) = pv ns j := by
        rw [pv_erase, if_pos (by omega)]
        congr 1
        omega
      rw [e1]
      exact hm.l.set (i := 1) _
  · rw [hl] at hi
    have E := at_erase (ns := ns) hi hj
    by_cases hc : i < j
    · rw [if_pos hc] at E
      rw [E.1, E.2, bk_erase, pv_erase, if_pos (show i ≤ j by omega)]
      have h5 := hm.nodes i (by omega)
      have e3 : (if i + 1 = j then bk ns (j + 1) else bk ns (i + 1)) = (if i + 1 < j then bk ns (i + 1) else bk ns (i + 1 + 1)) := by
        by_cases e : i + 1 = j
        · rw [if_pos e, if_neg (by omega), ← e]
        · rw [if_neg e, if_pos (by omega)]
      rw [e3] at h5
      unfold rm2
      by_cases h6 : j + 1 < ns.length
      · rw [if_pos h6]
        exact h5.far _ fun e => by have := bAt_inj h.nd h6 (by omega) e; omega
      · rw [if_neg h6]
        exact h5.far _ (fl _ (by omega)).symm
    · rw [if_neg hc] at E
      have h5 := hm.nodes (i + 1) (by omega)
      rw [if_neg (show ¬ i + 1 + 1 = j by omega)] at h5
      have e4 : rm2 w' ns L j = w'.setCell ⟨bAt ns (j + 1), 7, none⟩ (.pointer (pt (pv ns j))) := by
        unfold rm2
        rw [if_pos (by omega)]
      rw [E.1, E.2, bk_erase, pv_erase, e4, if_neg (show ¬ i + 1 < j by omega)]
      by_cases e : i = j
      · subst e
        rw [if_pos (Nat.le_refl _), ← nodeC_set7 _ (pv ns (i + 1))]
        exact h5.set (i := 7) _
      · rw [if_neg (show ¬ i ≤ j by omega)]
        exact h5.far _ fun e2 => by have := bAt_inj h.nd (by omega) (by omega) e2; omega
  · exact h.nd.sublist ((List.eraseIdx_sublist ..).map _)
end

end Go.Proofs.Ytncbgejggfkdmab
