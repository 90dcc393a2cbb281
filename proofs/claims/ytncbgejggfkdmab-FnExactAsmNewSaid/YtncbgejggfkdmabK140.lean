/- Parts that wait, in memory: the program's links and its map. -/
import Derived.Test.YtncbgejggfkdmabK130
import Derived.Test.YtncbgejggfkdmabK40
import Derived.Test.YtncbgejggfkdmabK159
import Derived.Test.YtncbgejggfkdmabG25
import Derived.Maps.OwnSet
namespace Go.Proofs.Ytncbgejggfkdmab
open Go.RowKit Go.PlainAid

/-- The address of a block, if there is one. -/
def pt (o : Option Nat) : Option Addr := o.map fun b => ⟨b, 0, none⟩
/-- How an element of the map reads. -/
def ptrR : Value → Option (DataW Unit × List MemPlace)
  | .pointer none => some (.nil, [])
  | .pointer (some ⟨b, 0, none⟩) => some (.lit (.int .i64 (b : Int)), [])
  | _ => none
theorem ptrR_none : ptrR (.pointer none) = some (.nil, []) := rfl
theorem ptrR_some (b : Nat) : ptrR (.pointer (some ⟨b, 0, none⟩)) = some (.lit (.int .i64 (b : Int)), []) := rfl
theorem ptrR_nil {v : Value} {ps : List MemPlace} (h : ptrR v = some (.nil, ps)) : v = .pointer none := by
  unfold ptrR at h
  split at h
  · rfl
  · cases h
  · cases h
theorem ptrR_lit {v : Value} {b : Nat} {ps : List MemPlace} (h : ptrR v = some (.lit (.int .i64 (b : Int)), ps)) : v = .pointer (some ⟨b, 0, none⟩) := by
  unfold ptrR at h
  split at h
  · cases h
  · rename_i c
    have e : (c : Int) = (b : Int) := by
      have := congrArg (fun x => x.map Prod.fst) h
      simpa using this
    have e2 : c = b := by omega
    rw [e2]
  · cases h
/-- A number that a key may be. -/
def Key (t : Int) : Prop := -9223372036854775808 ≤ t ∧ t ≤ 9223372036854775807
theorem key_wf {t : Int} (h : Key t) : (Lit.int .i64 t).wf = true := by
  unfold Key at h
  have e1 : IntKind.i64.min = -9223372036854775808 := by decide
  have e2 : IntKind.i64.max = 9223372036854775807 := by decide
  simp [Lit.wf, e1, e2]
  omega
theorem key_of {t : Int} (h : Key t) : keyOf Try.prog 3 (.int .i64 t) = some (.int .i64 t) := Maps.keyOf_int_mk Try.underlying3 (key_wf h)
theorem ints_keyed : Maps.Keyed Try.prog 3 := Maps.int_keyed Try.underlying3
theorem ser_key {t : Int} (h : Ser t) : Key t := ⟨by have := h.1; omega, by have := h.2; omega⟩
/-- The map at block M leads from the numbers of parts to their blocks. -/
structure Tab (w : World) (M : Nat) (ns : List (Nat × Part)) (D : DataW Unit) : Prop where
  own : w.ownsMap Try.prog 3 ptrR M (Maps.size D) D
  size : Maps.size D = ns.length
  at_ : ∀ x ∈ ns, D.atKey (.int .i64 x.2.tsn) .nil = .lit (.int .i64 (x.1 : Int))
  no : ∀ t, hasT (psOf ns) t = false → Maps.has D (.int .i64 t) = false
theorem own_tight {w : World} {M n : Nat} {D : DataW Unit} (h : w.ownsMap Try.prog 3 ptrR M n D) : w.ownsMap Try.prog 3 ptrR M (Maps.size D) D := by
  obtain ⟨es, clock, hb, F, _, rfl⟩ := h
  exact ⟨es, clock, hb, F, by simp [Maps.size, length_sorted], rfl⟩
section
variable {w w' : World} {M : Nat} {ns : List (Nat × Part)} {D : DataW Unit} {t : Int}
theorem Tab.lt (h : Tab w M ns D) : M < w.heap.size := h.own.lt
theorem Tab.block (h : Tab w M ns D) (e : w'.heap[M]? = w.heap[M]?) : Tab w' M ns D := by
  obtain ⟨⟨es, clock, hb, F, hs, hD⟩, h2, h3, h4⟩ := h
  exact ⟨⟨es, clock, e.trans hb, F, hs, hD⟩, h2, h3, h4⟩
theorem Tab.new (w : World) : Tab (w.alloc (.map #[] 0)) w.heap.size [] (.map []) :=
  ⟨World.ownsMap_made w _ _ _, rfl, fun x hx => by simp at hx, fun t _ => rfl⟩
theorem zero_ptr (w : World) : (zeroValue 95).run Try.prog w = .ok (.pointer none) w := by kernel_rfl
/-- What the map answers. -/
theorem Tab.look_at (h : Tab w M ns D) {x : Nat × Part} (hx : x ∈ ns) (hk : Key x.2.tsn) : (Instr.lookup 94 (.map (some M)) (.int .i64 x.2.tsn) false).run Try.prog w = .ok (.pointer (some ⟨x.1, 0, none⟩)) w := by
  obtain ⟨v, ps, hrun, hv⟩ := h.own.lookup ints_keyed Try.underlying94 (zero_ptr w) ptrR_none (key_of hk)
  rw [h.at_ x hx] at hv
  rw [← ptrR_lit hv]
  exact hrun
theorem Tab.look_no (h : Tab w M ns D) (ht : hasT (psOf ns) t = false) (hk : Key t) : (Instr.lookup 94 (.map (some M)) (.int .i64 t) false).run Try.prog w = .ok (.pointer none) w := by
  obtain ⟨v, ps, hrun, hv⟩ := h.own.lookup ints_keyed Try.underlying94 (zero_ptr w) ptrR_none (key_of hk)
  rw [Maps.atKey_of_not_has (h.no t ht)] at hv
  rw [← ptrR_nil hv]
  exact hrun
theorem hasT_snoc (ps : List Part) (p : Part) (t : Int) : hasT (ps ++ [p]) t = (hasT ps t || p.tsn == t) := by
  unfold hasT
  rw [List.any_append]
  simp
theorem hasT_mem {ps : List Part} {p : Part} (h : p ∈ ps) : hasT ps p.tsn = true := hasT_yes h
/-- A further entry. -/
theorem Tab.put (h : Tab w M ns D) (d : Nat) {p : Part} (hk : Key p.tsn) (ht : hasT (psOf ns) p.tsn = false) (hn : ns.length ≤ 100) :
    ∃ w' D', (Instr.mapUpdate 94 (.map (some M)) (.int .i64 p.tsn) (.pointer (some ⟨d, 0, none⟩))).run Try.prog w = .ok () w' ∧ Tab w' M (ns ++ [(d, p)]) D' ∧ w.grownBy w' (some M) ∧ w'.heap.size = w.heap.size := by
  obtain ⟨w', hrun, hown, hturn⟩ := h.own.store ints_keyed Try.underlying94 (by rw [h.size]; unfold maxLen; omega) (key_of hk) (ptrR_some d)
  have htidy := h.own.tidy ints_keyed
  refine ⟨w', _, hrun, ⟨own_tight hown, ?_, fun x hx => ?_, fun t ht2 => ?_⟩, hturn.grown, ?_⟩
  · rw [Maps.size_put htidy, h.no _ ht, h.size, List.length_append]
    rfl
  · rcases List.mem_append.1 hx with hx | hx
    · have hne : x.2.tsn ≠ p.tsn := fun e => by
        have := hasT_mem (show x.2 ∈ psOf ns from List.mem_map_of_mem hx)
        rw [e, ht] at this
        cases this
      rw [Maps.atKey_put_other (fun e => hne (by simpa using e))]
      exact h.at_ x hx
    · obtain rfl : x = (d, p) := by simpa using hx
      exact Maps.atKey_put_same (k := .int .i64 p.tsn) htidy.isMap (by trivial) _ _
  · rw [psOf_append] at ht2
    have e : psOf [(d, p)] = [p] := rfl
    rw [e, hasT_snoc] at ht2
    simp only [Bool.or_eq_false_iff, beq_eq_false_iff_ne] at ht2
    have hne : Lit.int .i64 t ≠ Lit.int .i64 p.tsn := fun e => ht2.2 (by
      have : t = p.tsn := by simpa using e
      exact this.symm)
    rw [Maps.has_put_other hne]
    exact h.no t ht2.1
  · obtain ⟨es, clock, es', clock', _, rfl⟩ := hturn
    simp [ChangeMaps.setBlock]
end

end Go.Proofs.Ytncbgejggfkdmab
