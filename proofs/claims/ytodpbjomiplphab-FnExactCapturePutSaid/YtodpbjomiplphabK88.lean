/- A slice of records that is handed to a law, opened. -/
import Derived.Test.YtodpbjomiplphabK70
import Derived.Deep.SlicePairs
import Derived.Lib.SmallJoins
import Derived.ProofKit
import Derived.OpenShut
namespace Go.Proofs.Ytodpbjomiplphab
open Go.ChangeShapes Go.WideShapes Go.ChangeAt Go.RowKit Go.Joins Go.Deep

theorem addr_next (a : Addr) (n j : Nat) (hj : 0 < j) : a.add (n + j) = ⟨(a.add n).block, (a.add n).off + j, none⟩ := by
  unfold Addr.add
  by_cases h : n = 0
  · subst h
    simp
    omega
  · have e : ¬ n + j = 0 := by omega
    rw [if_neg e, if_neg h, Nat.add_assoc]
/-- The records of a slice that is read. -/
theorem open_rcs {H : Type} {enc : TypeId × Value → H} {P : Program} (W : World) {sp : Nat → Bool} {hd : Bool} {n : Nat} {v : Value} {y : DataW H × List MemPlace} {t e ti ts : TypeId} {f0 f1 : Field} (ht : P.underlying t = some (.slice e)) (he : P.underlying e = some (.struct #[f0, f1]))
    (ce : P.cellsOf e = 2) (o0 : f0.offset = 0) (o1 : f1.offset = 1) (c0 : P.cellsOf f0.type = 1) (c1 : P.cellsOf f1.type = 1) (t0 : f0.type = ti) (t1 : f1.type = ts) (hi : P.underlying ti = some (.int .i64)) (hs : P.underlying ts = some .string)
    (h : DataW.trod enc P W 0 sp hd n t [v] = some y) :
    ∃ a len cap cs, v = .slice a len cap ∧ Rcs W a len cap cs ∧ ∀ c ∈ cs, c.2.size ≤ maxLen := by
  rcases open_slice_pairs ht he ce o0 o1 c0 c1 h with ⟨e, _⟩ | ⟨a, len, cap, m, k, V0, V1, D0, D1, P0, P1, e, _, hl, hm, hmm, _, hx⟩
  · obtain rfl : v = .slice none 0 0 := by simpa using e
    exact ⟨none, 0, 0, [], rfl, .inl ⟨rfl, rfl, rfl, rfl⟩, fun c hc => by simp at hc⟩
  · obtain rfl : v = .slice (some a) len cap := by simpa using e
    have hlm : len ≤ m := by rw [hmm]; split <;> omega
    have each : ∀ i, i < len → ∃ q : Int × ByteArray, W.cell? (a.add (i * 2)) = some (.int .i64 q.1) ∧ W.cell? ⟨(a.add (i * 2)).block, (a.add (i * 2)).off + 1, none⟩ = some (.string q.2) ∧ q.2.size ≤ maxLen := by
      intro i hi'
      obtain ⟨p0, p1, g0, g1⟩ := hx i (by omega)
      rw [t0] at g0
      rw [t1] at g1
      obtain ⟨z0, e0, _, _⟩ := DataW.trod_int hi g0
      obtain ⟨z1, e1, _, w1⟩ := DataW.trod_string hs g1
      have q0 : V0 i = .int .i64 z0 := by simpa using e0
      have q1 : V1 i = .string z1 := by simpa using e1
      rw [q0] at p0
      rw [q1, addr_next _ _ _ (by omega)] at p1
      exact ⟨(z0, z1), p0, p1, w1⟩
    obtain ⟨q, hq⟩ := choose_lt each
    refine ⟨some a, len, cap, (List.range len).map q, rfl, .inr ⟨a, rfl, hl, hm, by simp, fun i hi' => ?_⟩, fun c hc => ?_⟩
    · have e : rcAt ((List.range len).map q) i = q i := by
        unfold rcAt
        rw [List.getD_eq_getElem?_getD, List.getElem?_map, List.getElem?_range hi']
        rfl
      rw [e]
      obtain ⟨h1, h2, _⟩ := hq i hi'
      exact ⟨h1, h2⟩
    · obtain ⟨i, hi', rfl⟩ := List.mem_map.1 hc
      exact (hq i (List.mem_range.1 hi')).2.2

end Go.Proofs.Ytodpbjomiplphab
