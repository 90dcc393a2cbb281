/- Texts that a proof needs, merged: W95, K169. -/
import Derived.Test.YtncbgejggfkdmaaM7
import Derived.Deep.RegionHeldLaw
import Derived.Handy
import Derived.Deep.SlicePairs
import Derived.Lib.SmallJoins
import Derived.ProofKit
import Derived.OpenShut

/- The walk of the exact law on a valid assembly. -/
namespace Go.Proofs.Ytncbgejggfkdmaa
open Go.RowKit Go.PlainAid

theorem OwnA.ns {R d n e m : Nat} {es : List Int} {ps : List Part} {W : World} (h : OwnA R d n e m es ps W) : Ns W (some ⟨d, 0, none⟩) n n es := h.fn.ns h.ln (Nat.le_refl _) (Nat.le_trans h.sn (by decide))
theorem OwnA.pts {R d n e m : Nat} {es : List Int} {ps : List Part} {W : World} (h : OwnA R d n e m es ps W) : Pts W (some ⟨e, 0, none⟩) m m ps := h.fp.pts h.lp (Nat.le_refl _) (Nat.le_trans h.sp (by decide))
theorem keptY {p q p' q' : Addr} {x y x' y' : Value} {a b c d : Option Addr} {l1 c1 l2 c2 l3 c3 l4 c4 : Nat} {es ds : List Int} {ps qs : List Part} {w W W' : World}
    (h : W.cell? p = some x ∧ W.cell? q = some y ∧ W.cell? p' = some x' ∧ W.cell? q' = some y' ∧ Ns W a l1 c1 es ∧ Pts W b l2 c2 ps ∧ Ns W c l3 c3 ds ∧ Pts W d l4 c4 qs ∧ Below w.heap.size w W) (hb : Below W.heap.size W W') :
    W'.cell? p = some x ∧ W'.cell? q = some y ∧ W'.cell? p' = some x' ∧ W'.cell? q' = some y' ∧ Ns W' a l1 c1 es ∧ Pts W' b l2 c2 ps ∧ Ns W' c l3 c3 ds ∧ Pts W' d l4 c4 qs ∧ Below w.heap.size w W' := by
  obtain ⟨h1, h2, h3, h4, h5, h6, h7, h8, h9⟩ := h
  exact ⟨(hb.cell (World.block_lt_of_cell? W _ h1)).trans h1, (hb.cell (World.block_lt_of_cell? W _ h2)).trans h2, (hb.cell (World.block_lt_of_cell? W _ h3)).trans h3, (hb.cell (World.block_lt_of_cell? W _ h4)).trans h4, h5.below hb, h6.below hb, h7.below hb, h8.below hb, h9.trans (hb.mono h9.size)⟩

end Go.Proofs.Ytncbgejggfkdmaa

/- A slice of parts that is handed to a law, opened: structs of seven fields of one cell each. -/
namespace Go.Proofs.Ytncbgejggfkdmaa
open Go.ChangeShapes Go.WideShapes Go.ChangeAt Go.RowKit Go.Joins Go.Deep

theorem open_sevens {H : Type} {enc : TypeId × Value → H} {P : Program} {w : World} {base : Nat} {spare : Nat → Bool} {held : Bool} {t e : TypeId} {f0 f1 f2 f3 f4 f5 f6 : Field} {fuel : Nat} {cs : List Value} {x : DataW H × List MemPlace} (ht : P.underlying t = some (.slice e)) (he : P.underlying e = some (.struct #[f0, f1, f2, f3, f4, f5, f6]))
    (ce : P.cellsOf e = 7) (o0 : f0.offset = 0) (o1 : f1.offset = 1) (o2 : f2.offset = 2) (o3 : f3.offset = 3) (o4 : f4.offset = 4) (o5 : f5.offset = 5) (o6 : f6.offset = 6) (c0 : P.cellsOf f0.type = 1) (c1 : P.cellsOf f1.type = 1) (c2 : P.cellsOf f2.type = 1) (c3 : P.cellsOf f3.type = 1) (c4 : P.cellsOf f4.type = 1) (c5 : P.cellsOf f5.type = 1) (c6 : P.cellsOf f6.type = 1)
    (h : DataW.trod enc P w base spare held fuel t cs = some x) :
    cs = [.slice none 0 0] ∨ ∃ (a : Addr) (len cap n : Nat), cs = [.slice (some a) len cap] ∧ len ≤ cap ∧ cap ≤ maxLen ∧ ∀ i, i < len → ∃ v0 v1 v2 v3 v4 v5 v6 y0 y1 y2 y3 y4 y5 y6, w.cell? (a.add (i * 7)) = some v0 ∧ w.cell? (a.add (i * 7 + 1)) = some v1 ∧ w.cell? (a.add (i * 7 + 2)) = some v2 ∧ w.cell? (a.add (i * 7 + 3)) = some v3 ∧ w.cell? (a.add (i * 7 + 4)) = some v4 ∧ w.cell? (a.add (i * 7 + 5)) = some v5 ∧ w.cell? (a.add (i * 7 + 6)) = some v6 ∧
      DataW.trod enc P w base spare held n f0.type [v0] = some y0 ∧ DataW.trod enc P w base spare held n f1.type [v1] = some y1 ∧ DataW.trod enc P w base spare held n f2.type [v2] = some y2 ∧ DataW.trod enc P w base spare held n f3.type [v3] = some y3 ∧ DataW.trod enc P w base spare held n f4.type [v4] = some y4 ∧ DataW.trod enc P w base spare held n f5.type [v5] = some y5 ∧ DataW.trod enc P w base spare held n f6.type [v6] = some y6 := by
  rcases open_slice ht h with ⟨h0, _⟩ | ⟨a, len, cap, m, n, D, Pl, rfl, hb, hl, hm, hmm, rfl, hx⟩
  · exact Or.inl h0
  right
  have hlm : len ≤ m := by rw [hmm]; split <;> omega
  refine ⟨a, len, cap, n - 1, rfl, hl, hm, fun i hi => ?_⟩
  obtain ⟨cs', h1, h2⟩ := hx i (by omega)
  rw [ce] at h1
  obtain ⟨_, hlen, hcell⟩ := World.cells?_some h1
  obtain ⟨xs, k, hk, hxy, _, hxl, hf⟩ := DataW.trod_struct he h2
  have hk' : k = n - 1 := by omega
  subst hk'
  match xs, hxl, cs', hlen with
  | [y0, y1, y2, y3, y4, y5, y6], _, [v0, v1, v2, v3, v4, v5, v6], _ =>
    have g0 := hf 0 f0 rfl
    have g1 := hf 1 f1 rfl
    have g2 := hf 2 f2 rfl
    have g3 := hf 3 f3 rfl
    have g4 := hf 4 f4 rfl
    have g5 := hf 5 f5 rfl
    have g6 := hf 6 f6 rfl
    simp [o0, c0, o1, c1, o2, c2, o3, c3, o4, c4, o5, c5, o6, c6] at g0 g1 g2 g3 g4 g5 g6
    have e0 := hcell 0 (by omega)
    have e1 := hcell 1 (by omega)
    have e2 := hcell 2 (by omega)
    have e3 := hcell 3 (by omega)
    have e4 := hcell 4 (by omega)
    have e5 := hcell 5 (by omega)
    have e6 := hcell 6 (by omega)
    rw [add_add] at e0 e1 e2 e3 e4 e5 e6
    exact ⟨v0, v1, v2, v3, v4, v5, v6, y0, y1, y2, y3, y4, y5, y6, by simpa using e0, by simpa using e1, by simpa using e2, by simpa using e3, by simpa using e4, by simpa using e5, by simpa using e6, g0, g1, g2, g3, g4, g5, g6⟩
theorem addr_past (a : Addr) (n j : Nat) (hj : 0 < j) : a.add (n + j) = ⟨(a.add n).block, (a.add n).off + j, none⟩ := by
  unfold Addr.add
  by_cases h : n = 0
  · subst h
    simp
    omega
  · have e : ¬ n + j = 0 := by omega
    rw [if_neg e, if_neg h, Nat.add_assoc]
theorem atP_any (a : Addr) (i j : Nat) : atP a i j = a.add (i * 7 + j) := by
  cases j with
  | zero => rfl
  | succ j =>
    show (⟨(a.add (i * 7)).block, (a.add (i * 7)).off + (j + 1), none⟩ : Addr) = _
    rw [addr_past _ _ _ (by omega)]
theorem key_wf_of {t : Int} (h : (Lit.int .i64 t).wf = true) : Key t := by
  have e1 : IntKind.i64.min = -9223372036854775808 := by decide
  have e2 : IntKind.i64.max = 9223372036854775807 := by decide
  simp [Lit.wf, e1, e2] at h
  unfold Key
  omega
instance : Inhabited Part := ⟨⟨0, 0, 0, false, false, false, ByteArray.mk #[]⟩⟩
/-- The parts of a slice that is read. -/
theorem open_pts {H : Type} {enc : TypeId × Value → H} {P : Program} (W : World) {sp : Nat → Bool} {hd : Bool} {n : Nat} {v : Value} {y : DataW H × List MemPlace} {t e ti tb ts : TypeId} {f0 f1 f2 f3 f4 f5 f6 : Field} (ht : P.underlying t = some (.slice e)) (he : P.underlying e = some (.struct #[f0, f1, f2, f3, f4, f5, f6]))
    (ce : P.cellsOf e = 7) (o0 : f0.offset = 0) (o1 : f1.offset = 1) (o2 : f2.offset = 2) (o3 : f3.offset = 3) (o4 : f4.offset = 4) (o5 : f5.offset = 5) (o6 : f6.offset = 6) (c0 : P.cellsOf f0.type = 1) (c1 : P.cellsOf f1.type = 1) (c2 : P.cellsOf f2.type = 1) (c3 : P.cellsOf f3.type = 1) (c4 : P.cellsOf f4.type = 1) (c5 : P.cellsOf f5.type = 1) (c6 : P.cellsOf f6.type = 1) (t0 : f0.type = ti) (t1 : f1.type = ti) (t2 : f2.type = ti) (t3 : f3.type = tb) (t4 : f4.type = tb) (t5 : f5.type = tb) (t6 : f6.type = ts) (hi : P.underlying ti = some (.int .i64)) (hb : P.underlying tb = some .bool) (hs : P.underlying ts = some .string)
    (h : DataW.trod enc P W 0 sp hd n t [v] = some y) :
    ∃ a len cap ps, v = .slice a len cap ∧ Pts W a len cap ps ∧ (∀ p ∈ ps, p.text.size ≤ maxLen) ∧ ∀ p ∈ ps, Key p.tsn := by
  rcases open_sevens ht he ce o0 o1 o2 o3 o4 o5 o6 c0 c1 c2 c3 c4 c5 c6 h with e | ⟨a, len, cap, m, e, hl, hm, hx⟩
  · obtain rfl : v = .slice none 0 0 := by simpa using e
    exact ⟨none, 0, 0, [], rfl, .inl ⟨rfl, rfl, rfl, rfl⟩, fun c hc => by simp at hc, fun c hc => by simp at hc⟩
  · obtain rfl : v = .slice (some a) len cap := by simpa using e
    have each : ∀ i, i < len → ∃ q : Part, (∀ j u, (cellsP q)[j]? = some u → W.cell? (atP a i j) = some u) ∧ q.text.size ≤ maxLen ∧ Key q.tsn := by
      intro i hi'
      obtain ⟨v0, v1, v2, v3, v4, v5, v6, y0, y1, y2, y3, y4, y5, y6, p0, p1, p2, p3, p4, p5, p6, g0, g1, g2, g3, g4, g5, g6⟩ := hx i hi'
      rw [t0] at g0
      rw [t1] at g1
      rw [t2] at g2
      rw [t3] at g3
      rw [t4] at g4
      rw [t5] at g5
      rw [t6] at g6
      obtain ⟨z0, e0, _, w0⟩ := DataW.trod_int hi g0
      obtain rfl : v0 = .int .i64 z0 := by simpa using e0
      obtain ⟨z1, e1, _, w1⟩ := DataW.trod_int hi g1
      obtain rfl : v1 = .int .i64 z1 := by simpa using e1
      obtain ⟨z2, e2, _, w2⟩ := DataW.trod_int hi g2
      obtain rfl : v2 = .int .i64 z2 := by simpa using e2
      obtain ⟨z3, e3, _⟩ := DataW.trod_bool hb g3
      obtain rfl : v3 = .bool z3 := by simpa using e3
      obtain ⟨z4, e4, _⟩ := DataW.trod_bool hb g4
      obtain rfl : v4 = .bool z4 := by simpa using e4
      obtain ⟨z5, e5, _⟩ := DataW.trod_bool hb g5
      obtain rfl : v5 = .bool z5 := by simpa using e5
      obtain ⟨z6, e6, _, w6⟩ := DataW.trod_string hs g6
      obtain rfl : v6 = .string z6 := by simpa using e6
      refine ⟨⟨z0, z1, z2, z3, z4, z5, z6⟩, fun j u hu => ?_, w6, key_wf_of w0⟩
      have hj : j < 7 := (List.getElem?_eq_some_iff.1 hu).1
      rw [atP_any]
      rcases (show j = 0 ∨ j = 1 ∨ j = 2 ∨ j = 3 ∨ j = 4 ∨ j = 5 ∨ j = 6 by omega) with rfl | rfl | rfl | rfl | rfl | rfl | rfl
      · exact p0.trans hu
      · exact p1.trans hu
      · exact p2.trans hu
      · exact p3.trans hu
      · exact p4.trans hu
      · exact p5.trans hu
      · exact p6.trans hu
    obtain ⟨q, hq⟩ := choose_lt each
    have e : ∀ i, i < len → pAt ((List.range len).map q) i = q i := fun i hi' => by
      unfold pAt
      rw [List.getD_eq_getElem?_getD, List.getElem?_map, List.getElem?_range hi']
      rfl
    refine ⟨some a, len, cap, (List.range len).map q, rfl, .inr ⟨a, rfl, hl, hm, by simp, fun i hi' j u hu => ?_⟩, fun c hc => ?_, fun c hc => ?_⟩
    · rw [e i hi'] at hu
      exact (hq i hi').1 j u hu
    · obtain ⟨i, hi', rfl⟩ := List.mem_map.1 hc
      exact (hq i (List.mem_range.1 hi')).2.1
    · obtain ⟨i, hi', rfl⟩ := List.mem_map.1 hc
      exact (hq i (List.mem_range.1 hi')).2.2

end Go.Proofs.Ytncbgejggfkdmaa
