/- Texts that a proof needs, merged: K197, K95, K96, K119a, K174, K175, K167, K168, K176. -/
import Derived.Test.YtncbgejggfkdmaaM9
import Derived.Deep.RegionLaw
import Derived.Laws.MakeOwn
import Derived.Deep.RegionHeldLaw
import Derived.Handy
import Derived.Laws.StructEq
import Derived.Deep.DeepCutAuto

/- The draw of an assembly. -/
namespace Go.Proofs.Ytncbgejggfkdmaa
open Go.RowKit Go.PlainAid

/-- Datas of one's own that are appended to a row of one's own, each none or some. -/
theorem wp_catP {o : Oper} {a : Act} {w : World} {K : Act → World → Prop} {Q : Exit → Act → World → Prop} (s x : Operand) (hop : o.op = Op.call { callee := Callee.builtin Builtin.append, args := #[s, x], argTypes := #[24, 24] })
    (base base2 k n cap cc : Nat) (sa ad : Option Addr) (xs ys : List Part) (hv : a.eval s = .slice sa k cap) (hown : w.ownsRow base 28 7 (.slice sa k cap) k (flatP xs))
    (hx : a.eval x = .slice ad n cc) (hsrc : w.ownsRow base2 28 7 (.slice ad n cc) n (flatP ys)) (him : k + n ≤ 10000000) (hb : base ≤ w.heap.size)
    (hK : ∀ g3 cap3 w', w'.ownsRow base 28 7 (.slice g3 (k + n) cap3) (k + n) (flatP (xs ++ ys)) → w.grownBy w' (Value.slice sa k cap).ownBlock → K (a.put o.dst (.slice g3 (k + n) cap3)) w') :
    Oper.wp Try.prog o a w K Q := by
  obtain ⟨i0, hi, hz0, hz1, hz2⟩ := info_parts info_pt
  obtain ⟨g3, cap3, w', hr, h2, h3⟩ : ∃ g3 cap3 w', (Builtin.append_ #[24, 24] o.type #[.slice sa k cap, .slice ad n cc]).run Try.prog w = .ok (.slice g3 (k + n) cap3) w' ∧ w'.ownsRow base 28 7 (.slice g3 (k + n) cap3) (k + n) (flatP (xs ++ ys)) ∧ w.grownBy w' (Value.slice sa k cap).ownBlock := by
    rcases hsrc.2 with ⟨h1, h0⟩ | ⟨g, cap', cur, h1, _⟩
    · obtain ⟨rfl, rfl, rfl⟩ : ad = none ∧ n = 0 ∧ cc = 0 := by simpa using h1
      have hy : ys = [] := by
        have := hsrc.1
        rw [flatP_length] at this
        exact List.eq_nil_of_length_eq_zero (by omega)
      subst hy
      rw [List.append_nil]
      exact ⟨sa, cap, w, run_append_owned_none w base 24 o.type 28 i0 7 Try.underlying24 hi _ k (flatP xs) hown, hown, ⟨rfl, rfl, rfl, Nat.le_refl _, fun _ _ _ => rfl⟩⟩
    · obtain ⟨rfl, rfl⟩ : ad = some ⟨g, 0, none⟩ ∧ cc = cap' := by simpa using h1
      have hl : (flatP ys).length = n * 7 := hsrc.1
      have hc : ∀ j u, (flatP ys)[j]? = some u → w.cell? ((⟨g, 0, none⟩ : Addr).add j) = some u := fun j u hu => by
        rw [pt_add, hsrc.cellAt j (by have := (List.getElem?_eq_some_iff.1 hu).1; omega), hu]
      obtain ⟨v', w', hr, h2, h3, h4, h5⟩ := run_append_own_at (P := Try.prog) w base 24 o.type 28 i0 (partV ⟨0, 0, 0, false, false, false, ByteArray.mk #[]⟩) 7 48 Try.underlying24 hi hz0 hz1 hz2 rfl (by decide) _ k (flatP xs) hown ⟨g, 0, none⟩ n cc (flatP ys) hl hc (flatP_one ys) (by unfold maxLen; omega) (by omega) hb
      rw [← flatP_append] at h2
      rcases h2.2 with ⟨rfl, h0⟩ | ⟨g3, cap3, cur3, rfl, hh⟩
      · exact ⟨none, 0, w', by rw [h0]; exact hr, by rw [h0] at h2 ⊢; exact h2, h3⟩
      · exact ⟨some ⟨g3, 0, none⟩, cap3, w', hr, h2, h3⟩
  unfold Oper.wp execOp
  simp only [hop, resolve, invoke, builtin, Sem.run_bind, Sem.run_pure, Result.andThen_ok, List.map_toArray, List.map_cons, List.map_nil, hv, hx, hr]
  exact hK g3 cap3 w' h2 h3

theorem list_catP {ops : Array Oper} {rest : List Oper} {o : Oper} {a : Act} {w : World} {Q : Exit → Act → World → Prop} (hg : o.guard = none) (s x : Operand) (hop : o.op = Op.call { callee := Callee.builtin Builtin.append, args := #[s, x], argTypes := #[24, 24] })
    (base base2 k n cap cc : Nat) (sa ad : Option Addr) (xs ys : List Part) (hv : a.eval s = .slice sa k cap) (hown : w.ownsRow base 28 7 (.slice sa k cap) k (flatP xs))
    (hx : a.eval x = .slice ad n cc) (hsrc : w.ownsRow base2 28 7 (.slice ad n cc) n (flatP ys)) (him : k + n ≤ 10000000) (hb : base ≤ w.heap.size)
    (hK : ∀ g3 cap3 w', w'.ownsRow base 28 7 (.slice g3 (k + n) cap3) (k + n) (flatP (xs ++ ys)) → w.grownBy w' (Value.slice sa k cap).ownBlock → wpList Try.prog ops Q rest (a.put o.dst (.slice g3 (k + n) cap3)) w') :
    wpList Try.prog ops Q (o :: rest) a w :=
  wpList_plain hg fun _ h => wp_catP s x hop base base2 k n cap cc sa ad xs ys hv hown hx hsrc him hb fun g3 cap3 w' h2 h3 => h _ _ (hK g3 cap3 w' h2 h3)

/-- A part is appended to a row of one's own, as a step of a region. -/
theorem step_addP {ops : Array Oper} {o : Oper} {a : Act} {w : World} {K : Act → World → Prop} {Q : Exit → Act → World → Prop} {E : Prop} (hg : o.guard = none) (s x : Operand) (hop : o.op = Op.call { callee := Callee.builtin Builtin.append, args := #[s, x], argTypes := #[24, 24] })
    (base i cc cap : Nat) (q : Option Addr) (ad : Addr) (xs : List Part) (z : Part) (hv : a.eval s = .slice q i cap) (hown : w.ownsRow base 28 7 (.slice q i cap) i (flatP xs))
    (hx : a.eval x = .slice (some ad) 1 cc) (hc : ∀ j u, (cellsP z)[j]? = some u → w.cell? (ad.add j) = some u) (him : i + 1 ≤ 10000000) (hb : base ≤ w.heap.size)
    (hK : ∀ g3 cap3 w', w'.ownsRow base 28 7 (.slice (some ⟨g3, 0, none⟩) (i + 1) cap3) (i + 1) (flatP (xs ++ [z])) → w.grownBy w' (Value.slice q i cap).ownBlock → K (a.put o.dst (.slice (some ⟨g3, 0, none⟩) (i + 1) cap3)) w') :
    if Region.wanted o (yielded ops a.tmps) = true then Oper.wp Try.prog o a w K Q else E := by
  have hw : Region.wanted o (yielded ops a.tmps) = true := by simp [Region.wanted, hg]
  rw [if_pos hw]
  obtain ⟨i0, hi, hz0, hz1, hz2⟩ := info_parts info_pt
  obtain ⟨v', w', hr, h2, h3, h4, h5⟩ := run_append_own_at (P := Try.prog) w base 24 o.type 28 i0 (partV ⟨0, 0, 0, false, false, false, ByteArray.mk #[]⟩) 7 48 Try.underlying24 hi hz0 hz1 hz2 rfl (by decide) _ i (flatP xs) hown ad 1 cc (cellsP z) rfl hc (cellsP_one z) (by unfold maxLen; omega) (by omega) hb
  obtain ⟨g3, cap3, rfl⟩ : ∃ g3 cap3, v' = .slice (some ⟨g3, 0, none⟩) (i + 1) cap3 := by
    rcases h2.2 with ⟨h0, h0'⟩ | ⟨g3, cap3, _, hv, _⟩
    · omega
    · exact ⟨g3, cap3, hv⟩
  unfold Oper.wp execOp
  simp only [hop, resolve, invoke, builtin, Sem.run_bind, Sem.run_pure, Result.andThen_ok, List.map_toArray, List.map_cons, List.map_nil, hv, hx, hr]
  exact hK g3 cap3 w' (by rw [flatP_append]; simpa [flatP] using h2) h3
/-- A number is appended to a row of one's own, as a step of a region. -/
theorem step_addI {ops : Array Oper} {o : Oper} {a : Act} {w : World} {K : Act → World → Prop} {Q : Exit → Act → World → Prop} {E : Prop} (hg : o.guard = none) (s x : Operand) (hop : o.op = Op.call { callee := Callee.builtin Builtin.append, args := #[s, x], argTypes := #[23, 23] })
    (base i cc cap : Nat) (q : Option Addr) (ad : Addr) (xs : List Int) (z : Int) (hv : a.eval s = .slice q i cap) (hown : w.ownsRow base 3 1 (.slice q i cap) i (flatN xs))
    (hx : a.eval x = .slice (some ad) 1 cc) (hc : ∀ j u, ([.int .i64 z] : List Value)[j]? = some u → w.cell? (ad.add j) = some u) (him : i + 1 ≤ 10000000) (hb : base ≤ w.heap.size)
    (hK : ∀ g3 cap3 w', w'.ownsRow base 3 1 (.slice (some ⟨g3, 0, none⟩) (i + 1) cap3) (i + 1) (flatN (xs ++ [z])) → w.grownBy w' (Value.slice q i cap).ownBlock → K (a.put o.dst (.slice (some ⟨g3, 0, none⟩) (i + 1) cap3)) w') :
    if Region.wanted o (yielded ops a.tmps) = true then Oper.wp Try.prog o a w K Q else E := by
  have hw : Region.wanted o (yielded ops a.tmps) = true := by simp [Region.wanted, hg]
  rw [if_pos hw]
  obtain ⟨i0, hi, hz0, hz1, hz2⟩ := info_parts info_n
  obtain ⟨v', w', hr, h2, h3, h4, h5⟩ := run_append_own_at (P := Try.prog) w base 23 o.type 3 i0 (.int .i64 0) 1 8 Try.underlying23 hi hz0 hz1 hz2 rfl (by decide) _ i (flatN xs) hown ad 1 cc (flatN [z]) rfl hc (flatN_one [z]) (by unfold maxLen; omega) (by omega) hb
  obtain ⟨g3, cap3, rfl⟩ : ∃ g3 cap3, v' = .slice (some ⟨g3, 0, none⟩) (i + 1) cap3 := by
    rcases h2.2 with ⟨h0, h0'⟩ | ⟨g3, cap3, _, hv, _⟩
    · omega
    · exact ⟨g3, cap3, hv⟩
  unfold Oper.wp execOp
  simp only [hop, resolve, invoke, builtin, Sem.run_bind, Sem.run_pure, Result.andThen_ok, List.map_toArray, List.map_cons, List.map_nil, hv, hx, hr]
  exact hK g3 cap3 w' (by rw [flatN_append]; exact h2) h3
/-- An assembly is valid, or the empty one that stands for none. -/
def AsmX (es : List Int) (qs : List Part) : Prop := AsmOk es qs ∨ (es = [] ∧ qs = [])
theorem asmX_new {m : Nat} (h : 1 ≤ m ∧ m ≤ 4) : AsmX (List.replicate m 0) [] := .inl (asm_new h.1 h.2)
theorem asmX_step {es : List Int} {qs : List Part} {d : Part} (_h : AsmX es qs) : AsmX (ansR es qs d).next (ansR es qs d).ps := by
  by_cases ha : addsTo es qs d
  · rw [(ansR_yes ha).1]
    exact .inl (addR_ok ha.1 ha.2).1
  · rw [(ansR_no ha).1]
    exact .inr ⟨rfl, rfl⟩
theorem small_ok {p : Part} (h : DataOk p.tsn p.stream p.ssn p.text) : Smally p := by
  have h1 := h
  unfold DataOk at h1
  exact ⟨by omega, by omega, by omega, by omega⟩
theorem asmX_small {es : List Int} {qs : List Part} (h : AsmX es qs) : es.length ≤ 4 ∧ qs.length ≤ 12 ∧ ∀ p ∈ qs, Smally p := by
  rcases h with h | ⟨rfl, rfl⟩
  · exact ⟨h.n4, h.few, fun p hp => small_ok (h.ok p hp).1⟩
  · simp
/-- Before the assembly is made: the reader, the answer's box. -/
structure Af (B r M : Nat) (w W : World) : Prop where
  rd : Rd B r M W
  rs : W.heap[w.heap.size]? = some (.cells #[.slice none 0 0, .slice none 0 0] 26 (0, 0))
  b : Below B w W
  o1 : r < w.heap.size
  a : Aside w.heap.size r w W
/-- While an assembly is drawn: its box at D, its rows of one's own. -/
structure Aw (B r M D : Nat) (a1 : Option Addr) (n1 c1 : Nat) (a2 : Option Addr) (n2 c2 : Nat) (es : List Int) (qs : List Part) (w W : World) : Prop where
  e : Af B r M w W
  av : W.heap[D]? = some (.cells #[.slice a1 n1 c1, .slice a2 n2 c2] 26 (0, 0))
  n : W.ownsRow (w.heap.size + 1) 3 1 (.slice a1 n1 c1) n1 (flatN es)
  p : W.ownsRow (w.heap.size + 1) 28 7 (.slice a2 n2 c2) n2 (flatP qs)
  o2 : w.heap.size < D
/-- An assembly was drawn; the reader stands. -/
def DrewAs (B r m : Nat) (w : World) (e : Ending) (w' : World) : Prop :=
  ∃ (a1 : Option Addr) (n1 c1 : Nat) (a2 : Option Addr) (n2 c2 : Nat) (es : List Int) (qs : List Part), e = .returned (.agg #[.slice a1 n1 c1, .slice a2 n2 c2]) ∧ n1 ≤ 5 ∧ n2 ≤ 24 ∧ (∀ p ∈ qs, Smally p) ∧ w'.ownsRow w.heap.size 3 1 (.slice a1 n1 c1) n1 (flatN es) ∧ w'.ownsRow w.heap.size 28 7 (.slice a2 n2 c2) n2 (flatP qs) ∧ Rd B r m w' ∧ Below B w w' ∧ Aside w.heap.size r w w'
section
variable {B r M M' D n1 c1 n2 c2 : Nat} {a1 a2 : Option Addr} {es : List Int} {qs : List Part} {w W W' : World}
theorem Af.lt (h : Af B r M w W) : w.heap.size < W.heap.size := (Array.getElem?_eq_some_iff.1 h.rs).1
theorem Af.by (h : Af B r M w W) (hk : Aside W.heap.size r W W') (hr : Rd B r M' W') (hb : Below B W W') : Af B r M' w W' :=
  ⟨hr, (hk _ h.lt (by have := h.o1; omega)).trans h.rs, h.b.trans hb, h.o1, h.a.trans (hk.less (Nat.le_of_lt h.lt))⟩
theorem Af.up (h : Af B r M w W) (hb : Below W.heap.size W W') : Af B r M w W' :=
  h.by (below_aside hb (Nat.le_refl _)) (h.rd.keep hb h.rd.2.1) (hb.mono (Nat.le_of_lt (Nat.lt_of_le_of_lt h.rd.1 h.rd.2.1)))
theorem Af.var (h : Af B r M w W) : VarN w.heap.size [.slice none 0 0, .slice none 0 0] W := var_of_heap h.rs
theorem Aw.low (h : Aw B r M D a1 n1 c1 a2 n2 c2 es qs w W) : w.heap.size + 1 ≤ W.heap.size := h.e.lt
theorem Aw.var (h : Aw B r M D a1 n1 c1 a2 n2 c2 es qs w W) : VarN D [.slice a1 n1 c1, .slice a2 n2 c2] W := var_of_heap h.av
theorem Aw.by (h : Aw B r M D a1 n1 c1 a2 n2 c2 es qs w W) (hk : Aside W.heap.size r W W') (hr : Rd B r M' W') (hb : Below B W W') : Aw B r M' D a1 n1 c1 a2 n2 c2 es qs w W' :=
  ⟨h.e.by hk hr hb, (hk _ (Array.getElem?_eq_some_iff.1 h.av).1 (by have := h.e.o1; have := h.o2; omega)).trans h.av, row_same h.n fun x h1 h2 => hk x h2 (by have := h.e.o1; omega), row_same h.p fun x h1 h2 => hk x h2 (by have := h.e.o1; omega), h.o2⟩
theorem Aw.only (h : Aw B r M D a1 n1 c1 a2 n2 c2 es qs w W) (ho : Only r W W') (hr : Rd B r M' W') : Aw B r M' D a1 n1 c1 a2 n2 c2 es qs w W' := h.by ho.aside hr (ho.below h.e.rd.1)
theorem Aw.up (h : Aw B r M D a1 n1 c1 a2 n2 c2 es qs w W) (hb : Below W.heap.size W W') : Aw B r M D a1 n1 c1 a2 n2 c2 es qs w W' :=
  h.by (below_aside hb (Nat.le_refl _)) (h.e.rd.keep hb h.e.rd.2.1) (hb.mono (Nat.le_of_lt (Nat.lt_of_le_of_lt h.e.rd.1 h.e.rd.2.1)))
theorem Aw.mono (h : Aw B r M D a1 n1 c1 a2 n2 c2 es qs w W) (hM : M ≤ M') : Aw B r M' D a1 n1 c1 a2 n2 c2 es qs w W := ⟨⟨h.e.rd.mono hM, h.e.rs, h.e.b, h.e.o1, h.e.a⟩, h.av, h.n, h.p, h.o2⟩
/-- A cell of the assembly's box is written. -/
theorem Aw.cell (h : Aw B r M D a1 n1 c1 a2 n2 c2 es qs w W) (i : Nat) (v : Value) : Af B r M w (W.setCell ⟨D, i, none⟩ v) := by
  have h1 := h.e.o1
  have h2 := h.e.rd.1
  have h3 := h.o2
  exact ⟨h.e.rd.far (by omega) _ _, (Below.heap_setCell W ⟨D, i, none⟩ v _ (by show w.heap.size ≠ D; omega)).trans h.e.rs, h.e.b.setCell (p := ⟨D, i, none⟩) (by show B ≤ D; omega) _, h1, h.e.a.trans (below_aside ((Below.refl D W).setCell (p := ⟨D, i, none⟩) (Nat.le_refl _) v) (by omega))⟩
theorem Aw.store {b1 b2 : Option Addr} {m1 d1 m2 d2 : Nat} {fs : List Int} {rs : List Part} (h : Aw B r M D a1 n1 c1 a2 n2 c2 es qs w W) (ho1 : W.ownsRow (w.heap.size + 1) 3 1 (.slice b1 m1 d1) m1 (flatN fs)) (ho2 : W.ownsRow (w.heap.size + 1) 28 7 (.slice b2 m2 d2) m2 (flatP rs)) :
    Aw B r M D b1 m1 d1 b2 m2 d2 fs rs w ((W.setCell ⟨D, 0, none⟩ (.slice b1 m1 d1)).setCell ⟨D, 1, none⟩ (.slice b2 m2 d2)) := by
  have e1 := heap_set_at (i := 0) h.av (.slice b1 m1 d1)
  have A1 : Aw B r M D b1 m1 d1 a2 n2 c2 fs qs w (W.setCell ⟨D, 0, none⟩ (.slice b1 m1 d1)) := ⟨h.cell 0 _, e1, setKind ho1 h.av (by decide) _, setKind h.p h.av (by decide) _, h.o2⟩
  exact ⟨A1.cell 1 _, heap_set_at (i := 1) A1.av _, setKind A1.n A1.av (by decide) _, setKind (setKind ho2 h.av (by decide) _) A1.av (by decide) _, h.o2⟩
theorem Aw.growP {W1 : World} (h : Aw B r M D a1 n1 c1 a2 n2 c2 es qs w W) (hgrow : W.grownBy W1 (Value.slice a2 n2 c2).ownBlock) : Af B r M w W1 ∧ W1.heap[D]? = some (.cells #[.slice a1 n1 c1, .slice a2 n2 c2] 26 (0, 0)) := by
  have h1 := h.e.o1
  have h2 := h.e.rd.1
  have h3 := h.e.lt
  have hge : ∀ x, (Value.slice a2 n2 c2).ownBlock = some x → w.heap.size + 1 ≤ x := fun x hx => own_ge h.p hx
  exact ⟨⟨h.e.rd.keep (Below.grown (Below.refl (r + 1) W) hgrow (by omega) fun x hx => by have := hge x hx; omega) (Nat.lt_succ_self r), boxGrown h.e.rs hgrow h.p (by decide), Below.grown h.e.b hgrow (by omega) fun x hx => by have := hge x hx; omega, h1, h.e.a.trans fun b hb _ => hgrow.block b (by omega) fun he => by have := hge b he.symm; omega⟩, boxGrown h.av hgrow h.p (by decide)⟩
theorem Aw.growN {W1 : World} (h : Aw B r M D a1 n1 c1 a2 n2 c2 es qs w W) (hgrow : W.grownBy W1 (Value.slice a1 n1 c1).ownBlock) : Af B r M w W1 ∧ W1.heap[D]? = some (.cells #[.slice a1 n1 c1, .slice a2 n2 c2] 26 (0, 0)) := by
  have h1 := h.e.o1
  have h2 := h.e.rd.1
  have h3 := h.e.lt
  have hge : ∀ x, (Value.slice a1 n1 c1).ownBlock = some x → w.heap.size + 1 ≤ x := fun x hx => own_ge h.n hx
  exact ⟨⟨h.e.rd.keep (Below.grown (Below.refl (r + 1) W) hgrow (by omega) fun x hx => by have := hge x hx; omega) (Nat.lt_succ_self r), boxGrown h.e.rs hgrow h.n (by decide), Below.grown h.e.b hgrow (by omega) fun x hx => by have := hge x hx; omega, h1, h.e.a.trans fun b hb _ => hgrow.block b (by omega) fun he => by have := hge b he.symm; omega⟩, boxGrown h.av hgrow h.n (by decide)⟩
theorem Aw.pushP {W1 : World} {b2 : Option Addr} {m2 d2 : Nat} {rs : List Part} (h : Aw B r M D a1 n1 c1 a2 n2 c2 es qs w W) (hgrow : W.grownBy W1 (Value.slice a2 n2 c2).ownBlock) (hown : W1.ownsRow (w.heap.size + 1) 28 7 (.slice b2 m2 d2) m2 (flatP rs)) :
    Aw B r M D a1 n1 c1 b2 m2 d2 es rs w (W1.setCell ⟨D, 1, none⟩ (.slice b2 m2 d2)) := by
  obtain ⟨g1, g2⟩ := h.growP hgrow
  have n1' := ownGrownO h.n hgrow h.p (by decide)
  have A1 : Aw B r M D a1 n1 c1 b2 m2 d2 es rs w (W1.setCell ⟨D, 1, none⟩ (.slice b2 m2 d2)) := by
    have h3 := h.o2
    have h4 := g1.o1
    have h5 := g1.rd.1
    exact ⟨⟨g1.rd.far (by omega) _ _, (Below.heap_setCell W1 ⟨D, 1, none⟩ _ _ (by show w.heap.size ≠ D; omega)).trans g1.rs, g1.b.setCell (p := ⟨D, 1, none⟩) (by show B ≤ D; omega) _, h4, g1.a.trans (below_aside ((Below.refl D W1).setCell (p := ⟨D, 1, none⟩) (Nat.le_refl _) _) (by omega))⟩, heap_set_at (i := 1) g2 _, setKind n1' g2 (by decide) _, setKind hown g2 (by decide) _, h3⟩
  exact A1
theorem Aw.pushN {W1 : World} {b1 : Option Addr} {m1 d1 : Nat} {fs : List Int} (h : Aw B r M D a1 n1 c1 a2 n2 c2 es qs w W) (hgrow : W.grownBy W1 (Value.slice a1 n1 c1).ownBlock) (hown : W1.ownsRow (w.heap.size + 1) 3 1 (.slice b1 m1 d1) m1 (flatN fs)) :
    Aw B r M D b1 m1 d1 a2 n2 c2 fs qs w (W1.setCell ⟨D, 0, none⟩ (.slice b1 m1 d1)) := by
  obtain ⟨g1, g2⟩ := h.growN hgrow
  have p1' := ownGrownO h.p hgrow h.n (by decide)
  have h3 := h.o2
  have h4 := g1.o1
  have h5 := g1.rd.1
  exact ⟨⟨g1.rd.far (by omega) _ _, (Below.heap_setCell W1 ⟨D, 0, none⟩ _ _ (by show w.heap.size ≠ D; omega)).trans g1.rs, g1.b.setCell (p := ⟨D, 0, none⟩) (by show B ≤ D; omega) _, h4, g1.a.trans (below_aside ((Below.refl D W1).setCell (p := ⟨D, 0, none⟩) (Nat.le_refl _) _) (by omega))⟩, heap_set_at (i := 0) g2 _, setKind hown g2 (by decide) _, setKind p1' g2 (by decide) _, h3⟩
theorem Aw.fin {m : Nat} (h : Aw B r M D a1 n1 c1 a2 n2 c2 es qs w W) (hM : M ≤ m) (h1 : n1 ≤ 5) (h2 : n2 ≤ 24) (hs : ∀ p ∈ qs, Smally p) (x y : Value) : DrewAs B r m w (.returned (.agg #[.slice a1 n1 c1, .slice a2 n2 c2])) ((W.setCell ⟨w.heap.size, 0, none⟩ x).setCell ⟨w.heap.size, 1, none⟩ y) := by
  have h3 := h.e.o1
  have h4 := h.e.rd.1
  exact ⟨a1, n1, c1, a2, n2, c2, es, qs, rfl, h1, h2, hs, row_low (far_row (far_row h.n (Nat.lt_succ_self _) _) (Nat.lt_succ_self _) _) (by omega), row_low (far_row (far_row h.p (Nat.lt_succ_self _) _) (Nat.lt_succ_self _) _) (by omega), ((h.e.rd.far h3 _ _).far h3 _ _).mono hM, (h.e.b.setCell (p := ⟨w.heap.size, 0, none⟩) (by show B ≤ w.heap.size; omega) _).setCell (p := ⟨w.heap.size, 1, none⟩) (by show B ≤ w.heap.size; omega) _, aside_far (aside_far h.e.a _) _⟩
end

set_option maxRecDepth 8000 in
set_option maxHeartbeats 8000000 in
theorem l92Asm_any (B r m : Nat) (w : World) (h : Rd B r m w) (hm : m ≤ 5000) :
    Calls Try.prog 36 #[.pointer (some ⟨r, 0, none⟩)] w (DrewAs B r (m + 200) w) := by
  have E0 := Lib.hid (show Af B r m w (w.alloc (.cells (List.toArray [.slice none 0 0, .slice none 0 0]) 26)) from ⟨h.alloc _, heap_alloc_new w _, h.below_alloc _, h.2.1, aside_alloc w _ (Nat.le_refl _)⟩)
  have hBr := h.1
  clear h
  go_enter Try.func36, Try.ntmps36
  go_wp2_with fail
  refine (l92Talk_any B r m _ E0.out.rd (by omega)).mono ?_
  rintro e w1 ⟨f, t, a0, a2', a3, b0, b2, b3, sz, k, cap, sa, ss, rfl, ok, hk4, hown, hr1, hb1, ha1⟩
  obtain ⟨sn, rfl⟩ : ∃ sn : Nat, a2' = (sn : Int) := ⟨a2'.toNat, by have := ok.1.2.2.2.1.2.2.1.1; dsimp only at this; omega⟩
  have hsn : 1 ≤ sn ∧ sn ≤ 4 := by have := ok.1.2.2.2.1.2.2.1; dsimp only at this; omega
  have HOK := Lib.hid ok
  clear ok
  have E1 := Lib.hid (E0.out.by ha1 hr1 hb1)
  have SY := Lib.hid (own_sys hown)
  have VT := Lib.hid (VarN.new w1 [.int .i64 f, .int .i64 t, .int .i64 a0, .int .i64 1000, .int .i64 (sn : Int), .int .i64 a3, .int .i64 b0, .int .i64 1000, .int .i64 b2, .int .i64 b3, .int .i64 sz, .slice sa k cap] 88)
  have B1 := Lib.hid (below_box (w := w1) (.cells (List.toArray [.int .i64 f, .int .i64 t, .int .i64 a0, .int .i64 1000, .int .i64 (sn : Int), .int .i64 a3, .int .i64 b0, .int .i64 1000, .int .i64 b2, .int .i64 b3, .int .i64 sz, .slice sa k cap]) 88) (Nat.le_refl _))
  have SY := Lib.hid (SY.out.below B1.out)
  have E2 := Lib.hid (E1.out.up B1.out)
  clear hown hr1 hb1 ha1 E0 E1
  have t4 := (VT.out 4 _ rfl).1
  go_wp2_with fail
  refine (sAsmNew_at sn _ hsn).mono ?_
  rintro e w2 ⟨g, p, rfl, o1, o2, hb2⟩
  clear t4
  have SY := Lib.hid (SY.out.below hb2)
  have VT := Lib.hid (VT.out.below hb2 (by simp))
  have E3 := Lib.hid (E2.out.up hb2)
  have BA := Lib.hid (below_box (w := w2) (.cells (List.toArray [.slice (some ⟨g, 0, none⟩) sn sn, .slice p 0 0]) 26) (Nat.le_refl _))
  have hlo : w.heap.size + 1 ≤ w2.heap.size := by have := (Array.getElem?_eq_some_iff.1 E3.out.rs).1; omega
  have S0 := Lib.hid (show Aw B r (m + 60) w2.heap.size (some ⟨g, 0, none⟩) sn sn p 0 0 (List.replicate sn 0) [] w (w2.alloc (.cells (List.toArray [.slice (some ⟨g, 0, none⟩) sn sn, .slice p 0 0]) 26)) from ⟨E3.out.up BA.out, heap_alloc_new w2 _, (row_low o1 (by have := (Array.getElem?_eq_some_iff.1 E2.out.rs).1; simp at this ⊢; omega)).alloc _, (row_low o2 (by have := (Array.getElem?_eq_some_iff.1 E2.out.rs).1; simp at this ⊢; omega)).alloc _, by omega⟩)
  have SY := Lib.hid (SY.out.below BA.out)
  have VT := Lib.hid (VT.out.below BA.out (lt_of_cell (VT.out 0 _ rfl).1))
  have ltT := lt_of_cell (VT.out 0 _ rfl).1
  clear o1 o2 hb2 E2 E3 B1 BA
  obtain ⟨D, hD⟩ : ∃ D, w2.heap.size = D := ⟨_, rfl⟩
  rw [hD] at S0
  have c0 := (VT.out 0 _ rfl).1
  have c1 := (VT.out 1 _ rfl).1
  have c2 := (VT.out 2 _ rfl).1
  have c3 := (VT.out 3 _ rfl).1
  have c4 := (VT.out 4 _ rfl).1
  have c5 := (VT.out 5 _ rfl).1
  have c6 := (VT.out 6 _ rfl).1
  have c7 := (VT.out 7 _ rfl).1
  have c8 := (VT.out 8 _ rfl).1
  have c9 := (VT.out 9 _ rfl).1
  have c10 := (VT.out 10 _ rfl).1
  have c11 := (VT.out 11 _ rfl).1
  go_wp2_with fail
  refine (l92Parts_any B r (m + 60) f t a0 1000 (sn : Int) a3 b0 1000 b2 b3 sz sa k cap ss _ S0.out.e.rd (by omega) SY.out HOK.out).mono ?_
  rintro e w3 ⟨la, ll, lc, ls, rfl, hll, hsm, hown, hr3, hb3, ha3⟩
  clear c0 c1 c2 c3 c4 c5 c6 c7 c8 c9 c10 c11
  have S1 := Lib.hid ((S0.out.by ha3 hr3 hb3).mono (M' := m + 90 + 0) (by omega))
  have L1 := Lib.hid (row_low hown (show w.heap.size + 1 ≤ _ from S0.out.low))
  clear hown hr3 hb3 ha3 hsm S0 SY VT HOK
  have AX := Lib.hid (asmX_new hsn)
  try rw [hD]
  go_wp2
  go_loopw [7] (fun iv wr => ∃ (i n1 c1 n2 c2 : Nat) (a1 a2 : Option Addr) (es : List Int) (qs : List Part), i ≤ ll ∧ iv = .int .i64 i ∧ Hid (AsmX es qs) ∧ Hid (Aw B r (m + 90 + i) D a1 n1 c1 a2 n2 c2 es qs w wr) ∧ Hid (wr.ownsRow (w.heap.size + 1) 28 7 (.slice la ll lc) ll (flatP ls))) (fun iv _ => ll - (intOf iv).toNat)
  case atStart => exact ⟨0, sn, sn, 0, 0, some ⟨g, 0, none⟩, p, List.replicate sn 0, [], Nat.zero_le _, rfl, AX, S1, L1⟩
  case round =>
    obtain ⟨i, n1, c1, n2, c2, a1, a2, es, qs, hi, rfl, hX, hS, hL⟩ := hrel
    clear S1 L1 AX
    by_cases hlt : i < ll
    · have ii : (i : Int) < (ll : Int) := by omega
      go_wp2_with fail
      refine (pick_any B r _ 3 _ hS.out.e.rd (by omega) (by omega) (by omega)).mono ?_
      rintro e w5 ⟨kk, rfl, kka, kkb, hr5, ho5⟩
      have hS5 := Lib.hid (hS.out.only ho5 hr5)
      have hL5 := Lib.hid (row_same hL.out fun x h1 h2 => ho5.aside x h2 (by have := hS.out.e.o1; omega))
      clear hr5 ho5 hS hL
      by_cases hkk : 0 < kk
      · have pL := own_pts hL5.out
        obtain ⟨x, rfl⟩ := pL.addr (show i < ll by omega)
        obtain ⟨p0, p1, p2, p3, p4, p5, p6⟩ := pL.at (Below.refl _ _) (show i < ll by omega)
        obtain ⟨⟨dt, ds, dq, dfi, dla, dlo, dtx⟩, hd⟩ : ∃ d, pAt ls i = d := ⟨_, rfl⟩
        rw [hd] at p0 p1 p2 p3 p4 p5 p6
        dsimp only at p0 p1 p2 p3 p4 p5 p6
        clear hd pL
        have v0 := (hS5.out.var 0 _ rfl).1
        have v1 := (hS5.out.var 1 _ rfl).1
        have hSd := Lib.hid (hS5.out.up (Below.drew (Below.refl _ _)))
        have hLd := Lib.hid (ownB hL5.out (Below.drew (Below.refl _ _)))
        go_wp2_with fail
        go_region_law (go_simp; go_at_call 15; (first | refine (sAsmAdd_any a1 n1 c1 es a2 n2 c2 qs ⟨dt, ds, dq, dfi, dla, dlo, dtx⟩ _ (own_ns hSd.out.n) (own_pts hSd.out.p)).mono ?_ | refine (sAsmAdd_any a1 n1 c1 es a2 n2 c2 qs ⟨dt, ds, dq, dfi, dla, dlo, dtx⟩ _ (own_ns hS5.out.n) (own_pts hS5.out.p)).mono ?_); rintro e w8 ⟨b1, m1, d1, b2', m2, d2, b3', m3, d3, rfl, ho, hb8⟩; unfold ansV; dsimp only; (first | (have S8 := Lib.hid (hSd.out.up hb8); have L8 := Lib.hid (ownB hLd.out hb8); have N8 := Lib.hid (row_low ho.o1 hSd.out.low); have P8 := Lib.hid (row_low ho.o2 hSd.out.low)) | (have S8 := Lib.hid (hS5.out.up hb8); have L8 := Lib.hid (ownB hL5.out hb8); have N8 := Lib.hid (row_low ho.o1 hS5.out.low); have P8 := Lib.hid (row_low ho.o2 hS5.out.low))); have y0 := (S8.out.var 0 _ rfl).1; have y1 := (S8.out.var 1 _ rfl).1; have f0 := (S8.out.var 0 _ rfl).2; have f1 := (S8.out.var 1 _ rfl).2)
        all_goals
          have S9 := Lib.hid ((S8.out.store N8.out P8.out).mono (M' := m + 90 + (i + 1)) (by omega))
          have L9 := Lib.hid (show ((w8.setCell ⟨D, 0, none⟩ (.slice b1 m1 d1)).setCell ⟨D, 1, none⟩ (.slice b2' m2 d2)).ownsRow (w.heap.size + 1) 28 7 (.slice (some x) ll lc) ll (flatP ls) from setKind (setKind L8.out S8.out.av (by decide) _) (heap_set_at (i := 0) S8.out.av _) (by decide) _)
          have X9 := Lib.hid (asmX_step (d := ⟨dt, ds, dq, dfi, dla, dlo, dtx⟩) hX.out)
          clear S8 L8 N8 P8 ho hb8 y0 y1 f0 f1 hS5 hL5 hSd hLd v0 v1 p0 p1 p2 p3 p4 p5 p6
          go_wp2
          go_roundw
          case rel => exact ⟨i + 1, m1, d1, m2, d2, b1, b2', _, _, by omega, by go_num, X9, S9, L9⟩
          case measure => simp [intOf]; omega
      · have S9 := Lib.hid (hS5.out.mono (M' := m + 90 + (i + 1)) (by omega))
        go_wp2
        go_roundw
        case rel => exact ⟨i + 1, n1, c1, n2, c2, a1, a2, es, qs, by omega, by go_num, hX, S9, hL5⟩
        case measure => simp [intOf]; omega
    · obtain rfl : i = ll := by omega
      have ni : ¬ (i : Int) < (i : Int) := by omega
      have SM := Lib.hid (asmX_small hX.out)
      have LE := Lib.hid (show es.length = n1 from (own_ns hS.out.n).length)
      have LQ := Lib.hid (show qs.length = n2 from (own_pts hS.out.p).length)
      have hn1 : n1 ≤ 4 := by have := SM.out.1; have := LE.out; omega
      have hn2 : n2 ≤ 12 := by have := SM.out.2.1; have := LQ.out; omega
      go_wp2_with fail
      refine (pick_any B r _ 20 _ hS.out.e.rd (by omega) (by omega) (by omega)).mono ?_
      rintro e w5 ⟨s, rfl, sa0, sb0, hr5, ho5⟩
      have S5 := Lib.hid ((hS.out.only ho5 hr5).mono (M' := m + 110) (by omega))
      clear hr5 ho5 hS hL hX
      by_cases hs0 : s = 0
      · subst hs0
        have S5d := Lib.hid (S5.out.up (Below.drew (Below.refl _ _)))
        have v0 := (S5.out.var 0 _ rfl).1
        have v1 := (S5.out.var 1 _ rfl).1
        go_wp2_with fail
        go_region_law (first
          | (go_simp; go_at_call 40; refine (l91Part_fr B r _ _ S5d.out.e.rd (by omega)).mono ?_; rintro e w6 ⟨⟨pa, pb, pc, pf, pl, po, px, rfl, hp, hr6, hb6⟩, hf6⟩; have S6 := Lib.hid (S5d.out.by hf6.aside hr6 hb6); have v0 := (S6.out.var 0 _ rfl).1; have v1 := (S6.out.var 1 _ rfl).1; have SA := Lib.hid (S6.out.up (below_box (.cells #[.int .i64 pa, .int .i64 pb, .int .i64 pc, .bool pf, .bool pl, .bool po, .string px] 28) (Nat.le_refl _))); have va0 := (SA.out.var 0 _ rfl).1; have va1 := (SA.out.var 1 _ rfl).1; have NB := Lib.hid (news_box (w := w6) (vs := cellsP ⟨pa, pb, pc, pf, pl, po, px⟩) (T := 28) rfl); have HP := Lib.hid (show Smally ⟨pa, pb, pc, pf, pl, po, px⟩ from ⟨hp.1, hp.2.1, hp.2.2.1, hp.2.2.2⟩))
          | (go_simp; go_at_call 40; refine (l91Part_fr B r _ _ S5.out.e.rd (by omega)).mono ?_; rintro e w6 ⟨⟨pa, pb, pc, pf, pl, po, px, rfl, hp, hr6, hb6⟩, hf6⟩; have S6 := Lib.hid (S5.out.by hf6.aside hr6 hb6); have v0 := (S6.out.var 0 _ rfl).1; have v1 := (S6.out.var 1 _ rfl).1; have SA := Lib.hid (S6.out.up (below_box (.cells #[.int .i64 pa, .int .i64 pb, .int .i64 pc, .bool pf, .bool pl, .bool po, .string px] 28) (Nat.le_refl _))); have va0 := (SA.out.var 0 _ rfl).1; have va1 := (SA.out.var 1 _ rfl).1; have NB := Lib.hid (news_box (w := w6) (vs := cellsP ⟨pa, pb, pc, pf, pl, po, px⟩) (T := 28) rfl); have HP := Lib.hid (show Smally ⟨pa, pb, pc, pf, pl, po, px⟩ from ⟨hp.1, hp.2.1, hp.2.2.1, hp.2.2.2⟩))
          | (refine step_addP (by rfl) _ _ (by rfl) (w.heap.size + 1) n2 _ c2 a2 ⟨w6.heap.size, 0, none⟩ qs ⟨pa, pb, pc, pf, pl, po, px⟩ (by rfl) SA.out.p (by rfl) NB.out (by omega) SA.out.low ?_; intro g3 cap3 w9 hown3 hgrow3; have S9 := Lib.hid (SA.out.pushP hgrow3 hown3); have y1 := Lib.cell_of_heap (SA.out.growP hgrow3).2 1; have f1 := Lib.frozen_of_heap (SA.out.growP hgrow3).2 1; change w9.cell? _ = some (.slice a2 n2 c2) at y1; clear hown3 hgrow3))
        all_goals
          have SM2 := Lib.hid (show ∀ p ∈ qs ++ [⟨pa, pb, pc, pf, pl, po, px⟩], Smally p from fun p hp2 => by
            rcases List.mem_append.1 hp2 with h | h
            · exact SM.out.2.2 p h
            · rw [List.mem_singleton.1 h]; exact HP.out)
          try clear y1 f1
          try clear va0 va1
          clear v0 v1
          have v0 := (S9.out.var 0 _ rfl).1
          have v1 := (S9.out.var 1 _ rfl).1
          have r0 := (S9.out.e.var 0 _ rfl).1
          have r1 := (S9.out.e.var 1 _ rfl).1
          have s0 := (S9.out.e.var 0 _ rfl).2
          have s1 := (S9.out.e.var 1 _ rfl).2
          have nwD := S9.out.o2
          go_wp2
          refine bodyPost_ret (v := .agg #[.slice a1 n1 c1, .slice (some ⟨g3, 0, none⟩) (n2 + 1) cap3]) ?_ rfl ?_
          · simp [results, Try.results36, go_sem, r0, r1]
          · exact S9.out.fin (by omega) (by omega) (by omega) SM2.out _ _
      · by_cases hs1 : s = 1
        · subst hs1
          have S5d := Lib.hid (S5.out.up (Below.drew (Below.refl _ _)))
          have v0 := (S5.out.var 0 _ rfl).1
          have v1 := (S5.out.var 1 _ rfl).1
          go_wp2_with fail
          go_region_law (first
            | (go_simp; go_at_call 70; refine (l91Word_as B r _ _ S5d.out.e.rd (by omega)).mono ?_; rintro e w6 ⟨⟨pv, rfl, _, hr6, hb6⟩, ha6⟩; have S6 := Lib.hid (S5d.out.by ha6 hr6 hb6); have v0 := (S6.out.var 0 _ rfl).1; have v1 := (S6.out.var 1 _ rfl).1; have SA := Lib.hid (S6.out.up (below_box (.cells #[.int .i64 pv] 3) (Nat.le_refl _))); have va0 := (SA.out.var 0 _ rfl).1; have va1 := (SA.out.var 1 _ rfl).1; have NB := Lib.hid (news_box (w := w6) (vs := [.int .i64 pv]) (T := 3) rfl))
            | (go_simp; go_at_call 70; refine (l91Word_as B r _ _ S5.out.e.rd (by omega)).mono ?_; rintro e w6 ⟨⟨pv, rfl, _, hr6, hb6⟩, ha6⟩; have S6 := Lib.hid (S5.out.by ha6 hr6 hb6); have v0 := (S6.out.var 0 _ rfl).1; have v1 := (S6.out.var 1 _ rfl).1; have SA := Lib.hid (S6.out.up (below_box (.cells #[.int .i64 pv] 3) (Nat.le_refl _))); have va0 := (SA.out.var 0 _ rfl).1; have va1 := (SA.out.var 1 _ rfl).1; have NB := Lib.hid (news_box (w := w6) (vs := [.int .i64 pv]) (T := 3) rfl))
            | (refine step_addI (by rfl) _ _ (by rfl) (w.heap.size + 1) n1 _ c1 a1 ⟨w6.heap.size, 0, none⟩ es pv (by rfl) SA.out.n (by rfl) NB.out (by omega) SA.out.low ?_; intro g3 cap3 w9 hown3 hgrow3; have S9 := Lib.hid (SA.out.pushN hgrow3 hown3); have y0 := Lib.cell_of_heap (SA.out.growN hgrow3).2 0; have f0 := Lib.frozen_of_heap (SA.out.growN hgrow3).2 0; change w9.cell? _ = some (.slice a1 n1 c1) at y0; clear hown3 hgrow3))
          all_goals
            try clear y0 f0
            try clear va0 va1
            clear v0 v1
            have v0 := (S9.out.var 0 _ rfl).1
            have v1 := (S9.out.var 1 _ rfl).1
            have r0 := (S9.out.e.var 0 _ rfl).1
            have r1 := (S9.out.e.var 1 _ rfl).1
            have s0 := (S9.out.e.var 0 _ rfl).2
            have s1 := (S9.out.e.var 1 _ rfl).2
            have nwD := S9.out.o2
            go_wp2
            refine bodyPost_ret (v := .agg #[.slice (some ⟨g3, 0, none⟩) (n1 + 1) cap3, .slice a2 n2 c2]) ?_ rfl ?_
            · simp [results, Try.results36, go_sem, r0, r1]
            · exact S9.out.fin (by omega) (by omega) (by omega) SM.out.2.2 _ _
        · by_cases hs2 : s = 2
          · subst hs2
            have v0 := (S5.out.var 0 _ rfl).1
            have v1 := (S5.out.var 1 _ rfl).1
            have o1 : ¬ ((2 : Int) = 0) := by decide
            go_wp2_with (at_builtin; go_loud (refine list_catP rfl _ _ rfl (w.heap.size + 1) (w.heap.size + 1) n2 n2 c2 c2 a2 a2 qs qs rfl S5.out.p rfl S5.out.p (by omega) S5.out.low ?_))
            intro g3 cap3 w9 hown3 hgrow3
            have S9 := Lib.hid (S5.out.pushP hgrow3 hown3)
            have y1 := Lib.cell_of_heap (S5.out.growP hgrow3).2 1
            have f1 := Lib.frozen_of_heap (S5.out.growP hgrow3).2 1
            change w9.cell? _ = some (.slice a2 n2 c2) at y1
            clear hown3 hgrow3 v0 v1
            have SM2 := Lib.hid (show ∀ p ∈ qs ++ qs, Smally p from fun p hp2 => by
              rcases List.mem_append.1 hp2 with h | h
              · exact SM.out.2.2 p h
              · exact SM.out.2.2 p h)
            have v0 := (S9.out.var 0 _ rfl).1
            have v1 := (S9.out.var 1 _ rfl).1
            have r0 := (S9.out.e.var 0 _ rfl).1
            have r1 := (S9.out.e.var 1 _ rfl).1
            have s0 := (S9.out.e.var 0 _ rfl).2
            have s1 := (S9.out.e.var 1 _ rfl).2
            have nwD := S9.out.o2
            go_wp2
            refine bodyPost_ret (v := .agg #[.slice a1 n1 c1, .slice g3 (n2 + n2) cap3]) ?_ rfl ?_
            · simp [results, Try.results36, go_sem, r0, r1]
            · exact S9.out.fin (by omega) (by omega) (by omega) SM2.out _ _
          · have z0 : (s == 0) = false := beq_eq_false_iff_ne.2 hs0
            have z1 : (s == 1) = false := beq_eq_false_iff_ne.2 hs1
            have z2 : (s == 2) = false := beq_eq_false_iff_ne.2 hs2
            have v0 := (S5.out.var 0 _ rfl).1
            have v1 := (S5.out.var 1 _ rfl).1
            have r0 := (S5.out.e.var 0 _ rfl).1
            have r1 := (S5.out.e.var 1 _ rfl).1
            have s0 := (S5.out.e.var 0 _ rfl).2
            have s1 := (S5.out.e.var 1 _ rfl).2
            have nwD := S5.out.o2
            go_wp2
            refine bodyPost_ret (v := .agg #[.slice a1 n1 c1, .slice a2 n2 c2]) ?_ rfl ?_
            · simp [results, Try.results36, go_sem, r0, r1]
            · exact S5.out.fin (by omega) (by omega) (by omega) SM.out.2.2 _ _

end Go.Proofs.Ytncbgejggfkdmaa

/- The laws' exact helpers on what has arrived: size, copy, equality, marks. -/
namespace Go.Proofs.Ytncbgejggfkdmaa
open Go.RowKit Go.PlainAid

/-- A row of numbers that is being filled: k of 'len' numbers lie there. -/
def FilN (d len k : Nat) (es : List Int) (w : World) : Prop :=
  ∀ i, i < len → ∃ u, w.cell? ⟨d, i, none⟩ = some u ∧ (i < k → u = .int .i64 (nAt es i))
/-- The block's cells may be written. -/
def FreeN (d : Nat) (w : World) : Prop := ∀ j, w.frozen? ⟨d, j, none⟩ = false
section
variable {d len k : Nat} {es : List Int} {w w' : World}
theorem FilN.below (h : FilN d len k es w) (hb : Below w.heap.size w w') : FilN d len k es w' := fun i hi => by
  obtain ⟨u, h1, h4⟩ := h i hi
  exact ⟨u, kept_cell hb (lt_of_cell h1) h1, h4⟩
theorem FreeN.below (h : FreeN d w) (hd : d < w.heap.size) (hb : Below w.heap.size w w') : FreeN d w' := fun j => (hb.frozen (p := ⟨d, j, none⟩) hd).trans (h j)
theorem FreeN.set {e i : Nat} (h : FreeN d w) (v : Value) : FreeN d (w.setCell ⟨e, i, none⟩ v) := fun j => by rw [World.frozen?_setCell]; exact h j
theorem FilN.far {e i : Nat} (h : FilN d len k es w) (he : e ≠ d) (y : Value) : FilN d len k es (w.setCell ⟨e, i, none⟩ y) := fun j hj => by
  obtain ⟨u, h1, h4⟩ := h j hj
  exact ⟨u, cell_far he h1, h4⟩
/-- A cell is written and the place is filled. -/
theorem FilN.put {c : Int} (h : FilN d len k es w) (hk : k < len) (e1 : nAt es k = c) : FilN d len (k + 1) es (w.setCell ⟨d, k, none⟩ (.int .i64 c)) := fun i hi => by
  obtain ⟨u, h1, h4⟩ := h i hi
  by_cases e : i = k
  · subst e
    exact ⟨_, World.cell?_setCell_same _ _ _ h1, fun _ => by rw [e1]⟩
  · exact ⟨u, cell_other (by omega) h1, fun h => h4 (by omega)⟩
theorem FilN.ns {cap : Nat} (h : FilN d len len es w) (hl : es.length = len) (hc : len ≤ cap) (hm : cap ≤ maxLen) : Ns w (some ⟨d, 0, none⟩) len cap es := by
  refine .inr ⟨_, rfl, hc, hm, hl, fun i hi => ?_⟩
  obtain ⟨u, h1, h4⟩ := h i hi
  rw [n_add, h1, h4 hi]
theorem FilN.new (w : World) (len : Nat) (vs : Array Value) (T : TypeId) (es : List Int) (hs : vs.size = len) : FilN w.heap.size len 0 es (w.alloc (.cells vs T)) ∧ FreeN w.heap.size (w.alloc (.cells vs T)) := by
  refine ⟨fun i hi => ?_, fun j => by simp⟩
  have h1 : i < vs.size := by omega
  exact ⟨vs[i], by rw [World.cell?_alloc_at _ _ _ _ rfl]; exact Array.getElem?_eq_getElem h1, fun h => absurd h (by omega)⟩
theorem own_filN {base g n cap : Nat} {xs : List Value} (es : List Int) (h : w.ownsRow base 3 1 (.slice (some ⟨g, 0, none⟩) n cap) n xs) : FilN g n 0 es w ∧ FreeN g w ∧ n ≤ cap ∧ cap ≤ maxLen ∧ base ≤ g ∧ g < w.heap.size := by
  rcases h.2 with ⟨h1, _⟩ | ⟨g', cap', cur, h1, h2, h3, h4, h5, h6, _⟩
  · exact absurd h1 (by intro e; cases e)
  · obtain ⟨rfl, _, rfl⟩ : g = g' ∧ True ∧ cap = cap' := by simpa using h1
    refine ⟨fun i hi => ?_, fun j => by unfold World.frozen?; simp [h3], h4, h5, h2, (Array.getElem?_eq_some_iff.1 h3).1⟩
    have q1 : i < cur.size := by omega
    exact ⟨cur[i], by unfold World.cell?; simp [h3, q1], fun h => absurd h (by omega)⟩
end
/-- Of the blocks that were there none but g's has turned, and none below g. -/
structure MwN (g : Nat) (w W : World) : Prop where
  a : Aside w.heap.size g w W
  b : Below g w W
  z : w.heap.size ≤ W.heap.size
  l : g < w.heap.size
theorem MwN.set {g i : Nat} {w W : World} (h : MwN g w W) (v : Value) : MwN g w (W.setCell ⟨g, i, none⟩ v) :=
  ⟨fun b hb hr => (Below.heap_setCell W ⟨g, i, none⟩ v b (by simpa using hr)).trans (h.a b hb hr), h.b.setCell (p := ⟨g, i, none⟩) (Nat.le_refl _) v, by simpa using h.z, h.l⟩
theorem MwN.grow {g : Nat} {w W W' : World} (h : MwN g w W) (hb : Below W.heap.size W W') : MwN g w W' :=
  ⟨h.a.trans (below_aside hb h.z), h.b.trans (hb.mono (by have := h.z; have := h.l; omega)), Nat.le_trans h.z hb.size, h.l⟩
/-- The marks of n numbers. -/
def marksN (n : Nat) : List Int := (List.range n).map fun i : Nat => 1 + (i : Int)
theorem marksN_length (n : Nat) : (marksN n).length = n := by simp [marksN]
theorem marksN_at (n k : Nat) (h : k < n) : nAt (marksN n) k = 1 + (k : Int) := by
  unfold nAt
  rw [List.getD_eq_getElem?_getD]
  simp [marksN, h]

set_option maxHeartbeats 400000 in
theorem szIntS_any (a : Option Addr) (len cap : Nat) (w : World) (hm : len ≤ 9223372036854775807) :
    Calls Try.prog 55 #[.slice a len cap, .int .i64 1048576] w fun e w' => (∃ z : Int, e = .returned (.int .i64 z) ∧ (z = -1 ∨ (0 ≤ z ∧ len ≤ 1048576))) ∧ Below w.heap.size w w' := by
  have e : IntKind.i64.wrap (1048576 - (len : Int)) = 1048576 - (len : Int) := IntWalk.i64_in _ (by omega)
  by_cases h0 : 1048576 - (len : Int) < 0
  · go_enter Try.func55, Try.ntmps55
    go_wp2
    go_ret
    exact ⟨⟨-1, rfl, .inl rfl⟩, Below.refl _ _⟩
  · go_enter Try.func55, Try.ntmps55
    go_wp2
    go_ret
    exact ⟨⟨_, rfl, .inr ⟨by omega, by omega⟩⟩, Below.refl _ _⟩

set_option maxHeartbeats 1000000 in
theorem toIntS_any (a : Option Addr) (len cap : Nat) (es : List Int) (w : World) (h : Ns w a len cap es) (hn : len ≤ 1048576) :
    Calls Try.prog 57 #[.slice a len cap] w fun e w' => (∃ d, e = .returned (.slice (some ⟨d, 0, none⟩) len len) ∧ w.heap.size ≤ d ∧ FilN d len len es w' ∧ FreeN d w' ∧ d < w'.heap.size) ∧ Below w.heap.size w w' := by
  have hl := h.length
  obtain ⟨i0, hi, hz0, hz1, hz2⟩ := info_parts info_n
  obtain ⟨CS, hCS, hmk⟩ : ∃ CS : Array Value, CS.size = len ∧ ∀ w, (Instr.makeSlice 23 (.int .i64 len) (.int .i64 len)).run Try.prog w = .ok (.slice (some ⟨w.heap.size, 0, none⟩) len len) (w.alloc (.cells CS 3)) := by
    refine ⟨madeCells (Value.int .i64 0).cells (len * 1), by rw [size_madeCells]; omega, fun w => ?_⟩
    have r := run_make w 23 3 i0 _ Try.underlying23 hi hz0 .i64 .i64 len len (by omega) (Int.le_refl _) (by rw [hz2]; omega) (by omega)
    rw [hz1] at r
    exact r
  have HG := Lib.hid h
  have HF := Lib.hid (FilN.new w len CS 3 es hCS)
  clear h hCS hi hz0 hz1 hz2
  go_enter Try.func57, Try.ntmps57
  go_wp2
  go_loopw [4] (fun i wr => ∃ k : Nat, k ≤ len ∧ i = .int .i64 k ∧ Hid (FilN w.heap.size len k es wr ∧ FreeN w.heap.size wr) ∧ w.heap.size < wr.heap.size ∧ Hid (Below w.heap.size w wr)) (fun i _ => len - (intOf i).toNat)
  case atStart => exact ⟨0, Nat.zero_le _, rfl, HF, by simp, Lib.hid (below_box _ (Nat.le_refl _))⟩
  case round =>
    obtain ⟨k, hk, rfl, hfi, hsz, hbel⟩ := hrel
    clear HF
    by_cases hlt : k < len
    · obtain ⟨x, rfl⟩ := HG.out.addr hlt
      have p0 := HG.out.at hbel.out hlt
      obtain ⟨c1, hc1⟩ : ∃ c1, nAt es k = c1 := ⟨_, rfl⟩
      rw [hc1] at p0
      have FP := Lib.hid (And.intro (hfi.out.1.put hlt hc1) (hfi.out.2.set (e := w.heap.size) (i := k) (.int .i64 c1)))
      obtain ⟨u, s0, _⟩ := hfi.out.1 k hlt
      have t0 := hfi.out.2 k
      have BB := Lib.hid (hbel.out.setCell (p := ⟨w.heap.size, k, none⟩) (Nat.le_refl _) (.int .i64 c1))
      clear hc1 hfi hbel
      go_wp2_with fail
      try (go_quiet (fail); go_wp2)
      go_roundw
      case rel => exact ⟨k + 1, by omega, by go_num, FP, by simpa using hsz, BB⟩
      case measure => simp [intOf]; omega
    · obtain rfl : k = len := by omega
      go_wp2
      go_ret
      exact ⟨⟨w.heap.size, rfl, Nat.le_refl _, hfi.out.1, hfi.out.2, hsz⟩, hbel.out⟩

end Go.Proofs.Ytncbgejggfkdmaa

/- The laws' exact helpers on what has arrived: copy, equality, marks. -/
namespace Go.Proofs.Ytncbgejggfkdmaa
open Go.RowKit Go.PlainAid

set_option maxHeartbeats 1000000 in
theorem eqIntS_same (a b : Option Addr) (len cap cap2 : Nat) (es : List Int) (w : World) (h : Ns w a len cap es) (k : Ns w b len cap2 es) :
    Calls Try.prog 59 #[.slice a len cap, .slice b len cap2] w fun e w' => e = .returned (.bool true) ∧ Below w.heap.size w w' := by
  have hl := h.length
  have hm := h.len_int
  have HG := Lib.hid h
  have HK := Lib.hid k
  clear h k
  go_enter Try.func59, Try.ntmps59
  go_wp2
  go_loopw [5] (fun i wr => ∃ k : Nat, k ≤ len ∧ i = .int .i64 k ∧ Hid (Below w.heap.size w wr)) (fun i _ => len - (intOf i).toNat)
  case atStart => exact ⟨0, Nat.zero_le _, rfl, Lib.hid (Below.refl _ _)⟩
  case round =>
    obtain ⟨k, hk, rfl, hbel⟩ := hrel
    by_cases hlt : k < len
    · obtain ⟨x, rfl⟩ := HG.out.addr hlt
      obtain ⟨y, rfl⟩ := HK.out.addr hlt
      have p0 := HG.out.at hbel.out hlt
      have m0 := HK.out.at hbel.out hlt
      obtain ⟨c1, hc1⟩ : ∃ c1, nAt es k = c1 := ⟨_, rfl⟩
      rw [hc1] at p0 m0
      clear hc1
      go_wp2_with fail
      go_quiet (fail)
      go_wp2
      go_roundw
      case rel => exact ⟨k + 1, by omega, by go_num, Lib.hid (below_drewN hbel.out _)⟩
      case measure => simp [intOf]; omega
    · obtain rfl : k = len := by omega
      go_wp2
      go_ret
      exact ⟨rfl, hbel.out⟩

set_option maxHeartbeats 1000000 in
theorem markIntS_any (g n cap : Nat) (w : World) (hn : n ≤ 1048576) (hg : g < w.heap.size) (h : FilN g n 0 (marksN n) w) (hf : FreeN g w) :
    Calls Try.prog 62 #[.slice (some ⟨g, 0, none⟩) n cap, .int .i64 1] w fun e w' => e = .returned (.int .i64 (1 + (n : Int))) ∧ FilN g n n (marksN n) w' ∧ FreeN g w' ∧ MwN g w w' := by
  have HF := Lib.hid (And.intro h (And.intro hf (show MwN g w w from ⟨Aside.refl _ _ _, Below.refl _ _, Nat.le_refl _, hg⟩)))
  clear h hf
  go_enter Try.func62, Try.ntmps62
  go_wp2
  go_loopw [1, 5] (fun m i wr => ∃ j : Nat, j ≤ n ∧ i = .int .i64 j ∧ m = .int .i64 (1 + (j : Int)) ∧ Hid (FilN g n j (marksN n) wr ∧ FreeN g wr ∧ MwN g w wr)) (fun _ i _ => n - (intOf i).toNat)
  case atStart => exact ⟨0, Nat.zero_le _, rfl, rfl, HF⟩
  case round =>
    obtain ⟨j, hj, rfl, rfl, hfi⟩ := hrel
    clear HF
    by_cases hlt : j < n
    · obtain ⟨F0, R0, M0⟩ := hfi.out
      obtain ⟨u, s0, _⟩ := F0 j hlt
      have r0 := R0 j
      have HN := Lib.hid (show FilN g n (j + 1) (marksN n) (wr.setCell ⟨g, j, none⟩ (.int .i64 (1 + (j : Int)))) ∧ FreeN g (wr.setCell ⟨g, j, none⟩ (.int .i64 (1 + (j : Int)))) ∧ MwN g w (wr.setCell ⟨g, j, none⟩ (.int .i64 (1 + (j : Int)))) from ⟨F0.put hlt (marksN_at n j hlt), R0.set _, M0.set _⟩)
      have k1 : IntKind.i64.wrap (1 + (j : Int) + 1) = 1 + (j : Int) + 1 := IntWalk.i64_in _ (by omega)
      clear F0 R0 M0 hfi
      go_wp2
      go_roundw
      case rel => exact ⟨j + 1, by omega, by go_num, by go_num, HN⟩
      case measure => simp [intOf]; omega
    · obtain rfl : j = n := by omega
      go_wp2
      go_ret
      exact ⟨rfl, hfi.out.1, hfi.out.2.1, hfi.out.2.2⟩

set_option maxHeartbeats 1000000 in
theorem heldIntS_any (a : Option Addr) (n cap : Nat) (w : World) (hn : n ≤ 1048576) (h : Ns w a n cap (marksN n)) :
    Calls Try.prog 65 #[.slice a n cap, .int .i64 1] w fun e w' => e = .returned (.int .i64 (1 + (n : Int))) ∧ Below w.heap.size w w' := by
  have HG := Lib.hid h
  clear h
  go_enter Try.func65, Try.ntmps65
  go_wp2
  go_loopw [1, 5] (fun m i wr => ∃ j : Nat, j ≤ n ∧ i = .int .i64 j ∧ m = .int .i64 (1 + (j : Int)) ∧ Hid (Below w.heap.size w wr)) (fun _ i _ => n - (intOf i).toNat)
  case atStart => exact ⟨0, Nat.zero_le _, rfl, rfl, Lib.hid (Below.refl _ _)⟩
  case round =>
    obtain ⟨j, hj, rfl, rfl, hbel⟩ := hrel
    by_cases hlt : j < n
    · obtain ⟨x, rfl⟩ := HG.out.addr hlt
      have p0 := HG.out.at hbel.out hlt
      rw [marksN_at n j hlt] at p0
      have k1 : IntKind.i64.wrap (1 + (j : Int) + 1) = 1 + (j : Int) + 1 := IntWalk.i64_in _ (by omega)
      go_wp2_with fail
      try (go_quiet (fail); go_wp2)
      go_roundw
      case rel => exact ⟨j + 1, by omega, by go_num, by go_num, Lib.hid (by first | exact hbel.out | exact below_drewN hbel.out _)⟩
      case measure => simp [intOf]; omega
    · obtain rfl : j = n := by omega
      go_wp2
      go_ret
      exact ⟨rfl, hbel.out⟩

set_option maxHeartbeats 400000 in
theorem markIntS_none (w : World) :
    Calls Try.prog 62 #[.slice none 0 0, .int .i64 1] w fun e w' => e = .returned (.int .i64 1) ∧ w' = w := by
  go_enter Try.func62, Try.ntmps62
  go_wp2
  go_loopw [1, 5] (fun m i wr => m = .int .i64 1 ∧ i = .int .i64 0 ∧ wr = w) (fun _ _ _ => 0)
  case atStart => exact ⟨rfl, rfl, rfl⟩
  case round =>
    obtain ⟨rfl, rfl, rfl⟩ := hrel
    go_wp2
    go_ret
    exact ⟨rfl, rfl⟩

end Go.Proofs.Ytncbgejggfkdmaa

/- What an exact law's marks leave be; the marks of a copy and of an answer. -/
namespace Go.Proofs.Ytncbgejggfkdmaa
open Go.RowKit Go.PlainAid

/-- Of the blocks that were there none has turned but o, and none below C. -/
structure Mg (C : Nat) (o : Option Nat) (w w' : World) : Prop where
  b : Below C w w'
  a : ∀ x, x < w.heap.size → some x ≠ o → w'.heap[x]? = w.heap[x]?
section
variable {C d len cap k n size base e : Nat} {o : Option Nat} {a : Option Addr} {es : List Int} {vs : List Value} {v : Value} {xs : List Value} {w w' : World}
theorem VarN.mg (h : VarN d vs w) (m : Mg C o w w') (hd : d < w.heap.size) (hne : some d ≠ o) : VarN d vs w' := fun i v hi =>
  ⟨(World.cell?_of_block (w := w) (m.a d hd hne)).trans (h i v hi).1, (World.frozen?_of_block (w := w) (m.a d hd hne)).trans (h i v hi).2⟩
theorem own_mg (h : w.ownsRow base e size v n xs) (m : Mg C o w w') (hne : ∀ x, v.ownBlock = some x → some x ≠ o) : w'.ownsRow base e size v n xs := by
  refine ⟨h.1, ?_⟩
  rcases h.2 with h1 | ⟨x, cap, cur, rfl, h2, h3, h4⟩
  · exact .inl h1
  · have hx : x < w.heap.size := (Array.getElem?_eq_some_iff.1 h3).1
    exact .inr ⟨x, cap, cur, rfl, h2, by rw [m.a x hx (hne x rfl)]; exact h3, h4⟩
theorem add_block (x : Addr) (i : Nat) : (x.add i).block = x.block := by unfold Addr.add; split <;> rfl
theorem Ns.lts (h : Ns w a len cap es) : ∀ x, a = some x → 0 < len → x.block < w.heap.size := fun x hx hl => by
  rcases h with ⟨rfl, _⟩ | ⟨y, hy, _, _, _, h5⟩
  · cases hx
  · obtain rfl : x = y := by rw [hx] at hy; simpa using hy
    have := World.block_lt_of_cell? w _ (h5 0 hl)
    rwa [add_block] at this
theorem Ns.mgC (h : Ns w a len cap es) (hb : Below C w w') (hlt : ∀ x, a = some x → 0 < len → x.block < C) : Ns w' a len cap es := by
  rcases h with h | ⟨y, rfl, h1, h2, h3, h5⟩
  · exact .inl h
  · exact .inr ⟨y, rfl, h1, h2, h3, fun i hi => (hb.cell (by rw [add_block]; exact hlt y rfl (by omega))).trans (h5 i hi)⟩
end

theorem ownN_alloc {X : World} {base e size n : Nat} {v : Value} {xs : List Value} {o : Obj} (h : X.ownsRow base e size v n xs) : (X.alloc o).ownsRow base e size v n xs := h.alloc o
theorem ownUp {w w' : World} {base e size n : Nat} {v : Value} {xs : List Value} (h : w.ownsRow base e size v n xs) (hb : Below w.heap.size w w') : w'.ownsRow base e size v n xs := row_same h fun x _ h2 => hb.block x h2
theorem row_lt {w : World} {base e size n : Nat} {v : Value} {xs : List Value} (h : w.ownsRow base e size v n xs) {x : Nat} (hx : v.ownBlock = some x) : base ≤ x ∧ x < w.heap.size := by
  refine ⟨own_ge h hx, ?_⟩
  rcases h.2 with ⟨h1, _⟩ | ⟨g, cap, cur, h1, _, h3, _⟩
  · rw [h1] at hx; cases hx
  · rw [h1] at hx
    obtain rfl : g = x := by simpa [Value.ownBlock] using hx
    exact (Array.getElem?_eq_some_iff.1 h3).1
theorem pts0 (w : World) (p : Option Addr) : Pts w p 0 0 [] := by
  cases p with
  | none => exact .inl ⟨rfl, rfl, rfl, rfl⟩
  | some x => exact .inr ⟨x, rfl, Nat.le_refl _, Nat.zero_le _, rfl, fun i hi => absurd hi (by omega)⟩

end Go.Proofs.Ytncbgejggfkdmaa

/- The laws' helpers on messages: equality, both ways. -/
namespace Go.Proofs.Ytncbgejggfkdmaa
open Go.RowKit Go.PlainAid

theorem load_msgs {W : World} {x : Addr} {len cap i : Nat} {ms : List Msg} (h : Mgs W (some x) len cap ms) (hi : i < len) : (Instr.loadAt 45 (.pointer (some (x.add (i * 4))))).run Try.prog W = .ok (msgV (mAt ms i)) W := by
  obtain ⟨l0, l1, l2, l3⟩ := h.at (Below.refl _ _) hi
  obtain ⟨⟨s, q, lo, tx⟩, hp⟩ : ∃ p, mAt ms i = p := ⟨_, rfl⟩
  rw [hp] at l0 l1 l2 l3 ⊢
  dsimp only at l0 l1 l2 l3
  clear h hp
  unfold msgV
  go_simp

set_option maxHeartbeats 2000000 in
theorem sameMessages_same (a b : Option Addr) (len cap cap2 : Nat) (ms : List Msg) (w : World) (h : Mgs w a len cap ms) (k : Mgs w b len cap2 ms) :
    Calls Try.prog 17 #[.slice a len cap, .slice b len cap2] w fun e w' => e = .returned (.bool true) ∧ Below w.heap.size w w' := by
  have hl := h.length
  have hm := h.len_int
  have HG := Lib.hid h
  have HK := Lib.hid k
  clear h k
  go_enter Try.func17, Try.ntmps17
  go_wp2
  go_loopw [5] (fun i wr => ∃ k : Nat, k ≤ len ∧ i = .int .i64 k ∧ Hid (Below w.heap.size w wr)) (fun i _ => len - (intOf i).toNat)
  case atStart => exact ⟨0, Nat.zero_le _, rfl, Lib.hid (Below.refl _ _)⟩
  case round =>
    obtain ⟨k, hk, rfl, hbel⟩ := hrel
    by_cases hlt : k < len
    · obtain ⟨x, rfl⟩ := HG.out.addr hlt
      obtain ⟨y, rfl⟩ := HK.out.addr hlt
      obtain ⟨p0, p1, p2, p3⟩ := HG.out.at hbel.out hlt
      obtain ⟨m0, m1, m2, m3⟩ := HK.out.at hbel.out hlt
      obtain ⟨⟨s, q, lo, tx⟩, hc1⟩ : ∃ c1, mAt ms k = c1 := ⟨_, rfl⟩
      rw [hc1] at p0 p1 p2 p3 m0 m1 m2 m3
      dsimp only at p0 p1 p2 p3 m0 m1 m2 m3
      clear hc1
      have hneq : ∀ w, (binOp .neq 45 (.agg #[.int .i64 s, .int .i64 q, .bool lo, .string tx]) (.agg #[.int .i64 s, .int .i64 q, .bool lo, .string tx])).run Try.prog w = .ok (.bool false) w := fun w => by go_simp
      go_wp2_with fail
      go_quiet (fail)
      go_wp2
      go_roundw
      case rel => exact ⟨k + 1, by omega, by go_num, Lib.hid (below_drewN hbel.out _)⟩
      case measure => simp [intOf]; omega
    · obtain rfl : k = len := by omega
      go_wp2
      go_ret
      exact ⟨rfl, hbel.out⟩

set_option maxHeartbeats 1000000 in
theorem eqMe_same (p : Msg) (w : World) :
    Calls Try.prog 61 #[msgV p, msgV p] w fun e w' => e = .returned (.bool true) ∧ Below w.heap.size w w' := by
  obtain ⟨s, q, lo, tx⟩ := p
  unfold msgV
  go_enter Try.func61, Try.ntmps61
  go_wp2
  go_ret
  exact ⟨rfl, (below_box _ (Nat.le_refl _)).alloc (by simp) _⟩

set_option maxHeartbeats 1000000 in
theorem eqMessageS_same (a b : Option Addr) (len cap cap2 : Nat) (ms : List Msg) (w : World) (h : Mgs w a len cap ms) (k : Mgs w b len cap2 ms) :
    Calls Try.prog 30 #[.slice a len cap, .slice b len cap2] w fun e w' => e = .returned (.bool true) ∧ Below w.heap.size w w' := by
  have hl := h.length
  have hm := h.len_int
  have HG := Lib.hid h
  have HK := Lib.hid k
  clear h k
  go_enter Try.func30, Try.ntmps30
  go_wp2
  go_loopw [5] (fun i wr => ∃ k : Nat, k ≤ len ∧ i = .int .i64 k ∧ Hid (Below w.heap.size w wr)) (fun i _ => len - (intOf i).toNat)
  case atStart => exact ⟨0, Nat.zero_le _, rfl, Lib.hid (Below.refl _ _)⟩
  case round =>
    obtain ⟨k, hk, rfl, hbel⟩ := hrel
    by_cases hlt : k < len
    · obtain ⟨x, rfl⟩ := HG.out.addr hlt
      obtain ⟨y, rfl⟩ := HK.out.addr hlt
      have hsz2 := hbel.out.size
      have LK : ∀ W, Below wr.heap.size wr W → (Instr.loadAt 45 (.pointer (some (x.add (k * 4))))).run Try.prog W = .ok (msgV (mAt ms k)) W := fun W hW => load_msgs ((HG.out.below hbel.out).below hW) hlt
      have LJ : ∀ W, Below wr.heap.size wr W → (Instr.loadAt 45 (.pointer (some (y.add (k * 4))))).run Try.prog W = .ok (msgV (mAt ms k)) W := fun W hW => load_msgs ((HK.out.below hbel.out).below hW) hlt
      have SMH := Lib.hid (fun w => eqMe_same (mAt ms k) w)
      go_wp2_with fail
      refine region_class (C := fun W => Below wr.heap.size wr W) (by kernel_rfl) (by kernel_rfl) (Below.drew (Below.refl _ _)) ?_
      repeat (first
        | go_big_quiet_skip
        | (go_big_quiet_want; go_big_quiet_op; go_big_quiet_on)
        | (refine BigFrame.wpQuiet_want (by rfl) (fun K hK => ?_)
           first
             | (refine quiet_loadQ (x := .tmp 19) (by with_reducible rfl) (by rfl) LK (hK _ ?_))
             | (refine quiet_loadQ (x := .tmp 23) (by with_reducible rfl) (by rfl) LJ (hK _ ?_))
             | (apply Exists.intro
                refine ⟨fun W hW => ?_, hK _ ?_⟩
                next =>
                  go_simp
                  first
                    | with_reducible exact rfl
                    | (refine (SMH.out _).mono ?_; rintro e w3 ⟨rfl, hb3⟩; exact ⟨rfl, hW.trans (hb3.mono hW.size)⟩))
           conv => arg 6; simp only [Act.put, List.setIfInBounds_toArray, List.set_cons_zero, List.set_cons_succ]
           clear hK K))
      refine wpQuiet_nil ?_
      intro W hW
      clear LK LJ
      have hb := Lib.hid (hbel.out.trans (hW.mono hsz2))
      clear hW
      go_wp2
      go_roundw
      case rel => exact ⟨k + 1, by omega, by go_num, hb⟩
      case measure => simp [intOf]; omega
    · obtain rfl : k = len := by omega
      go_wp2
      go_ret
      exact ⟨rfl, hbel.out⟩

end Go.Proofs.Ytncbgejggfkdmaa

/- The text of a mark, for any number. -/
namespace Go.Proofs.Ytncbgejggfkdmaa
open Go.RowKit Go.PlainAid

theorem conv_one (w : World) (b : Nat) (x : Int) (c : Nat) (h : w.cell? ⟨b, 0, none⟩ = some (.int .u8 x)) :
    (convert 22 9 (.slice (some ⟨b, 0, none⟩) 1 c)).run Try.prog w = .ok (.string (strOfNums [x])) w :=
  run_convert_bytes_arg _ 22 5 Try.underlying22 Try.underlying5 b 0 1 c [x] rfl (fun i hi => by
    obtain rfl : i = 0 := by omega
    exact h) 9 Try.underlying9
def digT (d : Nat) : ByteArray := strOfNums [48 + (d : Int)]
def mkT (c : Nat) (X : ByteArray) : ByteArray := if h : c = 0 then X else mkT (c / 10) (digT (c % 10) ++ X)
termination_by c
decreasing_by omega
def markT (k : Nat) : ByteArray := ByteArray.mk #[109] ++ mkT k (ByteArray.mk #[])

set_option maxHeartbeats 2000000 in
theorem markText_pos (k : Nat) (w : World) (h1 : 1 ≤ k) (h2 : k ≤ 1000000000) :
    Calls Try.prog 64 #[.int .i64 (k : Int)] w fun e w' => e = .returned (.string (markT k)) ∧ Below w.heap.size w w' := by
  have hcv := conv_one
  have k0 : ¬ (k : Int) ≤ 0 := by omega
  go_enter Try.func64, Try.ntmps64
  go_wp2
  go_loopw [0, 3] (fun n s wr => ∃ (c : Nat) (X : ByteArray), n = .int .i64 c ∧ s = .string X ∧ X.size + c ≤ k ∧ Hid (mkT c X = mkT k (ByteArray.mk #[])) ∧ Hid (Below w.heap.size w wr)) (fun n _ _ => (intOf n).toNat)
  case atStart => exact ⟨k, ByteArray.mk #[], rfl, rfl, by simp [ByteArray.size], rfl, Lib.hid (Below.refl _ _)⟩
  case round =>
    obtain ⟨c, X, rfl, rfl, hc, hE, hbel⟩ := hrel
    by_cases h0 : c = 0
    · subst h0
      have E := Lib.hid (show mkT k (ByteArray.mk #[]) = X by rw [← hE.out, mkT, dif_pos rfl])
      have hcat : ¬ 9223372036854775807 < (ByteArray.mk #[109]).size + X.size := by
        have e : (ByteArray.mk #[109]).size = 1 := rfl
        omega
      have hcat1 : ¬ 9223372036854775807 < 1 + X.size := by omega
      go_wp2
      go_ret
      exact ⟨by unfold markT; rw [E.out]; rfl, hbel.out⟩
    · have hp : (0 : Int) < (c : Int) := by omega
      have hz : (strOfNums [48 + (c : Int) % 10]).size = 1 := strOfNums_size _
      have hcat : ¬ 9223372036854775807 < (strOfNums [48 + (c : Int) % 10]).size + X.size := by rw [hz]; omega
      have hcat1 : ¬ 9223372036854775807 < 1 + X.size := by omega
      have e1 := Lib.hid (show (c : Int) / 10 = ((c / 10 : Nat) : Int) by omega)
      have e2 := Lib.hid (show (c : Int) % 10 = ((c % 10 : Nat) : Int) by omega)
      have E2 := Lib.hid (show mkT (c / 10) (strOfNums [48 + (c : Int) % 10] ++ X) = mkT k (ByteArray.mk #[]) by
        rw [← hE.out]
        conv => rhs; rw [mkT]
        rw [dif_neg h0, e2.out]
        rfl)
      have B2 := Lib.hid (hbel.out.alloc hbel.out.size (.cells #[.int .u8 (48 + (c : Int) % 10)] 5))
      clear hE hbel
      go_wp2
      go_roundw
      case rel => exact ⟨c / 10, _, by rw [e1.out], rfl, by rw [ByteArray.size_append, hz]; omega, E2, B2⟩
      case measure => simp [intOf]; omega

end Go.Proofs.Ytncbgejggfkdmaa

/- The laws' exact helpers on parts and assemblies: size, copy, equality. -/
namespace Go.Proofs.Ytncbgejggfkdmaa
open Go.RowKit Go.PlainAid

/-- A row of parts that is being filled: k of 'len' parts lie there. -/
def FilP (d len k : Nat) (ps : List Part) (w : World) : Prop :=
  ∀ i, i < len → ∀ j, j < 7 → ∃ u, w.cell? ⟨d, i * 7 + j, none⟩ = some u ∧ (i < k → (cellsP (pAt ps i))[j]? = some u)
theorem FilP.below {d len k : Nat} {ps : List Part} {w w' : World} (h : FilP d len k ps w) (hb : Below w.heap.size w w') : FilP d len k ps w' := fun i hi j hj => by
  obtain ⟨u, h1, h2⟩ := h i hi j hj
  exact ⟨u, kept_cell hb (lt_of_cell h1) h1, h2⟩
theorem FilP.far {d e len k o : Nat} {ps : List Part} {w : World} (h : FilP d len k ps w) (he : e ≠ d) (y : Value) : FilP d len k ps (w.setCell ⟨e, o, none⟩ y) := fun i hi j hj => by
  obtain ⟨u, h1, h2⟩ := h i hi j hj
  exact ⟨u, cell_far he h1, h2⟩
theorem FilP.new (w : World) (len : Nat) (vs : Array Value) (T : TypeId) (ps : List Part) (hs : vs.size = len * 7) : FilP w.heap.size len 0 ps (w.alloc (.cells vs T)) ∧ FreeN w.heap.size (w.alloc (.cells vs T)) := by
  refine ⟨fun i hi j hj => ?_, fun j => by simp⟩
  have h1 : i * 7 + j < vs.size := by omega
  exact ⟨vs[i * 7 + j], by rw [World.cell?_alloc_at _ _ _ _ rfl]; exact Array.getElem?_eq_getElem h1, fun h => absurd h (by omega)⟩
theorem FilP.pts {d len cap : Nat} {ps : List Part} {w : World} (h : FilP d len len ps w) (hl : ps.length = len) (hc : len ≤ cap) (hm : cap ≤ maxLen) : Pts w (some ⟨d, 0, none⟩) len cap ps := by
  refine .inr ⟨_, rfl, hc, hm, hl, fun i hi j v hv => ?_⟩
  have hj : j < 7 := (List.getElem?_eq_some_iff.1 hv).1
  obtain ⟨u, h1, h2⟩ := h i hi j hj
  have h3 := h2 hi
  rw [hv] at h3
  rw [atP_zero, h1, h3]
theorem FilP.put {d len k : Nat} {ps : List Part} {w : World} {t s q : Int} {fi la lo : Bool} {tx : ByteArray} (h : FilP d len k ps w) (hk : k < len) (e : pAt ps k = ⟨t, s, q, fi, la, lo, tx⟩) :
    FilP d len (k + 1) ps (((((((w.setCell ⟨d, k * 7, none⟩ (.int .i64 t)).setCell ⟨d, k * 7 + 1, none⟩ (.int .i64 s)).setCell ⟨d, k * 7 + 2, none⟩ (.int .i64 q)).setCell ⟨d, k * 7 + 3, none⟩ (.bool fi)).setCell ⟨d, k * 7 + 4, none⟩ (.bool la)).setCell ⟨d, k * 7 + 5, none⟩ (.bool lo)).setCell ⟨d, k * 7 + 6, none⟩ (.string tx)) := fun i hi j hj => by
  obtain ⟨u, h1, h2⟩ := h i hi j hj
  by_cases hik : i = k
  · subst hik
    rw [e]
    rcases (show j = 0 ∨ j = 1 ∨ j = 2 ∨ j = 3 ∨ j = 4 ∨ j = 5 ∨ j = 6 by omega) with rfl | rfl | rfl | rfl | rfl | rfl | rfl
    · exact ⟨.int .i64 t, (cell_other (by omega) (cell_other (by omega) (cell_other (by omega) (cell_other (by omega) (cell_other (by omega) (cell_other (by omega) (World.cell?_setCell_same _ _ _ h1))))))), fun _ => rfl⟩
    · exact ⟨.int .i64 s, (cell_other (by omega) (cell_other (by omega) (cell_other (by omega) (cell_other (by omega) (cell_other (by omega) (World.cell?_setCell_same _ _ _ (cell_other (by omega) h1))))))), fun _ => rfl⟩
    · exact ⟨.int .i64 q, (cell_other (by omega) (cell_other (by omega) (cell_other (by omega) (cell_other (by omega) (World.cell?_setCell_same _ _ _ (cell_other (by omega) (cell_other (by omega) h1))))))), fun _ => rfl⟩
    · exact ⟨.bool fi, (cell_other (by omega) (cell_other (by omega) (cell_other (by omega) (World.cell?_setCell_same _ _ _ (cell_other (by omega) (cell_other (by omega) (cell_other (by omega) h1))))))), fun _ => rfl⟩
    · exact ⟨.bool la, (cell_other (by omega) (cell_other (by omega) (World.cell?_setCell_same _ _ _ (cell_other (by omega) (cell_other (by omega) (cell_other (by omega) (cell_other (by omega) h1))))))), fun _ => rfl⟩
    · exact ⟨.bool lo, (cell_other (by omega) (World.cell?_setCell_same _ _ _ (cell_other (by omega) (cell_other (by omega) (cell_other (by omega) (cell_other (by omega) (cell_other (by omega) h1))))))), fun _ => rfl⟩
    · exact ⟨.string tx, (World.cell?_setCell_same _ _ _ (cell_other (by omega) (cell_other (by omega) (cell_other (by omega) (cell_other (by omega) (cell_other (by omega) (cell_other (by omega) h1))))))), fun _ => rfl⟩
  · exact ⟨u, (cell_other (by omega) (cell_other (by omega) (cell_other (by omega) (cell_other (by omega) (cell_other (by omega) (cell_other (by omega) (cell_other (by omega) h1))))))), fun h3 => h2 (by omega)⟩
theorem info_pd : (Try.prog.info? 28).map (fun i => (i.zero, i.size, i.bytes)) = some (some (partV ⟨0, 0, 0, false, false, false, ByteArray.mk #[]⟩), 7, 48) := by kernel_rfl

set_option maxHeartbeats 400000 in
theorem szDa_any (t s q : Int) (fi la lo : Bool) (tx : ByteArray) (n : Int) (w : World) (h0 : 0 ≤ n) (h1 : n ≤ 1048576) (hm : tx.size ≤ 9223372036854775807) :
    Calls Try.prog 26 #[.agg #[.int .i64 t, .int .i64 s, .int .i64 q, .bool fi, .bool la, .bool lo, .string tx], .int .i64 n] w fun e w' => (∃ z : Int, e = .returned (.int .i64 z) ∧ (z = -1 ∨ (0 ≤ z ∧ z ≤ n))) ∧ Below w.heap.size w w' := by
  have e : IntKind.i64.wrap (n - (tx.size : Int)) = n - (tx.size : Int) := IntWalk.i64_in _ (by omega)
  by_cases h : n - (tx.size : Int) < 0
  · go_enter Try.func26, Try.ntmps26
    go_wp2
    go_ret
    exact ⟨⟨-1, rfl, .inl rfl⟩, below_box _ (Nat.le_refl _)⟩
  · go_enter Try.func26, Try.ntmps26
    go_wp2
    go_ret
    exact ⟨⟨_, rfl, .inr ⟨by omega, by omega⟩⟩, below_box _ (Nat.le_refl _)⟩

set_option maxHeartbeats 1000000 in
theorem toDa_any (t s q : Int) (fi la lo : Bool) (tx : ByteArray) (w : World) :
    Calls Try.prog 28 #[.agg #[.int .i64 t, .int .i64 s, .int .i64 q, .bool fi, .bool la, .bool lo, .string tx]] w fun e w' => e = .returned (.agg #[.int .i64 t, .int .i64 s, .int .i64 q, .bool fi, .bool la, .bool lo, .string tx]) ∧ Below w.heap.size w w' := by
  go_enter Try.func28, Try.ntmps28
  go_wp2
  refine bodyPost_ret (v := .agg #[.int .i64 t, .int .i64 s, .int .i64 q, .bool fi, .bool la, .bool lo, .string tx]) ?_ rfl ?_
  · simp [results, Try.results28, go_sem]
  · exact ⟨rfl, by go_grown⟩

set_option maxHeartbeats 1000000 in
theorem eqDa_same (p : Part) (w : World) :
    Calls Try.prog 81 #[partV p, partV p] w fun e w' => e = .returned (.bool true) ∧ Below w.heap.size w w' := by
  obtain ⟨t, s, q, fi, la, lo, tx⟩ := p
  unfold partV
  go_enter Try.func81, Try.ntmps81
  go_wp2
  go_ret
  exact ⟨rfl, (below_box _ (Nat.le_refl _)).alloc (by simp) _⟩

set_option maxHeartbeats 1000000 in
theorem szDataS_any (a : Option Addr) (len cap : Nat) (ps : List Part) (n : Int) (w : World) (n0 : 0 ≤ n) (n1 : n ≤ 1048576) (h : Pts w a len cap ps) (hz : ∀ p ∈ ps, p.text.size ≤ maxLen) :
    Calls Try.prog 56 #[.slice a len cap, .int .i64 n] w fun e w' => (∃ z : Int, e = .returned (.int .i64 z) ∧ (z = -1 ∨ (0 ≤ z ∧ len ≤ 1048576))) ∧ Below w.heap.size w w' := by
  have hl := h.length
  have hm := h.len_int
  have HG := Lib.hid h
  have HZ := Lib.hid hz
  clear h hz
  have e : IntKind.i64.wrap (n - (len : Int)) = n - (len : Int) := IntWalk.i64_in _ (by omega)
  by_cases h0 : n - (len : Int) < 0
  · go_enter Try.func56, Try.ntmps56
    go_wp2
    go_ret
    exact ⟨⟨-1, rfl, .inl rfl⟩, Below.refl _ _⟩
  · have hle : len ≤ 1048576 := by omega
    go_enter Try.func56, Try.ntmps56
    go_wp2
    go_loopw [1, 5] (fun m i wr => ∃ (k : Nat) (z : Int), k ≤ len ∧ i = .int .i64 k ∧ m = .int .i64 z ∧ 0 ≤ z ∧ z ≤ 1048576 ∧ Hid (Below w.heap.size w wr)) (fun _ i _ => len - (intOf i).toNat)
    case atStart => exact ⟨0, n - (len : Int), Nat.zero_le _, rfl, rfl, by omega, by omega, Lib.hid (Below.refl _ _)⟩
    case round =>
      obtain ⟨k, z, hk, rfl, rfl, z0, z1, hbel⟩ := hrel
      by_cases hlt : k < len
      · obtain ⟨x, rfl⟩ := HG.out.addr hlt
        obtain ⟨p0, p1, p2, p3, p4, p5, p6⟩ := HG.out.at hbel.out hlt
        have hzk := HZ.out _ (pAt_mem (show k < ps.length by omega))
        obtain ⟨⟨t, s, q, fi, la, lo, tx⟩, hc1⟩ : ∃ c1, pAt ps k = c1 := ⟨_, rfl⟩
        rw [hc1] at p0 p1 p2 p3 p4 p5 p6 hzk
        dsimp only at p0 p1 p2 p3 p4 p5 p6 hzk
        unfold maxLen at hzk
        clear hc1
        go_wp2_with fail
        refine (szDa_any t s q fi la lo tx z _ z0 z1 (by omega)).mono ?_
        rintro e w2 ⟨⟨z2, rfl, hz2⟩, hb2⟩
        have HB := Lib.hid (hbel.out.trans (hb2.mono hbel.out.size))
        clear hb2
        rcases hz2 with rfl | ⟨y0, y1⟩
        · go_wp2
          go_ret
          exact ⟨⟨-1, rfl, .inl rfl⟩, HB.out⟩
        · have yn : ¬ z2 < 0 := by omega
          go_wp2
          go_roundw
          case rel => exact ⟨k + 1, z2, by omega, by go_num, rfl, y0, by omega, HB⟩
          case measure => simp [intOf]; omega
      · obtain rfl : k = len := by omega
        go_wp2
        go_ret
        exact ⟨⟨z, rfl, .inr ⟨z0, hle⟩⟩, hbel.out⟩

set_option maxHeartbeats 1000000 in
theorem toDataS_any (a : Option Addr) (len cap : Nat) (ps : List Part) (w : World) (h : Pts w a len cap ps) (hn : len ≤ 1048576) :
    Calls Try.prog 58 #[.slice a len cap] w fun e w' => (∃ d, e = .returned (.slice (some ⟨d, 0, none⟩) len len) ∧ w.heap.size ≤ d ∧ FilP d len len ps w' ∧ FreeN d w' ∧ d < w'.heap.size) ∧ Below w.heap.size w w' := by
  have hl := h.length
  obtain ⟨i0, hi, hz0, hz1, hz2⟩ := info_parts info_pd
  obtain ⟨CS, hCS, hmk⟩ : ∃ CS : Array Value, CS.size = len * 7 ∧ ∀ w, (Instr.makeSlice 24 (.int .i64 len) (.int .i64 len)).run Try.prog w = .ok (.slice (some ⟨w.heap.size, 0, none⟩) len len) (w.alloc (.cells CS 28)) := by
    refine ⟨madeCells (partV ⟨0, 0, 0, false, false, false, ByteArray.mk #[]⟩).cells (len * 7), size_madeCells _ _, fun w => ?_⟩
    have r := run_make w 24 28 i0 _ Try.underlying24 hi hz0 .i64 .i64 len len (by omega) (Int.le_refl _) (by rw [hz2]; omega) (by omega)
    rw [hz1] at r
    exact r
  have HG := Lib.hid h
  have HF := Lib.hid (FilP.new w len CS 28 ps hCS)
  clear h hCS hi hz0 hz1 hz2
  go_enter Try.func58, Try.ntmps58
  go_wp2
  go_loopw [4] (fun i wr => ∃ k : Nat, k ≤ len ∧ i = .int .i64 k ∧ Hid (FilP w.heap.size len k ps wr ∧ FreeN w.heap.size wr) ∧ w.heap.size < wr.heap.size ∧ Hid (Below w.heap.size w wr)) (fun i _ => len - (intOf i).toNat)
  case atStart => exact ⟨0, Nat.zero_le _, rfl, HF, by simp, Lib.hid (below_box _ (Nat.le_refl _))⟩
  case round =>
    obtain ⟨k, hk, rfl, hfi, hsz, hbel⟩ := hrel
    clear HF
    by_cases hlt : k < len
    · obtain ⟨x, rfl⟩ := HG.out.addr hlt
      obtain ⟨p0, p1, p2, p3, p4, p5, p6⟩ := HG.out.at hbel.out hlt
      obtain ⟨⟨t, s, q, fi, la, lo, tx⟩, hc1⟩ : ∃ c1, pAt ps k = c1 := ⟨_, rfl⟩
      rw [hc1] at p0 p1 p2 p3 p4 p5 p6
      dsimp only at p0 p1 p2 p3 p4 p5 p6
      have HC := Lib.hid hc1
      clear hc1
      go_wp2_with fail
      refine (toDa_any t s q fi la lo tx _).mono ?_
      rintro e w2 ⟨rfl, hb2⟩
      have F2 := hfi.out.1.below hb2
      have R2 : FreeN w.heap.size w2 := fun j => (hb2.frozen (p := ⟨w.heap.size, j, none⟩) hsz).trans (hfi.out.2 j)
      have FP := Lib.hid (And.intro (F2.put hlt HC.out) (FreeN.set (FreeN.set (FreeN.set (FreeN.set (FreeN.set (FreeN.set (FreeN.set R2 (e := w.heap.size) (i := k * 7) (.int .i64 t)) (e := w.heap.size) (i := k * 7 + 1) (.int .i64 s)) (e := w.heap.size) (i := k * 7 + 2) (.int .i64 q)) (e := w.heap.size) (i := k * 7 + 3) (.bool fi)) (e := w.heap.size) (i := k * 7 + 4) (.bool la)) (e := w.heap.size) (i := k * 7 + 5) (.bool lo)) (e := w.heap.size) (i := k * 7 + 6) (.string tx)))
      obtain ⟨u0, s0, _⟩ := F2 k hlt 0 (by omega)
      have t0 := R2 (k * 7)
      obtain ⟨u1, s1, _⟩ := F2 k hlt 1 (by omega)
      have t1 := R2 (k * 7 + 1)
      obtain ⟨u2, s2, _⟩ := F2 k hlt 2 (by omega)
      have t2 := R2 (k * 7 + 2)
      obtain ⟨u3, s3, _⟩ := F2 k hlt 3 (by omega)
      have t3 := R2 (k * 7 + 3)
      obtain ⟨u4, s4, _⟩ := F2 k hlt 4 (by omega)
      have t4 := R2 (k * 7 + 4)
      obtain ⟨u5, s5, _⟩ := F2 k hlt 5 (by omega)
      have t5 := R2 (k * 7 + 5)
      obtain ⟨u6, s6, _⟩ := F2 k hlt 6 (by omega)
      have t6 := R2 (k * 7 + 6)
      have BB := Lib.hid ((((((((hbel.out.trans (hb2.mono hbel.out.size)).setCell (p := ⟨w.heap.size, k * 7, none⟩) (Nat.le_refl _) (.int .i64 t)).setCell (p := ⟨w.heap.size, k * 7 + 1, none⟩) (Nat.le_refl _) (.int .i64 s)).setCell (p := ⟨w.heap.size, k * 7 + 2, none⟩) (Nat.le_refl _) (.int .i64 q)).setCell (p := ⟨w.heap.size, k * 7 + 3, none⟩) (Nat.le_refl _) (.bool fi)).setCell (p := ⟨w.heap.size, k * 7 + 4, none⟩) (Nat.le_refl _) (.bool la)).setCell (p := ⟨w.heap.size, k * 7 + 5, none⟩) (Nat.le_refl _) (.bool lo)).setCell (p := ⟨w.heap.size, k * 7 + 6, none⟩) (Nat.le_refl _) (.string tx))
      have hsz2 : w.heap.size < w2.heap.size := Nat.lt_of_lt_of_le hsz hb2.size
      simp only [Nat.add_zero] at s0
      clear F2 R2 hb2 hfi hbel p0 p1 p2 p3 p4 p5 p6 hsz
      go_wp2
      go_roundw
      case rel => exact ⟨k + 1, by omega, by go_num, FP, by simpa using hsz2, BB⟩
      case measure => simp [intOf]; omega
    · obtain rfl : k = len := by omega
      go_wp2
      go_ret
      exact ⟨⟨w.heap.size, rfl, Nat.le_refl _, hfi.out.1, hfi.out.2, hsz⟩, hbel.out⟩

set_option maxHeartbeats 1000000 in
theorem eqDataS_same (a b : Option Addr) (len cap cap2 : Nat) (ps : List Part) (w : World) (h : Pts w a len cap ps) (k : Pts w b len cap2 ps) :
    Calls Try.prog 60 #[.slice a len cap, .slice b len cap2] w fun e w' => e = .returned (.bool true) ∧ Below w.heap.size w w' := by
  have hl := h.length
  have hm := h.len_int
  have HG := Lib.hid h
  have HK := Lib.hid k
  clear h k
  go_enter Try.func60, Try.ntmps60
  go_wp2
  go_loopw [5] (fun i wr => ∃ k : Nat, k ≤ len ∧ i = .int .i64 k ∧ Hid (Below w.heap.size w wr)) (fun i _ => len - (intOf i).toNat)
  case atStart => exact ⟨0, Nat.zero_le _, rfl, Lib.hid (Below.refl _ _)⟩
  case round =>
    obtain ⟨k, hk, rfl, hbel⟩ := hrel
    by_cases hlt : k < len
    · obtain ⟨x, rfl⟩ := HG.out.addr hlt
      obtain ⟨y, rfl⟩ := HK.out.addr hlt
      have hsz2 := hbel.out.size
      have LK : ∀ W, Below wr.heap.size wr W → (Instr.loadAt 28 (.pointer (some (x.add (k * 7))))).run Try.prog W = .ok (partV (pAt ps k)) W := fun W hW => load_parts ((HG.out.below hbel.out).below hW) hlt
      have LJ : ∀ W, Below wr.heap.size wr W → (Instr.loadAt 28 (.pointer (some (y.add (k * 7))))).run Try.prog W = .ok (partV (pAt ps k)) W := fun W hW => load_parts ((HK.out.below hbel.out).below hW) hlt
      have SMH := Lib.hid (fun w => eqDa_same (pAt ps k) w)
      go_wp2_with fail
      refine region_class (C := fun W => Below wr.heap.size wr W) (by kernel_rfl) (by kernel_rfl) (Below.drew (Below.refl _ _)) ?_
      repeat (first
        | go_big_quiet_skip
        | (go_big_quiet_want; go_big_quiet_op; go_big_quiet_on)
        | (refine BigFrame.wpQuiet_want (by rfl) (fun K hK => ?_)
           first
             | (refine quiet_loadQ (x := .tmp 19) (by with_reducible rfl) (by rfl) LK (hK _ ?_))
             | (refine quiet_loadQ (x := .tmp 23) (by with_reducible rfl) (by rfl) LJ (hK _ ?_))
             | (apply Exists.intro
                refine ⟨fun W hW => ?_, hK _ ?_⟩
                next =>
                  go_simp
                  first
                    | with_reducible exact rfl
                    | (refine (SMH.out _).mono ?_; rintro e w3 ⟨rfl, hb3⟩; exact ⟨rfl, hW.trans (hb3.mono hW.size)⟩))
           conv => arg 6; simp only [Act.put, List.setIfInBounds_toArray, List.set_cons_zero, List.set_cons_succ]
           clear hK K))
      refine wpQuiet_nil ?_
      intro W hW
      clear LK LJ
      have hb := Lib.hid (hbel.out.trans (hW.mono hsz2))
      clear hW
      go_wp2
      go_roundw
      case rel => exact ⟨k + 1, by omega, by go_num, hb⟩
      case measure => simp [intOf]; omega
    · obtain rfl : k = len := by omega
      go_wp2
      go_ret
      exact ⟨rfl, hbel.out⟩

end Go.Proofs.Ytncbgejggfkdmaa

/- The laws' exact helpers on assemblies: size, copy, equality. -/
namespace Go.Proofs.Ytncbgejggfkdmaa
open Go.RowKit Go.PlainAid

set_option maxHeartbeats 400000 in
theorem szIntS_b (a : Option Addr) (len cap : Nat) (w : World) (hm : len ≤ 9223372036854775807) :
    Calls Try.prog 55 #[.slice a len cap, .int .i64 1048576] w fun e w' => (∃ z : Int, e = .returned (.int .i64 z) ∧ (z = -1 ∨ (0 ≤ z ∧ z ≤ 1048576 ∧ len ≤ 1048576))) ∧ Below w.heap.size w w' := by
  have e : IntKind.i64.wrap (1048576 - (len : Int)) = 1048576 - (len : Int) := IntWalk.i64_in _ (by omega)
  by_cases h0 : 1048576 - (len : Int) < 0
  · go_enter Try.func55, Try.ntmps55
    go_wp2
    go_ret
    exact ⟨⟨-1, rfl, .inl rfl⟩, Below.refl _ _⟩
  · go_enter Try.func55, Try.ntmps55
    go_wp2
    go_ret
    exact ⟨⟨_, rfl, .inr ⟨by omega, by omega, by omega⟩⟩, Below.refl _ _⟩

set_option maxHeartbeats 1000000 in
theorem szAssembly_any (an : Option Addr) (ln cn : Nat) (es : List Int) (ap : Option Addr) (lp cp : Nat) (ps : List Part) (w : World) (h : Ns w an ln cn es) (hp : Pts w ap lp cp ps) (hz : ∀ p ∈ ps, p.text.size ≤ maxLen) :
    Calls Try.prog 25 #[.agg #[.slice an ln cn, .slice ap lp cp], .int .i64 1048576] w fun e w' => (∃ z : Int, e = .returned (.int .i64 z) ∧ (z = -1 ∨ (0 ≤ z ∧ ln ≤ 1048576 ∧ lp ≤ 1048576))) ∧ Below w.heap.size w w' := by
  have hm := h.len_int
  have B1 := Lib.hid (below_box (w := w) (.cells #[.slice an ln cn, .slice ap lp cp] 48) (Nat.le_refl _))
  have P1 := Lib.hid (hp.below B1.out)
  have V1 := Lib.hid (VarN.new w [.slice an ln cn, .slice ap lp cp] 48)
  clear h hp
  go_enter Try.func25, Try.ntmps25
  go_wp2_with fail
  refine (szIntS_b an ln cn _ hm).mono ?_
  rintro e w1 ⟨⟨z, rfl, hzz⟩, hb1⟩
  have v1 := ((V1.out.below hb1 (by simp)) 1 _ rfl).1
  have P2 := Lib.hid (P1.out.below hb1)
  have HB := Lib.hid (B1.out.trans (hb1.mono (by simp)))
  clear hb1
  rcases hzz with rfl | ⟨y0, y1, y2⟩
  · go_wp2
    go_ret
    exact ⟨⟨-1, rfl, .inl rfl⟩, HB.out⟩
  · have yn : ¬ z < 0 := by omega
    go_wp2_with fail
    refine (szDataS_any ap lp cp ps z _ y0 y1 P2.out hz).mono ?_
    rintro e w2 ⟨⟨z2, rfl, hz2⟩, hb2⟩
    have HB2 := Lib.hid (HB.out.trans (hb2.mono HB.out.size))
    clear hb2
    rcases hz2 with rfl | ⟨x0, x1⟩
    · go_wp2
      go_ret
      exact ⟨⟨-1, rfl, .inl rfl⟩, HB2.out⟩
    · have xn : ¬ z2 < 0 := by omega
      go_wp2
      go_ret
      exact ⟨⟨z2, rfl, .inr ⟨x0, y2, x1⟩⟩, HB2.out⟩

/-- An assembly of one's own: both rows may be written. -/
structure OwnA (R d n e m : Nat) (es : List Int) (ps : List Part) (W : World) : Prop where
  fn : FilN d n n es W
  rn : FreeN d W
  fp : FilP e m m ps W
  rp : FreeN e W
  ln : es.length = n
  lp : ps.length = m
  zn : d < W.heap.size
  zp : e < W.heap.size
  lo : R ≤ d ∧ R ≤ e
  ne : d ≠ e
  sn : n ≤ 1048576
  sp : m ≤ 1048576

set_option maxHeartbeats 1000000 in
theorem toAssembly_any (an : Option Addr) (ln cn : Nat) (es : List Int) (ap : Option Addr) (lp cp : Nat) (ps : List Part) (w : World) (h : Ns w an ln cn es) (hp : Pts w ap lp cp ps) (hn : ln ≤ 1048576) (hm : lp ≤ 1048576) :
    Calls Try.prog 27 #[.agg #[.slice an ln cn, .slice ap lp cp]] w fun e w' => (∃ d g, e = .returned (.agg #[.slice (some ⟨d, 0, none⟩) ln ln, .slice (some ⟨g, 0, none⟩) lp lp]) ∧ OwnA w.heap.size d ln g lp es ps w') ∧ Below w.heap.size w w' := by
  have hl := h.length
  have hpl := hp.length
  have B0 := Lib.hid (show Below w.heap.size w (((w.alloc (.cells #[.slice an ln cn, .slice ap lp cp] 48)).alloc (.cells #[.slice none 0 0, .slice none 0 0] 26)).alloc (.cells #[.slice none 0 0, .slice none 0 0] 26)) from ((below_box _ (Nat.le_refl _)).alloc (by simp) _).alloc (by first | (simp; done) | (simp; omega)) _)
  have V0 := Lib.hid (show VarN w.heap.size [.slice an ln cn, .slice ap lp cp] (((w.alloc (.cells #[.slice an ln cn, .slice ap lp cp] 48)).alloc (.cells #[.slice none 0 0, .slice none 0 0] 26)).alloc (.cells #[.slice none 0 0, .slice none 0 0] 26)) from ((VarN.new w _ _).alloc _ (by simp)).alloc _ (by first | (simp; done) | (simp; omega)))
  have R0 := Lib.hid (show VarN (w.heap.size + 1) [.slice none 0 0, .slice none 0 0] (((w.alloc (.cells #[.slice an ln cn, .slice ap lp cp] 48)).alloc (.cells #[.slice none 0 0, .slice none 0 0] 26)).alloc (.cells #[.slice none 0 0, .slice none 0 0] 26)) from (VarN.new_at (by simp) _ _).alloc _ (by first | (simp; done) | (simp; omega)))
  have O0 := Lib.hid (show VarN (w.heap.size + 2) [.slice none 0 0, .slice none 0 0] (((w.alloc (.cells #[.slice an ln cn, .slice ap lp cp] 48)).alloc (.cells #[.slice none 0 0, .slice none 0 0] 26)).alloc (.cells #[.slice none 0 0, .slice none 0 0] 26)) from VarN.new_at (by simp) _ _)
  have Z0 := Lib.hid (show w.heap.size + 3 ≤ (((w.alloc (.cells #[.slice an ln cn, .slice ap lp cp] 48)).alloc (.cells #[.slice none 0 0, .slice none 0 0] 26)).alloc (.cells #[.slice none 0 0, .slice none 0 0] 26)).heap.size by simp)
  have HN := Lib.hid h
  have HP := Lib.hid hp
  have HL := Lib.hid (And.intro hl hpl)
  clear h hp hl hpl
  go_enter Try.func27, Try.ntmps27
  go_upto_region 2 with fail
  generalize (((w.alloc (.cells #[.slice an ln cn, .slice ap lp cp] 48)).alloc (.cells #[.slice none 0 0, .slice none 0 0] 26)).alloc (.cells #[.slice none 0 0, .slice none 0 0] 26)) = w3 at *
  have z3 := Z0.out
  have v0 := (V0.out 0 _ rfl).1
  go_wp2_with fail
  refine (toIntS_any an ln cn es _ (HN.out.below B0.out) hn).mono ?_
  rintro e w4 ⟨⟨d, rfl, hd, hF, hfr, hdl⟩, hb4⟩
  have hd3 : w.heap.size + 3 ≤ d := Nat.le_trans z3 hd
  have V4 := V0.out.below hb4 (by omega)
  have R4 := R0.out.below hb4 (by omega)
  have O4 := O0.out.below hb4 (by omega)
  have B4 := B0.out.trans (hb4.mono (by omega))
  have V5 := Lib.hid (V4.far (i := 0) (.slice (some ⟨d, 0, none⟩) ln ln) (show w.heap.size + 2 ≠ w.heap.size by omega))
  have R5 := Lib.hid (R4.far (i := 0) (.slice (some ⟨d, 0, none⟩) ln ln) (show w.heap.size + 2 ≠ w.heap.size + 1 by omega))
  have O5 := Lib.hid (O4.set (i := 0) (.slice (some ⟨d, 0, none⟩) ln ln))
  have B5 := Lib.hid (B4.setCell (p := ⟨w.heap.size + 2, 0, none⟩) (by show w.heap.size ≤ w.heap.size + 2; omega) (.slice (some ⟨d, 0, none⟩) ln ln))
  have F5 := Lib.hid (And.intro (hF.far (e := w.heap.size + 2) (i := 0) (by omega) (.slice (some ⟨d, 0, none⟩) ln ln)) (hfr.set (e := w.heap.size + 2) (i := 0) (.slice (some ⟨d, 0, none⟩) ln ln)))
  have Z5 := Lib.hid (show d < (w4.setCell ⟨w.heap.size + 2, 0, none⟩ (.slice (some ⟨d, 0, none⟩) ln ln)).heap.size by simpa using hdl)
  have o0 := (O4 0 _ rfl).1
  have o0f := (O4 0 _ rfl).2
  clear V4 R4 O4 B4 hF hfr hb4 v0 V0 R0 O0 B0
  go_upto_region 3 with fail
  generalize (w4.setCell ⟨w.heap.size + 2, 0, none⟩ (.slice (some ⟨d, 0, none⟩) ln ln)) = w5 at *
  have z5 := Z5.out
  clear o0 o0f
  have v1 := (V5.out 1 _ rfl).1
  go_wp2_with fail
  refine (toDataS_any ap lp cp ps _ (HP.out.below B5.out) hm).mono ?_
  rintro e w6 ⟨⟨g, rfl, hg, hG, hgr, hgl⟩, hb6⟩
  have R6 := R5.out.below hb6 (by omega)
  have O6 := O5.out.below hb6 (by omega)
  have B6 := B5.out.trans (hb6.mono (by omega))
  have F6 := F5.out.1.below hb6
  have G6 : FreeN d w6 := fun j => (hb6.frozen (p := ⟨d, j, none⟩) z5).trans (F5.out.2 j)
  have o0 := (O6 0 _ rfl).1
  have o1 := (O6 1 _ rfl).1
  have o1f := (O6 1 _ rfl).2
  have r0 := (R6 0 _ rfl).1
  have r1 := (R6 1 _ rfl).1
  have r0f := (R6 0 _ rfl).2
  have r1f := (R6 1 _ rfl).2
  have A := Lib.hid (show OwnA w.heap.size d ln g lp es ps (((w6.setCell ⟨w.heap.size + 2, 1, none⟩ (.slice (some ⟨g, 0, none⟩) lp lp)).setCell ⟨w.heap.size + 1, 0, none⟩ (.slice (some ⟨d, 0, none⟩) ln ln)).setCell ⟨w.heap.size + 1, 1, none⟩ (.slice (some ⟨g, 0, none⟩) lp lp)) from
    ⟨((F6.far (by omega) _).far (by omega) _).far (by omega) _, ((G6.set _).set _).set _, ((hG.far (by omega) _).far (by omega) _).far (by omega) _, ((hgr.set _).set _).set _, HL.out.1, HL.out.2, by have := hb6.size; simp; omega, by simp; omega, ⟨by omega, by omega⟩, by omega, hn, hm⟩)
  have B7 := Lib.hid (((B6.setCell (p := ⟨w.heap.size + 2, 1, none⟩) (by show w.heap.size ≤ w.heap.size + 2; omega) (.slice (some ⟨g, 0, none⟩) lp lp)).setCell (p := ⟨w.heap.size + 1, 0, none⟩) (by show w.heap.size ≤ w.heap.size + 1; omega) (.slice (some ⟨d, 0, none⟩) ln ln)).setCell (p := ⟨w.heap.size + 1, 1, none⟩) (by show w.heap.size ≤ w.heap.size + 1; omega) (.slice (some ⟨g, 0, none⟩) lp lp))
  clear F6 G6 hG hgr B6 O6 R6 hb6 V5 R5 O5 B5 F5 Z5 v1
  go_wp2
  refine bodyPost_ret (v := .agg #[.slice (some ⟨d, 0, none⟩) ln ln, .slice (some ⟨g, 0, none⟩) lp lp]) ?_ rfl ?_
  · simp [results, Try.results27, go_sem, r0, r1]
  · exact ⟨⟨d, g, rfl, A.out⟩, B7.out⟩

set_option maxHeartbeats 1000000 in
theorem eqAssembly_same (an ap bn bp : Option Addr) (n c1 c2 l c3 c4 : Nat) (es : List Int) (ps : List Part) (w : World) (h1 : Ns w an n c1 es) (h2 : Ns w bn n c2 es) (h3 : Pts w ap l c3 ps) (h4 : Pts w bp l c4 ps) :
    Calls Try.prog 29 #[.agg #[.slice an n c1, .slice ap l c3], .agg #[.slice bn n c2, .slice bp l c4]] w fun e w' => e = .returned (.bool true) ∧ Below w.heap.size w w' := by
  have B2 := Lib.hid (show Below w.heap.size w ((w.alloc (.cells #[.slice an n c1, .slice ap l c3] 26)).alloc (.cells #[.slice bn n c2, .slice bp l c4] 26)) from (below_box _ (Nat.le_refl _)).alloc (by simp) _)
  have N1 := Lib.hid (h1.below B2.out)
  have N2 := Lib.hid (h2.below B2.out)
  have P1 := Lib.hid (h3.below B2.out)
  have P2 := Lib.hid (h4.below B2.out)
  have VA := Lib.hid ((VarN.new w [.slice an n c1, .slice ap l c3] 26).alloc (.cells #[.slice bn n c2, .slice bp l c4] 26) (by simp))
  have VB := Lib.hid (VarN.new_at (w := w.alloc (.cells #[.slice an n c1, .slice ap l c3] 26)) (d := w.heap.size + 1) (by simp) [.slice bn n c2, .slice bp l c4] 26)
  clear h1 h2 h3 h4
  go_enter Try.func29, Try.ntmps29
  go_wp2_with fail
  refine (eqIntS_same an bn n c1 c2 es _ N1.out N2.out).mono ?_
  rintro e w1 ⟨rfl, hb1⟩
  have a1 := ((VA.out.below hb1 (by simp; omega)) 1 _ rfl).1
  have b1 := ((VB.out.below hb1 (by simp)) 1 _ rfl).1
  have Q1 := Lib.hid (P1.out.below hb1)
  have Q2 := Lib.hid (P2.out.below hb1)
  have B3 := Lib.hid (B2.out.trans (hb1.mono B2.out.size))
  clear hb1
  go_wp2_with fail
  refine (eqDataS_same ap bp l c3 c4 ps _ Q1.out Q2.out).mono ?_
  rintro e w2 ⟨rfl, hb2⟩
  have B4 := Lib.hid (B3.out.trans (hb2.mono B3.out.size))
  clear hb2
  go_wp2
  go_ret
  exact ⟨rfl, B4.out⟩

end Go.Proofs.Ytncbgejggfkdmaa

/- The laws' marks in parts. -/
namespace Go.Proofs.Ytncbgejggfkdmaa
open Go.RowKit Go.PlainAid

/-- A cell of a place that is not filled yet is written. -/
theorem FilP.cell {d len k o i j : Nat} {ps : List Part} {w : World} (h : FilP d len k ps w) (hi : k ≤ i) (ho : o = i * 7 + j) (hj : j < 7) (y : Value) : FilP d len k ps (w.setCell ⟨d, o, none⟩ y) := fun i' hi' j' hj' => by
  obtain ⟨u, h1, h2⟩ := h i' hi' j' hj'
  by_cases e : i' = i ∧ j' = j
  · obtain ⟨rfl, rfl⟩ := e
    subst ho
    exact ⟨y, World.cell?_setCell_same _ _ _ h1, fun h => absurd h (by omega)⟩
  · exact ⟨u, cell_other (by omega) h1, h2⟩
/-- A place is filled. -/
theorem FilP.fill {d len k : Nat} {ps : List Part} {w : World} (h : FilP d len k ps w) (hc : ∀ j v, (cellsP (pAt ps k))[j]? = some v → w.cell? ⟨d, k * 7 + j, none⟩ = some v) : FilP d len (k + 1) ps w := fun i hi j hj => by
  by_cases e : i = k
  · subst e
    obtain ⟨v, hv⟩ : ∃ v, (cellsP (pAt ps i))[j]? = some v := ⟨_, List.getElem?_eq_getElem (by exact hj)⟩
    exact ⟨v, hc j v hv, fun _ => hv⟩
  · obtain ⟨u, h1, h2⟩ := h i hi j hj
    exact ⟨u, h1, fun h => h2 (by omega)⟩
/-- The part that is marked from a number on. -/
def markP (c : Nat) : Part := ⟨(c : Int), (c : Int) + 1, (c : Int) + 1 + 1, ((c : Int) + 1 + 1 + 1) % 3 == 0, ((c : Int) + 1 + 1 + 1 + 1) % 3 == 0, ((c : Int) + 1 + 1 + 1 + 1 + 1) % 3 == 0, markT (c + 6)⟩
def marksP (n c : Nat) : List Part := (List.range n).map fun i => markP (c + 7 * i)
theorem marksP_length (n c : Nat) : (marksP n c).length = n := by simp [marksP]
theorem marksP_at (n c k : Nat) (h : k < n) : pAt (marksP n c) k = markP (c + 7 * k) := by
  unfold pAt
  rw [List.getD_eq_getElem?_getD]
  simp [marksP, h]
theorem markText_at (v : Int) (k : Nat) (w : World) (hv : v = (k : Int)) (h1 : 1 ≤ k) (h2 : k ≤ 1000000000) :
    Calls Try.prog 64 #[.int .i64 v] w fun e w' => e = .returned (.string (markT k)) ∧ Below w.heap.size w w' := by
  subst hv
  exact markText_pos k w h1 h2

set_option maxHeartbeats 2000000 in
theorem markDataS_any (g n cap c : Nat) (w : World) (hn : n ≤ 1048576) (hc1 : 1 ≤ c) (hc2 : c ≤ 100000000) (hg : g < w.heap.size) (h : FilP g n 0 (marksP n c) w) (hf : FreeN g w) :
    Calls Try.prog 63 #[.slice (some ⟨g, 0, none⟩) n cap, .int .i64 (c : Int)] w fun e w' => e = .returned (.int .i64 ((c + 7 * n : Nat) : Int)) ∧ FilP g n n (marksP n c) w' ∧ FreeN g w' ∧ MwN g w w' := by
  have HF := Lib.hid (And.intro h (And.intro hf (show MwN g w w from ⟨Aside.refl _ _ _, Below.refl _ _, Nat.le_refl _, hg⟩)))
  clear h hf
  go_enter Try.func63, Try.ntmps63
  go_wp2
  go_loopw [1, 5] (fun m i wr => ∃ j z : Nat, j ≤ n ∧ i = .int .i64 j ∧ m = .int .i64 (z : Int) ∧ Hid (z = c + 7 * j) ∧ Hid (FilP g n j (marksP n c) wr ∧ FreeN g wr ∧ MwN g w wr)) (fun _ i _ => n - (intOf i).toNat)
  case atStart => exact ⟨0, c, Nat.zero_le _, rfl, rfl, rfl, HF⟩
  case round =>
    obtain ⟨j, z, hj, rfl, rfl, HZ, hfi⟩ := hrel
    clear HF
    by_cases hlt : j < n
    · obtain ⟨F0, R0, M0⟩ := hfi.out
      obtain ⟨u0, s0, _⟩ := F0 j hlt 0 (by omega)
      obtain ⟨u1, s1, _⟩ := F0 j hlt 1 (by omega)
      obtain ⟨u2, s2, _⟩ := F0 j hlt 2 (by omega)
      obtain ⟨u3, s3, _⟩ := F0 j hlt 3 (by omega)
      obtain ⟨u4, s4, _⟩ := F0 j hlt 4 (by omega)
      obtain ⟨u5, s5, _⟩ := F0 j hlt 5 (by omega)
      have r0 := R0 (j * 7)
      have r1 := R0 (j * 7 + 1)
      have r2 := R0 (j * 7 + 2)
      have r3 := R0 (j * 7 + 3)
      have r4 := R0 (j * 7 + 4)
      have r5 := R0 (j * 7 + 5)
      simp only [Nat.add_zero] at s0
      have hz9 : z ≤ 110000000 := by have := HZ.out; omega
      have hz1 : 1 ≤ z := by have := HZ.out; omega
      have k1 : IntKind.i64.wrap ((z : Int) + 1) = (z : Int) + 1 := IntWalk.i64_in _ (by omega)
      have k2 : IntKind.i64.wrap ((z : Int) + 1 + 1) = (z : Int) + 1 + 1 := IntWalk.i64_in _ (by omega)
      have k3 : IntKind.i64.wrap ((z : Int) + 1 + 1 + 1) = (z : Int) + 1 + 1 + 1 := IntWalk.i64_in _ (by omega)
      have k4 : IntKind.i64.wrap ((z : Int) + 1 + 1 + 1 + 1) = (z : Int) + 1 + 1 + 1 + 1 := IntWalk.i64_in _ (by omega)
      have k5 : IntKind.i64.wrap ((z : Int) + 1 + 1 + 1 + 1 + 1) = (z : Int) + 1 + 1 + 1 + 1 + 1 := IntWalk.i64_in _ (by omega)
      have k6 : IntKind.i64.wrap ((z : Int) + 1 + 1 + 1 + 1 + 1 + 1) = (z : Int) + 1 + 1 + 1 + 1 + 1 + 1 := IntWalk.i64_in _ (by omega)
      obtain ⟨W6, hW6⟩ : ∃ W6, ((((((wr.setCell ⟨g, j * 7, none⟩ (.int .i64 (z : Int))).setCell ⟨g, j * 7 + 1, none⟩ (.int .i64 ((z : Int) + 1))).setCell ⟨g, j * 7 + 2, none⟩ (.int .i64 ((z : Int) + 1 + 1))).setCell ⟨g, j * 7 + 3, none⟩ (.bool (((z : Int) + 1 + 1 + 1) % 3 == 0))).setCell ⟨g, j * 7 + 4, none⟩ (.bool (((z : Int) + 1 + 1 + 1 + 1) % 3 == 0))).setCell ⟨g, j * 7 + 5, none⟩ (.bool (((z : Int) + 1 + 1 + 1 + 1 + 1) % 3 == 0))) = W6 := ⟨_, rfl⟩
      have F6 := Lib.hid (show FilP g n j (marksP n c) W6 ∧ FreeN g W6 ∧ MwN g w W6 from by rw [← hW6]; exact ⟨((((((F0.cell (i := j) (j := 0) (Nat.le_refl _) rfl (by omega) (.int .i64 (z : Int))).cell (i := j) (j := 1) (Nat.le_refl _) rfl (by omega) (.int .i64 ((z : Int) + 1))).cell (i := j) (j := 2) (Nat.le_refl _) rfl (by omega) (.int .i64 ((z : Int) + 1 + 1))).cell (i := j) (j := 3) (Nat.le_refl _) rfl (by omega) (.bool (((z : Int) + 1 + 1 + 1) % 3 == 0))).cell (i := j) (j := 4) (Nat.le_refl _) rfl (by omega) (.bool (((z : Int) + 1 + 1 + 1 + 1) % 3 == 0))).cell (i := j) (j := 5) (Nat.le_refl _) rfl (by omega) (.bool (((z : Int) + 1 + 1 + 1 + 1 + 1) % 3 == 0))), (FreeN.set (FreeN.set (FreeN.set (FreeN.set (FreeN.set (FreeN.set R0 (e := g) (i := j * 7) (.int .i64 (z : Int))) (e := g) (i := j * 7 + 1) (.int .i64 ((z : Int) + 1))) (e := g) (i := j * 7 + 2) (.int .i64 ((z : Int) + 1 + 1))) (e := g) (i := j * 7 + 3) (.bool (((z : Int) + 1 + 1 + 1) % 3 == 0))) (e := g) (i := j * 7 + 4) (.bool (((z : Int) + 1 + 1 + 1 + 1) % 3 == 0))) (e := g) (i := j * 7 + 5) (.bool (((z : Int) + 1 + 1 + 1 + 1 + 1) % 3 == 0))), (MwN.set (MwN.set (MwN.set (MwN.set (MwN.set (MwN.set M0 (i := j * 7) (.int .i64 (z : Int))) (i := j * 7 + 1) (.int .i64 ((z : Int) + 1))) (i := j * 7 + 2) (.int .i64 ((z : Int) + 1 + 1))) (i := j * 7 + 3) (.bool (((z : Int) + 1 + 1 + 1) % 3 == 0))) (i := j * 7 + 4) (.bool (((z : Int) + 1 + 1 + 1 + 1) % 3 == 0))) (i := j * 7 + 5) (.bool (((z : Int) + 1 + 1 + 1 + 1 + 1) % 3 == 0)))⟩)
      have Q0 := Lib.hid (show W6.cell? ⟨g, j * 7, none⟩ = some (.int .i64 (z : Int)) from by rw [← hW6]; exact (cell_other (by omega) (cell_other (by omega) (cell_other (by omega) (cell_other (by omega) (cell_other (by omega) (World.cell?_setCell_same _ _ _ s0)))))))
      have Q1 := Lib.hid (show W6.cell? ⟨g, j * 7 + 1, none⟩ = some (.int .i64 ((z : Int) + 1)) from by rw [← hW6]; exact (cell_other (by omega) (cell_other (by omega) (cell_other (by omega) (cell_other (by omega) (World.cell?_setCell_same _ _ _ (cell_other (by omega) s1)))))))
      have Q2 := Lib.hid (show W6.cell? ⟨g, j * 7 + 2, none⟩ = some (.int .i64 ((z : Int) + 1 + 1)) from by rw [← hW6]; exact (cell_other (by omega) (cell_other (by omega) (cell_other (by omega) (World.cell?_setCell_same _ _ _ (cell_other (by omega) (cell_other (by omega) s2)))))))
      have Q3 := Lib.hid (show W6.cell? ⟨g, j * 7 + 3, none⟩ = some (.bool (((z : Int) + 1 + 1 + 1) % 3 == 0)) from by rw [← hW6]; exact (cell_other (by omega) (cell_other (by omega) (World.cell?_setCell_same _ _ _ (cell_other (by omega) (cell_other (by omega) (cell_other (by omega) s3)))))))
      have Q4 := Lib.hid (show W6.cell? ⟨g, j * 7 + 4, none⟩ = some (.bool (((z : Int) + 1 + 1 + 1 + 1) % 3 == 0)) from by rw [← hW6]; exact (cell_other (by omega) (World.cell?_setCell_same _ _ _ (cell_other (by omega) (cell_other (by omega) (cell_other (by omega) (cell_other (by omega) s4)))))))
      have Q5 := Lib.hid (show W6.cell? ⟨g, j * 7 + 5, none⟩ = some (.bool (((z : Int) + 1 + 1 + 1 + 1 + 1) % 3 == 0)) from by rw [← hW6]; exact (World.cell?_setCell_same _ _ _ (cell_other (by omega) (cell_other (by omega) (cell_other (by omega) (cell_other (by omega) (cell_other (by omega) s5)))))))
      have HW6 := Lib.hid hW6
      clear F0 R0 M0 hW6
      clear hfi
      go_wp2_with fail
      rw [HW6.out]
      clear s0 s1 s2 s3 s4 s5 r0 r1 r2 r3 r4 r5 HW6
      refine (markText_at _ (z + 6) _ (by omega) (by omega) (by omega)).mono ?_
      rintro e w2 ⟨rfl, hb2⟩
      have hg6 : g < W6.heap.size := Nat.lt_of_lt_of_le F6.out.2.2.l F6.out.2.2.z
      have F2 := F6.out.1.below hb2
      have R2 := F6.out.2.1.below hg6 hb2
      have M2 := F6.out.2.2.grow hb2
      obtain ⟨u6, s6, _⟩ := F2 j hlt 6 (by omega)
      have r6 := R2 (j * 7 + 6)
      have FN := Lib.hid (show FilP g n (j + 1) (marksP n c) (w2.setCell ⟨g, j * 7 + 6, none⟩ (.string (markT (z + 6)))) ∧ FreeN g (w2.setCell ⟨g, j * 7 + 6, none⟩ (.string (markT (z + 6)))) ∧ MwN g w (w2.setCell ⟨g, j * 7 + 6, none⟩ (.string (markT (z + 6)))) from by
        refine ⟨(F2.cell (i := j) (j := 6) (Nat.le_refl _) rfl (by omega) _).fill fun jj v hv => ?_, R2.set _, M2.set _⟩
        rw [marksP_at n c j hlt, ← HZ.out] at hv
        have hjj : jj < 7 := (List.getElem?_eq_some_iff.1 hv).1
        rcases (show jj = 0 ∨ jj = 1 ∨ jj = 2 ∨ jj = 3 ∨ jj = 4 ∨ jj = 5 ∨ jj = 6 by omega) with rfl | rfl | rfl | rfl | rfl | rfl | rfl
        · exact (cell_other (by omega) (kept_cell hb2 hg6 Q0.out)).trans hv
        · exact (cell_other (by omega) (kept_cell hb2 hg6 Q1.out)).trans hv
        · exact (cell_other (by omega) (kept_cell hb2 hg6 Q2.out)).trans hv
        · exact (cell_other (by omega) (kept_cell hb2 hg6 Q3.out)).trans hv
        · exact (cell_other (by omega) (kept_cell hb2 hg6 Q4.out)).trans hv
        · exact (cell_other (by omega) (kept_cell hb2 hg6 Q5.out)).trans hv
        · exact (World.cell?_setCell_same _ _ _ s6).trans hv)
      have k7 : IntKind.i64.wrap ((z : Int) + 1 + 1 + 1 + 1 + 1 + 1 + 1) = (z : Int) + 1 + 1 + 1 + 1 + 1 + 1 + 1 := IntWalk.i64_in _ (by omega)
      have HZ7 := Lib.hid (show z + 7 = c + 7 * (j + 1) by have := HZ.out; omega)
      clear F2 R2 M2 F6 Q0 Q1 Q2 Q3 Q4 Q5 hb2
      go_wp2
      go_roundw
      case rel => exact ⟨j + 1, z + 7, by omega, by go_num, by go_num, HZ7, FN⟩
      case measure => simp [intOf]; omega
    · obtain rfl : j = n := by omega
      go_wp2
      go_ret
      exact ⟨by rw [HZ.out]; rfl, hfi.out.1, hfi.out.2.1, hfi.out.2.2⟩

theorem load_textP {W : World} {x : Addr} {len cap i : Nat} {ps : List Part} (h : Pts W (some x) len cap ps) (hi : i < len) : (Instr.loadAt 9 (.pointer (some ⟨(x.add (i * 7)).block, (x.add (i * 7)).off + 6, none⟩))).run Try.prog W = .ok (.string (pAt ps i).text) W := by
  obtain ⟨l0, l1, l2, l3, l4, l5, l6⟩ := h.at (Below.refl _ _) hi
  clear h l0 l1 l2 l3 l4 l5
  go_simp

set_option maxRecDepth 20000 in
set_option maxHeartbeats 2000000 in
theorem heldDataS_any (a : Option Addr) (n cap c : Nat) (w : World) (hn : n ≤ 1048576) (hc1 : 1 ≤ c) (hc2 : c ≤ 100000000) (h : Pts w a n cap (marksP n c)) :
    Calls Try.prog 66 #[.slice a n cap, .int .i64 (c : Int)] w fun e w' => e = .returned (.int .i64 ((c + 7 * n : Nat) : Int)) ∧ Below w.heap.size w w' := by
  have HG := Lib.hid h
  clear h
  go_enter Try.func66, Try.ntmps66
  go_wp2
  go_loopw [1, 5] (fun m i wr => ∃ j z : Nat, j ≤ n ∧ i = .int .i64 j ∧ m = .int .i64 (z : Int) ∧ Hid (z = c + 7 * j) ∧ Hid (Below w.heap.size w wr)) (fun _ i _ => n - (intOf i).toNat)
  case atStart => exact ⟨0, c, Nat.zero_le _, rfl, rfl, rfl, Lib.hid (Below.refl _ _)⟩
  case round =>
    obtain ⟨j, z, hj, rfl, rfl, HZ, hbel⟩ := hrel
    by_cases hlt : j < n
    · obtain ⟨x, rfl⟩ := HG.out.addr hlt
      obtain ⟨p0, p1, p2, p3, p4, p5, p6⟩ := HG.out.at hbel.out hlt
      have EP := Lib.hid (show pAt (marksP n c) j = markP z by rw [marksP_at n c j hlt, HZ.out])
      rw [EP.out] at p0 p1 p2 p3 p4 p5 p6
      unfold markP at p0 p1 p2 p3 p4 p5 p6
      dsimp only at p0 p1 p2 p3 p4 p5 p6
      have hz9 : z ≤ 110000000 := by have := HZ.out; omega
      have hz1 : 1 ≤ z := by have := HZ.out; omega
      have k1 : IntKind.i64.wrap ((z : Int) + 1) = (z : Int) + 1 := IntWalk.i64_in _ (by omega)
      have k2 : IntKind.i64.wrap ((z : Int) + 1 + 1) = (z : Int) + 1 + 1 := IntWalk.i64_in _ (by omega)
      have k3 : IntKind.i64.wrap ((z : Int) + 1 + 1 + 1) = (z : Int) + 1 + 1 + 1 := IntWalk.i64_in _ (by omega)
      have k4 : IntKind.i64.wrap ((z : Int) + 1 + 1 + 1 + 1) = (z : Int) + 1 + 1 + 1 + 1 := IntWalk.i64_in _ (by omega)
      have k5 : IntKind.i64.wrap ((z : Int) + 1 + 1 + 1 + 1 + 1) = (z : Int) + 1 + 1 + 1 + 1 + 1 := IntWalk.i64_in _ (by omega)
      have k6 : IntKind.i64.wrap ((z : Int) + 1 + 1 + 1 + 1 + 1 + 1) = (z : Int) + 1 + 1 + 1 + 1 + 1 + 1 := IntWalk.i64_in _ (by omega)
      have hsz2 := hbel.out.size
      have LT : ∀ W, Below wr.heap.size wr W → (Instr.loadAt 9 (.pointer (some ⟨(x.add (j * 7)).block, (x.add (j * 7)).off + 6, none⟩))).run Try.prog W = .ok (.string (markT (z + 6))) W := fun W hW => by
        have h := load_textP ((HG.out.below hbel.out).below hW) hlt
        rw [EP.out] at h
        exact h
      have SMH := Lib.hid (fun w => markText_at ((z : Int) + 1 + 1 + 1 + 1 + 1 + 1) (z + 6) w (by omega) (by omega) (by omega))
      clear p6
      go_wp2_with fail
      clear p0 p1 p2 p3 p4 p5
      refine region_class (C := fun W => Below wr.heap.size wr W) (by kernel_rfl) (by kernel_rfl) (Below.drew (Below.refl _ _)) ?_
      repeat (first
        | go_big_quiet_skip
        | (go_big_quiet_want; go_big_quiet_op; go_big_quiet_on)
        | (refine BigFrame.wpQuiet_want (by rfl) (fun K hK => ?_)
           first
             | (refine quiet_loadQ (x := .tmp 75) (by with_reducible rfl) (by rfl) LT (hK _ ?_))
             | (apply Exists.intro
                refine ⟨fun W hW => ?_, hK _ ?_⟩
                next =>
                  go_simp
                  first
                    | with_reducible exact rfl
                    | (refine (SMH.out _).mono ?_; rintro e w3 ⟨rfl, hb3⟩; exact ⟨rfl, hW.trans (hb3.mono hW.size)⟩))
           conv => arg 6; simp only [Act.put, List.setIfInBounds_toArray, List.set_cons_zero, List.set_cons_succ]
           clear hK K))
      refine wpQuiet_nil ?_
      intro W hW
      clear LT
      have hb := Lib.hid (hbel.out.trans (hW.mono hsz2))
      have k7 : IntKind.i64.wrap ((z : Int) + 1 + 1 + 1 + 1 + 1 + 1 + 1) = (z : Int) + 1 + 1 + 1 + 1 + 1 + 1 + 1 := IntWalk.i64_in _ (by omega)
      have HZ7 := Lib.hid (show z + 7 = c + 7 * (j + 1) by have := HZ.out; omega)
      clear hW
      go_wp2
      go_roundw
      case rel => exact ⟨j + 1, z + 7, by omega, by go_num, by go_num, HZ7, hb⟩
      case measure => simp [intOf]; omega
    · obtain rfl : j = n := by omega
      go_wp2
      go_ret
      exact ⟨by rw [HZ.out]; rfl, hbel.out⟩

end Go.Proofs.Ytncbgejggfkdmaa
