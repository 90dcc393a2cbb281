/- Texts that a proof needs, merged: K197, K95, K96, K119a, K189, K200, K201. -/
import Derived.Test.YtncbgejggfkdmabM9
import Derived.Deep.RegionLaw
import Derived.Laws.MakeOwn
import Derived.Deep.RegionHeldLaw
import Derived.Handy

/- The draw of an assembly. -/
namespace Go.Proofs.Ytncbgejggfkdmab
open Go.RowKit Go.PlainAid

/-- Datas of one's own that are appended to a row of one's own, each none or some. -/
theorem wp_catP {o : Oper} {a : Act} {w : World} {K : Act → World → Prop} {Q : Exit → Act → World → Prop} (s x : Operand) (hop : o.op = Op.call { callee := Callee.builtin Builtin.append, args := #[s, x], argTypes := #[25, 25] })
    (base base2 k n cap cc : Nat) (sa ad : Option Addr) (xs ys : List Part) (hv : a.eval s = .slice sa k cap) (hown : w.ownsRow base 43 7 (.slice sa k cap) k (flatP xs))
    (hx : a.eval x = .slice ad n cc) (hsrc : w.ownsRow base2 43 7 (.slice ad n cc) n (flatP ys)) (him : k + n ≤ 10000000) (hb : base ≤ w.heap.size)
    (hK : ∀ g3 cap3 w', w'.ownsRow base 43 7 (.slice g3 (k + n) cap3) (k + n) (flatP (xs ++ ys)) → w.grownBy w' (Value.slice sa k cap).ownBlock → K (a.put o.dst (.slice g3 (k + n) cap3)) w') :
    Oper.wp Try.prog o a w K Q := by
  obtain ⟨i0, hi, hz0, hz1, hz2⟩ := info_parts info_pt
  obtain ⟨g3, cap3, w', hr, h2, h3⟩ : ∃ g3 cap3 w', (Builtin.append_ #[25, 25] o.type #[.slice sa k cap, .slice ad n cc]).run Try.prog w = .ok (.slice g3 (k + n) cap3) w' ∧ w'.ownsRow base 43 7 (.slice g3 (k + n) cap3) (k + n) (flatP (xs ++ ys)) ∧ w.grownBy w' (Value.slice sa k cap).ownBlock := by
    rcases hsrc.2 with ⟨h1, h0⟩ | ⟨g, cap', cur, h1, _⟩
    · obtain ⟨rfl, rfl, rfl⟩ : ad = none ∧ n = 0 ∧ cc = 0 := by simpa using h1
      have hy : ys = [] := by
        have := hsrc.1
        rw [flatP_length] at this
        exact List.eq_nil_of_length_eq_zero (by omega)
      subst hy
      rw [List.append_nil]
      exact ⟨sa, cap, w, run_append_owned_none w base 25 o.type 43 i0 7 Try.underlying25 hi _ k (flatP xs) hown, hown, ⟨rfl, rfl, rfl, Nat.le_refl _, fun _ _ _ => rfl⟩⟩
    · obtain ⟨rfl, rfl⟩ : ad = some ⟨g, 0, none⟩ ∧ cc = cap' := by simpa using h1
      have hl : (flatP ys).length = n * 7 := hsrc.1
      have hc : ∀ j u, (flatP ys)[j]? = some u → w.cell? ((⟨g, 0, none⟩ : Addr).add j) = some u := fun j u hu => by
        rw [pt_add, hsrc.cellAt j (by have := (List.getElem?_eq_some_iff.1 hu).1; omega), hu]
      obtain ⟨v', w', hr, h2, h3, h4, h5⟩ := run_append_own_at (P := Try.prog) w base 25 o.type 43 i0 (partV ⟨0, 0, 0, false, false, false, ByteArray.mk #[]⟩) 7 48 Try.underlying25 hi hz0 hz1 hz2 rfl (by decide) _ k (flatP xs) hown ⟨g, 0, none⟩ n cc (flatP ys) hl hc (flatP_one ys) (by unfold maxLen; omega) (by omega) hb
      rw [← flatP_append] at h2
      rcases h2.2 with ⟨rfl, h0⟩ | ⟨g3, cap3, cur3, rfl, hh⟩
      · exact ⟨none, 0, w', by rw [h0]; exact hr, by rw [h0] at h2 ⊢; exact h2, h3⟩
      · exact ⟨some ⟨g3, 0, none⟩, cap3, w', hr, h2, h3⟩
  unfold Oper.wp execOp
  simp only [hop, resolve, invoke, builtin, Sem.run_bind, Sem.run_pure, Result.andThen_ok, List.map_toArray, List.map_cons, List.map_nil, hv, hx, hr]
  exact hK g3 cap3 w' h2 h3

theorem list_catP {ops : Array Oper} {rest : List Oper} {o : Oper} {a : Act} {w : World} {Q : Exit → Act → World → Prop} (hg : o.guard = none) (s x : Operand) (hop : o.op = Op.call { callee := Callee.builtin Builtin.append, args := #[s, x], argTypes := #[25, 25] })
    (base base2 k n cap cc : Nat) (sa ad : Option Addr) (xs ys : List Part) (hv : a.eval s = .slice sa k cap) (hown : w.ownsRow base 43 7 (.slice sa k cap) k (flatP xs))
    (hx : a.eval x = .slice ad n cc) (hsrc : w.ownsRow base2 43 7 (.slice ad n cc) n (flatP ys)) (him : k + n ≤ 10000000) (hb : base ≤ w.heap.size)
    (hK : ∀ g3 cap3 w', w'.ownsRow base 43 7 (.slice g3 (k + n) cap3) (k + n) (flatP (xs ++ ys)) → w.grownBy w' (Value.slice sa k cap).ownBlock → wpList Try.prog ops Q rest (a.put o.dst (.slice g3 (k + n) cap3)) w') :
    wpList Try.prog ops Q (o :: rest) a w :=
  wpList_plain hg fun _ h => wp_catP s x hop base base2 k n cap cc sa ad xs ys hv hown hx hsrc him hb fun g3 cap3 w' h2 h3 => h _ _ (hK g3 cap3 w' h2 h3)

/-- A part is appended to a row of one's own, as a step of a region. -/
theorem step_addP {ops : Array Oper} {o : Oper} {a : Act} {w : World} {K : Act → World → Prop} {Q : Exit → Act → World → Prop} {E : Prop} (hg : o.guard = none) (s x : Operand) (hop : o.op = Op.call { callee := Callee.builtin Builtin.append, args := #[s, x], argTypes := #[25, 25] })
    (base i cc cap : Nat) (q : Option Addr) (ad : Addr) (xs : List Part) (z : Part) (hv : a.eval s = .slice q i cap) (hown : w.ownsRow base 43 7 (.slice q i cap) i (flatP xs))
    (hx : a.eval x = .slice (some ad) 1 cc) (hc : ∀ j u, (cellsP z)[j]? = some u → w.cell? (ad.add j) = some u) (him : i + 1 ≤ 10000000) (hb : base ≤ w.heap.size)
    (hK : ∀ g3 cap3 w', w'.ownsRow base 43 7 (.slice (some ⟨g3, 0, none⟩) (i + 1) cap3) (i + 1) (flatP (xs ++ [z])) → w.grownBy w' (Value.slice q i cap).ownBlock → K (a.put o.dst (.slice (some ⟨g3, 0, none⟩) (i + 1) cap3)) w') :
    if Region.wanted o (yielded ops a.tmps) = true then Oper.wp Try.prog o a w K Q else E := by
  have hw : Region.wanted o (yielded ops a.tmps) = true := by simp [Region.wanted, hg]
  rw [if_pos hw]
  obtain ⟨i0, hi, hz0, hz1, hz2⟩ := info_parts info_pt
  obtain ⟨v', w', hr, h2, h3, h4, h5⟩ := run_append_own_at (P := Try.prog) w base 25 o.type 43 i0 (partV ⟨0, 0, 0, false, false, false, ByteArray.mk #[]⟩) 7 48 Try.underlying25 hi hz0 hz1 hz2 rfl (by decide) _ i (flatP xs) hown ad 1 cc (cellsP z) rfl hc (cellsP_one z) (by unfold maxLen; omega) (by omega) hb
  obtain ⟨g3, cap3, rfl⟩ : ∃ g3 cap3, v' = .slice (some ⟨g3, 0, none⟩) (i + 1) cap3 := by
    rcases h2.2 with ⟨h0, h0'⟩ | ⟨g3, cap3, _, hv, _⟩
    · omega
    · exact ⟨g3, cap3, hv⟩
  unfold Oper.wp execOp
  simp only [hop, resolve, invoke, builtin, Sem.run_bind, Sem.run_pure, Result.andThen_ok, List.map_toArray, List.map_cons, List.map_nil, hv, hx, hr]
  exact hK g3 cap3 w' (by rw [flatP_append]; simpa [flatP] using h2) h3
/-- A number is appended to a row of one's own, as a step of a region. -/
theorem step_addI {ops : Array Oper} {o : Oper} {a : Act} {w : World} {K : Act → World → Prop} {Q : Exit → Act → World → Prop} {E : Prop} (hg : o.guard = none) (s x : Operand) (hop : o.op = Op.call { callee := Callee.builtin Builtin.append, args := #[s, x], argTypes := #[24, 24] })
    (base i cc cap : Nat) (q : Option Addr) (ad : Addr) (xs : List Int) (z : Int) (hv : a.eval s = .slice q i cap) (hown : w.ownsRow base 3 1 (.slice q i cap) i (flatN xs))
    (hx : a.eval x = .slice (some ad) 1 cc) (hc : ∀ j u, ([.int .i64 z] : List Value)[j]? = some u → w.cell? (ad.add j) = some u) (him : i + 1 ≤ 10000000) (hb : base ≤ w.heap.size)
    (hK : ∀ g3 cap3 w', w'.ownsRow base 3 1 (.slice (some ⟨g3, 0, none⟩) (i + 1) cap3) (i + 1) (flatN (xs ++ [z])) → w.grownBy w' (Value.slice q i cap).ownBlock → K (a.put o.dst (.slice (some ⟨g3, 0, none⟩) (i + 1) cap3)) w') :
    if Region.wanted o (yielded ops a.tmps) = true then Oper.wp Try.prog o a w K Q else E := by
  have hw : Region.wanted o (yielded ops a.tmps) = true := by simp [Region.wanted, hg]
  rw [if_pos hw]
  obtain ⟨i0, hi, hz0, hz1, hz2⟩ := info_parts info_n
  obtain ⟨v', w', hr, h2, h3, h4, h5⟩ := run_append_own_at (P := Try.prog) w base 24 o.type 3 i0 (.int .i64 0) 1 8 Try.underlying24 hi hz0 hz1 hz2 rfl (by decide) _ i (flatN xs) hown ad 1 cc (flatN [z]) rfl hc (flatN_one [z]) (by unfold maxLen; omega) (by omega) hb
  obtain ⟨g3, cap3, rfl⟩ : ∃ g3 cap3, v' = .slice (some ⟨g3, 0, none⟩) (i + 1) cap3 := by
    rcases h2.2 with ⟨h0, h0'⟩ | ⟨g3, cap3, _, hv, _⟩
    · omega
    · exact ⟨g3, cap3, hv⟩
  unfold Oper.wp execOp
  simp only [hop, resolve, invoke, builtin, Sem.run_bind, Sem.run_pure, Result.andThen_ok, List.map_toArray, List.map_cons, List.map_nil, hv, hx, hr]
  exact hK g3 cap3 w' (by rw [flatN_append]; exact h2) h3
/-- An assembly is valid, or the empty one that stands for none. -/
def AsmX (es : List Int) (qs : List Part) : Prop := AsmOk es qs ∨ (es = [] ∧ qs = [])
theorem asmX_new {m : Nat} (h : 1 ≤ m ∧ m ≤ 4) : AsmX (List.replicate m 0) [] := .inl (asm_new h.1 h.2)
theorem asmX_step {es : List Int} {qs : List Part} {d : Part} (_h : AsmX es qs) : AsmX (ansR es qs d).next (ansR es qs d).ps := by
  by_cases ha : addsTo es qs d
  · rw [(ansR_yes ha).1]
    exact .inl (addR_ok ha.1 ha.2).1
  · rw [(ansR_no ha).1]
    exact .inr ⟨rfl, rfl⟩
theorem small_ok {p : Part} (h : DataOk p.tsn p.stream p.ssn p.text) : Smally p := by
  have h1 := h
  unfold DataOk at h1
  exact ⟨by omega, by omega, by omega, by omega⟩
theorem asmX_small {es : List Int} {qs : List Part} (h : AsmX es qs) : es.length ≤ 4 ∧ qs.length ≤ 12 ∧ ∀ p ∈ qs, Smally p := by
  rcases h with h | ⟨rfl, rfl⟩
  · exact ⟨h.n4, h.few, fun p hp => small_ok (h.ok p hp).1⟩
  · simp
/-- Before the assembly is made: the reader, the answer's box. -/
structure Af (B r M : Nat) (w W : World) : Prop where
  rd : Rd B r M W
  rs : W.heap[w.heap.size]? = some (.cells #[.slice none 0 0, .slice none 0 0] 27 (0, 0))
  b : Below B w W
  o1 : r < w.heap.size
  a : Aside w.heap.size r w W
/-- While an assembly is drawn: its box at D, its rows of one's own. -/
structure Aw (B r M D : Nat) (a1 : Option Addr) (n1 c1 : Nat) (a2 : Option Addr) (n2 c2 : Nat) (es : List Int) (qs : List Part) (w W : World) : Prop where
  e : Af B r M w W
  av : W.heap[D]? = some (.cells #[.slice a1 n1 c1, .slice a2 n2 c2] 27 (0, 0))
  n : W.ownsRow (w.heap.size + 1) 3 1 (.slice a1 n1 c1) n1 (flatN es)
  p : W.ownsRow (w.heap.size + 1) 43 7 (.slice a2 n2 c2) n2 (flatP qs)
  o2 : w.heap.size < D
/-- An assembly was drawn; the reader stands. -/
def DrewAs (B r m : Nat) (w : World) (e : Ending) (w' : World) : Prop :=
  ∃ (a1 : Option Addr) (n1 c1 : Nat) (a2 : Option Addr) (n2 c2 : Nat) (es : List Int) (qs : List Part), e = .returned (.agg #[.slice a1 n1 c1, .slice a2 n2 c2]) ∧ n1 ≤ 5 ∧ n2 ≤ 24 ∧ (∀ p ∈ qs, Smally p) ∧ w'.ownsRow w.heap.size 3 1 (.slice a1 n1 c1) n1 (flatN es) ∧ w'.ownsRow w.heap.size 43 7 (.slice a2 n2 c2) n2 (flatP qs) ∧ Rd B r m w' ∧ Below B w w' ∧ Aside w.heap.size r w w'
section
variable {B r M M' D n1 c1 n2 c2 : Nat} {a1 a2 : Option Addr} {es : List Int} {qs : List Part} {w W W' : World}
theorem Af.lt (h : Af B r M w W) : w.heap.size < W.heap.size := (Array.getElem?_eq_some_iff.1 h.rs).1
theorem Af.by (h : Af B r M w W) (hk : Aside W.heap.size r W W') (hr : Rd B r M' W') (hb : Below B W W') : Af B r M' w W' :=
  ⟨hr, (hk _ h.lt (by have := h.o1; omega)).trans h.rs, h.b.trans hb, h.o1, h.a.trans (hk.less (Nat.le_of_lt h.lt))⟩
theorem Af.up (h : Af B r M w W) (hb : Below W.heap.size W W') : Af B r M w W' :=
  h.by (below_aside hb (Nat.le_refl _)) (h.rd.keep hb h.rd.2.1) (hb.mono (Nat.le_of_lt (Nat.lt_of_le_of_lt h.rd.1 h.rd.2.1)))
theorem Af.var (h : Af B r M w W) : VarN w.heap.size [.slice none 0 0, .slice none 0 0] W := var_of_heap h.rs
theorem Aw.low (h : Aw B r M D a1 n1 c1 a2 n2 c2 es qs w W) : w.heap.size + 1 ≤ W.heap.size := h.e.lt
theorem Aw.var (h : Aw B r M D a1 n1 c1 a2 n2 c2 es qs w W) : VarN D [.slice a1 n1 c1, .slice a2 n2 c2] W := var_of_heap h.av
theorem Aw.by (h : Aw B r M D a1 n1 c1 a2 n2 c2 es qs w W) (hk : Aside W.heap.size r W W') (hr : Rd B r M' W') (hb : Below B W W') : Aw B r M' D a1 n1 c1 a2 n2 c2 es qs w W' :=
  ⟨h.e.by hk hr hb, (hk _ (Array.getElem?_eq_some_iff.1 h.av).1 (by have := h.e.o1; have := h.o2; omega)).trans h.av, row_same h.n fun x h1 h2 => hk x h2 (by have := h.e.o1; omega), row_same h.p fun x h1 h2 => hk x h2 (by have := h.e.o1; omega), h.o2⟩
theorem Aw.only (h : Aw B r M D a1 n1 c1 a2 n2 c2 es qs w W) (ho : Only r W W') (hr : Rd B r M' W') : Aw B r M' D a1 n1 c1 a2 n2 c2 es qs w W' := h.by ho.aside hr (ho.below h.e.rd.1)
theorem Aw.up (h : Aw B r M D a1 n1 c1 a2 n2 c2 es qs w W) (hb : Below W.heap.size W W') : Aw B r M D a1 n1 c1 a2 n2 c2 es qs w W' :=
  h.by (below_aside hb (Nat.le_refl _)) (h.e.rd.keep hb h.e.rd.2.1) (hb.mono (Nat.le_of_lt (Nat.lt_of_le_of_lt h.e.rd.1 h.e.rd.2.1)))
theorem Aw.mono (h : Aw B r M D a1 n1 c1 a2 n2 c2 es qs w W) (hM : M ≤ M') : Aw B r M' D a1 n1 c1 a2 n2 c2 es qs w W := ⟨⟨h.e.rd.mono hM, h.e.rs, h.e.b, h.e.o1, h.e.a⟩, h.av, h.n, h.p, h.o2⟩
/-- A cell of the assembly's box is written. -/
theorem Aw.cell (h : Aw B r M D a1 n1 c1 a2 n2 c2 es qs w W) (i : Nat) (v : Value) : Af B r M w (W.setCell ⟨D, i, none⟩ v) := by
  have h1 := h.e.o1
  have h2 := h.e.rd.1
  have h3 := h.o2
  exact ⟨h.e.rd.far (by omega) _ _, (Below.heap_setCell W ⟨D, i, none⟩ v _ (by show w.heap.size ≠ D; omega)).trans h.e.rs, h.e.b.setCell (p := ⟨D, i, none⟩) (by show B ≤ D; omega) _, h1, h.e.a.trans (below_aside ((Below.refl D W).setCell (p := ⟨D, i, none⟩) (Nat.le_refl _) v) (by omega))⟩
theorem Aw.store {b1 b2 : Option Addr} {m1 d1 m2 d2 : Nat} {fs : List Int} {rs : List Part} (h : Aw B r M D a1 n1 c1 a2 n2 c2 es qs w W) (ho1 : W.ownsRow (w.heap.size + 1) 3 1 (.slice b1 m1 d1) m1 (flatN fs)) (ho2 : W.ownsRow (w.heap.size + 1) 43 7 (.slice b2 m2 d2) m2 (flatP rs)) :
    Aw B r M D b1 m1 d1 b2 m2 d2 fs rs w ((W.setCell ⟨D, 0, none⟩ (.slice b1 m1 d1)).setCell ⟨D, 1, none⟩ (.slice b2 m2 d2)) := by
  have e1 := heap_set_at (i := 0) h.av (.slice b1 m1 d1)
  have A1 : Aw B r M D b1 m1 d1 a2 n2 c2 fs qs w (W.setCell ⟨D, 0, none⟩ (.slice b1 m1 d1)) := ⟨h.cell 0 _, e1, setKind ho1 h.av (by decide) _, setKind h.p h.av (by decide) _, h.o2⟩
  exact ⟨A1.cell 1 _, heap_set_at (i := 1) A1.av _, setKind A1.n A1.av (by decide) _, setKind (setKind ho2 h.av (by decide) _) A1.av (by decide) _, h.o2⟩
theorem Aw.growP {W1 : World} (h : Aw B r M D a1 n1 c1 a2 n2 c2 es qs w W) (hgrow : W.grownBy W1 (Value.slice a2 n2 c2).ownBlock) : Af B r M w W1 ∧ W1.heap[D]? = some (.cells #[.slice a1 n1 c1, .slice a2 n2 c2] 27 (0, 0)) := by
  have h1 := h.e.o1
  have h2 := h.e.rd.1
  have h3 := h.e.lt
  have hge : ∀ x, (Value.slice a2 n2 c2).ownBlock = some x → w.heap.size + 1 ≤ x := fun x hx => own_ge h.p hx
  exact ⟨⟨h.e.rd.keep (Below.grown (Below.refl (r + 1) W) hgrow (by omega) fun x hx => by have := hge x hx; omega) (Nat.lt_succ_self r), boxGrown h.e.rs hgrow h.p (by decide), Below.grown h.e.b hgrow (by omega) fun x hx => by have := hge x hx; omega, h1, h.e.a.trans fun b hb _ => hgrow.block b (by omega) fun he => by have := hge b he.symm; omega⟩, boxGrown h.av hgrow h.p (by decide)⟩
theorem Aw.growN {W1 : World} (h : Aw B r M D a1 n1 c1 a2 n2 c2 es qs w W) (hgrow : W.grownBy W1 (Value.slice a1 n1 c1).ownBlock) : Af B r M w W1 ∧ W1.heap[D]? = some (.cells #[.slice a1 n1 c1, .slice a2 n2 c2] 27 (0, 0)) := by
  have h1 := h.e.o1
  have h2 := h.e.rd.1
  have h3 := h.e.lt
  have hge : ∀ x, (Value.slice a1 n1 c1).ownBlock = some x → w.heap.size + 1 ≤ x := fun x hx => own_ge h.n hx
  exact ⟨⟨h.e.rd.keep (Below.grown (Below.refl (r + 1) W) hgrow (by omega) fun x hx => by have := hge x hx; omega) (Nat.lt_succ_self r), boxGrown h.e.rs hgrow h.n (by decide), Below.grown h.e.b hgrow (by omega) fun x hx => by have := hge x hx; omega, h1, h.e.a.trans fun b hb _ => hgrow.block b (by omega) fun he => by have := hge b he.symm; omega⟩, boxGrown h.av hgrow h.n (by decide)⟩
theorem Aw.pushP {W1 : World} {b2 : Option Addr} {m2 d2 : Nat} {rs : List Part} (h : Aw B r M D a1 n1 c1 a2 n2 c2 es qs w W) (hgrow : W.grownBy W1 (Value.slice a2 n2 c2).ownBlock) (hown : W1.ownsRow (w.heap.size + 1) 43 7 (.slice b2 m2 d2) m2 (flatP rs)) :
    Aw B r M D a1 n1 c1 b2 m2 d2 es rs w (W1.setCell ⟨D, 1, none⟩ (.slice b2 m2 d2)) := by
  obtain ⟨g1, g2⟩ := h.growP hgrow
  have n1' := ownGrownO h.n hgrow h.p (by decide)
  have A1 : Aw B r M D a1 n1 c1 b2 m2 d2 es rs w (W1.setCell ⟨D, 1, none⟩ (.slice b2 m2 d2)) := by
    have h3 := h.o2
    have h4 := g1.o1
    have h5 := g1.rd.1
    exact ⟨⟨g1.rd.far (by omega) _ _, (Below.heap_setCell W1 ⟨D, 1, none⟩ _ _ (by show w.heap.size ≠ D; omega)).trans g1.rs, g1.b.setCell (p := ⟨D, 1, none⟩) (by show B ≤ D; omega) _, h4, g1.a.trans (below_aside ((Below.refl D W1).setCell (p := ⟨D, 1, none⟩) (Nat.le_refl _) _) (by omega))⟩, heap_set_at (i := 1) g2 _, setKind n1' g2 (by decide) _, setKind hown g2 (by decide) _, h3⟩
  exact A1
theorem Aw.pushN {W1 : World} {b1 : Option Addr} {m1 d1 : Nat} {fs : List Int} (h : Aw B r M D a1 n1 c1 a2 n2 c2 es qs w W) (hgrow : W.grownBy W1 (Value.slice a1 n1 c1).ownBlock) (hown : W1.ownsRow (w.heap.size + 1) 3 1 (.slice b1 m1 d1) m1 (flatN fs)) :
    Aw B r M D b1 m1 d1 a2 n2 c2 fs qs w (W1.setCell ⟨D, 0, none⟩ (.slice b1 m1 d1)) := by
  obtain ⟨g1, g2⟩ := h.growN hgrow
  have p1' := ownGrownO h.p hgrow h.n (by decide)
  have h3 := h.o2
  have h4 := g1.o1
  have h5 := g1.rd.1
  exact ⟨⟨g1.rd.far (by omega) _ _, (Below.heap_setCell W1 ⟨D, 0, none⟩ _ _ (by show w.heap.size ≠ D; omega)).trans g1.rs, g1.b.setCell (p := ⟨D, 0, none⟩) (by show B ≤ D; omega) _, h4, g1.a.trans (below_aside ((Below.refl D W1).setCell (p := ⟨D, 0, none⟩) (Nat.le_refl _) _) (by omega))⟩, heap_set_at (i := 0) g2 _, setKind hown g2 (by decide) _, setKind p1' g2 (by decide) _, h3⟩
theorem Aw.fin {m : Nat} (h : Aw B r M D a1 n1 c1 a2 n2 c2 es qs w W) (hM : M ≤ m) (h1 : n1 ≤ 5) (h2 : n2 ≤ 24) (hs : ∀ p ∈ qs, Smally p) (x y : Value) : DrewAs B r m w (.returned (.agg #[.slice a1 n1 c1, .slice a2 n2 c2])) ((W.setCell ⟨w.heap.size, 0, none⟩ x).setCell ⟨w.heap.size, 1, none⟩ y) := by
  have h3 := h.e.o1
  have h4 := h.e.rd.1
  exact ⟨a1, n1, c1, a2, n2, c2, es, qs, rfl, h1, h2, hs, row_low (far_row (far_row h.n (Nat.lt_succ_self _) _) (Nat.lt_succ_self _) _) (by omega), row_low (far_row (far_row h.p (Nat.lt_succ_self _) _) (Nat.lt_succ_self _) _) (by omega), ((h.e.rd.far h3 _ _).far h3 _ _).mono hM, (h.e.b.setCell (p := ⟨w.heap.size, 0, none⟩) (by show B ≤ w.heap.size; omega) _).setCell (p := ⟨w.heap.size, 1, none⟩) (by show B ≤ w.heap.size; omega) _, aside_far (aside_far h.e.a _) _⟩
end

set_option maxRecDepth 8000 in
set_option maxHeartbeats 8000000 in
theorem l92Asm_any (B r m : Nat) (w : World) (h : Rd B r m w) (hm : m ≤ 5000) :
    Calls Try.prog 43 #[.pointer (some ⟨r, 0, none⟩)] w (DrewAs B r (m + 200) w) := by
  have E0 := Lib.hid (show Af B r m w (w.alloc (.cells (List.toArray [.slice none 0 0, .slice none 0 0]) 27)) from ⟨h.alloc _, heap_alloc_new w _, h.below_alloc _, h.2.1, aside_alloc w _ (Nat.le_refl _)⟩)
  have hBr := h.1
  clear h
  go_enter Try.func43, Try.ntmps43
  go_wp2_with fail
  refine (l92Talk_any B r m _ E0.out.rd (by omega)).mono ?_
  rintro e w1 ⟨f, t, a0, a2', a3, b0, b2, b3, sz, k, cap, sa, ss, rfl, ok, hk4, hown, hr1, hb1, ha1⟩
  obtain ⟨sn, rfl⟩ : ∃ sn : Nat, a2' = (sn : Int) := ⟨a2'.toNat, by have := ok.1.2.2.2.1.2.2.1.1; dsimp only at this; omega⟩
  have hsn : 1 ≤ sn ∧ sn ≤ 4 := by have := ok.1.2.2.2.1.2.2.1; dsimp only at this; omega
  have HOK := Lib.hid ok
  clear ok
  have E1 := Lib.hid (E0.out.by ha1 hr1 hb1)
  have SY := Lib.hid (own_sys hown)
  have VT := Lib.hid (VarN.new w1 [.int .i64 f, .int .i64 t, .int .i64 a0, .int .i64 1000, .int .i64 (sn : Int), .int .i64 a3, .int .i64 b0, .int .i64 1000, .int .i64 b2, .int .i64 b3, .int .i64 sz, .slice sa k cap] 75)
  have B1 := Lib.hid (below_box (w := w1) (.cells (List.toArray [.int .i64 f, .int .i64 t, .int .i64 a0, .int .i64 1000, .int .i64 (sn : Int), .int .i64 a3, .int .i64 b0, .int .i64 1000, .int .i64 b2, .int .i64 b3, .int .i64 sz, .slice sa k cap]) 75) (Nat.le_refl _))
  have SY := Lib.hid (SY.out.below B1.out)
  have E2 := Lib.hid (E1.out.up B1.out)
  clear hown hr1 hb1 ha1 E0 E1
  have t4 := (VT.out 4 _ rfl).1
  go_wp2_with fail
  refine (sAsmNew_at sn _ hsn).mono ?_
  rintro e w2 ⟨g, p, rfl, o1, o2, hb2⟩
  clear t4
  have SY := Lib.hid (SY.out.below hb2)
  have VT := Lib.hid (VT.out.below hb2 (by simp))
  have E3 := Lib.hid (E2.out.up hb2)
  have BA := Lib.hid (below_box (w := w2) (.cells (List.toArray [.slice (some ⟨g, 0, none⟩) sn sn, .slice p 0 0]) 27) (Nat.le_refl _))
  have hlo : w.heap.size + 1 ≤ w2.heap.size := by have := (Array.getElem?_eq_some_iff.1 E3.out.rs).1; omega
  have S0 := Lib.hid (show Aw B r (m + 60) w2.heap.size (some ⟨g, 0, none⟩) sn sn p 0 0 (List.replicate sn 0) [] w (w2.alloc (.cells (List.toArray [.slice (some ⟨g, 0, none⟩) sn sn, .slice p 0 0]) 27)) from ⟨E3.out.up BA.out, heap_alloc_new w2 _, (row_low o1 (by have := (Array.getElem?_eq_some_iff.1 E2.out.rs).1; simp at this ⊢; omega)).alloc _, (row_low o2 (by have := (Array.getElem?_eq_some_iff.1 E2.out.rs).1; simp at this ⊢; omega)).alloc _, by omega⟩)
  have SY := Lib.hid (SY.out.below BA.out)
  have VT := Lib.hid (VT.out.below BA.out (lt_of_cell (VT.out 0 _ rfl).1))
  have ltT := lt_of_cell (VT.out 0 _ rfl).1
  clear o1 o2 hb2 E2 E3 B1 BA
  obtain ⟨D, hD⟩ : ∃ D, w2.heap.size = D := ⟨_, rfl⟩
  rw [hD] at S0
  have c0 := (VT.out 0 _ rfl).1
  have c1 := (VT.out 1 _ rfl).1
  have c2 := (VT.out 2 _ rfl).1
  have c3 := (VT.out 3 _ rfl).1
  have c4 := (VT.out 4 _ rfl).1
  have c5 := (VT.out 5 _ rfl).1
  have c6 := (VT.out 6 _ rfl).1
  have c7 := (VT.out 7 _ rfl).1
  have c8 := (VT.out 8 _ rfl).1
  have c9 := (VT.out 9 _ rfl).1
  have c10 := (VT.out 10 _ rfl).1
  have c11 := (VT.out 11 _ rfl).1
  go_wp2_with fail
  refine (l92Parts_any B r (m + 60) f t a0 1000 (sn : Int) a3 b0 1000 b2 b3 sz sa k cap ss _ S0.out.e.rd (by omega) SY.out HOK.out).mono ?_
  rintro e w3 ⟨la, ll, lc, ls, rfl, hll, hsm, hown, hr3, hb3, ha3⟩
  clear c0 c1 c2 c3 c4 c5 c6 c7 c8 c9 c10 c11
  have S1 := Lib.hid ((S0.out.by ha3 hr3 hb3).mono (M' := m + 90 + 0) (by omega))
  have L1 := Lib.hid (row_low hown (show w.heap.size + 1 ≤ _ from S0.out.low))
  clear hown hr3 hb3 ha3 hsm S0 SY VT HOK
  have AX := Lib.hid (asmX_new hsn)
  try rw [hD]
  go_wp2
  go_loopw [7] (fun iv wr => ∃ (i n1 c1 n2 c2 : Nat) (a1 a2 : Option Addr) (es : List Int) (qs : List Part), i ≤ ll ∧ iv = .int .i64 i ∧ Hid (AsmX es qs) ∧ Hid (Aw B r (m + 90 + i) D a1 n1 c1 a2 n2 c2 es qs w wr) ∧ Hid (wr.ownsRow (w.heap.size + 1) 43 7 (.slice la ll lc) ll (flatP ls))) (fun iv _ => ll - (intOf iv).toNat)
  case atStart => exact ⟨0, sn, sn, 0, 0, some ⟨g, 0, none⟩, p, List.replicate sn 0, [], Nat.zero_le _, rfl, AX, S1, L1⟩
  case round =>
    obtain ⟨i, n1, c1, n2, c2, a1, a2, es, qs, hi, rfl, hX, hS, hL⟩ := hrel
    clear S1 L1 AX
    by_cases hlt : i < ll
    · have ii : (i : Int) < (ll : Int) := by omega
      go_wp2_with fail
      refine (pick_any B r _ 3 _ hS.out.e.rd (by omega) (by omega) (by omega)).mono ?_
      rintro e w5 ⟨kk, rfl, kka, kkb, hr5, ho5⟩
      have hS5 := Lib.hid (hS.out.only ho5 hr5)
      have hL5 := Lib.hid (row_same hL.out fun x h1 h2 => ho5.aside x h2 (by have := hS.out.e.o1; omega))
      clear hr5 ho5 hS hL
      by_cases hkk : 0 < kk
      · have pL := own_pts hL5.out
        obtain ⟨x, rfl⟩ := pL.addr (show i < ll by omega)
        obtain ⟨p0, p1, p2, p3, p4, p5, p6⟩ := pL.at (Below.refl _ _) (show i < ll by omega)
        obtain ⟨⟨dt, ds, dq, dfi, dla, dlo, dtx⟩, hd⟩ : ∃ d, pAt ls i = d := ⟨_, rfl⟩
        rw [hd] at p0 p1 p2 p3 p4 p5 p6
        dsimp only at p0 p1 p2 p3 p4 p5 p6
        clear hd pL
        have v0 := (hS5.out.var 0 _ rfl).1
        have v1 := (hS5.out.var 1 _ rfl).1
        have hSd := Lib.hid (hS5.out.up (Below.drew (Below.refl _ _)))
        have hLd := Lib.hid (ownB hL5.out (Below.drew (Below.refl _ _)))
        go_wp2_with fail
        go_region_law (go_simp; go_at_call 49; (first | refine (sAsmAdd_any a1 n1 c1 es a2 n2 c2 qs ⟨dt, ds, dq, dfi, dla, dlo, dtx⟩ _ (own_ns hSd.out.n) (own_pts hSd.out.p)).mono ?_ | refine (sAsmAdd_any a1 n1 c1 es a2 n2 c2 qs ⟨dt, ds, dq, dfi, dla, dlo, dtx⟩ _ (own_ns hS5.out.n) (own_pts hS5.out.p)).mono ?_); rintro e w8 ⟨b1, m1, d1, b2', m2, d2, b3', m3, d3, rfl, ho, hb8⟩; unfold ansV; dsimp only; (first | (have S8 := Lib.hid (hSd.out.up hb8); have L8 := Lib.hid (ownB hLd.out hb8); have N8 := Lib.hid (row_low ho.o1 hSd.out.low); have P8 := Lib.hid (row_low ho.o2 hSd.out.low)) | (have S8 := Lib.hid (hS5.out.up hb8); have L8 := Lib.hid (ownB hL5.out hb8); have N8 := Lib.hid (row_low ho.o1 hS5.out.low); have P8 := Lib.hid (row_low ho.o2 hS5.out.low))); have y0 := (S8.out.var 0 _ rfl).1; have y1 := (S8.out.var 1 _ rfl).1; have f0 := (S8.out.var 0 _ rfl).2; have f1 := (S8.out.var 1 _ rfl).2)
        all_goals
          have S9 := Lib.hid ((S8.out.store N8.out P8.out).mono (M' := m + 90 + (i + 1)) (by omega))
          have L9 := Lib.hid (show ((w8.setCell ⟨D, 0, none⟩ (.slice b1 m1 d1)).setCell ⟨D, 1, none⟩ (.slice b2' m2 d2)).ownsRow (w.heap.size + 1) 43 7 (.slice (some x) ll lc) ll (flatP ls) from setKind (setKind L8.out S8.out.av (by decide) _) (heap_set_at (i := 0) S8.out.av _) (by decide) _)
          have X9 := Lib.hid (asmX_step (d := ⟨dt, ds, dq, dfi, dla, dlo, dtx⟩) hX.out)
          clear S8 L8 N8 P8 ho hb8 y0 y1 f0 f1 hS5 hL5 hSd hLd v0 v1 p0 p1 p2 p3 p4 p5 p6
          go_wp2
          go_roundw
          case rel => exact ⟨i + 1, m1, d1, m2, d2, b1, b2', _, _, by omega, by go_num, X9, S9, L9⟩
          case measure => simp [intOf]; omega
      · have S9 := Lib.hid (hS5.out.mono (M' := m + 90 + (i + 1)) (by omega))
        go_wp2
        go_roundw
        case rel => exact ⟨i + 1, n1, c1, n2, c2, a1, a2, es, qs, by omega, by go_num, hX, S9, hL5⟩
        case measure => simp [intOf]; omega
    · obtain rfl : i = ll := by omega
      have ni : ¬ (i : Int) < (i : Int) := by omega
      have SM := Lib.hid (asmX_small hX.out)
      have LE := Lib.hid (show es.length = n1 from (own_ns hS.out.n).length)
      have LQ := Lib.hid (show qs.length = n2 from (own_pts hS.out.p).length)
      have hn1 : n1 ≤ 4 := by have := SM.out.1; have := LE.out; omega
      have hn2 : n2 ≤ 12 := by have := SM.out.2.1; have := LQ.out; omega
      go_wp2_with fail
      refine (pick_any B r _ 20 _ hS.out.e.rd (by omega) (by omega) (by omega)).mono ?_
      rintro e w5 ⟨s, rfl, sa0, sb0, hr5, ho5⟩
      have S5 := Lib.hid ((hS.out.only ho5 hr5).mono (M' := m + 110) (by omega))
      clear hr5 ho5 hS hL hX
      by_cases hs0 : s = 0
      · subst hs0
        have S5d := Lib.hid (S5.out.up (Below.drew (Below.refl _ _)))
        have v0 := (S5.out.var 0 _ rfl).1
        have v1 := (S5.out.var 1 _ rfl).1
        go_wp2_with fail
        go_region_law (first
          | (go_simp; go_at_call 69; refine (l91Part_fr B r _ _ S5d.out.e.rd (by omega)).mono ?_; rintro e w6 ⟨⟨pa, pb, pc, pf, pl, po, px, rfl, hp, hr6, hb6⟩, hf6⟩; have S6 := Lib.hid (S5d.out.by hf6.aside hr6 hb6); have v0 := (S6.out.var 0 _ rfl).1; have v1 := (S6.out.var 1 _ rfl).1; have SA := Lib.hid (S6.out.up (below_box (.cells #[.int .i64 pa, .int .i64 pb, .int .i64 pc, .bool pf, .bool pl, .bool po, .string px] 43) (Nat.le_refl _))); have va0 := (SA.out.var 0 _ rfl).1; have va1 := (SA.out.var 1 _ rfl).1; have NB := Lib.hid (news_box (w := w6) (vs := cellsP ⟨pa, pb, pc, pf, pl, po, px⟩) (T := 43) rfl); have HP := Lib.hid (show Smally ⟨pa, pb, pc, pf, pl, po, px⟩ from ⟨hp.1, hp.2.1, hp.2.2.1, hp.2.2.2⟩))
          | (go_simp; go_at_call 69; refine (l91Part_fr B r _ _ S5.out.e.rd (by omega)).mono ?_; rintro e w6 ⟨⟨pa, pb, pc, pf, pl, po, px, rfl, hp, hr6, hb6⟩, hf6⟩; have S6 := Lib.hid (S5.out.by hf6.aside hr6 hb6); have v0 := (S6.out.var 0 _ rfl).1; have v1 := (S6.out.var 1 _ rfl).1; have SA := Lib.hid (S6.out.up (below_box (.cells #[.int .i64 pa, .int .i64 pb, .int .i64 pc, .bool pf, .bool pl, .bool po, .string px] 43) (Nat.le_refl _))); have va0 := (SA.out.var 0 _ rfl).1; have va1 := (SA.out.var 1 _ rfl).1; have NB := Lib.hid (news_box (w := w6) (vs := cellsP ⟨pa, pb, pc, pf, pl, po, px⟩) (T := 43) rfl); have HP := Lib.hid (show Smally ⟨pa, pb, pc, pf, pl, po, px⟩ from ⟨hp.1, hp.2.1, hp.2.2.1, hp.2.2.2⟩))
          | (refine step_addP (by rfl) _ _ (by rfl) (w.heap.size + 1) n2 _ c2 a2 ⟨w6.heap.size, 0, none⟩ qs ⟨pa, pb, pc, pf, pl, po, px⟩ (by rfl) SA.out.p (by rfl) NB.out (by omega) SA.out.low ?_; intro g3 cap3 w9 hown3 hgrow3; have S9 := Lib.hid (SA.out.pushP hgrow3 hown3); have y1 := Lib.cell_of_heap (SA.out.growP hgrow3).2 1; have f1 := Lib.frozen_of_heap (SA.out.growP hgrow3).2 1; change w9.cell? _ = some (.slice a2 n2 c2) at y1; clear hown3 hgrow3))
        all_goals
          have SM2 := Lib.hid (show ∀ p ∈ qs ++ [⟨pa, pb, pc, pf, pl, po, px⟩], Smally p from fun p hp2 => by
            rcases List.mem_append.1 hp2 with h | h
            · exact SM.out.2.2 p h
            · rw [List.mem_singleton.1 h]; exact HP.out)
          try clear y1 f1
          try clear va0 va1
          clear v0 v1
          have v0 := (S9.out.var 0 _ rfl).1
          have v1 := (S9.out.var 1 _ rfl).1
          have r0 := (S9.out.e.var 0 _ rfl).1
          have r1 := (S9.out.e.var 1 _ rfl).1
          have s0 := (S9.out.e.var 0 _ rfl).2
          have s1 := (S9.out.e.var 1 _ rfl).2
          have nwD := S9.out.o2
          go_wp2
          refine bodyPost_ret (v := .agg #[.slice a1 n1 c1, .slice (some ⟨g3, 0, none⟩) (n2 + 1) cap3]) ?_ rfl ?_
          · simp [results, Try.results43, go_sem, r0, r1]
          · exact S9.out.fin (by omega) (by omega) (by omega) SM2.out _ _
      · by_cases hs1 : s = 1
        · subst hs1
          have S5d := Lib.hid (S5.out.up (Below.drew (Below.refl _ _)))
          have v0 := (S5.out.var 0 _ rfl).1
          have v1 := (S5.out.var 1 _ rfl).1
          go_wp2_with fail
          go_region_law (first
            | (go_simp; go_at_call 70; refine (l91Word_as B r _ _ S5d.out.e.rd (by omega)).mono ?_; rintro e w6 ⟨⟨pv, rfl, _, hr6, hb6⟩, ha6⟩; have S6 := Lib.hid (S5d.out.by ha6 hr6 hb6); have v0 := (S6.out.var 0 _ rfl).1; have v1 := (S6.out.var 1 _ rfl).1; have SA := Lib.hid (S6.out.up (below_box (.cells #[.int .i64 pv] 3) (Nat.le_refl _))); have va0 := (SA.out.var 0 _ rfl).1; have va1 := (SA.out.var 1 _ rfl).1; have NB := Lib.hid (news_box (w := w6) (vs := [.int .i64 pv]) (T := 3) rfl))
            | (go_simp; go_at_call 70; refine (l91Word_as B r _ _ S5.out.e.rd (by omega)).mono ?_; rintro e w6 ⟨⟨pv, rfl, _, hr6, hb6⟩, ha6⟩; have S6 := Lib.hid (S5.out.by ha6 hr6 hb6); have v0 := (S6.out.var 0 _ rfl).1; have v1 := (S6.out.var 1 _ rfl).1; have SA := Lib.hid (S6.out.up (below_box (.cells #[.int .i64 pv] 3) (Nat.le_refl _))); have va0 := (SA.out.var 0 _ rfl).1; have va1 := (SA.out.var 1 _ rfl).1; have NB := Lib.hid (news_box (w := w6) (vs := [.int .i64 pv]) (T := 3) rfl))
            | (refine step_addI (by rfl) _ _ (by rfl) (w.heap.size + 1) n1 _ c1 a1 ⟨w6.heap.size, 0, none⟩ es pv (by rfl) SA.out.n (by rfl) NB.out (by omega) SA.out.low ?_; intro g3 cap3 w9 hown3 hgrow3; have S9 := Lib.hid (SA.out.pushN hgrow3 hown3); have y0 := Lib.cell_of_heap (SA.out.growN hgrow3).2 0; have f0 := Lib.frozen_of_heap (SA.out.growN hgrow3).2 0; change w9.cell? _ = some (.slice a1 n1 c1) at y0; clear hown3 hgrow3))
          all_goals
            try clear y0 f0
            try clear va0 va1
            clear v0 v1
            have v0 := (S9.out.var 0 _ rfl).1
            have v1 := (S9.out.var 1 _ rfl).1
            have r0 := (S9.out.e.var 0 _ rfl).1
            have r1 := (S9.out.e.var 1 _ rfl).1
            have s0 := (S9.out.e.var 0 _ rfl).2
            have s1 := (S9.out.e.var 1 _ rfl).2
            have nwD := S9.out.o2
            go_wp2
            refine bodyPost_ret (v := .agg #[.slice (some ⟨g3, 0, none⟩) (n1 + 1) cap3, .slice a2 n2 c2]) ?_ rfl ?_
            · simp [results, Try.results43, go_sem, r0, r1]
            · exact S9.out.fin (by omega) (by omega) (by omega) SM.out.2.2 _ _
        · by_cases hs2 : s = 2
          · subst hs2
            have v0 := (S5.out.var 0 _ rfl).1
            have v1 := (S5.out.var 1 _ rfl).1
            have o1 : ¬ ((2 : Int) = 0) := by decide
            go_wp2_with (at_builtin; go_loud (refine list_catP rfl _ _ rfl (w.heap.size + 1) (w.heap.size + 1) n2 n2 c2 c2 a2 a2 qs qs rfl S5.out.p rfl S5.out.p (by omega) S5.out.low ?_))
            intro g3 cap3 w9 hown3 hgrow3
            have S9 := Lib.hid (S5.out.pushP hgrow3 hown3)
            have y1 := Lib.cell_of_heap (S5.out.growP hgrow3).2 1
            have f1 := Lib.frozen_of_heap (S5.out.growP hgrow3).2 1
            change w9.cell? _ = some (.slice a2 n2 c2) at y1
            clear hown3 hgrow3 v0 v1
            have SM2 := Lib.hid (show ∀ p ∈ qs ++ qs, Smally p from fun p hp2 => by
              rcases List.mem_append.1 hp2 with h | h
              · exact SM.out.2.2 p h
              · exact SM.out.2.2 p h)
            have v0 := (S9.out.var 0 _ rfl).1
            have v1 := (S9.out.var 1 _ rfl).1
            have r0 := (S9.out.e.var 0 _ rfl).1
            have r1 := (S9.out.e.var 1 _ rfl).1
            have s0 := (S9.out.e.var 0 _ rfl).2
            have s1 := (S9.out.e.var 1 _ rfl).2
            have nwD := S9.out.o2
            go_wp2
            refine bodyPost_ret (v := .agg #[.slice a1 n1 c1, .slice g3 (n2 + n2) cap3]) ?_ rfl ?_
            · simp [results, Try.results43, go_sem, r0, r1]
            · exact S9.out.fin (by omega) (by omega) (by omega) SM2.out _ _
          · have z0 : (s == 0) = false := beq_eq_false_iff_ne.2 hs0
            have z1 : (s == 1) = false := beq_eq_false_iff_ne.2 hs1
            have z2 : (s == 2) = false := beq_eq_false_iff_ne.2 hs2
            have v0 := (S5.out.var 0 _ rfl).1
            have v1 := (S5.out.var 1 _ rfl).1
            have r0 := (S5.out.e.var 0 _ rfl).1
            have r1 := (S5.out.e.var 1 _ rfl).1
            have s0 := (S5.out.e.var 0 _ rfl).2
            have s1 := (S5.out.e.var 1 _ rfl).2
            have nwD := S5.out.o2
            go_wp2
            refine bodyPost_ret (v := .agg #[.slice a1 n1 c1, .slice a2 n2 c2]) ?_ rfl ?_
            · simp [results, Try.results43, go_sem, r0, r1]
            · exact S5.out.fin (by omega) (by omega) (by omega) SM.out.2.2 _ _

end Go.Proofs.Ytncbgejggfkdmab

/- The laws' exact helpers on what has arrived: size, copy, equality, marks. -/
namespace Go.Proofs.Ytncbgejggfkdmab
open Go.RowKit Go.PlainAid

/-- A row of numbers that is being filled: k of 'len' numbers lie there. -/
def FilN (d len k : Nat) (es : List Int) (w : World) : Prop :=
  ∀ i, i < len → ∃ u, w.cell? ⟨d, i, none⟩ = some u ∧ (i < k → u = .int .i64 (nAt es i))
/-- The block's cells may be written. -/
def FreeN (d : Nat) (w : World) : Prop := ∀ j, w.frozen? ⟨d, j, none⟩ = false
section
variable {d len k : Nat} {es : List Int} {w w' : World}
theorem FilN.below (h : FilN d len k es w) (hb : Below w.heap.size w w') : FilN d len k es w' := fun i hi => by
  obtain ⟨u, h1, h4⟩ := h i hi
  exact ⟨u, kept_cell hb (lt_of_cell h1) h1, h4⟩
theorem FreeN.below (h : FreeN d w) (hd : d < w.heap.size) (hb : Below w.heap.size w w') : FreeN d w' := fun j => (hb.frozen (p := ⟨d, j, none⟩) hd).trans (h j)
theorem FreeN.set {e i : Nat} (h : FreeN d w) (v : Value) : FreeN d (w.setCell ⟨e, i, none⟩ v) := fun j => by rw [World.frozen?_setCell]; exact h j
theorem FilN.far {e i : Nat} (h : FilN d len k es w) (he : e ≠ d) (y : Value) : FilN d len k es (w.setCell ⟨e, i, none⟩ y) := fun j hj => by
  obtain ⟨u, h1, h4⟩ := h j hj
  exact ⟨u, cell_far he h1, h4⟩
/-- A cell is written and the place is filled. -/
theorem FilN.put {c : Int} (h : FilN d len k es w) (hk : k < len) (e1 : nAt es k = c) : FilN d len (k + 1) es (w.setCell ⟨d, k, none⟩ (.int .i64 c)) := fun i hi => by
  obtain ⟨u, h1, h4⟩ := h i hi
  by_cases e : i = k
  · subst e
    exact ⟨_, World.cell?_setCell_same _ _ _ h1, fun _ => by rw [e1]⟩
  · exact ⟨u, cell_other (by omega) h1, fun h => h4 (by omega)⟩
theorem FilN.ns {cap : Nat} (h : FilN d len len es w) (hl : es.length = len) (hc : len ≤ cap) (hm : cap ≤ maxLen) : Ns w (some ⟨d, 0, none⟩) len cap es := by
  refine .inr ⟨_, rfl, hc, hm, hl, fun i hi => ?_⟩
  obtain ⟨u, h1, h4⟩ := h i hi
  rw [n_add, h1, h4 hi]
theorem FilN.new (w : World) (len : Nat) (vs : Array Value) (T : TypeId) (es : List Int) (hs : vs.size = len) : FilN w.heap.size len 0 es (w.alloc (.cells vs T)) ∧ FreeN w.heap.size (w.alloc (.cells vs T)) := by
  refine ⟨fun i hi => ?_, fun j => by simp⟩
  have h1 : i < vs.size := by omega
  exact ⟨vs[i], by rw [World.cell?_alloc_at _ _ _ _ rfl]; exact Array.getElem?_eq_getElem h1, fun h => absurd h (by omega)⟩
theorem own_filN {base g n cap : Nat} {xs : List Value} (es : List Int) (h : w.ownsRow base 3 1 (.slice (some ⟨g, 0, none⟩) n cap) n xs) : FilN g n 0 es w ∧ FreeN g w ∧ n ≤ cap ∧ cap ≤ maxLen ∧ base ≤ g ∧ g < w.heap.size := by
  rcases h.2 with ⟨h1, _⟩ | ⟨g', cap', cur, h1, h2, h3, h4, h5, h6, _⟩
  · exact absurd h1 (by intro e; cases e)
  · obtain ⟨rfl, _, rfl⟩ : g = g' ∧ True ∧ cap = cap' := by simpa using h1
    refine ⟨fun i hi => ?_, fun j => by unfold World.frozen?; simp [h3], h4, h5, h2, (Array.getElem?_eq_some_iff.1 h3).1⟩
    have q1 : i < cur.size := by omega
    exact ⟨cur[i], by unfold World.cell?; simp [h3, q1], fun h => absurd h (by omega)⟩
end
/-- Of the blocks that were there none but g's has turned, and none below g. -/
structure MwN (g : Nat) (w W : World) : Prop where
  a : Aside w.heap.size g w W
  b : Below g w W
  z : w.heap.size ≤ W.heap.size
  l : g < w.heap.size
theorem MwN.set {g i : Nat} {w W : World} (h : MwN g w W) (v : Value) : MwN g w (W.setCell ⟨g, i, none⟩ v) :=
  ⟨fun b hb hr => (Below.heap_setCell W ⟨g, i, none⟩ v b (by simpa using hr)).trans (h.a b hb hr), h.b.setCell (p := ⟨g, i, none⟩) (Nat.le_refl _) v, by simpa using h.z, h.l⟩
theorem MwN.grow {g : Nat} {w W W' : World} (h : MwN g w W) (hb : Below W.heap.size W W') : MwN g w W' :=
  ⟨h.a.trans (below_aside hb h.z), h.b.trans (hb.mono (by have := h.z; have := h.l; omega)), Nat.le_trans h.z hb.size, h.l⟩
/-- The marks of n numbers. -/
def marksN (n : Nat) : List Int := (List.range n).map fun i : Nat => 1 + (i : Int)
theorem marksN_length (n : Nat) : (marksN n).length = n := by simp [marksN]
theorem marksN_at (n k : Nat) (h : k < n) : nAt (marksN n) k = 1 + (k : Int) := by
  unfold nAt
  rw [List.getD_eq_getElem?_getD]
  simp [marksN, h]

set_option maxHeartbeats 400000 in
theorem szIntS_any (a : Option Addr) (len cap : Nat) (w : World) (hm : len ≤ 9223372036854775807) :
    Calls Try.prog 61 #[.slice a len cap, .int .i64 1048576] w fun e w' => (∃ z : Int, e = .returned (.int .i64 z) ∧ (z = -1 ∨ (0 ≤ z ∧ len ≤ 1048576))) ∧ Below w.heap.size w w' := by
  have e : IntKind.i64.wrap (1048576 - (len : Int)) = 1048576 - (len : Int) := IntWalk.i64_in _ (by omega)
  by_cases h0 : 1048576 - (len : Int) < 0
  · go_enter Try.func61, Try.ntmps61
    go_wp2
    go_ret
    exact ⟨⟨-1, rfl, .inl rfl⟩, Below.refl _ _⟩
  · go_enter Try.func61, Try.ntmps61
    go_wp2
    go_ret
    exact ⟨⟨_, rfl, .inr ⟨by omega, by omega⟩⟩, Below.refl _ _⟩

set_option maxHeartbeats 1000000 in
theorem toIntS_any (a : Option Addr) (len cap : Nat) (es : List Int) (w : World) (h : Ns w a len cap es) (hn : len ≤ 1048576) :
    Calls Try.prog 62 #[.slice a len cap] w fun e w' => (∃ d, e = .returned (.slice (some ⟨d, 0, none⟩) len len) ∧ w.heap.size ≤ d ∧ FilN d len len es w' ∧ FreeN d w' ∧ d < w'.heap.size) ∧ Below w.heap.size w w' := by
  have hl := h.length
  obtain ⟨i0, hi, hz0, hz1, hz2⟩ := info_parts info_n
  obtain ⟨CS, hCS, hmk⟩ : ∃ CS : Array Value, CS.size = len ∧ ∀ w, (Instr.makeSlice 24 (.int .i64 len) (.int .i64 len)).run Try.prog w = .ok (.slice (some ⟨w.heap.size, 0, none⟩) len len) (w.alloc (.cells CS 3)) := by
    refine ⟨madeCells (Value.int .i64 0).cells (len * 1), by rw [size_madeCells]; omega, fun w => ?_⟩
    have r := run_make w 24 3 i0 _ Try.underlying24 hi hz0 .i64 .i64 len len (by omega) (Int.le_refl _) (by rw [hz2]; omega) (by omega)
    rw [hz1] at r
    exact r
  have HG := Lib.hid h
  have HF := Lib.hid (FilN.new w len CS 3 es hCS)
  clear h hCS hi hz0 hz1 hz2
  go_enter Try.func62, Try.ntmps62
  go_wp2
  go_loopw [4] (fun i wr => ∃ k : Nat, k ≤ len ∧ i = .int .i64 k ∧ Hid (FilN w.heap.size len k es wr ∧ FreeN w.heap.size wr) ∧ w.heap.size < wr.heap.size ∧ Hid (Below w.heap.size w wr)) (fun i _ => len - (intOf i).toNat)
  case atStart => exact ⟨0, Nat.zero_le _, rfl, HF, by simp, Lib.hid (below_box _ (Nat.le_refl _))⟩
  case round =>
    obtain ⟨k, hk, rfl, hfi, hsz, hbel⟩ := hrel
    clear HF
    by_cases hlt : k < len
    · obtain ⟨x, rfl⟩ := HG.out.addr hlt
      have p0 := HG.out.at hbel.out hlt
      obtain ⟨c1, hc1⟩ : ∃ c1, nAt es k = c1 := ⟨_, rfl⟩
      rw [hc1] at p0
      have FP := Lib.hid (And.intro (hfi.out.1.put hlt hc1) (hfi.out.2.set (e := w.heap.size) (i := k) (.int .i64 c1)))
      obtain ⟨u, s0, _⟩ := hfi.out.1 k hlt
      have t0 := hfi.out.2 k
      have BB := Lib.hid (hbel.out.setCell (p := ⟨w.heap.size, k, none⟩) (Nat.le_refl _) (.int .i64 c1))
      clear hc1 hfi hbel
      go_wp2_with fail
      try (go_quiet (fail); go_wp2)
      go_roundw
      case rel => exact ⟨k + 1, by omega, by go_num, FP, by simpa using hsz, BB⟩
      case measure => simp [intOf]; omega
    · obtain rfl : k = len := by omega
      go_wp2
      go_ret
      exact ⟨⟨w.heap.size, rfl, Nat.le_refl _, hfi.out.1, hfi.out.2, hsz⟩, hbel.out⟩

end Go.Proofs.Ytncbgejggfkdmab

/- The laws' exact helpers on what has arrived: copy, equality, marks. -/
namespace Go.Proofs.Ytncbgejggfkdmab
open Go.RowKit Go.PlainAid

set_option maxHeartbeats 1000000 in
theorem eqIntS_same (a b : Option Addr) (len cap cap2 : Nat) (es : List Int) (w : World) (h : Ns w a len cap es) (k : Ns w b len cap2 es) :
    Calls Try.prog 57 #[.slice a len cap, .slice b len cap2] w fun e w' => e = .returned (.bool true) ∧ Below w.heap.size w w' := by
  have hl := h.length
  have hm := h.len_int
  have HG := Lib.hid h
  have HK := Lib.hid k
  clear h k
  go_enter Try.func57, Try.ntmps57
  go_wp2
  go_loopw [5] (fun i wr => ∃ k : Nat, k ≤ len ∧ i = .int .i64 k ∧ Hid (Below w.heap.size w wr)) (fun i _ => len - (intOf i).toNat)
  case atStart => exact ⟨0, Nat.zero_le _, rfl, Lib.hid (Below.refl _ _)⟩
  case round =>
    obtain ⟨k, hk, rfl, hbel⟩ := hrel
    by_cases hlt : k < len
    · obtain ⟨x, rfl⟩ := HG.out.addr hlt
      obtain ⟨y, rfl⟩ := HK.out.addr hlt
      have p0 := HG.out.at hbel.out hlt
      have m0 := HK.out.at hbel.out hlt
      obtain ⟨c1, hc1⟩ : ∃ c1, nAt es k = c1 := ⟨_, rfl⟩
      rw [hc1] at p0 m0
      clear hc1
      go_wp2_with fail
      go_quiet (fail)
      go_wp2
      go_roundw
      case rel => exact ⟨k + 1, by omega, by go_num, Lib.hid (below_drewN hbel.out _)⟩
      case measure => simp [intOf]; omega
    · obtain rfl : k = len := by omega
      go_wp2
      go_ret
      exact ⟨rfl, hbel.out⟩

set_option maxHeartbeats 1000000 in
theorem markIntS_any (g n cap : Nat) (w : World) (hn : n ≤ 1048576) (hg : g < w.heap.size) (h : FilN g n 0 (marksN n) w) (hf : FreeN g w) :
    Calls Try.prog 58 #[.slice (some ⟨g, 0, none⟩) n cap, .int .i64 1] w fun e w' => e = .returned (.int .i64 (1 + (n : Int))) ∧ FilN g n n (marksN n) w' ∧ FreeN g w' ∧ MwN g w w' := by
  have HF := Lib.hid (And.intro h (And.intro hf (show MwN g w w from ⟨Aside.refl _ _ _, Below.refl _ _, Nat.le_refl _, hg⟩)))
  clear h hf
  go_enter Try.func58, Try.ntmps58
  go_wp2
  go_loopw [1, 5] (fun m i wr => ∃ j : Nat, j ≤ n ∧ i = .int .i64 j ∧ m = .int .i64 (1 + (j : Int)) ∧ Hid (FilN g n j (marksN n) wr ∧ FreeN g wr ∧ MwN g w wr)) (fun _ i _ => n - (intOf i).toNat)
  case atStart => exact ⟨0, Nat.zero_le _, rfl, rfl, HF⟩
  case round =>
    obtain ⟨j, hj, rfl, rfl, hfi⟩ := hrel
    clear HF
    by_cases hlt : j < n
    · obtain ⟨F0, R0, M0⟩ := hfi.out
      obtain ⟨u, s0, _⟩ := F0 j hlt
      have r0 := R0 j
      have HN := Lib.hid (show FilN g n (j + 1) (marksN n) (wr.setCell ⟨g, j, none⟩ (.int .i64 (1 + (j : Int)))) ∧ FreeN g (wr.setCell ⟨g, j, none⟩ (.int .i64 (1 + (j : Int)))) ∧ MwN g w (wr.setCell ⟨g, j, none⟩ (.int .i64 (1 + (j : Int)))) from ⟨F0.put hlt (marksN_at n j hlt), R0.set _, M0.set _⟩)
      have k1 : IntKind.i64.wrap (1 + (j : Int) + 1) = 1 + (j : Int) + 1 := IntWalk.i64_in _ (by omega)
      clear F0 R0 M0 hfi
      go_wp2
      go_roundw
      case rel => exact ⟨j + 1, by omega, by go_num, by go_num, HN⟩
      case measure => simp [intOf]; omega
    · obtain rfl : j = n := by omega
      go_wp2
      go_ret
      exact ⟨rfl, hfi.out.1, hfi.out.2.1, hfi.out.2.2⟩

set_option maxHeartbeats 1000000 in
theorem heldIntS_any (a : Option Addr) (n cap : Nat) (w : World) (hn : n ≤ 1048576) (h : Ns w a n cap (marksN n)) :
    Calls Try.prog 59 #[.slice a n cap, .int .i64 1] w fun e w' => e = .returned (.int .i64 (1 + (n : Int))) ∧ Below w.heap.size w w' := by
  have HG := Lib.hid h
  clear h
  go_enter Try.func59, Try.ntmps59
  go_wp2
  go_loopw [1, 5] (fun m i wr => ∃ j : Nat, j ≤ n ∧ i = .int .i64 j ∧ m = .int .i64 (1 + (j : Int)) ∧ Hid (Below w.heap.size w wr)) (fun _ i _ => n - (intOf i).toNat)
  case atStart => exact ⟨0, Nat.zero_le _, rfl, rfl, Lib.hid (Below.refl _ _)⟩
  case round =>
    obtain ⟨j, hj, rfl, rfl, hbel⟩ := hrel
    by_cases hlt : j < n
    · obtain ⟨x, rfl⟩ := HG.out.addr hlt
      have p0 := HG.out.at hbel.out hlt
      rw [marksN_at n j hlt] at p0
      have k1 : IntKind.i64.wrap (1 + (j : Int) + 1) = 1 + (j : Int) + 1 := IntWalk.i64_in _ (by omega)
      go_wp2_with fail
      try (go_quiet (fail); go_wp2)
      go_roundw
      case rel => exact ⟨j + 1, by omega, by go_num, by go_num, Lib.hid (by first | exact hbel.out | exact below_drewN hbel.out _)⟩
      case measure => simp [intOf]; omega
    · obtain rfl : j = n := by omega
      go_wp2
      go_ret
      exact ⟨rfl, hbel.out⟩

set_option maxHeartbeats 400000 in
theorem markIntS_none (w : World) :
    Calls Try.prog 58 #[.slice none 0 0, .int .i64 1] w fun e w' => e = .returned (.int .i64 1) ∧ w' = w := by
  go_enter Try.func58, Try.ntmps58
  go_wp2
  go_loopw [1, 5] (fun m i wr => m = .int .i64 1 ∧ i = .int .i64 0 ∧ wr = w) (fun _ _ _ => 0)
  case atStart => exact ⟨rfl, rfl, rfl⟩
  case round =>
    obtain ⟨rfl, rfl, rfl⟩ := hrel
    go_wp2
    go_ret
    exact ⟨rfl, rfl⟩

end Go.Proofs.Ytncbgejggfkdmab

/- What an exact law's marks leave be; the marks of a copy and of an answer. -/
namespace Go.Proofs.Ytncbgejggfkdmab
open Go.RowKit Go.PlainAid

/-- Of the blocks that were there none has turned but o, and none below C. -/
structure Mg (C : Nat) (o : Option Nat) (w w' : World) : Prop where
  b : Below C w w'
  a : ∀ x, x < w.heap.size → some x ≠ o → w'.heap[x]? = w.heap[x]?
section
variable {C d len cap k n size base e : Nat} {o : Option Nat} {a : Option Addr} {es : List Int} {vs : List Value} {v : Value} {xs : List Value} {w w' : World}
theorem VarN.mg (h : VarN d vs w) (m : Mg C o w w') (hd : d < w.heap.size) (hne : some d ≠ o) : VarN d vs w' := fun i v hi =>
  ⟨(World.cell?_of_block (w := w) (m.a d hd hne)).trans (h i v hi).1, (World.frozen?_of_block (w := w) (m.a d hd hne)).trans (h i v hi).2⟩
theorem own_mg (h : w.ownsRow base e size v n xs) (m : Mg C o w w') (hne : ∀ x, v.ownBlock = some x → some x ≠ o) : w'.ownsRow base e size v n xs := by
  refine ⟨h.1, ?_⟩
  rcases h.2 with h1 | ⟨x, cap, cur, rfl, h2, h3, h4⟩
  · exact .inl h1
  · have hx : x < w.heap.size := (Array.getElem?_eq_some_iff.1 h3).1
    exact .inr ⟨x, cap, cur, rfl, h2, by rw [m.a x hx (hne x rfl)]; exact h3, h4⟩
theorem add_block (x : Addr) (i : Nat) : (x.add i).block = x.block := by unfold Addr.add; split <;> rfl
theorem Ns.lts (h : Ns w a len cap es) : ∀ x, a = some x → 0 < len → x.block < w.heap.size := fun x hx hl => by
  rcases h with ⟨rfl, _⟩ | ⟨y, hy, _, _, _, h5⟩
  · cases hx
  · obtain rfl : x = y := by rw [hx] at hy; simpa using hy
    have := World.block_lt_of_cell? w _ (h5 0 hl)
    rwa [add_block] at this
theorem Ns.mgC (h : Ns w a len cap es) (hb : Below C w w') (hlt : ∀ x, a = some x → 0 < len → x.block < C) : Ns w' a len cap es := by
  rcases h with h | ⟨y, rfl, h1, h2, h3, h5⟩
  · exact .inl h
  · exact .inr ⟨y, rfl, h1, h2, h3, fun i hi => (hb.cell (by rw [add_block]; exact hlt y rfl (by omega))).trans (h5 i hi)⟩
end

theorem ownN_alloc {X : World} {base e size n : Nat} {v : Value} {xs : List Value} {o : Obj} (h : X.ownsRow base e size v n xs) : (X.alloc o).ownsRow base e size v n xs := h.alloc o
theorem ownUp {w w' : World} {base e size n : Nat} {v : Value} {xs : List Value} (h : w.ownsRow base e size v n xs) (hb : Below w.heap.size w w') : w'.ownsRow base e size v n xs := row_same h fun x _ h2 => hb.block x h2
theorem row_lt {w : World} {base e size n : Nat} {v : Value} {xs : List Value} (h : w.ownsRow base e size v n xs) {x : Nat} (hx : v.ownBlock = some x) : base ≤ x ∧ x < w.heap.size := by
  refine ⟨own_ge h hx, ?_⟩
  rcases h.2 with ⟨h1, _⟩ | ⟨g, cap, cur, h1, _, h3, _⟩
  · rw [h1] at hx; cases hx
  · rw [h1] at hx
    obtain rfl : g = x := by simpa [Value.ownBlock] using hx
    exact (Array.getElem?_eq_some_iff.1 h3).1
theorem pts0 (w : World) (p : Option Addr) : Pts w p 0 0 [] := by
  cases p with
  | none => exact .inl ⟨rfl, rfl, rfl, rfl⟩
  | some x => exact .inr ⟨x, rfl, Nat.le_refl _, Nat.zero_le _, rfl, fun i hi => absurd hi (by omega)⟩

end Go.Proofs.Ytncbgejggfkdmab

/- The draw of an assembly to be checked. -/
namespace Go.Proofs.Ytncbgejggfkdmab
open Go.RowKit Go.PlainAid

theorem row_close {base e size n D : Nat} {v : Value} {xs : List Value} {w w' : World} (h : w.ownsRow base e size v n xs) (hl : ∀ x, v.ownBlock = some x → x < D) (hb : ∀ x, base ≤ x → x < D → w'.heap[x]? = w.heap[x]?) : w'.ownsRow base e size v n xs := by
  refine ⟨h.1, ?_⟩
  rcases h.2 with h1 | ⟨g, cap, cur, h1, h2, h3, h4⟩
  · exact .inl h1
  · exact .inr ⟨g, cap, cur, h1, h2, by rw [hb g h2 (hl g (by rw [h1]; rfl))]; exact h3, h4⟩
theorem pair_put {W : World} {b e : Nat} {u0 u1 : Value} (h : W.heap[b]? = some (.cells #[u0, u1] e (0, 0))) (v0 v1 : Value) :
    ∃ W9, (W.setCell ⟨b, 0, none⟩ v0).setCell ⟨b, 1, none⟩ v1 = W9 ∧ W9.heap[b]? = some (.cells #[v0, v1] e (0, 0)) ∧ (∀ x, x ≠ b → W9.heap[x]? = W.heap[x]?) ∧ Below b W W9 :=
  ⟨_, rfl, box_set h v0 v1, fun x hx => by rw [Below.heap_setCell _ _ _ _ hx, Below.heap_setCell _ _ _ _ hx], ((Below.refl b W).setCell (p := ⟨b, 0, none⟩) (Nat.le_refl b) _).setCell (p := ⟨b, 1, none⟩) (Nat.le_refl b) _⟩
theorem small_keys {ps : List Part} (h : ∀ p ∈ ps, Smally p) : ∀ p ∈ ps, Key p.tsn := fun p hp => by
  have := (h p hp).1
  unfold Key
  omega
/-- What is drawn. -/
def DrewAv (w : World) (e : Ending) (w' : World) : Prop :=
  ∃ (a1 : Option Addr) (n1 c1 : Nat) (a2 : Option Addr) (n2 c2 : Nat) (es : List Int) (qs : List Part), e = .returned (.agg #[.slice a1 n1 c1, .slice a2 n2 c2]) ∧ n1 ≤ 5 ∧ n2 ≤ 24 ∧ (∀ q ∈ qs, Smally q) ∧ Ns w' a1 n1 c1 es ∧ Pts w' a2 n2 c2 qs ∧ Below w.heap.size w w'

set_option maxRecDepth 8000 in
set_option maxHeartbeats 2000000 in
theorem drawAsmValid_any (a0 : Option Addr) (len cap : Nat) (zs : List Int) (w : World) (h : IsRow .u8 w a0 len cap zs) :
    Calls Try.prog 17 #[.slice a0 len cap] w (DrewAv w) := by
  have H := Lib.hid h
  clear h
  have BW := Lib.hid (below_box (w := w) (.cells (List.toArray [.slice none 0 0, .slice none 0 0]) 27) (Nat.le_refl _))
  have Q1 := Lib.hid (heap_alloc_new w (.cells (List.toArray [.slice none 0 0, .slice none 0 0]) 27))
  go_enter Try.func17, Try.ntmps17
  go_wp2_with fail
  refine (l6Open_any a0 len cap zs _ (H.out.keep BW.out)).mono ?_
  rintro e w1 ⟨r, rfl, hr1, hb1⟩
  have hrz := hr1.2.1
  have hBr := hr1.1
  have hz0 : w.heap.size + 1 ≤ r := by simpa using hBr
  have q1 := Lib.hid ((hb1.block w.heap.size (by simp)).trans Q1.out)
  have b1 := Lib.hid (BW.out.trans (hb1.mono (by simp)))
  clear hb1
  go_wp2_with fail
  refine (l92Asm_any _ r 0 _ hr1 (by omega)).mono ?_
  rintro e w2 ⟨a1, n1, c1, a2, n2, c2, es, qs, rfl, hn1, hn2, hsm, o1, o2, hr2, hb2, ha2⟩
  have q2 := (ha2 w.heap.size (by omega) (by omega)).trans q1.out
  have v0 := ((var_of_heap q2) 0 _ rfl).1
  have v1 := ((var_of_heap q2) 1 _ rfl).1
  have f0 := ((var_of_heap q2) 0 _ rfl).2
  have f1 := ((var_of_heap q2) 1 _ rfl).2
  obtain ⟨W9, hW9, k1, k2, k3⟩ := pair_put q2 (.slice a1 n1 c1) (.slice a2 n2 c2)
  have r0 := ((var_of_heap k1) 0 _ rfl).1
  have r1 := ((var_of_heap k1) 1 _ rfl).1
  have K := Lib.hid (show DrewAv w (.returned (.agg #[.slice a1 n1 c1, .slice a2 n2 c2])) W9 from ⟨a1, n1, c1, a2, n2, c2, es, qs, rfl, hn1, hn2, hsm, own_ns (row_close (D := w2.heap.size) o1 (fun x hx => (row_lt o1 hx).2) fun x h1 _ => k2 x (by omega)), own_pts (row_close (D := w2.heap.size) o2 (fun x hx => (row_lt o2 hx).2) fun x h1 _ => k2 x (by omega)), (b1.out.trans (hb2.mono (by simp))).trans k3⟩)
  clear hsm o1 o2 hr2 hb2 ha2 q2 k1 k2 k3 b1 q1 hr1
  go_wp2
  try rw [hW9]
  refine bodyPost_ret (v := .agg #[.slice a1 n1 c1, .slice a2 n2 c2]) ?_ rfl K.out
  simp [results, Try.results17, go_sem, r0, r1]

end Go.Proofs.Ytncbgejggfkdmab

/- Regions that draw their order and make, grow and fill memory of their own: each operation's own fact, which may end with another operation. -/
namespace Go.Proofs.Ytncbgejggfkdmab
open Go.RowKit Go.PlainAid

/-- The block that a slice or a pointer points to, or the slice in a struct's second cell. -/
def blkV : Value → Option Nat
  | .slice (some a) _ _ => some a.block
  | .pointer (some a) => some a.block
  | .agg ⟨[_, .slice (some a) _ _]⟩ => some a.block
  | _ => none
theorem grown_quiet {W W' : World} (h : Below W.heap.size W W') : W.grownBy W' none := ⟨h.os, h.tape, h.output, h.size, fun k hk _ => h.block k hk⟩
theorem grown_set {W : World} {D i : Nat} {u : Value} : W.grownBy (W.setCell ⟨D, i, none⟩ u) (some D) := by
  have h := (Below.refl D W).setCell (p := ⟨D, i, none⟩) (Nat.le_refl _) u
  exact ⟨h.os, h.tape, h.output, h.size, fun k _ hne => Below.heap_setCell _ _ _ _ (fun e => hne (by rw [show k = D from e]))⟩
theorem grown_trans {W W2 W3 : World} {e : Option Nat} (h : W.grownBy W2 e) (k : W2.grownBy W3 e) : W.grownBy W3 e :=
  ⟨k.os.trans h.os, k.tape.trans h.tape, k.output.trans h.output, Nat.le_trans h.size k.size, fun x hx hne => (k.block x (Nat.lt_of_lt_of_le hx h.size) hne).trans (h.block x hx hne)⟩
/-- What an operation changes: the block of another one's value, or nothing that was there. -/
def hitO (dst : Nat → Nat) (tgt : Nat → Option Nat) (V : Nat → Value) (i : Nat) : Option Nat :=
  match tgt i with
  | none => none
  | some c => blkV (V (dst c))
/-- What holds while the region runs. -/
structure FacO (ops : Array Oper) (n : Nat) (dst : Nat → Nat) (kill : Nat → Option Nat) (own : Nat → Bool) (G : Nat → Value → World → Prop) (n0 : Nat) (w0 : World) (ds : List Nat) (V0 : Nat → Value) (l : Nat → Bool) (V : Nat → Value) (W : World) : Prop where
  b : Below n0 w0 W
  sh : Shut ops n l
  fr : ∀ k, k ∉ ds → V k = V0 k
  f : ∀ i, i < n → l i = true → (∀ j, kill i = some j → l j = false) → G i (V (dst i)) W
  ap : ∀ i j, i < n → j < n → i ≠ j → own i = true → own j = true → l i = true → l j = true → (∀ k, kill i = some k → l k = false) → (∀ k, kill j = some k → l k = false) → ∀ x, blkV (V (dst i)) = some x → blkV (V (dst j)) ≠ some x
theorem region_own {P : Program} {ops : Array Oper} {Q : Exit → Act → World → Prop} {id : Nat} {a : Act} {w : World} (n : Nat) (dst : Nat → Nat) (kill : Nat → Option Nat) (own : Nat → Bool) (tgt : Nat → Option Nat) (nd : Nat → Nat → Bool) (fin : Nat → Bool) (G : Nat → Value → World → Prop) (n0 : Nat) (w0 : World) (ds : List Nat)
    (hm : P.follows .mixedOrders = true) (hn : ops.size = n) (hlow : low2B ops = true) (hs : ∀ k ∈ ds, k < a.tmps.size) (hds : ∀ i, i < n → dst i ∈ ds)
    (hinj : ∀ i j, i < n → j < n → i ≠ j → dst j = dst i → kill j = some i ∨ depB ops j i = true)
    (htgt : ∀ i c, i < n → tgt i = some c → c < n ∧ c ≠ i ∧ own c = true ∧ kill c = some i ∧ depB ops i c = true)
    (hnd : ∀ i j, i < n → nd i j = true → j < n ∧ depB ops i j = true ∧ ∀ k, kill j = some k → k = i ∨ k < n ∧ depB ops k i = true)
    (hfin : ∀ j i, j < n → i < n → i ≠ j → fin j = true → reachB ops n n j i = true)
    (gm : ∀ j v W W' e, j < n → fin j = false → G j v W → W.grownBy W' e → (own j = true → ∀ x, e = some x → blkV v ≠ some x) → G j v W')
    (hown : ∀ j v W, j < n → own j = true → G j v W → ∀ x, blkV v = some x → n0 ≤ x ∧ x < W.heap.size)
    (h0 : Below n0 w0 w.drew) (hn0 : n0 ≤ w0.heap.size)
    (hstep : ∀ i b W, i < n → Below n0 w0 W → (∀ k ∈ ds, k < b.tmps.size) → (∀ k, k ∉ ds → valsOf b k = valsOf a k) → (∀ j, nd i j = true → G j (valsOf b (dst j)) W) →
      wpOp P ops Q i (fun b' W' => ∃ v, (b' = b.put (some (dst i)) v ∨ b' = b ∧ v = valsOf b (dst i)) ∧ G i v W' ∧ W.grownBy W' (hitO dst tgt (valsOf b) i) ∧ (own i = true → ∀ x, blkV v = some x → hitO dst tgt (valsOf b) i = some x ∨ W.heap.size ≤ x)) b W)
    (hend : ∀ (V : Nat → Value) W, Below n0 w0 W → (∀ i, i < n → kill i = none → G i (V (dst i)) W) → Q .normal (ds.foldl (fun b k => b.put (some k) (V k)) a) W) : (Code.region id ops true).wp P Q a w := by
  refine region_vals2 ds (FacO ops n dst kill own G n0 w0 ds (valsOf a)) hm hn hlow hs ?_ ?_ ?_
  · exact ⟨h0, (fun i j _ h => by cases h), (fun _ _ => rfl), (fun i _ h => by cases h), (fun i j _ _ _ _ _ h => by cases h)⟩
  · intro i l b W hi hl hd hsb hI
    have shut2 : Shut ops n (more l i) := fun x y hx hmx hxy => by
      unfold more at hmx ⊢
      by_cases e : x = i
      · subst e
        rw [depB_spec hxy hd, Bool.or_true]
      · have : l x = true := by simpa [e] using hmx
        rw [hI.sh x y hx this hxy, Bool.or_true]
    have notYet : ∀ k, k < n → depB ops k i = true → l k = false := fun k hk hki => by
      cases hlk : l k with
      | false => rfl
      | true =>
        have := hI.sh k i hk hlk hki
        rw [hl] at this
        cases this
    have hdeps : ∀ j, nd i j = true → G j (valsOf b (dst j)) W := fun j hj => by
      obtain ⟨h1, h2, h3⟩ := hnd i j hi hj
      refine hI.f j h1 (depB_spec h2 hd) fun k hk => ?_
      rcases h3 k hk with rfl | h4
      · exact hl
      · exact notYet k h4.1 h4.2
    refine wpOp_mono ?_ (hstep i b W hi hI.b hsb hI.fr hdeps)
    rintro b' W' ⟨v, hb', hg, hgr, hbk⟩
    have hV : valsOf b' = upd (valsOf b) (dst i) v := by
      rcases hb' with rfl | ⟨rfl, rfl⟩
      · exact vals_put (hsb _ (hds i hi)) v
      · funext j
        unfold upd
        split
        · rename_i e; rw [e]
        · rfl
    refine ⟨?_, ?_⟩
    · rcases hb' with rfl | ⟨rfl, _⟩
      · exact .inr ⟨dst i, hds i hi, v, rfl⟩
      · exact .inl rfl
    rw [hV]
    -- the facts that go on
    have live : ∀ j, j ≠ i → (∀ k, kill j = some k → more l i k = false) → (∀ k, kill j = some k → l k = false) ∧ kill j ≠ some i := fun j _ h =>
      ⟨fun k hk => by have := h k hk; simpa [more] using And.right (by simpa [more] using this : ¬ k = i ∧ l k = false), fun hk => by have := h i hk; simp [more] at this⟩
    have listed : ∀ j, j ≠ i → more l i j = true → l j = true := fun j hj h => by simpa [more, hj] using h
    have same : ∀ j, j < n → j ≠ i → l j = true → kill j ≠ some i → upd (valsOf b) (dst i) v (dst j) = valsOf b (dst j) := fun j hj hne hlj hk => by
      unfold upd
      rw [if_neg]
      intro e
      rcases hinj i j hi hj (Ne.symm hne) e with h | h
      · exact hk h
      · have := hI.sh j i hj hlj h
        rw [hl] at this
        cases this
    have apart : ∀ j, j < n → j ≠ i → own j = true → l j = true → (∀ k, kill j = some k → l k = false) → kill j ≠ some i → ∀ x, hitO dst tgt (valsOf b) i = some x → blkV (valsOf b (dst j)) ≠ some x := fun j hj hne ho hlj hlv hk x hx => by
      unfold hitO at hx
      cases ht : tgt i with
      | none => rw [ht] at hx; cases hx
      | some c =>
        rw [ht] at hx
        obtain ⟨c1, c2, c3, c4, c5⟩ := htgt i c hi ht
        have hcj : c ≠ j := fun e => hk (e ▸ c4)
        refine hI.ap c j c1 hj hcj c3 ho (depB_spec c5 hd) hlj (fun k hk2 => ?_) hlv x hx
        rw [c4] at hk2
        cases hk2
        exact hl
    refine ⟨Below.grown hI.b hgr (Nat.le_trans hn0 hI.b.size) fun x hx => ?_, shut2, fun k hk => ?_, fun j hj hlj hlv => ?_, fun p q hp hq hpq op oq lp lq vp vq x hx => ?_⟩
    · unfold hitO at hx
      cases ht : tgt i with
      | none => rw [ht] at hx; cases hx
      | some c =>
        rw [ht] at hx
        obtain ⟨c1, c2, c3, c4, c5⟩ := htgt i c hi ht
        refine (hown c _ W c1 c3 (hI.f c c1 (depB_spec c5 hd) fun k hk2 => ?_) x hx).1
        rw [c4] at hk2
        cases hk2
        exact hl
    · unfold upd
      rw [if_neg (fun (e : k = dst i) => hk (by rw [e]; exact hds i hi))]
      exact hI.fr k hk
    · by_cases e : j = i
      · subst e
        simpa [upd] using hg
      · have hlj' := listed j e hlj
        obtain ⟨v1, v2⟩ := live j e hlv
        rw [same j hj e hlj' v2]
        exact gm j _ W W' _ hj (by
          cases hf : fin j with
          | false => rfl
          | true =>
            have := reachB_spec hI.sh n j i hj hlj' (hfin j i hj hi (Ne.symm e) hf)
            rw [hl] at this
            cases this) (hI.f j hj hlj' v1) hgr fun ho x hx => apart j hj e ho hlj' v1 v2 x hx
    · by_cases ep : p = i
      · subst ep
        have eq : q ≠ p := Ne.symm hpq
        obtain ⟨v1, v2⟩ := live q eq vq
        have lq' := listed q eq lq
        rw [same q hq eq lq' v2]
        have hx' : blkV v = some x := by simpa [upd] using hx
        rcases hbk op x hx' with h | h
        · exact apart q hq eq oq lq' v1 v2 x h
        · intro hqx
          have := (hown q _ W hq oq (hI.f q hq lq' v1) x hqx).2
          omega
      · by_cases eq : q = i
        · subst eq
          obtain ⟨v1, v2⟩ := live p ep vp
          have lp' := listed p ep lp
          rw [same p hp ep lp' v2] at hx
          intro hqx
          have hqx' : blkV v = some x := by simpa [upd] using hqx
          rcases hbk oq x hqx' with h | h
          · exact apart p hp ep op lp' v1 v2 x h hx
          · have := (hown p _ W hp op (hI.f p hp lp' v1) x hx).2
            omega
        · obtain ⟨v1, v2⟩ := live p ep vp
          obtain ⟨u1, u2⟩ := live q eq vq
          have lp' := listed p ep lp
          have lq' := listed q eq lq
          rw [same p hp ep lp' v2] at hx
          rw [same q hq eq lq' u2]
          exact hI.ap p q hp hq hpq op oq lp' lq' v1 u1 x hx
  · intro l V W hall hI
    exact hend V W hI.b fun i hi hk => hI.f i hi (hall i hi) fun j hj => by rw [hk] at hj; cases hj
/-- What is asked of a region's shape. -/
def shapeO (ops : Array Oper) (n : Nat) (dl ds : List Nat) (kl : List (Option Nat)) (ow : List Bool) (tl : List (Option Nat)) (nd : List (List Nat)) (fl : List Nat) : Bool :=
  (fl.all fun j => (List.range n).all fun i => i == j || reachB ops n n j i) && low2B ops && decide (ops.size = n) && ((List.range n).all fun i => ds.contains (dl.getD i 0)) &&
  ((List.range n).all fun i => (List.range n).all fun j => i == j || dl.getD j 0 != dl.getD i 0 || (kl.getD j none == some i || depB ops j i)) &&
  ((List.range n).all fun i => match tl.getD i none with | none => true | some c => decide (c < n) && (c != i) && ow.getD c false && (kl.getD c none == some i) && depB ops i c) &&
  ((List.range n).all fun i => (nd.getD i []).all fun j => decide (j < n) && depB ops i j && (match kl.getD j none with | none => true | some k => k == i || (decide (k < n) && depB ops k i)))
theorem region_rows {P : Program} {ops : Array Oper} {Q : Exit → Act → World → Prop} {id : Nat} {a : Act} {w : World} (n : Nat) (dl ds : List Nat) (kl : List (Option Nat)) (ow : List Bool) (tl : List (Option Nat)) (nd : List (List Nat)) (fl : List Nat) (G : Nat → Value → World → Prop) (n0 : Nat) (w0 : World)
    (hm : P.follows .mixedOrders = true) (hsh : shapeO ops n dl ds kl ow tl nd fl = true) (hs : ∀ k ∈ ds, k < a.tmps.size)
    (gm : ∀ j v W W' e, j < n → fl.contains j = false → G j v W → W.grownBy W' e → (ow.getD j false = true → ∀ x, e = some x → blkV v ≠ some x) → G j v W')
    (hown : ∀ j v W, j < n → ow.getD j false = true → G j v W → ∀ x, blkV v = some x → n0 ≤ x ∧ x < W.heap.size)
    (h0 : Below n0 w0 w.drew) (hn0 : n0 ≤ w0.heap.size)
    (hstep : ∀ i b W, i < n → Below n0 w0 W → (∀ k ∈ ds, k < b.tmps.size) → (∀ k, k ∉ ds → valsOf b k = valsOf a k) → (∀ j, (nd.getD i []).contains j = true → G j (valsOf b (dstL dl j)) W) →
      wpOp P ops Q i (fun b' W' => ∃ v, (b' = b.put (some (dstL dl i)) v ∨ b' = b ∧ v = valsOf b (dstL dl i)) ∧ G i v W' ∧ W.grownBy W' (hitO (dstL dl) (fun i => tl.getD i none) (valsOf b) i) ∧ (ow.getD i false = true → ∀ x, blkV v = some x → hitO (dstL dl) (fun i => tl.getD i none) (valsOf b) i = some x ∨ W.heap.size ≤ x)) b W)
    (hend : ∀ (V : Nat → Value) W, Below n0 w0 W → (∀ i, i < n → kl.getD i none = none → G i (V (dstL dl i)) W) → Q .normal (ds.foldl (fun b k => b.put (some k) (V k)) a) W) : (Code.region id ops true).wp P Q a w := by
  unfold shapeO at hsh
  simp only [Bool.and_eq_true, decide_eq_true_eq] at hsh
  obtain ⟨⟨⟨⟨⟨⟨h0f, h1⟩, h2⟩, h3⟩, h4⟩, h5⟩, h6⟩ := hsh
  refine region_own n (dstL dl) (fun i => kl.getD i none) (fun i => ow.getD i false) (fun i => tl.getD i none) (fun i j => (nd.getD i []).contains j) (fun j => fl.contains j) G n0 w0 ds hm h2 h1 hs ?_ ?_ ?_ ?_ ?_ gm hown h0 hn0 hstep hend
  · intro i hi
    exact List.contains_iff_mem.1 (List.all_eq_true.1 h3 i (List.mem_range.2 hi))
  · intro i j hi hj hne e
    have := List.all_eq_true.1 (List.all_eq_true.1 h4 i (List.mem_range.2 hi)) j (List.mem_range.2 hj)
    simp only [Bool.or_eq_true, beq_iff_eq, bne_iff_ne, ne_eq] at this
    rcases this with (h | h) | h
    · exact absurd h hne
    · exact absurd e h
    · exact h
  · intro i c hi hc
    have := List.all_eq_true.1 h5 i (List.mem_range.2 hi)
    rw [show tl.getD i none = some c from hc] at this
    simp only [Bool.and_eq_true, decide_eq_true_eq, bne_iff_ne, ne_eq, beq_iff_eq] at this
    exact ⟨this.1.1.1.1, this.1.1.1.2, this.1.1.2, this.1.2, this.2⟩
  · intro i j hi hj
    have := List.all_eq_true.1 (List.all_eq_true.1 h6 i (List.mem_range.2 hi)) j (List.contains_iff_mem.1 hj)
    simp only [Bool.and_eq_true, decide_eq_true_eq] at this
    refine ⟨this.1.1, this.1.2, fun k hk => ?_⟩
    have h7 := this.2
    rw [show kl.getD j none = some k from hk] at h7
    simpa using h7
  · intro j i hj hi hne hf
    have := List.all_eq_true.1 (List.all_eq_true.1 h0f j (List.contains_iff_mem.1 hf)) i (List.mem_range.2 hi)
    rcases Bool.or_eq_true_iff.1 this with h | h
    · exact absurd (by simpa using h) hne
    · exact h
theorem wpOp_guard {P : Program} {ops : Array Oper} {Q : Exit → Act → World → Prop} {i g k : Nat} {want : Bool} {o og : Oper} {K : Act → World → Prop} {a : Act} {w : World} (hi : ops[i]? = some o) (hg : o.guard = some (g, want)) (hgo : ops[g]? = some og) (hgd : og.dst = some k) (hk : k < a.tmps.size) (hv : valsOf a k = .bool want) (h : o.wp P a w K Q) : wpOp P ops Q i K a w := by
  have hy : yielded ops a.tmps g = some want := by
    unfold yielded
    rw [hgo]
    have : a.tmps[k]? = some (.bool want) := by
      rw [Array.getElem?_eq_getElem hk]
      unfold valsOf Act.eval at hv
      simpa [Array.getD_eq_getD_getElem?, hk] using hv
    simp [hgd, this]
  unfold wpOp
  rw [hi]
  simp only [Region.wanted, hg, hy]
  simp only [beq_self_eq_true, if_true]
  exact .inl h

end Go.Proofs.Ytncbgejggfkdmab

/- Rows of parts in a region that draws its order: their fact, an append that grows one. -/
namespace Go.Proofs.Ytncbgejggfkdmab
open Go.RowKit Go.PlainAid

/-- A row of parts of one's own. -/
def RowP (n0 n : Nat) (ps : List Part) (v : Value) (W : World) : Prop :=
  ∃ e c, v = .slice (some ⟨e, 0, none⟩) n c ∧ W.ownsRow n0 43 7 (.slice (some ⟨e, 0, none⟩) n c) n (flatP ps)
theorem RowP.grown {n0 n : Nat} {ps : List Part} {v : Value} {W W' : World} {e : Option Nat} (h : RowP n0 n ps v W) (hg : W.grownBy W' e) (hne : ∀ x, e = some x → blkV v ≠ some x) : RowP n0 n ps v W' := by
  obtain ⟨g, c, rfl, h1⟩ := h
  exact ⟨g, c, rfl, rowGrown h1 hg fun he => hne g he.symm rfl⟩
theorem RowP.own {n0 n : Nat} {ps : List Part} {v : Value} {W : World} (h : RowP n0 n ps v W) : ∀ x, blkV v = some x → n0 ≤ x ∧ x < W.heap.size := by
  obtain ⟨g, c, rfl, h1⟩ := h
  intro x hx
  exact row_lt h1 (show (Value.slice (some ⟨g, 0, none⟩) n c).ownBlock = some x from hx)
theorem RowP.lit {n0 : Nat} {W : World} (h : n0 ≤ W.heap.size) : RowP n0 0 [] (.slice (some ⟨W.heap.size, 0, none⟩) 0 0) (W.alloc (.cells #[] 43)) :=
  ⟨W.heap.size, 0, rfl, World.ownsRow_lit (base := n0) (e := 43) (size := 7) W #[] 0 h (by decide) rfl⟩
theorem RowP.one {n0 : Nat} {W : World} (h : n0 ≤ W.heap.size) (t s q : Int) (fi la lo : Bool) (tx : ByteArray) : RowP n0 1 [⟨t, s, q, fi, la, lo, tx⟩] (.slice (some ⟨W.heap.size, 0, none⟩) 1 1) (W.alloc (.cells #[.int .i64 t, .int .i64 s, .int .i64 q, .bool fi, .bool la, .bool lo, .string tx] 43)) :=
  ⟨W.heap.size, 1, rfl, World.ownsRow_lit (base := n0) (e := 43) (size := 7) W #[.int .i64 t, .int .i64 s, .int .i64 q, .bool fi, .bool la, .bool lo, .string tx] 1 h (by decide) rfl⟩
/-- Parts that are appended to a row of one's own: where the row lies then. -/
theorem wp_addP {o : Oper} {a : Act} {w : World} {K : Act → World → Prop} {Q : Exit → Act → World → Prop} (s x : Operand) (hop : o.op = Op.call { callee := Callee.builtin Builtin.append, args := #[s, x], argTypes := #[25, 25] })
    (base k len cc : Nat) (q : Option Addr) (xs ys : List Part) (hv : RowP base k xs (a.eval s) w) (hx : a.eval x = .slice q len cc) (h : Pts w q len cc ys) (him : k + len ≤ 100000) (hb : base ≤ w.heap.size)
    (hK : ∀ v w', RowP base (k + len) (xs ++ ys) v w' → w.grownBy w' (blkV (a.eval s)) → (∀ x, blkV v = some x → blkV (a.eval s) = some x ∨ w.heap.size ≤ x) → K (a.put o.dst v) w') :
    Oper.wp Try.prog o a w K Q := by
  obtain ⟨e, cap, hv, hown⟩ := hv
  rw [hv] at hK
  obtain ⟨i0, hi, hz0, hz1, hz2⟩ := info_parts info_pt
  obtain ⟨v, w', hr, h2, h3, h4⟩ : ∃ v w', (Builtin.append_ #[25, 25] o.type #[.slice (some ⟨e, 0, none⟩) k cap, .slice q len cc]).run Try.prog w = .ok v w' ∧ RowP base (k + len) (xs ++ ys) v w' ∧ w.grownBy w' (some e) ∧ (∀ x, blkV v = some x → some e = some x ∨ w.heap.size ≤ x) := by
    rcases h with ⟨rfl, rfl, rfl, rfl⟩ | ⟨ad, rfl, h7, h8, h9, h10⟩
    · rw [List.append_nil]
      exact ⟨_, w, run_append_owned_none w base 25 o.type 43 i0 7 Try.underlying25 hi _ k (flatP xs) hown, ⟨e, cap, rfl, hown⟩, ⟨rfl, rfl, rfl, Nat.le_refl _, fun _ _ _ => rfl⟩, fun x hx => .inl hx⟩
    · have hps : Pts w (some ad) len cc ys := .inr ⟨ad, rfl, h7, h8, h9, h10⟩
      have hflat : ∀ j u, (flatP ys)[j]? = some u → w.cell? (ad.add j) = some u := pts_src hps
      obtain ⟨v', w', hr, h2, h3, h4, h5⟩ := run_append_own_at (P := Try.prog) w base 25 o.type 43 i0 (partV ⟨0, 0, 0, false, false, false, ByteArray.mk #[]⟩) 7 48 Try.underlying25 hi hz0 hz1 hz2 rfl (by decide) (.slice (some ⟨e, 0, none⟩) k cap) k (flatP xs) hown ad len cc (flatP ys) (by rw [flatP_length, h9]) hflat (flatP_one ys) (by unfold maxLen; omega) (by omega) hb
      rw [← flatP_append] at h2
      rcases h2.2 with ⟨h0, _⟩ | ⟨g3, cap3, cur, hv3, hh⟩
      · have := (h4.1 h0).1
        cases this
      · subst hv3
        refine ⟨_, w', hr, ⟨g3, cap3, rfl, ⟨h2.1, .inr ⟨g3, cap3, cur, rfl, hh⟩⟩⟩, h3, fun x hx => ?_⟩
        rcases h5 with h6 | h6
        · exact .inl (h6.symm.trans hx)
        · have : some w.heap.size = some x := h6.symm.trans hx
          exact .inr (by cases this; exact Nat.le_refl _)
  unfold Oper.wp execOp
  simp only [hop, resolve, invoke, builtin, Sem.run_bind, Sem.run_pure, Result.andThen_ok, List.map_toArray, List.map_cons, List.map_nil, hv, hx, hr]
  exact hK v w' h2 h3 h4
theorem RowP.pts {n0 n : Nat} {ps : List Part} {v : Value} {W : World} (h : RowP n0 n ps v W) : ∃ a c, v = .slice a n c ∧ Pts W a n c ps := by
  obtain ⟨g, c, rfl, h1⟩ := h
  exact ⟨_, c, rfl, own_pts h1⟩
theorem grown_refl (W : World) (e : Option Nat) : W.grownBy W e := ⟨rfl, rfl, rfl, Nat.le_refl _, fun _ _ _ => rfl⟩
theorem RowP.blk {n0 n : Nat} {ps : List Part} {v : Value} {W : World} (h : RowP n0 n ps v W) (f : Value) : blkV (.agg #[f, v]) = blkV v := by
  obtain ⟨g, c, rfl, _⟩ := h
  rfl
/-- A struct of a first cell and a row of parts of one's own. -/
def RowA (n0 n : Nat) (ps : List Part) (f v : Value) (W : World) : Prop := ∃ u, v = .agg #[f, u] ∧ RowP n0 n ps u W
theorem RowA.grown {n0 n : Nat} {ps : List Part} {f v : Value} {W W' : World} {e : Option Nat} (h : RowA n0 n ps f v W) (hg : W.grownBy W' e) (hne : ∀ x, e = some x → blkV v ≠ some x) : RowA n0 n ps f v W' := by
  obtain ⟨u, rfl, h1⟩ := h
  exact ⟨u, rfl, h1.grown hg fun x hx => by rw [← h1.blk f]; exact hne x hx⟩
theorem RowA.own {n0 n : Nat} {ps : List Part} {f v : Value} {W : World} (h : RowA n0 n ps f v W) : ∀ x, blkV v = some x → n0 ≤ x ∧ x < W.heap.size := by
  obtain ⟨u, rfl, h1⟩ := h
  intro x hx
  rw [h1.blk f] at hx
  exact h1.own x hx
/-- A box of two cells. -/
def Box2 (n0 : Nat) (v : Value) (W : World) : Prop := ∃ D x y, v = .pointer (some ⟨D, 0, none⟩) ∧ n0 ≤ D ∧ W.heap[D]? = some (.cells #[x, y] 27 (0, 0))
theorem Box2.grown {n0 : Nat} {v : Value} {W W' : World} {e : Option Nat} (h : Box2 n0 v W) (hg : W.grownBy W' e) (hne : ∀ x, e = some x → blkV v ≠ some x) : Box2 n0 v W' := by
  obtain ⟨D, x, y, rfl, h1, h2⟩ := h
  exact ⟨D, x, y, rfl, h1, (hg.block D (Array.getElem?_eq_some_iff.1 h2).1 fun he => hne D he.symm rfl).trans h2⟩
theorem Box2.own {n0 : Nat} {v : Value} {W : World} (h : Box2 n0 v W) : ∀ x, blkV v = some x → n0 ≤ x ∧ x < W.heap.size := by
  obtain ⟨D, x, y, rfl, h1, h2⟩ := h
  intro z hz
  have hz2 : some D = some z := hz
  cases hz2
  exact ⟨h1, (Array.getElem?_eq_some_iff.1 h2).1⟩
theorem Box2.lit {n0 : Nat} {W : World} (h : n0 ≤ W.heap.size) : Box2 n0 (.pointer (some ⟨W.heap.size, 0, none⟩)) (W.alloc (.cells #[.slice none 0 0, .slice none 0 0] 27)) := ⟨W.heap.size, _, _, rfl, h, heap_alloc_new W _⟩
/-- The box, filled. -/
def PutA (n0 n : Nat) (ps : List Part) (f v : Value) (W : World) : Prop := ∃ D u, v = .pointer (some ⟨D, 0, none⟩) ∧ n0 ≤ D ∧ W.heap[D]? = some (.cells #[f, u] 27 (0, 0)) ∧ RowP n0 n ps u W
theorem PutA.own {n0 n : Nat} {ps : List Part} {f v : Value} {W : World} (h : PutA n0 n ps f v W) : ∀ x, blkV v = some x → n0 ≤ x ∧ x < W.heap.size := by
  obtain ⟨D, u, rfl, h1, h2, _⟩ := h
  exact Box2.own ⟨D, f, u, rfl, h1, h2⟩
theorem RowP.fill {n0 n D : Nat} {ps : List Part} {f u x y : Value} {W : World} (h : RowP n0 n ps u W) (hD : W.heap[D]? = some (.cells #[x, y] 27 (0, 0))) (h0 : n0 ≤ D) : PutA n0 n ps f (.pointer (some ⟨D, 0, none⟩)) ((W.setCell ⟨D, 0, none⟩ f).setCell ⟨D, 1, none⟩ u) := by
  obtain ⟨g, c, rfl, h1⟩ := h
  obtain ⟨cd, hk⟩ := rowKind h1
  have n7 := kind_ne hk hD (by decide)
  exact ⟨D, _, rfl, h0, box_set hD _ _, g, c, rfl, rowFar (rowFar h1 n7 _) n7 _⟩
/-- The parts of a slice up to one, and from one on, as Go cuts it. -/
theorem cut_to {x : Addr} {len cap L : Nat} (h : L ≤ len) (hc : len ≤ cap) : ∀ w, (Instr.slice 25 (.slice (some x) len cap) none (some (.int .i64 (L : Int))) none).run Try.prog w = .ok (.slice (some x) L cap) w := fun w => by
  have h1 : (L : Int) ≤ (cap : Int) := by omega
  go_simp
theorem cut_from {W : World} {x : Addr} {len cap : Nat} {ps : List Part} (h : Pts W (some x) len cap ps) (L : Nat) (hL : L ≤ len) :
    ∃ q cc, (∀ w, (Instr.slice 25 (.slice (some x) len cap) (some (.int .i64 (L : Int))) none none).run Try.prog w = .ok (.slice q (len - L) cc) w) ∧ Pts W q (len - L) cc (ps.drop L) := by
  have hl := h.length
  have hc := h.len_le
  have h1 : (L : Int) ≤ (len : Int) := by omega
  by_cases e : cap = L
  · refine ⟨some x, cap - L, fun w => ?_, ?_⟩
    · go_simp
    · obtain rfl : len = L := by omega
      rw [Nat.sub_self, List.drop_eq_nil_of_le (by omega)]
      exact .inr ⟨x, rfl, Nat.zero_le _, by omega, rfl, fun i hi => absurd hi (Nat.not_lt_zero _)⟩
  · refine ⟨some (x.add (L * 7)), cap - L, fun w => ?_, ?_⟩
    · go_simp
    · rcases h with ⟨h0, _⟩ | ⟨y, hy, h2, h3, h4, h5⟩
      · cases h0
      · cases hy
        refine .inr ⟨_, rfl, by omega, by omega, by rw [List.length_drop]; omega, fun i hi j v hv => ?_⟩
        have e2 : pAt (ps.drop L) i = pAt ps (L + i) := by
          unfold pAt
          rw [List.getD_eq_getElem?_getD, List.getD_eq_getElem?_getD, List.getElem?_drop]
        rw [e2] at hv
        have h6 := h5 (L + i) (by omega) j v hv
        have h00 := h5 0 (by omega) 0 _ rfl
        obtain ⟨b, f, spot⟩ := x
        have hspot : spot = none := by
          have := World.cell?_spot h00
          simpa [atP, Addr.add] using this
        subst hspot
        have h7 : atP ((⟨b, f, none⟩ : Addr).add (L * 7)) i j = atP ⟨b, f, none⟩ (L + i) j := by
          rw [add_none]
          cases j with
          | zero =>
            show (⟨b, f + L * 7, none⟩ : Addr).add (i * 7) = (⟨b, f, none⟩ : Addr).add ((L + i) * 7)
            rw [add_none, add_none, Nat.add_mul, Nat.add_assoc]
          | succ j =>
            show (⟨((⟨b, f + L * 7, none⟩ : Addr).add (i * 7)).block, ((⟨b, f + L * 7, none⟩ : Addr).add (i * 7)).off + (j + 1), none⟩ : Addr) = ⟨((⟨b, f, none⟩ : Addr).add ((L + i) * 7)).block, ((⟨b, f, none⟩ : Addr).add ((L + i) * 7)).off + (j + 1), none⟩
            rw [add_none, add_none, Nat.add_mul, Nat.add_assoc]
        rw [h7]
        exact h6

end Go.Proofs.Ytncbgejggfkdmab
