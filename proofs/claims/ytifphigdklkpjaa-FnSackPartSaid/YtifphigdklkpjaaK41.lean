/- Plain facts and region steps of the law on blocks that are left out. -/
import Derived.Test.YtifphigdklkpjaaW19
import Derived.Test.YtifphigdklkpjaaG13
import Derived.Test.YtifphigdklkpjaaK37
namespace Go.Proofs.Ytifphigdklkpjaa
open Go.RowKit Go.PlainAid

theorem gaps_less : ∀ {l l' : Int} {gs : List (Int × Int)}, GapsOk l gs → l' ≤ l → GapsOk l' gs
  | _, _, [], _, _ => trivial
  | l, l', g :: gs, ⟨h1, h2, h3, h4⟩, h => ⟨by omega, h2, h3, h4⟩
/-- A block may be left out. -/
theorem gaps_drop : ∀ {l : Int} {gs : List (Int × Int)} (k : Nat), GapsOk l gs → k < gs.length → GapsOk l (gs.take k ++ gs.drop (k + 1))
  | l, [], _, _, h => absurd h (by simp)
  | l, g :: gs, 0, ⟨h1, h2, h3, h4⟩, _ => gaps_less h4 (by omega)
  | l, g :: gs, k + 1, ⟨h1, h2, h3, h4⟩, h => ⟨h1, h2, h3, gaps_drop k h4 (by simpa using h)⟩
theorem gaps_lt' {W : World} {g n cap : Nat} {gs : List (Int × Int)} (h : Gaps W (some ⟨g, 0, none⟩) n cap gs) (hn : 0 < n) : g < W.heap.size := by
  rcases h with ⟨e, _⟩ | ⟨a, e, _, _, _, h10⟩
  · cases e
  · obtain rfl : ⟨g, 0, none⟩ = a := by simpa using e
    have := (h10 0 hn).1
    rw [gap_add] at this
    exact lt_of_cell this
theorem gaps_cap {W : World} {g n cap : Nat} {gs : List (Int × Int)} (h : Gaps W (some ⟨g, 0, none⟩) n cap gs) : n ≤ cap := by
  rcases h with ⟨e, _⟩ | ⟨_, _, h7, _⟩
  · cases e
  · exact h7
theorem flat_cut (gs : List (Int × Int)) (k : Nat) : flat gs = flat (gs.take k) ++ flat (gs.drop k) := by rw [← flat_append, List.take_append_drop]
theorem flat_first {gs : List (Int × Int)} {k j : Nat} {u : Value} (h : (flat (gs.take k))[j]? = some u) : (flat gs)[j]? = some u := by
  rw [flat_cut gs k, List.getElem?_append_left (List.getElem?_eq_some_iff.1 h).1]
  exact h
theorem flat_last {gs : List (Int × Int)} {k j : Nat} {u : Value} (hk : k ≤ gs.length) (h : (flat (gs.drop k))[j]? = some u) : (flat gs)[k * 2 + j]? = some u := by
  have hz : (flat (gs.take k)).length = k * 2 := by rw [flat_length, List.length_take, Nat.min_eq_left hk, Nat.mul_comm]
  rw [flat_cut gs k, List.getElem?_append_right (by omega), hz, Nat.add_sub_cancel_left]
  exact h

/-- Blocks that are appended to a row of one's own, none or some, as a step of a region. -/
theorem step_cat {ops : Array Oper} {o : Oper} {a : Act} {w : World} {K : Act → World → Prop} {Q : Exit → Act → World → Prop} {E : Prop}
    (hg : o.guard = none) (s x : Operand) (hop : o.op = Op.call { callee := Callee.builtin Builtin.append, args := #[s, x], argTypes := #[26, 26] })
    (base i m n cc e cap : Nat) (ad : Addr) (xs ys : List (Int × Int)) (hn : i + m = n) (hv : a.eval s = .slice (some ⟨e, 0, none⟩) i cap) (hown : w.ownsRow base 38 2 (.slice (some ⟨e, 0, none⟩) i cap) i (flat xs))
    (hx : a.eval x = .slice (some ad) m cc) (hl : ys.length = m) (hc : ∀ j u, (flat ys)[j]? = some u → w.cell? (ad.add j) = some u) (him : i + m ≤ 100) (hb : base ≤ w.heap.size)
    (hK : ∀ g3 cap3 w', w'.ownsRow base 38 2 (.slice (some ⟨g3, 0, none⟩) n cap3) n (flat (xs ++ ys)) → w.grownBy w' (some e) → (g3 = e ∨ g3 = w.heap.size) → K (a.put o.dst (.slice (some ⟨g3, 0, none⟩) n cap3)) w') :
    if Region.wanted o (yielded ops a.tmps) = true then Oper.wp Try.prog o a w K Q else E := by
  subst hn
  obtain ⟨i0, hi, hz0, hz1, hz2⟩ := info_parts info_gap
  have hw : Region.wanted o (yielded ops a.tmps) = true := by simp [Region.wanted, hg]
  rw [if_pos hw]
  obtain ⟨v', w', hr, h2, h3, h4, h5⟩ := run_append_own_at (P := Try.prog) w base 26 o.type 38 i0 (.agg #[.int .i64 0, .int .i64 0]) 2 16 Try.underlying26 hi hz0 hz1 hz2 rfl (by decide) _ i (flat xs) hown ad m cc (flat ys) (by rw [flat_length, hl, Nat.mul_comm]) hc (flat_one ys) (by unfold maxLen; omega) (by omega) hb
  obtain ⟨g3, cap3, rfl⟩ : ∃ g3 cap3, v' = .slice (some ⟨g3, 0, none⟩) (i + m) cap3 := by
    rcases h2.2 with ⟨h0, _⟩ | ⟨g3, cap3, _, hv, _⟩
    · have := (h4.1 h0).1
      cases this
    · exact ⟨g3, cap3, hv⟩
  unfold Oper.wp execOp
  simp only [hop, resolve, invoke, builtin, Sem.run_bind, Sem.run_pure, Result.andThen_ok, List.map_toArray, List.map_cons, List.map_nil, hv, hx, hr]
  refine hK g3 cap3 w' (by rw [flat_append]; exact h2) h3 ?_
  rcases h5 with h5 | h5
  · exact .inl (by simpa [Value.ownBlock] using h5)
  · exact .inr (by simpa [Value.ownBlock] using h5)

/-- While a block is left out: the receipt at vb. -/
structure PQ (w : World) (vb H0 : Nat) (c : Int) (g k cap : Nat) (gs : List (Int × Int)) (W : World) : Prop where
  v : VarN vb [.int .i64 c, .slice (some ⟨g, 0, none⟩) k cap] W
  gp : Gaps W (some ⟨g, 0, none⟩) k cap gs
  b : Below w.heap.size w W
  k0 : 0 < k
  o1 : vb < H0
  o2 : g < H0
  o3 : w.heap.size ≤ H0
  o4 : H0 ≤ W.heap.size
section
variable {w W W' : World} {vb H0 : Nat} {c : Int} {g k cap : Nat} {gs : List (Int × Int)}
theorem pq_at (h : PQ w vb H0 c g k cap gs W) : W.cell? ⟨vb, 0, none⟩ = some (.int .i64 c) ∧ W.cell? ⟨vb, 1, none⟩ = some (.slice (some ⟨g, 0, none⟩) k cap) ∧ PQ w vb H0 c g k cap gs W := ⟨(h.v 0 _ rfl).1, (h.v 1 _ rfl).1, h⟩
theorem pq_next (hb : Below W.heap.size W W') (h : W.cell? ⟨vb, 0, none⟩ = some (.int .i64 c) ∧ W.cell? ⟨vb, 1, none⟩ = some (.slice (some ⟨g, 0, none⟩) k cap) ∧ PQ w vb H0 c g k cap gs W) :
    W'.cell? ⟨vb, 0, none⟩ = some (.int .i64 c) ∧ W'.cell? ⟨vb, 1, none⟩ = some (.slice (some ⟨g, 0, none⟩) k cap) ∧ PQ w vb H0 c g k cap gs W' := by
  have q := h.2.2
  exact pq_at ⟨q.v.below hb (lt_of_cell (q.v 0 _ rfl).1), q.gp.below hb, q.b.trans (hb.mono q.b.size), q.k0, q.o1, q.o2, q.o3, Nat.le_trans q.o4 hb.size⟩
theorem pq_grow {e : Nat} (hg : W.grownBy W' (some e)) (he : H0 ≤ e) (h : W.cell? ⟨vb, 0, none⟩ = some (.int .i64 c) ∧ W.cell? ⟨vb, 1, none⟩ = some (.slice (some ⟨g, 0, none⟩) k cap) ∧ PQ w vb H0 c g k cap gs W) :
    W'.cell? ⟨vb, 0, none⟩ = some (.int .i64 c) ∧ W'.cell? ⟨vb, 1, none⟩ = some (.slice (some ⟨g, 0, none⟩) k cap) ∧ PQ w vb H0 c g k cap gs W' := by
  have q := h.2.2
  have hb : Below H0 W W' := (Below.refl _ W).grown hg q.o4 (fun x hx => by cases hx; exact he)
  have hk := q.k0
  have hgp : Gaps W' (some ⟨g, 0, none⟩) k cap gs := by
    rcases q.gp with ⟨e, _⟩ | ⟨a, e, h7, h8, h9, h10⟩
    · cases e
    · obtain rfl : ⟨g, 0, none⟩ = a := by simpa using e
      refine .inr ⟨_, rfl, h7, h8, h9, fun i hi => ?_⟩
      have := h10 i hi
      rw [gap_add] at this ⊢
      exact ⟨kept_cell hb q.o2 this.1, kept_cell hb q.o2 this.2⟩
  exact pq_at ⟨q.v.below hb q.o1, hgp, q.b.trans (hb.mono q.o3), q.k0, q.o1, q.o2, q.o3, Nat.le_trans q.o4 hb.size⟩
theorem pq_far {d : Nat} {x y z : Value} (h : W.cell? ⟨vb, 0, none⟩ = some (.int .i64 c) ∧ W.cell? ⟨vb, 1, none⟩ = some (.slice (some ⟨g, 0, none⟩) k cap) ∧ PQ w vb H0 c g k cap gs W) (hd : H0 ≤ d) :
    (((W.setCell ⟨d, 0, none⟩ x).setCell ⟨d, 1, none⟩ y).setCell ⟨d, 2, none⟩ z).cell? ⟨vb, 0, none⟩ = some (.int .i64 c) ∧ (((W.setCell ⟨d, 0, none⟩ x).setCell ⟨d, 1, none⟩ y).setCell ⟨d, 2, none⟩ z).cell? ⟨vb, 1, none⟩ = some (.slice (some ⟨g, 0, none⟩) k cap) ∧ PQ w vb H0 c g k cap gs (((W.setCell ⟨d, 0, none⟩ x).setCell ⟨d, 1, none⟩ y).setCell ⟨d, 2, none⟩ z) := by
  have q := h.2.2
  have h1 := q.o1
  have h2 := q.o2
  have h3 := q.o3
  have h4 := q.o4
  have e1 : d ≠ vb := by omega
  have e2 : d ≠ g := by omega
  exact pq_at ⟨((q.v.far x e1).far y e1).far z e1, ((q.gp.far e2 x).far e2 y).far e2 z, ((q.b.setCell (p := ⟨d, 0, none⟩) (by show w.heap.size ≤ d; omega) x).setCell (p := ⟨d, 1, none⟩) (by show w.heap.size ≤ d; omega) y).setCell (p := ⟨d, 2, none⟩) (by show w.heap.size ≤ d; omega) z, q.k0, h1, h2, h3, by simpa using h4⟩
theorem pq_refill {a0 a1 a2 x y z : Value} {T : TypeId} (h : (W.alloc (.cells #[a0, a1, a2] T)).cell? ⟨vb, 0, none⟩ = some (.int .i64 c) ∧ (W.alloc (.cells #[a0, a1, a2] T)).cell? ⟨vb, 1, none⟩ = some (.slice (some ⟨g, 0, none⟩) k cap) ∧ PQ w vb H0 c g k cap gs (W.alloc (.cells #[a0, a1, a2] T))) (hd : H0 ≤ W.heap.size) :
    (W.alloc (.cells #[x, y, z] T)).cell? ⟨vb, 0, none⟩ = some (.int .i64 c) ∧ (W.alloc (.cells #[x, y, z] T)).cell? ⟨vb, 1, none⟩ = some (.slice (some ⟨g, 0, none⟩) k cap) ∧ PQ w vb H0 c g k cap gs (W.alloc (.cells #[x, y, z] T)) := by
  have e : (((W.alloc (.cells #[a0, a1, a2] T)).setCell ⟨W.heap.size, 0, none⟩ x).setCell ⟨W.heap.size, 1, none⟩ y).setCell ⟨W.heap.size, 2, none⟩ z = W.alloc (.cells #[x, y, z] T) := by
    rw [World.setCell_alloc_new, World.setCell_alloc_new, World.setCell_alloc_new]
    rfl
  rw [← e]
  exact pq_far h hd
theorem pqp (h : W.cell? ⟨vb, 0, none⟩ = some (.int .i64 c) ∧ W.cell? ⟨vb, 1, none⟩ = some (.slice (some ⟨g, 0, none⟩) k cap) ∧ PQ w vb H0 c g k cap gs W) : PQ w vb H0 c g k cap gs W := h.2.2
theorem lit_own (X : World) (e : Nat) (he : X.heap.size = e) (hb : H0 ≤ e) : (X.alloc (.cells #[] 38)).ownsRow H0 38 2 (.slice (some ⟨e, 0, none⟩) 0 0) 0 (flat []) := by
  subst he
  exact World.ownsRow_lit X #[] 0 hb (by decide) rfl
theorem own_drew {X : World} {base e size n : Nat} {v : Value} {xs : List Value} (h : X.ownsRow base e size v n xs) : X.drew.ownsRow base e size v n xs := own_drewN h 1
theorem own_alloc {X : World} {base e size n : Nat} {v : Value} {xs : List Value} {o : Obj} (h : X.ownsRow base e size v n xs) : (X.alloc o).ownsRow base e size v n xs := h.alloc o
theorem pq_nil (a : Addr) : ∀ j u, (flat ([] : List (Int × Int)))[j]? = some u → W.cell? (a.add j) = some u := fun j u hu => by simp [flat] at hu
theorem pq_none (h : gs.drop k = []) (a : Addr) : ∀ j u, (flat (gs.drop k))[j]? = some u → W.cell? (a.add j) = some u := fun j u hu => by
  rw [h] at hu
  simp [flat] at hu
theorem pq_first (h : PQ w vb H0 c g k cap gs W) (i : Nat) : ∀ j u, (flat (gs.take i))[j]? = some u → W.cell? ((⟨g, 0, none⟩ : Addr).add j) = some u := fun j u hu => gaps_flat h.gp j u (flat_first hu)
theorem pq_last (h : PQ w vb H0 c g k cap gs W) (i : Nat) (hi : i ≤ k) : ∀ j u, (flat (gs.drop i))[j]? = some u → W.cell? ((⟨g, i * 2, none⟩ : Addr).add j) = some u := fun j u hu => by
  have := gaps_flat h.gp _ u (flat_last (by rw [h.gp.length]; exact hi) hu)
  rw [gap_add] at this
  have e : (⟨g, i * 2, none⟩ : Addr).add j = ⟨g, i * 2 + j, none⟩ := by unfold Addr.add; split <;> simp_all
  rw [e]
  exact this
end

end Go.Proofs.Ytifphigdklkpjaa
