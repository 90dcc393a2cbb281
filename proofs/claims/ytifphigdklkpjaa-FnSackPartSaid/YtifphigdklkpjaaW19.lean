/- The walk of the law on blocks that touch. -/
import Derived.Test.YtifphigdklkpjaaW17
import Derived.Deep.AppendLies
import Derived.Deep.CutRange
import Derived.Deep.RegionLawGrows
import Derived.Laws.OwnMore
namespace Go.Proofs.Ytifphigdklkpjaa
open Go.RowKit Go.PlainAid

theorem gaps_flat {W : World} {g k cap : Nat} {gs : List (Int × Int)} (h : Gaps W (some ⟨g, 0, none⟩) k cap gs) : ∀ j u, (flat gs)[j]? = some u → W.cell? ((⟨g, 0, none⟩ : Addr).add j) = some u := by
  intro j u hu
  rcases h with ⟨e, _⟩ | ⟨a, e, h7, h8, h9, h10⟩
  · cases e
  · obtain rfl : ⟨g, 0, none⟩ = a := by simpa using e
    have hj : j < 2 * k := by have := (List.getElem?_eq_some_iff.1 hu).1; rw [flat_length, h9] at this; exact this
    obtain ⟨f1, f2⟩ := flat_get gs (j / 2) (by omega)
    have := h10 (j / 2) (by omega)
    rw [gap_add] at this ⊢
    rcases (show j = j / 2 * 2 ∨ j = j / 2 * 2 + 1 by omega) with hj2 | hj2
    · rw [← hj2] at f1
      rw [f1] at hu
      cases hu
      have t := this.1
      rw [← hj2] at t
      exact t
    · rw [← hj2] at f2
      rw [f2] at hu
      cases hu
      exact (show W.cell? ⟨g, j, none⟩ = W.cell? ⟨g, j / 2 * 2 + 1, none⟩ from congrArg (fun n => W.cell? ⟨g, n, none⟩) hj2).trans this.2
theorem flat_one (gs : List (Int × Int)) : ∀ u ∈ flat gs, u.oneCell' = true := by
  induction gs with
  | nil => intro u hu; simp [flat] at hu
  | cons x xs ih =>
    intro u hu
    simp only [flat, List.mem_cons] at hu
    rcases hu with rfl | rfl | hu
    · rfl
    · rfl
    · exact ih u hu
/-- A row of blocks with room behind it. -/
structure LR (W : World) (g cap k : Nat) (gs : List (Int × Int)) : Prop where
  le : k ≤ cap
  mx : cap ≤ maxLen
  ln : gs.length = k
  has : ∀ j u, (flat gs)[j]? = some u → W.cell? ⟨g, j, none⟩ = some u
  spare : ∀ j, j < cap * 2 → (W.cell? ⟨g, j, none⟩).isSome = true ∧ W.frozen? ⟨g, j, none⟩ = false
theorem LR.of_own {W : World} {base g cap k : Nat} {gs : List (Int × Int)} (h : W.ownsRow base 38 2 (.slice (some ⟨g, 0, none⟩) k cap) k (flat gs)) : LR W g cap k gs := by
  have hl : gs.length = k := by have := h.1; rw [flat_length] at this; omega
  rcases h.2 with ⟨h1, _⟩ | ⟨g', cap', cur, h1, h2, h3, h4, h5, h6, h7⟩
  · exact absurd h1 (by intro e; cases e)
  · obtain ⟨rfl, rfl⟩ : g = g' ∧ cap = cap' := by simpa using h1
    refine ⟨h4, h5, hl, fun j u hu => ?_, fun j hj => ?_⟩
    · have hj : j < k * 2 := by have := (List.getElem?_eq_some_iff.1 hu).1; rw [flat_length] at this; omega
      exact (h.cellAt j hj).trans hu
    · have c1 := cell_of_row W g j cur 38 (0, 0) h3
      refine ⟨?_, ?_⟩
      · rw [c1, Array.getElem?_eq_getElem (by omega)]
        rfl
      · simp [World.frozen?, h3]
theorem LR.gaps {W : World} {g cap k : Nat} {gs : List (Int × Int)} (h : LR W g cap k gs) : Gaps W (some ⟨g, 0, none⟩) k cap gs := by
  refine .inr ⟨_, rfl, h.le, h.mx, h.ln, fun i hi => ?_⟩
  obtain ⟨f1, f2⟩ := flat_get gs i (by have := h.ln; omega)
  rw [gap_add]
  exact ⟨h.has _ _ f1, h.has _ _ f2⟩
theorem LR.lt {W : World} {g cap k : Nat} {gs : List (Int × Int)} (h : LR W g cap k gs) (hk : 0 < k) : g < W.heap.size := by
  obtain ⟨s1, _⟩ := h.spare 0 (by have := h.le; omega)
  obtain ⟨u, hu⟩ := Option.isSome_iff_exists.1 s1
  exact lt_of_cell hu
theorem LR.keep {W W' : World} {g cap k C : Nat} {gs : List (Int × Int)} (h : LR W g cap k gs) (hb : Below C W W') (hg : g < C) : LR W' g cap k gs :=
  ⟨h.le, h.mx, h.ln, fun j u hu => kept_cell hb hg (h.has j u hu), fun j hj => by
    obtain ⟨s1, s2⟩ := h.spare j hj
    obtain ⟨u, hu⟩ := Option.isSome_iff_exists.1 s1
    exact ⟨by rw [kept_cell hb hg hu]; rfl, kept_frozen hb hg s2⟩⟩
theorem LR.put {W : World} {g cap k i : Nat} {gs : List (Int × Int)} (h : LR W g cap k gs) (hi : k * 2 ≤ i) (v : Value) : LR (W.setCell ⟨g, i, none⟩ v) g cap k gs :=
  ⟨h.le, h.mx, h.ln, fun j u hu => cell_other (by have := (List.getElem?_eq_some_iff.1 hu).1; rw [flat_length, h.ln] at this; omega) (h.has j u hu), fun j hj => by
    obtain ⟨s1, s2⟩ := h.spare j hj
    obtain ⟨u, hu⟩ := Option.isSome_iff_exists.1 s1
    refine ⟨?_, by rw [World.frozen?_setCell]; exact s2⟩
    by_cases e : i = j
    · subst e
      rw [World.cell?_setCell_same _ _ _ hu]
      rfl
    · rw [cell_other e hu]
      rfl⟩
theorem LR.grow {W : World} {g cap k : Nat} {gs : List (Int × Int)} (h : LR W g cap k gs) (hr : k + 1 ≤ cap) (x y : Int) : Gaps ((W.setCell ⟨g, k * 2, none⟩ (.int .i64 x)).setCell ⟨g, k * 2 + 1, none⟩ (.int .i64 y)) (some ⟨g, 0, none⟩) (k + 1) cap (gs ++ [(x, y)]) := by
  have L2 := (h.put (Nat.le_refl _) (.int .i64 x)).put (i := k * 2 + 1) (Nat.le_succ _) (.int .i64 y)
  refine .inr ⟨_, rfl, hr, h.mx, by rw [List.length_append, h.ln]; rfl, fun i hi => ?_⟩
  rw [gap_add]
  by_cases e : i < k
  · obtain ⟨f1, f2⟩ := flat_get gs i (by have := h.ln; omega)
    rw [show (gs ++ [(x, y)]).getD i (0, 0) = gs.getD i (0, 0) by rw [List.getD_eq_getElem?_getD, List.getD_eq_getElem?_getD, List.getElem?_append_left (by have := h.ln; omega)]]
    exact ⟨L2.has _ _ f1, L2.has _ _ f2⟩
  · obtain rfl : i = k := by omega
    rw [show (gs ++ [(x, y)]).getD i (0, 0) = (x, y) by rw [List.getD_eq_getElem?_getD, List.getElem?_append_right (by have := h.ln; omega), h.ln, Nat.sub_self]; rfl]
    obtain ⟨s1, _⟩ := h.spare (i * 2) (by omega)
    obtain ⟨u, hu⟩ := Option.isSome_iff_exists.1 s1
    obtain ⟨s2, _⟩ := h.spare (i * 2 + 1) (by omega)
    obtain ⟨u2, hu2⟩ := Option.isSome_iff_exists.1 s2
    exact ⟨cell_other (by omega) (World.cell?_setCell_same _ _ _ hu), World.cell?_setCell_same _ _ _ (cell_other (by omega) hu2)⟩

/-- One block more, as a step of a region: wherever it comes to lie, the old row is as it was. -/
theorem step_more {ops : Array Oper} {o : Oper} {a : Act} {w : World} {K : Act → World → Prop} {Q : Exit → Act → World → Prop} {E : Prop}
    (hg : o.guard = none) (s x : Operand) (hop : o.op = Op.call { callee := Callee.builtin Builtin.append, args := #[s, x], argTypes := #[26, 26] })
    (g cap k : Nat) (gs : List (Int × Int)) (hlr : LR w g cap k gs) (hk : 0 < k) (hk2 : k ≤ 100) (hs : a.eval s = .slice (some ⟨g, 0, none⟩) k cap)
    (ad : Addr) (f t : Int) (hx : a.eval x = .slice (some ad) 1 1) (hc : ∀ j u, [Value.int .i64 f, .int .i64 t][j]? = some u → w.cell? (ad.add j) = some u)
    (hK : ∀ g3 cap3 w', Gaps w' (some ⟨g3, 0, none⟩) (k + 1) cap3 (gs ++ [(f, t)]) → LR w' g cap k gs → Aside w.heap.size g w w' → (∀ C, C ≤ g → Below C w w') → K (a.put o.dst (.slice (some ⟨g3, 0, none⟩) (k + 1) cap3)) w') :
    if Region.wanted o (yielded ops a.tmps) = true then Oper.wp Try.prog o a w K Q else E := by
  obtain ⟨i0, hi, hz0, hz1, hz2⟩ := info_parts info_gap'
  have hgl := hlr.lt hk
  by_cases hr : k + 1 ≤ cap
  · refine step_append_room hg s x 26 hop 38 i0 2 Try.underlying26 hi hz1 g 0 k cap hs ad 1 1 [.int .i64 f, .int .i64 t] hx rfl hc (by intro u hu; simp at hu; rcases hu with rfl | rfl <;> rfl) hr (fun j hj => ?_) ?_
    · rw [Nat.zero_add]
      exact hlr.spare _ (by simp at hj; omega)
    · rw [Nat.zero_add]
      show K _ ((w.setCell ⟨g, k * 2, none⟩ (.int .i64 f)).setCell ⟨g, k * 2 + 1, none⟩ (.int .i64 t))
      have hb : ∀ C, C ≤ g → Below C w ((w.setCell ⟨g, k * 2, none⟩ (.int .i64 f)).setCell ⟨g, k * 2 + 1, none⟩ (.int .i64 t)) := fun C hC =>
        ((Below.refl C w).setCell (p := ⟨g, k * 2, none⟩) hC _).setCell (p := ⟨g, k * 2 + 1, none⟩) hC _
      exact hK g cap _ (hlr.grow hr f t) ((hlr.put (Nat.le_refl _) _).put (Nat.le_succ _) _) (fun b hb hne => by
        rw [Below.heap_setCell _ _ _ _ (by simpa using hne), Below.heap_setCell _ _ _ _ (by simpa using hne)]) hb
  · refine step_append_grows hg s x 26 hop 38 i0 (.agg #[.int .i64 0, .int .i64 0]) 2 16 Try.underlying26 hi hz0 hz1 hz2 rfl (by decide) (some ⟨g, 0, none⟩) k cap (flat gs) hs (by intro e; cases e) (by rw [flat_length, hlr.ln, Nat.mul_comm]) (by intro b hb j u hu; cases hb; rw [gap_add]; exact hlr.has j u hu)
      ad 1 1 [.int .i64 f, .int .i64 t] hx rfl hc (by intro u hu; simp at hu; rcases hu with rfl | rfl <;> rfl) (by omega) (by unfold maxLen; omega) (by omega) ?_
    intro v' w' hown hgrow
    obtain ⟨g3, cap3, rfl⟩ : ∃ g3 cap3, v' = .slice (some ⟨g3, 0, none⟩) (k + 1) cap3 := by
      rcases hown.2 with ⟨_, h0⟩ | ⟨g3, cap3, _, hv, _⟩
      · omega
      · exact ⟨g3, cap3, hv⟩
    have hown' : w'.ownsRow w.heap.size 38 2 (.slice (some ⟨g3, 0, none⟩) (k + 1) cap3) (k + 1) (flat (gs ++ [(f, t)])) := by rw [flat_append]; exact hown
    have hb : Below w.heap.size w w' := (Below.refl _ w).grown hgrow (Nat.le_refl _) (fun k e => by cases e)
    exact hK g3 cap3 w' (LR.of_own hown').gaps (hlr.keep hb hgl) (below_aside hb (Nat.le_refl _)) (fun C hC => hb.mono (by omega))

/-- While touching blocks are tried: the receipt at vb, the last block at lb, the copy of its blocks at g2. -/
structure TQ (w : World) (vb lb : Nat) (c : Int) (g k cap : Nat) (f t : Int) (g2 cap2 : Nat) (gs : List (Int × Int)) (W : World) : Prop where
  v : VarN vb [.int .i64 c, .slice (some ⟨g, 0, none⟩) k cap] W
  l : VarN lb [.int .i64 f, .int .i64 t] W
  lr : LR W g2 cap2 k gs
  b : Below w.heap.size w W
  k0 : 0 < k
  o1 : vb ≠ g2
  o2 : lb ≠ g2
  o3 : w.heap.size ≤ g2
section
variable {w W W' : World} {vb lb : Nat} {c : Int} {g k cap : Nat} {f t : Int} {g2 cap2 : Nat} {gs : List (Int × Int)}
theorem tq_at (h : TQ w vb lb c g k cap f t g2 cap2 gs W) : W.cell? ⟨vb, 0, none⟩ = some (.int .i64 c) ∧ W.cell? ⟨lb, 0, none⟩ = some (.int .i64 f) ∧ W.cell? ⟨lb, 1, none⟩ = some (.int .i64 t) ∧ TQ w vb lb c g k cap f t g2 cap2 gs W :=
  ⟨(h.v 0 _ rfl).1, (h.l 0 _ rfl).1, (h.l 1 _ rfl).1, h⟩
theorem tq_next (hb : Below W.heap.size W W') (h : W.cell? ⟨vb, 0, none⟩ = some (.int .i64 c) ∧ W.cell? ⟨lb, 0, none⟩ = some (.int .i64 f) ∧ W.cell? ⟨lb, 1, none⟩ = some (.int .i64 t) ∧ TQ w vb lb c g k cap f t g2 cap2 gs W) :
    W'.cell? ⟨vb, 0, none⟩ = some (.int .i64 c) ∧ W'.cell? ⟨lb, 0, none⟩ = some (.int .i64 f) ∧ W'.cell? ⟨lb, 1, none⟩ = some (.int .i64 t) ∧ TQ w vb lb c g k cap f t g2 cap2 gs W' := by
  have q := h.2.2.2
  have hg := q.lr.lt q.k0
  have hv := lt_of_cell (q.v 0 _ rfl).1
  exact tq_at ⟨q.v.below hb hv, q.l.below hb (lt_of_cell (q.l 0 _ rfl).1), q.lr.keep hb hg, q.b.trans (hb.mono q.b.size), q.k0, q.o1, q.o2, q.o3⟩
theorem tq_more (hlr : LR W' g2 cap2 k gs) (ha : Aside W.heap.size g2 W W') (hb : ∀ C, C ≤ g2 → Below C W W') (h : W.cell? ⟨vb, 0, none⟩ = some (.int .i64 c) ∧ W.cell? ⟨lb, 0, none⟩ = some (.int .i64 f) ∧ W.cell? ⟨lb, 1, none⟩ = some (.int .i64 t) ∧ TQ w vb lb c g k cap f t g2 cap2 gs W) :
    W'.cell? ⟨vb, 0, none⟩ = some (.int .i64 c) ∧ W'.cell? ⟨lb, 0, none⟩ = some (.int .i64 f) ∧ W'.cell? ⟨lb, 1, none⟩ = some (.int .i64 t) ∧ TQ w vb lb c g k cap f t g2 cap2 gs W' := by
  have q := h.2.2.2
  exact tq_at ⟨q.v.aside ha (lt_of_cell (q.v 0 _ rfl).1) q.o1, q.l.aside ha (lt_of_cell (q.l 0 _ rfl).1) q.o2, hlr, q.b.trans (hb _ q.o3), q.k0, q.o1, q.o2, q.o3⟩
theorem LR.far {W : World} {g cap k d i : Nat} {gs : List (Int × Int)} (h : LR W g cap k gs) (hd : d ≠ g) (v : Value) : LR (W.setCell ⟨d, i, none⟩ v) g cap k gs :=
  ⟨h.le, h.mx, h.ln, fun j u hu => cell_far hd (h.has j u hu), fun j hj => by
    obtain ⟨s1, s2⟩ := h.spare j hj
    obtain ⟨u, hu⟩ := Option.isSome_iff_exists.1 s1
    exact ⟨by rw [cell_far hd hu]; rfl, by rw [World.frozen?_setCell]; exact s2⟩⟩
theorem tq_far {d : Nat} {x y z : Value} (h : W.cell? ⟨vb, 0, none⟩ = some (.int .i64 c) ∧ W.cell? ⟨lb, 0, none⟩ = some (.int .i64 f) ∧ W.cell? ⟨lb, 1, none⟩ = some (.int .i64 t) ∧ TQ w vb lb c g k cap f t g2 cap2 gs W) (h1 : d ≠ vb) (h2 : d ≠ lb) (h3 : d ≠ g2) (h4 : w.heap.size ≤ d) :
    (((W.setCell ⟨d, 0, none⟩ x).setCell ⟨d, 1, none⟩ y).setCell ⟨d, 2, none⟩ z).cell? ⟨vb, 0, none⟩ = some (.int .i64 c) ∧ (((W.setCell ⟨d, 0, none⟩ x).setCell ⟨d, 1, none⟩ y).setCell ⟨d, 2, none⟩ z).cell? ⟨lb, 0, none⟩ = some (.int .i64 f) ∧ (((W.setCell ⟨d, 0, none⟩ x).setCell ⟨d, 1, none⟩ y).setCell ⟨d, 2, none⟩ z).cell? ⟨lb, 1, none⟩ = some (.int .i64 t) ∧ TQ w vb lb c g k cap f t g2 cap2 gs (((W.setCell ⟨d, 0, none⟩ x).setCell ⟨d, 1, none⟩ y).setCell ⟨d, 2, none⟩ z) := by
  have q := h.2.2.2
  exact tq_at ⟨((q.v.far x h1).far y h1).far z h1, ((q.l.far x h2).far y h2).far z h2, ((q.lr.far h3 x).far h3 y).far h3 z, ((q.b.setCell (p := ⟨d, 0, none⟩) h4 x).setCell (p := ⟨d, 1, none⟩) h4 y).setCell (p := ⟨d, 2, none⟩) h4 z, q.k0, q.o1, q.o2, q.o3⟩
theorem tqlr (h : W.cell? ⟨vb, 0, none⟩ = some (.int .i64 c) ∧ W.cell? ⟨lb, 0, none⟩ = some (.int .i64 f) ∧ W.cell? ⟨lb, 1, none⟩ = some (.int .i64 t) ∧ TQ w vb lb c g k cap f t g2 cap2 gs W) : LR W g2 cap2 k gs := h.2.2.2.lr
end
theorem below_drew_alloc (w : World) (o : Obj) : Below w.drew.heap.size w.drew (w.alloc o).drew := (Below.refl _ w.drew).alloc (Nat.le_refl _) o
theorem news_drew {w : World} {x y : Value} {T : TypeId} : ∀ j u, [x, y][j]? = some u → (w.alloc (.cells #[x, y] T)).drew.cell? ((⟨w.heap.size, 0, none⟩ : Addr).add j) = some u := fun j u h => by
  rw [World.cell?_drew]
  exact news_two j u h
theorem varN_drew (w : World) (vs : List Value) (T : TypeId) : VarN w.heap.size vs (w.alloc (.cells vs.toArray T)).drew := (VarN.new w vs T).drewN 1
theorem varN_drew2 (w : World) (vs : List Value) (T : TypeId) (o : Obj) : VarN w.heap.size vs ((w.alloc (.cells vs.toArray T)).alloc o).drew := ((VarN.new w vs T).alloc o (by simp)).drewN 1
theorem news_past {w : World} {x y : Value} {T : TypeId} {o : Obj} : ∀ j u, [x, y][j]? = some u → ((w.alloc (.cells #[x, y] T)).alloc o).drew.cell? ((⟨w.heap.size, 0, none⟩ : Addr).add j) = some u := fun j u h => by
  have e := news_two (w := w) (T := T) j u h
  rw [gap_add] at e
  rw [World.cell?_drew, gap_add]
  exact past_cell e _
theorem news_second {w : World} {x y : Value} {T : TypeId} {o : Obj} {H : Nat} (e : H = w.heap.size + 1) : ∀ j u, [x, y][j]? = some u → ((w.alloc o).alloc (.cells #[x, y] T)).drew.cell? ((⟨H, 0, none⟩ : Addr).add j) = some u := fun j u h => by
  rw [World.cell?_drew]
  exact news_at (by simp [e]) j u h
theorem gaps_last {gs : List (Int × Int)} (h : GapsOk 0 gs) {k : Nat} (hl : gs.length = k) (hk : 0 < k) {f t : Int} (hf : (gs.getD (k - 1) (0, 0)).1 = f) (ht : (gs.getD (k - 1) (0, 0)).2 = t) : lastOf 0 gs = t ∧ f ≤ t ∧ t ≤ 16 ∧ 2 ≤ f := by
  have e := last_next (gs := gs) (k := k - 1) (by omega)
  rw [show k - 1 + 1 = k by omega, List.take_of_length_le (by omega), ht] at e
  have n := (gaps_next (gs := gs) (k := k - 1) (by omega) hf ht (gaps_head h)).1 (gaps_head h)
  have r := last_range (gaps_head (k := k - 1) h) (by decide) (by decide)
  exact ⟨e, n.2.1, n.2.2, by omega⟩
theorem sack_no_more {c : Int} {gs : List (Int × Int)} {x : Int × Int} (h : x.1 < lastOf 0 gs + 2) : ¬ SackOk c (gs ++ [x]) := fun k => by
  have := (gaps_append.1 k.2).2
  exact absurd this.1 (by omega)

set_option maxHeartbeats 12000000 in
set_option maxRecDepth 100000 in
theorem walk_fnSackTouch (a0 : Option Addr) (len0 cap0 : Nat) (z0 : List Int) (w : World) (w0 : IsRow .u8 w a0 len0 cap0 z0) :
    Calls Try.prog 5 #[.slice a0 len0 cap0] w fun e w' => e = .returned (.bool true) ∧ Below w.heap.size w w' := by
  have H := Lib.hid w0
  clear w0
  by_cases hl : (1048576 : Int) < len0
  · go_enter Try.func5, Try.ntmps5
    go_wp2
    go_ret
    exact ⟨rfl, Below.refl _ _⟩
  · go_enter Try.func5, Try.ntmps5
    go_wp2_with fail
    refine (drawSackPut_any a0 len0 cap0 z0 _ H.out).mono ?_
    rintro e w1 ⟨c, g, k, cap, gs, rfl, ⟨nc0, nc1⟩, nk, hgp, hsm, hb1⟩
    have GA := Lib.hid hgp
    clear hgp
    by_cases hc : SackOk c gs
    · by_cases hk0 : k = 0
      · subst hk0
        have HC := Lib.hid hc
        clear hc
        go_wp2_with fail
        refine (sackPut_yes c _ 0 cap gs _ ((GA.out).below (below_box (.cells (List.toArray [.int .i64 c, .slice (some ⟨g, 0, none⟩) 0 cap]) 28) (Nat.le_refl _))) HC.out).mono ?_
        rintro e w2 ⟨rfl, hb2⟩
        have Vv := Lib.hid ((VarN.new_at (w := w1) (d := w1.heap.size) (by simp) [.int .i64 c, .slice (some ⟨g, 0, none⟩) 0 cap] 28).below hb2 (by simp))
        have HB2 := Lib.hid (((hb1).alloc (Nat.le_trans hb1.size (by exact Nat.le_refl _)) (.cells (List.toArray [.int .i64 c, .slice (some ⟨g, 0, none⟩) 0 cap]) 28)).trans (hb2.mono (Nat.le_trans hb1.size (by simp <;> omega))))
        have ltv : w1.heap.size < w2.heap.size := lt_of_cell (Vv.out 0 _ rfl).1
        have nev : ¬ w1.heap.size = w2.heap.size := by omega
        have GA := Lib.hid (((GA.out).below (below_box (.cells (List.toArray [.int .i64 c, .slice (some ⟨g, 0, none⟩) 0 cap]) 28) (Nat.le_refl _))).below hb2)
        clear hb2
        unfold madeV
        have v0 := (Vv.out 0 _ rfl).1
        have vf0 := (Vv.out 0 _ rfl).2
        have v1 := (Vv.out 1 _ rfl).1
        have vf1 := (Vv.out 1 _ rfl).2
        go_wp2_with fail
        refine (sSackPut_yes c _ 0 cap gs _ ((GA.out).below (below_box (.cells (List.toArray [.int .i64 3, .int .i64 0, .string (sackS c gs)]) 24) (Nat.le_refl _))) HC.out).mono ?_
        rintro e w3 ⟨rfl, hb3⟩
        clear v0 vf0 v1 vf1
        have Vv := Lib.hid (((Vv.out).alloc (.cells (List.toArray [.int .i64 3, .int .i64 0, .string (sackS c gs)]) 24) (by omega)).below hb3 (by simp; omega))
        have Vo := Lib.hid ((VarN.new_at (w := w2) (d := w2.heap.size) (by simp) [.int .i64 3, .int .i64 0, .string (sackS c gs)] 24).below hb3 (by simp))
        have HB3 := Lib.hid (((HB2.out).alloc (Nat.le_trans HB2.out.size (by exact Nat.le_refl _)) (.cells (List.toArray [.int .i64 3, .int .i64 0, .string (sackS c gs)]) 24)).trans (hb3.mono (Nat.le_trans HB2.out.size (by simp <;> omega))))
        have ltv : w1.heap.size < w3.heap.size := lt_of_cell (Vv.out 0 _ rfl).1
        have lto : w2.heap.size < w3.heap.size := lt_of_cell (Vo.out 0 _ rfl).1
        have nev : ¬ w1.heap.size = w3.heap.size := by omega
        have neo : ¬ w2.heap.size = w3.heap.size := by omega
        have GA := Lib.hid (((GA.out).below (below_box (.cells (List.toArray [.int .i64 3, .int .i64 0, .string (sackS c gs)]) 24) (Nat.le_refl _))).below hb3)
        clear hb3
        unfold madeV
        have v0 := (Vv.out 0 _ rfl).1
        have vf0 := (Vv.out 0 _ rfl).2
        have v1 := (Vv.out 1 _ rfl).1
        have vf1 := (Vv.out 1 _ rfl).2
        have o0 := (Vo.out 0 _ rfl).1
        have of0 := (Vo.out 0 _ rfl).2
        have o1 := (Vo.out 1 _ rfl).1
        have of1 := (Vo.out 1 _ rfl).2
        have o2 := (Vo.out 2 _ rfl).1
        have of2 := (Vo.out 2 _ rfl).2
        go_wp2
        go_ret
        exact ⟨rfl, (HB3.out).alloc (Nat.le_trans HB3.out.size (by exact Nat.le_refl _)) _⟩
      · have HC := Lib.hid hc
        clear hc
        go_wp2_with fail
        refine (sackPut_yes c _ k cap gs _ ((GA.out).below (below_box (.cells (List.toArray [.int .i64 c, .slice (some ⟨g, 0, none⟩) k cap]) 28) (Nat.le_refl _))) HC.out).mono ?_
        rintro e w2 ⟨rfl, hb2⟩
        have Vv := Lib.hid ((VarN.new_at (w := w1) (d := w1.heap.size) (by simp) [.int .i64 c, .slice (some ⟨g, 0, none⟩) k cap] 28).below hb2 (by simp))
        have HB2 := Lib.hid (((hb1).alloc (Nat.le_trans hb1.size (by exact Nat.le_refl _)) (.cells (List.toArray [.int .i64 c, .slice (some ⟨g, 0, none⟩) k cap]) 28)).trans (hb2.mono (Nat.le_trans hb1.size (by simp <;> omega))))
        have ltv : w1.heap.size < w2.heap.size := lt_of_cell (Vv.out 0 _ rfl).1
        have nev : ¬ w1.heap.size = w2.heap.size := by omega
        have GA := Lib.hid (((GA.out).below (below_box (.cells (List.toArray [.int .i64 c, .slice (some ⟨g, 0, none⟩) k cap]) 28) (Nat.le_refl _))).below hb2)
        clear hb2
        unfold madeV
        have v0 := (Vv.out 0 _ rfl).1
        have vf0 := (Vv.out 0 _ rfl).2
        have v1 := (Vv.out 1 _ rfl).1
        have vf1 := (Vv.out 1 _ rfl).2
        go_wp2_with fail
        refine (sSackPut_yes c _ k cap gs _ ((GA.out).below (below_box (.cells (List.toArray [.int .i64 3, .int .i64 0, .string (sackS c gs)]) 24) (Nat.le_refl _))) HC.out).mono ?_
        rintro e w3 ⟨rfl, hb3⟩
        clear v0 vf0 v1 vf1
        have Vv := Lib.hid (((Vv.out).alloc (.cells (List.toArray [.int .i64 3, .int .i64 0, .string (sackS c gs)]) 24) (by omega)).below hb3 (by simp; omega))
        have Vo := Lib.hid ((VarN.new_at (w := w2) (d := w2.heap.size) (by simp) [.int .i64 3, .int .i64 0, .string (sackS c gs)] 24).below hb3 (by simp))
        have HB3 := Lib.hid (((HB2.out).alloc (Nat.le_trans HB2.out.size (by exact Nat.le_refl _)) (.cells (List.toArray [.int .i64 3, .int .i64 0, .string (sackS c gs)]) 24)).trans (hb3.mono (Nat.le_trans HB2.out.size (by simp <;> omega))))
        have ltv : w1.heap.size < w3.heap.size := lt_of_cell (Vv.out 0 _ rfl).1
        have lto : w2.heap.size < w3.heap.size := lt_of_cell (Vo.out 0 _ rfl).1
        have nev : ¬ w1.heap.size = w3.heap.size := by omega
        have neo : ¬ w2.heap.size = w3.heap.size := by omega
        have GA := Lib.hid (((GA.out).below (below_box (.cells (List.toArray [.int .i64 3, .int .i64 0, .string (sackS c gs)]) 24) (Nat.le_refl _))).below hb3)
        clear hb3
        unfold madeV
        have v0 := (Vv.out 0 _ rfl).1
        have vf0 := (Vv.out 0 _ rfl).2
        have v1 := (Vv.out 1 _ rfl).1
        have vf1 := (Vv.out 1 _ rfl).2
        have o0 := (Vo.out 0 _ rfl).1
        have of0 := (Vo.out 0 _ rfl).2
        have o1 := (Vo.out 1 _ rfl).1
        have of1 := (Vo.out 1 _ rfl).2
        have o2 := (Vo.out 2 _ rfl).1
        have of2 := (Vo.out 2 _ rfl).2
        have hl := GA.out.length
        have hk1 : 0 < k := by omega
        obtain ⟨q0, q1⟩ : w3.cell? ⟨g, (k - 1) * 2, none⟩ = some (.int .i64 (gs.getD (k - 1) (0, 0)).1) ∧ w3.cell? ⟨g, (k - 1) * 2 + 1, none⟩ = some (.int .i64 (gs.getD (k - 1) (0, 0)).2) := by
          rcases GA.out with ⟨h0, _⟩ | ⟨x, hx, h1, h2, h3, h4⟩
          · cases h0
          · obtain rfl : (⟨g, 0, none⟩ : Addr) = x := by simpa using hx
            have := h4 (k - 1) (by omega)
            rw [gap_add] at this
            exact this
        obtain ⟨f, hf⟩ : ∃ f, (gs.getD (k - 1) (0, 0)).1 = f := ⟨_, rfl⟩
        obtain ⟨t, ht⟩ : ∃ t, (gs.getD (k - 1) (0, 0)).2 = t := ⟨_, rfl⟩
        obtain ⟨z1, z2, z3, z4⟩ := gaps_last HC.out.2 hl hk1 hf ht
        rw [hf] at q0
        rw [ht] at q1
        have N1 := Lib.hid (sack_no_more (c := c) (gs := gs) (x := (t + 1, t + 1)) (by rw [z1]; show t + 1 < t + 2; omega))
        have N2 := Lib.hid (sack_no_more (c := c) (gs := gs) (x := (f, t)) (by rw [z1]; show f < t + 2; omega))
        clear hf ht z1
        have hgl := lt_of_cell q0
        have v1p3 := fun o0 o1 o2 => past_cell (past_cell (past_cell v1 o0) o1) o2
        have v1p2 := fun o0 o1 => past_cell (past_cell v1 o0) o1
        have neg : ¬ g = w3.heap.size := by omega
        have neg1 : ¬ g = w3.heap.size + 1 := by omega
        have neg2 : ¬ g = w3.heap.size + 1 + 1 := by omega
        have hw1 : IntKind.i64.wrap ((k : Int) - 1) = ((k - 1 : Nat) : Int) := (IntWalk.i64_in _ (by omega)).trans (by omega)
        have i1 : k - 1 < k := by omega
        have wt : IntKind.i64.wrap (t + 1) = t + 1 := IntWalk.i64_in _ (by omega)
        obtain ⟨i0, hi, hz0, hz1, hz2⟩ := info_parts info_gap'
        have HI := Lib.hid (And.intro hi (And.intro hz0 (And.intro hz1 hz2)))
        clear hi hz0 hz1 hz2
        have GE := Lib.hid (((GA.out.below (below_box (.cells (List.toArray [.int .i64 3, .int .i64 0, .string (sackS c gs)]) 24) (Nat.le_refl _))).below (below_box (.cells (List.toArray [.int .i64 f, .int .i64 t]) 38) (Nat.le_refl _))).below (below_box (.cells #[] 38) (Nat.le_refl _)))
        have nev1 : ¬ w1.heap.size = w3.heap.size + 1 := by omega
        have nev2 : ¬ w1.heap.size = w3.heap.size + 1 + 1 := by omega
        have LE := Lib.hid (World.ownsRow_lit (base := w3.heap.size + 1 + 1) (e := 38) (size := 2) ((w3.alloc (.cells (List.toArray [.int .i64 3, .int .i64 0, .string (sackS c gs)]) 24)).alloc (.cells (List.toArray [.int .i64 f, .int .i64 t]) 38)) #[] 0 (by simp) (by decide) rfl)
        go_wp2_with (at_builtin; go_loud (refine wpList_append_lies _ rfl _ _ 26 rfl (w3.heap.size + 1 + 1) 38 i0 (.agg #[.int .i64 0, .int .i64 0]) 2 16 Try.underlying26 HI.out.1 HI.out.2.1 HI.out.2.2.1 HI.out.2.2.2 rfl (by decide) (.slice (some ⟨w3.heap.size + 1 + 1, 0, none⟩) 0 0) 0 [] rfl (by simpa using LE.out) ⟨g, 0, none⟩ k cap (flat gs) rfl (by rw [flat_length, hl, Nat.mul_comm]) (gaps_flat GE.out) (flat_one gs) hk1 (by unfold maxLen; omega) (by omega) (by simp) _ rfl ?_))
        intro g2 cap2 w5 hown5 hgrow5 hat5 hlt5
        have hg2 : w3.heap.size + 1 + 1 ≤ g2 := own_ge hown5 rfl
        have hgrow5' : (((w3.alloc (.cells (List.toArray [.int .i64 3, .int .i64 0, .string (sackS c gs)]) 24)).alloc (.cells (List.toArray [.int .i64 f, .int .i64 t]) 38)).alloc (.cells #[] 38)).grownBy w5 (some (w3.heap.size + 1 + 1)) := hgrow5
        have VV := (((Vv.out.alloc (.cells (List.toArray [.int .i64 3, .int .i64 0, .string (sackS c gs)]) 24) ltv).alloc (.cells (List.toArray [.int .i64 f, .int .i64 t]) 38) (by simp; omega)).alloc (.cells #[] 38) (by simp; omega)).more hgrow5' (by simp; omega) (by omega)
        have LL := ((VarN.new_at (w := w3.alloc (.cells (List.toArray [.int .i64 3, .int .i64 0, .string (sackS c gs)]) 24)) (d := w3.heap.size + 1) (by simp) [.int .i64 f, .int .i64 t] 38).alloc (.cells #[] 38) (by simp)).more hgrow5' (by simp) (by omega)
        have hsw := HB3.out.size
        have BB := (((HB3.out.alloc hsw (.cells (List.toArray [.int .i64 3, .int .i64 0, .string (sackS c gs)]) 24)).alloc (by simp; omega) (.cells (List.toArray [.int .i64 f, .int .i64 t]) 38)).alloc (by simp; omega) (.cells #[] 38)).grown hgrow5' (by simp; omega) (fun x e => by cases e; omega)
        have T5 : TQ w w1.heap.size (w3.heap.size + 1) c g k cap f t g2 cap2 gs w5 := ⟨VV, LL, LR.of_own hown5, BB, hk1, by omega, by omega, by omega⟩
        have hT := Lib.hid (tq_next (Below.drew (Below.refl _ _)) (tq_at T5))
        obtain ⟨s0, l0, l1, T6⟩ := tq_at T5
        have hg5 := T6.lr.lt hk1
        have hv5 := lt_of_cell s0
        have hl5 := lt_of_cell l0
        clear T6
        clear VV LL BB T5 hown5 hgrow5 hgrow5' hat5 hlt5 LE GE q0 q1 neg neg1 neg2 nev1 nev2 v1p3 v1p2 v0 vf0 v1 vf1 o0 of0 o1 of1 o2 of2 hgl hw1 i1
        go_upto_region 10 with fail
        go_cut [10, 11] from 67 to 83 (fun p b wx => b = .bool false ∧ TQ w w1.heap.size (w3.heap.size + 1) c g k cap f t g2 cap2 gs wx)
        case first =>
          go_region_held_law (fun W => W.cell? ⟨w1.heap.size, 0, none⟩ = some (.int .i64 c) ∧ W.cell? ⟨w3.heap.size + 1, 0, none⟩ = some (.int .i64 f) ∧ W.cell? ⟨w3.heap.size + 1, 1, none⟩ = some (.int .i64 t) ∧ TQ w w1.heap.size (w3.heap.size + 1) c g k cap f t g2 cap2 gs W)
            (first | with_reducible assumption | with_reducible exact hT.out | exact tq_next (by first | assumption | exact below_box _ (Nat.le_refl _) | exact below_drew_alloc _ _ | exact Below.drew (Below.refl _ _)) (by assumption) | exact tq_more (by assumption) (by assumption) (by assumption) (by assumption) | exact tq_far (by assumption) (by first | omega | (simp; omega)) (by first | omega | (simp; omega)) (by first | omega | (simp; omega)) (by first | omega | (simp; omega)))
            (first
              | (refine step_more (by rfl) _ _ (by rfl) g2 cap2 k gs (tqlr (by assumption)) hk1 (by omega) (by rfl) ⟨_, 0, none⟩ (t + 1) (t + 1) (by rfl) (by first | exact news_two | exact news_drew | exact news_past | exact news_second (by simp)) ?_; intro g3 cap3 w' hgp hlr has hbl; have hws := (hbl 0 (Nat.zero_le _)).size; simp at hws; have hgl2 := hlr.lt hk1; try (have hR := VarN.aside (vs := [.int .i64 0, .int .i64 0, .string (ByteArray.mk #[])]) (by first | exact varN_drew _ _ 24 | exact varN_drew2 _ _ 24 _) has (by first | (simp; done) | (simp; omega)) (by first | omega | (simp; omega)); try rw [World.size_alloc] at hR))
              | (go_simp; go_at_call 11; refine (sackPut_no c _ (k + 1) _ (gs ++ [((t + 1), (t + 1))]) _ (by first | assumption | exact hgp.below (below_box _ (Nat.le_refl _))) N1.out).mono ?_; rintro e w' ⟨rfl, hbn⟩; unfold notMadeV; try (first | (have hR2 := VarN.below (VarN.new _ [.int .i64 0, .int .i64 0, .string (ByteArray.mk #[])] 24) hbn (by simp); have r0 := (hR2 0 _ rfl).1; have r1 := (hR2 1 _ rfl).1; have r2 := (hR2 2 _ rfl).1; have rf0 := (hR2 0 _ rfl).2; have rf1 := (hR2 1 _ rfl).2; have rf2 := (hR2 2 _ rfl).2) | (have hR2 := VarN.below hR hbn (lt_of_cell (hR 0 _ rfl).1); have r0 := (hR2 0 _ rfl).1; have r1 := (hR2 1 _ rfl).1; have r2 := (hR2 2 _ rfl).1; have rf0 := (hR2 0 _ rfl).2; have rf1 := (hR2 1 _ rfl).2; have rf2 := (hR2 2 _ rfl).2))))
          all_goals
            rename_i hHeld
            have HW := hHeld.2.2.2
            go_wp2_with fail
            go_meet
            exact ⟨rfl, HW⟩
        case rest =>
          obtain ⟨rfl, T6⟩ := hcut
          clear hT s0 l0 l1 hg5 hv5 hl5
          have hT := Lib.hid (tq_next (Below.drew (Below.refl _ _)) (tq_at T6))
          obtain ⟨s0, l0, l1, T7⟩ := tq_at T6
          have hg5 := T7.lr.lt hk1
          have hv5 := lt_of_cell s0
          have hl5 := lt_of_cell l0
          clear T6 T7
          go_upto_region 11 with fail
          go_cut [12, 13] from 84 to 94 (fun p b wx => b = .bool false ∧ TQ w w1.heap.size (w3.heap.size + 1) c g k cap f t g2 cap2 gs wx)
          case first =>
            go_region_held_law (fun W => W.cell? ⟨w1.heap.size, 0, none⟩ = some (.int .i64 c) ∧ W.cell? ⟨w3.heap.size + 1, 0, none⟩ = some (.int .i64 f) ∧ W.cell? ⟨w3.heap.size + 1, 1, none⟩ = some (.int .i64 t) ∧ TQ w w1.heap.size (w3.heap.size + 1) c g k cap f t g2 cap2 gs W)
              (first | with_reducible assumption | with_reducible exact hT.out | exact tq_next (by first | assumption | exact below_box _ (Nat.le_refl _) | exact below_drew_alloc _ _ | exact Below.drew (Below.refl _ _)) (by assumption) | exact tq_more (by assumption) (by assumption) (by assumption) (by assumption) | exact tq_far (by assumption) (by first | omega | (simp; omega)) (by first | omega | (simp; omega)) (by first | omega | (simp; omega)) (by first | omega | (simp; omega)))
              (first
                | (refine step_more (by rfl) _ _ (by rfl) g2 cap2 k gs (tqlr (by assumption)) hk1 (by omega) (by rfl) ⟨_, 0, none⟩ f t (by rfl) (by first | exact news_two | exact news_drew | exact news_past | exact news_second (by simp)) ?_; intro g3 cap3 w' hgp hlr has hbl; have hws := (hbl 0 (Nat.zero_le _)).size; simp at hws; have hgl2 := hlr.lt hk1; try (have hR := VarN.aside (vs := [.int .i64 0, .int .i64 0, .string (ByteArray.mk #[])]) (by first | exact varN_drew _ _ 24 | exact varN_drew2 _ _ 24 _) has (by first | (simp; done) | (simp; omega)) (by first | omega | (simp; omega)); try rw [World.size_alloc] at hR))
                | (go_simp; go_at_call 11; refine (sackPut_no c _ (k + 1) _ (gs ++ [(f, t)]) _ (by first | assumption | exact hgp.below (below_box _ (Nat.le_refl _))) N2.out).mono ?_; rintro e w' ⟨rfl, hbn⟩; unfold notMadeV; try (first | (have hR2 := VarN.below (VarN.new _ [.int .i64 0, .int .i64 0, .string (ByteArray.mk #[])] 24) hbn (by simp); have r0 := (hR2 0 _ rfl).1; have r1 := (hR2 1 _ rfl).1; have r2 := (hR2 2 _ rfl).1; have rf0 := (hR2 0 _ rfl).2; have rf1 := (hR2 1 _ rfl).2; have rf2 := (hR2 2 _ rfl).2) | (have hR2 := VarN.below hR hbn (lt_of_cell (hR 0 _ rfl).1); have r0 := (hR2 0 _ rfl).1; have r1 := (hR2 1 _ rfl).1; have r2 := (hR2 2 _ rfl).1; have rf0 := (hR2 0 _ rfl).2; have rf1 := (hR2 1 _ rfl).2; have rf2 := (hR2 2 _ rfl).2))))
            all_goals
              rename_i hHeld
              have HW := hHeld.2.2.2
              go_wp2_with fail
              go_meet
              exact ⟨rfl, HW⟩
          case rest =>
            obtain ⟨rfl, T8⟩ := hcut
            clear hT s0 l0 l1
            have HW := Lib.hid T8
            clear T8
            go_wp2
            go_ret
            exact ⟨rfl, HW.out.b⟩
    · have HC := Lib.hid hc
      clear hc
      go_wp2_with fail
      refine (sackPut_no c _ k cap gs _ ((GA.out).below (below_box (.cells (List.toArray [.int .i64 c, .slice (some ⟨g, 0, none⟩) k cap]) 28) (Nat.le_refl _))) HC.out).mono ?_
      rintro e w2 ⟨rfl, hb2⟩
      have Vv := Lib.hid ((VarN.new_at (w := w1) (d := w1.heap.size) (by simp) [.int .i64 c, .slice (some ⟨g, 0, none⟩) k cap] 28).below hb2 (by simp))
      have HB2 := Lib.hid (((hb1).alloc (Nat.le_trans hb1.size (by exact Nat.le_refl _)) (.cells (List.toArray [.int .i64 c, .slice (some ⟨g, 0, none⟩) k cap]) 28)).trans (hb2.mono (Nat.le_trans hb1.size (by simp <;> omega))))
      have ltv : w1.heap.size < w2.heap.size := lt_of_cell (Vv.out 0 _ rfl).1
      have nev : ¬ w1.heap.size = w2.heap.size := by omega
      have GA := Lib.hid (((GA.out).below (below_box (.cells (List.toArray [.int .i64 c, .slice (some ⟨g, 0, none⟩) k cap]) 28) (Nat.le_refl _))).below hb2)
      clear hb2
      unfold notMadeV
      have v0 := (Vv.out 0 _ rfl).1
      have vf0 := (Vv.out 0 _ rfl).2
      have v1 := (Vv.out 1 _ rfl).1
      have vf1 := (Vv.out 1 _ rfl).2
      go_wp2_with fail
      refine (sSackPut_no c _ k cap gs _ ((GA.out).below (below_box (.cells (List.toArray [.int .i64 0, .int .i64 0, .string (ByteArray.mk #[])]) 24) (Nat.le_refl _))) HC.out).mono ?_
      rintro e w3 ⟨rfl, hb3⟩
      clear v0 vf0 v1 vf1
      have Vv := Lib.hid (((Vv.out).alloc (.cells (List.toArray [.int .i64 0, .int .i64 0, .string (ByteArray.mk #[])]) 24) (by omega)).below hb3 (by simp; omega))
      have Vo := Lib.hid ((VarN.new_at (w := w2) (d := w2.heap.size) (by simp) [.int .i64 0, .int .i64 0, .string (ByteArray.mk #[])] 24).below hb3 (by simp))
      have HB3 := Lib.hid (((HB2.out).alloc (Nat.le_trans HB2.out.size (by exact Nat.le_refl _)) (.cells (List.toArray [.int .i64 0, .int .i64 0, .string (ByteArray.mk #[])]) 24)).trans (hb3.mono (Nat.le_trans HB2.out.size (by simp <;> omega))))
      have ltv : w1.heap.size < w3.heap.size := lt_of_cell (Vv.out 0 _ rfl).1
      have lto : w2.heap.size < w3.heap.size := lt_of_cell (Vo.out 0 _ rfl).1
      have nev : ¬ w1.heap.size = w3.heap.size := by omega
      have neo : ¬ w2.heap.size = w3.heap.size := by omega
      have GA := Lib.hid (((GA.out).below (below_box (.cells (List.toArray [.int .i64 0, .int .i64 0, .string (ByteArray.mk #[])]) 24) (Nat.le_refl _))).below hb3)
      clear hb3
      unfold notMadeV
      have v0 := (Vv.out 0 _ rfl).1
      have vf0 := (Vv.out 0 _ rfl).2
      have v1 := (Vv.out 1 _ rfl).1
      have vf1 := (Vv.out 1 _ rfl).2
      have o0 := (Vo.out 0 _ rfl).1
      have of0 := (Vo.out 0 _ rfl).2
      have o1 := (Vo.out 1 _ rfl).1
      have of1 := (Vo.out 1 _ rfl).2
      have o2 := (Vo.out 2 _ rfl).1
      have of2 := (Vo.out 2 _ rfl).2
      go_wp2
      go_ret
      exact ⟨rfl, (HB3.out).alloc (Nat.le_trans HB3.out.size (by exact Nat.le_refl _)) _⟩

end Go.Proofs.Ytifphigdklkpjaa
