/- The draws of receipts. -/
import Derived.Test.YtcjabomcndahbaaK29
import Derived.Test.YtcjabomcndahbaaK4a
import Derived.Test.YtcjabomcndahbaaK4b
import Derived.Test.YtcjabomcndahbaaK20v
import Derived.Deep.AppendLies
import Derived.Deep.RegionLaw
import Derived.Laws.OwnMore
namespace Go.Proofs.Ytcjabomcndahbaa
open Go.RowKit Go.PlainAid

theorem info_gap' : (Try.prog.info? 76).map (fun i => (i.zero, i.size, i.bytes)) = some (some (.agg #[.int .i64 0, .int .i64 0]), 2, 16) := by kernel_rfl
theorem own_below {w w' : World} {base C : Nat} {e : TypeId} {size n m g cap : Nat} {xs : List Value} (h : w.ownsRow base e size (.slice (some ⟨g, 0, none⟩) m cap) n xs) (hb : Below C w w') (hg : g < C) :
    w'.ownsRow base e size (.slice (some ⟨g, 0, none⟩) m cap) n xs := by
  refine ⟨h.1, ?_⟩
  rcases h.2 with ⟨h1, _⟩ | ⟨g', cap', cur, h1, h2, h3, h4⟩
  · exact absurd h1 (by intro e; cases e)
  · obtain ⟨rfl, rfl, rfl⟩ : g = g' ∧ m = n ∧ cap = cap' := by simpa using h1
    exact .inr ⟨g, cap, cur, rfl, h2, by rw [hb.block g hg]; exact h3, h4⟩
theorem own_far {w : World} {base d i : Nat} {e : TypeId} {size n m g cap : Nat} {xs : List Value} (h : w.ownsRow base e size (.slice (some ⟨g, 0, none⟩) m cap) n xs) (hd : g ≠ d) (v : Value) :
    (w.setCell ⟨d, i, none⟩ v).ownsRow base e size (.slice (some ⟨g, 0, none⟩) m cap) n xs := by
  refine ⟨h.1, ?_⟩
  rcases h.2 with ⟨h1, _⟩ | ⟨g', cap', cur, h1, h2, h3, h4⟩
  · exact absurd h1 (by intro e; cases e)
  · obtain ⟨rfl, rfl, rfl⟩ : g = g' ∧ m = n ∧ cap = cap' := by simpa using h1
    exact .inr ⟨g, cap, cur, rfl, h2, by rw [Below.heap_setCell _ _ _ _ (by simpa using hd)]; exact h3, h4⟩
theorem own_lt {w : World} {base : Nat} {e : TypeId} {size n m g cap : Nat} {xs : List Value} (h : w.ownsRow base e size (.slice (some ⟨g, 0, none⟩) m cap) n xs) : g < w.heap.size := by
  rcases h.2 with ⟨h1, _⟩ | ⟨g', cap', cur, h1, h2, h3, h4⟩
  · exact absurd h1 (by intro e; cases e)
  · obtain ⟨rfl, rfl, rfl⟩ : g = g' ∧ m = n ∧ cap = cap' := by simpa using h1
    exact (Array.getElem?_eq_some_iff.1 h3).1
theorem VarN.more {d g : Nat} {vs : List Value} {w w' : World} (h : VarN d vs w) (hg : w.grownBy w' (some g)) (hd : d < w.heap.size) (hne : d ≠ g) : VarN d vs w' := fun i v hi =>
  ⟨(hg.cell_far ⟨d, i, none⟩ hd (by simpa using hne)).trans (h i v hi).1, (hg.frozen_far ⟨d, i, none⟩ hd (by simpa using hne)).trans (h i v hi).2⟩
/-- Drawn blocks are small. -/
def Small (gs : List (Int × Int)) : Prop := ∀ x ∈ gs, (0 ≤ x.1 ∧ x.1 ≤ 100) ∧ 0 ≤ x.2 ∧ x.2 ≤ 100
/-- While a receipt is drawn: the reader at r, the result's place at N, the receipt at sb, its blocks at g. -/
structure St (B r M N sb : Nat) (c : Int) (g k cap : Nat) (gs : List (Int × Int)) (w W : World) : Prop where
  rd : Rd B r M W
  res : VarN N [.int .i64 0, .slice none 0 0] W
  sv : VarN sb [.int .i64 c, .slice (some ⟨g, 0, none⟩) k cap] W
  own : W.ownsRow (N + 1) 76 2 (.slice (some ⟨g, 0, none⟩) k cap) k (flat gs)
  ne : g ≠ sb
  sm : Small gs
  b : Below B w W
  o1 : r < N
  o2 : N < sb
section
variable {B r M N sb : Nat} {c : Int} {g k cap : Nat} {gs : List (Int × Int)} {w W W' : World}
theorem St.glt (h : St B r M N sb c g k cap gs w W) : g < W.heap.size := own_lt h.own
theorem St.slt (h : St B r M N sb c g k cap gs w W) : sb < W.heap.size := lt_of_cell (h.sv 0 _ rfl).1
theorem St.gN (h : St B r M N sb c g k cap gs w W) : N + 1 ≤ g := own_ge h.own rfl
theorem St.up (h : St B r M N sb c g k cap gs w W) (hb : Below W.heap.size W W') : St B r M N sb c g k cap gs w W' := by
  have h1 := h.slt
  have h2 := h.glt
  have h3 := h.o1
  have h4 := h.o2
  have h5 := h.rd.1
  exact ⟨h.rd.keep hb (by omega), h.res.below hb (by omega), h.sv.below hb h1, own_below h.own hb h2, h.ne, h.sm, h.b.trans (hb.mono (by omega)), h3, h4⟩
theorem St.only {M' : Nat} (h : St B r M N sb c g k cap gs w W) (ho : Only r W W') (hr : Rd B r M' W') : St B r M' N sb c g k cap gs w W' := by
  have h3 := h.o1
  have h4 := h.o2
  have h5 := h.gN
  exact ⟨hr, h.res.only ho (by omega), h.sv.only ho (by omega), own_only ho (by omega) h.own, h.ne, h.sm, h.b.trans (ho.below h.rd.1), h3, h4⟩
theorem St.far {d i : Nat} (h : St B r M N sb c g k cap gs w W) (h1 : sb < d) (h2 : g ≠ d) (v : Value) : St B r M N sb c g k cap gs w (W.setCell ⟨d, i, none⟩ v) := by
  have h3 := h.o1
  have h4 := h.o2
  have h5 := h.rd.1
  exact ⟨h.rd.keep ((Below.refl (r + 1) W).setCell (p := ⟨d, i, none⟩) (by show r + 1 ≤ d; omega) v) (Nat.lt_succ_self r), h.res.far v (by omega), h.sv.far v (by omega), own_far h.own h2 v, h.ne, h.sm, h.b.setCell (p := ⟨d, i, none⟩) (by show B ≤ d; omega) v, h3, h4⟩
theorem St.cum (h : St B r M N sb c g k cap gs w W) (c' : Int) : St B r M N sb c' g k cap gs w (W.setCell ⟨sb, 0, none⟩ (.int .i64 c')) := by
  have h3 := h.o1
  have h4 := h.o2
  have h5 := h.rd.1
  exact ⟨h.rd.keep ((Below.refl (r + 1) W).setCell (p := ⟨sb, 0, none⟩) (by show r + 1 ≤ sb; omega) _) (Nat.lt_succ_self r), h.res.far _ (by omega), h.sv.set (i := 0) _, own_far h.own h.ne _, h.ne, h.sm, h.b.setCell (p := ⟨sb, 0, none⟩) (by show B ≤ sb; omega) _, h3, h4⟩
theorem St.push {W1 : World} {g2 cap2 : Nat} {f t : Int} (h : St B r M N sb c g k cap gs w W) (hgrow : W.grownBy W1 (some g)) (hown : W1.ownsRow (N + 1) 76 2 (.slice (some ⟨g2, 0, none⟩) (k + 1) cap2) (k + 1) (flat gs ++ [.int .i64 f, .int .i64 t]))
    (hat : g = g2 ∨ g2 = W.heap.size) (hs : (0 ≤ f ∧ f ≤ 100) ∧ 0 ≤ t ∧ t ≤ 100) : St B r M N sb c g2 (k + 1) cap2 (gs ++ [(f, t)]) w (W1.setCell ⟨sb, 1, none⟩ (.slice (some ⟨g2, 0, none⟩) (k + 1) cap2)) := by
  have h1 := h.slt
  have h2 := h.glt
  have h3 := h.o1
  have h4 := h.o2
  have h5 := h.rd.1
  have h6 := h.gN
  have h7 := h.ne
  have hne : g2 ≠ sb := by rcases hat with rfl | rfl <;> omega
  refine ⟨(h.rd.keep (Below.grown (Below.refl (r + 1) W) hgrow (by omega) fun x hx => by cases hx; omega) (Nat.lt_succ_self r)).keep ((Below.refl (r + 1) _).setCell (p := ⟨sb, 1, none⟩) (by show r + 1 ≤ sb; omega) _) (Nat.lt_succ_self r),
    (h.res.more hgrow (by omega) (by omega)).far _ (by omega), (h.sv.more hgrow h1 (by omega)).set (i := 1) _, own_far (by rw [flat_append]; exact hown) hne _, hne, ?_, (Below.grown h.b hgrow (by omega) fun x hx => by cases hx; omega).setCell (p := ⟨sb, 1, none⟩) (by show B ≤ sb; omega) _, h3, h4⟩
  intro x hx
  rcases List.mem_append.1 hx with hx | hx
  · exact h.sm x hx
  · obtain rfl : x = (f, t) := by simpa using hx
    exact hs
theorem St.gaps (h : St B r M N sb c g k cap gs w W) : Gaps W (some ⟨g, 0, none⟩) k cap gs := by
  have e : ∀ j, (⟨g, 0, none⟩ : Addr).add j = ⟨g, j, none⟩ := fun j => by unfold Addr.add; split <;> simp_all
  have hl : gs.length = k := by have := h.own.1; rw [flat_length] at this; omega
  have hc : k ≤ cap ∧ cap ≤ maxLen := by
    rcases h.own.2 with ⟨h1, _⟩ | ⟨g', cap', cur, h1, _, _, h4, h5, _⟩
    · exact absurd h1 (by intro e; cases e)
    · obtain ⟨rfl, _, rfl⟩ : g = g' ∧ True ∧ cap = cap' := by simpa using h1
      exact ⟨h4, h5⟩
  refine .inr ⟨_, rfl, hc.1, hc.2, hl, fun i hi => ?_⟩
  obtain ⟨f1, f2⟩ := flat_get gs i (by omega)
  have c1 := h.own.cellAt (i * 2) (by omega)
  have c2 := h.own.cellAt (i * 2 + 1) (by omega)
  rw [e]
  exact ⟨c1.trans f1, c2.trans f2⟩
theorem St.mono {M' : Nat} (h : St B r M N sb c g k cap gs w W) (hM : M ≤ M') : St B r M' N sb c g k cap gs w W :=
  ⟨h.rd.mono hM, h.res, h.sv, h.own, h.ne, h.sm, h.b, h.o1, h.o2⟩
theorem St.aside {M' : Nat} (h : St B r M N sb c g k cap gs w W) (ha : Aside W.heap.size r W W') (hr : Rd B r M' W') (hb : Below B W W') : St B r M' N sb c g k cap gs w W' := by
  have h1 := h.slt
  have h2 := h.glt
  have h3 := h.o1
  have h4 := h.o2
  have h5 := h.gN
  refine ⟨hr, h.res.aside ha (by omega) (by omega), h.sv.aside ha h1 (by omega), ⟨h.own.1, ?_⟩, h.ne, h.sm, h.b.trans hb, h3, h4⟩
  rcases h.own.2 with ⟨h6, _⟩ | ⟨g', cap', cur, h6, h7, h8, h9⟩
  · exact absurd h6 (by intro e; cases e)
  · obtain ⟨rfl, rfl⟩ : g = g' ∧ cap = cap' := by simpa using h6
    exact .inr ⟨g, cap, cur, rfl, h7, by rw [ha g h2 (by omega)]; exact h8, h9⟩
theorem St.done (h : St B r M N sb c g k cap gs w W) (x y : Value) : Gaps ((W.setCell ⟨N, 0, none⟩ x).setCell ⟨N, 1, none⟩ y) (some ⟨g, 0, none⟩) k cap gs ∧ Rd B r M ((W.setCell ⟨N, 0, none⟩ x).setCell ⟨N, 1, none⟩ y) ∧ Below B w ((W.setCell ⟨N, 0, none⟩ x).setCell ⟨N, 1, none⟩ y) := by
  have h3 := h.o1
  have h4 := h.o2
  have h5 := h.gN
  have h6 := h.rd.1
  have rr := (h.rd.keep ((Below.refl (r + 1) W).setCell (p := ⟨N, 0, none⟩) (by show r + 1 ≤ N; omega) x) (Nat.lt_succ_self r)).keep ((Below.refl (r + 1) _).setCell (p := ⟨N, 1, none⟩) (by show r + 1 ≤ N; omega) y) (Nat.lt_succ_self r)
  refine ⟨?_, rr, (h.b.setCell (p := ⟨N, 0, none⟩) (by show B ≤ N; omega) x).setCell (p := ⟨N, 1, none⟩) (by show B ≤ N; omega) y⟩
  rcases h.gaps with ⟨e, _⟩ | ⟨a, e, h7, h8, h9, h10⟩
  · cases e
  · obtain rfl : ⟨g, 0, none⟩ = a := by simpa using e
    refine .inr ⟨_, rfl, h7, h8, h9, fun i hi => ?_⟩
    have ea : ∀ j, (⟨g, 0, none⟩ : Addr).add j = ⟨g, j, none⟩ := fun j => by unfold Addr.add; split <;> simp_all
    have := h10 i hi
    rw [ea] at this ⊢
    have hNg : N ≠ g := by omega
    exact ⟨cell_far hNg (cell_far hNg this.1), cell_far hNg (cell_far hNg this.2)⟩
theorem small_nil : Small [] := fun x hx => by simp at hx
end
theorem mul_small {x y : Int} (h0 : 0 ≤ x) (h1 : x < 3) (h2 : 0 ≤ y) (h3 : y < 2) : 0 ≤ x * y ∧ x * y ≤ 2 := by
  rcases (show y = 0 ∨ y = 1 by omega) with rfl | rfl <;> omega
theorem news_at {w : World} {x y : Value} {T : TypeId} {H : Nat} (e : w.heap.size = H) : ∀ j u, [x, y][j]? = some u → (w.alloc (.cells #[x, y] T)).cell? ((⟨H, 0, none⟩ : Addr).add j) = some u := by
  subst e
  exact World.news_of_block (heap_alloc_new w _)
theorem news_two {w : World} {x y : Value} {T : TypeId} : ∀ j u, [x, y][j]? = some u → (w.alloc (.cells #[x, y] T)).cell? ((⟨w.heap.size, 0, none⟩ : Addr).add j) = some u :=
  World.news_of_block (heap_alloc_new w _)
/-- While a block is drawn: its first number lies at d. -/
structure PG (B r BD N sb : Nat) (c : Int) (g k cap : Nat) (gs : List (Int × Int)) (w : World) (d : Nat) (F : Int) (W : World) : Prop where
  v : ∃ t, VarN d [.int .i64 F, t] W
  st : ∃ M, M ≤ BD ∧ St B r M N sb c g k cap gs w W
  o1 : sb < d
  o2 : g ≠ d
section
variable {B r BD N sb : Nat} {c : Int} {g k cap : Nat} {gs : List (Int × Int)} {w W W' : World} {d : Nat} {F : Int}
theorem pg_at (h : PG B r BD N sb c g k cap gs w d F W) : W.cell? ⟨d, 0, none⟩ = some (.int .i64 F) ∧ PG B r BD N sb c g k cap gs w d F W := by
  obtain ⟨t, hv⟩ := h.v
  exact ⟨(hv 0 _ rfl).1, h⟩
theorem PG.start {M : Nat} (h : St B r M N sb c g k cap gs w W) (hM : M ≤ BD) (t : Value) (T : TypeId) : PG B r BD N sb c g k cap gs w W.heap.size F (W.alloc (.cells #[.int .i64 F, t] T)).drew :=
  have h1 := h.glt
  ⟨⟨t, (VarN.new W [.int .i64 F, t] T).drewN 1⟩, ⟨M, hM, (h.up (below_box _ (Nat.le_refl _))).up (Below.drew (Below.refl _ _))⟩, h.slt, by omega⟩
theorem pg_only {M : Nat} (ho : Only r W W') (h : W.cell? ⟨d, 0, none⟩ = some (.int .i64 F) ∧ PG B r BD N sb c g k cap gs w d F W) (hr : Rd B r M W') (hM : M ≤ BD) : W'.cell? ⟨d, 0, none⟩ = some (.int .i64 F) ∧ PG B r BD N sb c g k cap gs w d F W' := by
  obtain ⟨t, hv⟩ := h.2.v
  obtain ⟨M', _, hs⟩ := h.2.st
  have h1 := hs.o1
  have h2 := hs.o2
  have h3 := h.2.o1
  exact pg_at ⟨⟨t, hv.only ho (by omega)⟩, ⟨M, hM, hs.only ho hr⟩, h.2.o1, h.2.o2⟩
theorem pg_store {x : Value} (e : W.setCell ⟨d, 1, none⟩ x = W') (h : W.cell? ⟨d, 0, none⟩ = some (.int .i64 F) ∧ PG B r BD N sb c g k cap gs w d F W) : W'.cell? ⟨d, 0, none⟩ = some (.int .i64 F) ∧ PG B r BD N sb c g k cap gs w d F W' := by
  obtain ⟨t, hv⟩ := h.2.v
  obtain ⟨M', hM, hs⟩ := h.2.st
  subst e
  exact pg_at ⟨⟨x, hv.set (i := 1) x⟩, ⟨M', hM, hs.far h.2.o1 h.2.o2 x⟩, h.2.o1, h.2.o2⟩
end

/-- A drawn receipt. -/
def DrewSack (B r m : Nat) (w : World) (e : Ending) (w' : World) : Prop :=
  ∃ (c : Int) (g k cap : Nat) (gs : List (Int × Int)), e = .returned (.agg #[.int .i64 c, .slice (some ⟨g, 0, none⟩) k cap]) ∧ (-1 ≤ c ∧ c ≤ 65536) ∧ k ≤ 10 ∧ w.heap.size ≤ g ∧ Gaps w' (some ⟨g, 0, none⟩) k cap gs ∧ Small gs ∧ Rd B r m w' ∧ Below B w w'

set_option maxHeartbeats 4000000 in
set_option maxRecDepth 100000 in
theorem l91Sack_any (B r m : Nat) (w : World) (h : Rd B r m w) (hm : m ≤ 100000) :
    Calls Try.prog 68 #[.pointer (some ⟨r, 0, none⟩)] w (DrewSack B r (m + 60) w) := by
  have hrw := h.2.1
  have hBr := h.1
  obtain ⟨i0, hi, hz0, hz1, hz2⟩ := info_parts info_gap'
  have HI := Lib.hid (And.intro hi (And.intro hz0 (And.intro hz1 hz2)))
  clear hi hz0 hz1 hz2
  go_enter Try.func68, Try.ntmps68
  go_wp2_with fail
  refine (l91Good_as B r m _ (h.alloc _) (by omega)).mono ?_
  rintro e w1 ⟨⟨c, rfl, ⟨c0, c1⟩, hr1, hb1⟩, ha1⟩
  have R1 := (VarN.new w [.int .i64 0, .slice none 0 0] 41).aside ha1 (by simp) (by omega)
  have hN1 := lt_of_cell (R1 0 _ rfl).1
  have S0 : St B r (m + 3) w.heap.size (w1.heap.size + 1) c w1.heap.size 0 0 [] w ((w1.alloc (.cells #[] 76)).alloc (.cells (List.toArray [.int .i64 c, .slice (some ⟨w1.heap.size, 0, none⟩) 0 0]) 41)) :=
    ⟨(hr1.alloc _).alloc _, (R1.alloc _ hN1).alloc _ (by simp; omega), VarN.new_at (by simp) _ _,
      (World.ownsRow_lit (base := w.heap.size + 1) (e := 76) (size := 2) w1 #[] 0 hN1 (by decide) rfl).alloc _, by omega, small_nil,
      ((((below_box (.cells (List.toArray [.int .i64 0, .slice none 0 0]) 41) (by omega)).trans hb1).alloc (by have := hb1.size; simp at this; omega) _).alloc (by have := hb1.size; simp at this ⊢; omega) _), by omega, by omega⟩
  have S0 := Lib.hid S0
  clear h hr1 hb1 ha1 R1
  go_wp2_with fail
  refine (pick_any B r (m + 3) 4 _ S0.out.rd (by omega) (by omega) (by omega)).mono ?_
  rintro e w2 ⟨x, rfl, x0, x1, hr2, ho2⟩
  have S1 := Lib.hid (S0.out.only ho2 hr2)
  clear S0 hr2 ho2
  go_wp2_with fail
  refine (pick_any B r (m + 3 + 1) 12 _ S1.out.rd (by omega) (by omega) (by omega)).mono ?_
  rintro e w3 ⟨y, rfl, y0, y1, hr3, ho3⟩
  have S2 := Lib.hid (S1.out.only ho3 hr3)
  clear S1 hr3 ho3
  obtain ⟨nn, hnn⟩ : ∃ nn : Nat, x = nn := ⟨x.toNat, by omega⟩
  subst hnn
  have hnn3 : nn ≤ 3 := by omega
  clear x0 x1
  by_cases hy : y = 0
  · subst hy
    go_wp2
    go_loopw [4, 6] (fun a i wr => ∃ (j k g cap : Nat) (z : Int) (gs : List (Int × Int)), j ≤ 9 ∧ i = .int .i64 j ∧ a = .int .i64 z ∧ 0 ≤ z ∧ z ≤ 6 * j ∧ k ≤ j ∧ Hid (St B r (m + 5 + 4 * j) w.heap.size (w1.heap.size + 1) c g k cap gs w wr)) (fun _ i _ => 9 - (intOf i).toNat)
    case atStart => exact ⟨0, 0, w1.heap.size, 0, 0, [], Nat.zero_le _, rfl, rfl, by omega, by omega, by omega, S2⟩
    case round =>
      obtain ⟨j, k, g, cap, z, gs, hj, rfl, rfl, z0, z1, hk, hst⟩ := hrel
      clear S2
      by_cases hlt : j < 9
      · have w1z : IntKind.i64.wrap (z + 2) = z + 2 := IntWalk.i64_in _ (by omega)
        go_wp2_with fail
        refine (pick_any B r _ 3 _ hst.out.rd (by omega) (by omega) (by omega)).mono ?_
        rintro e x1 ⟨p, rfl, p0, p1, hr1, ho1⟩
        have S1 := Lib.hid (hst.out.only ho1 hr1)
        have w2z : IntKind.i64.wrap (z + 2 + p) = z + 2 + p := IntWalk.i64_in _ (by omega)
        have hxo := S1.out.slt
        have hxg : g ≠ x1.heap.size := by have := S1.out.glt; omega
        clear hst hr1 ho1
        go_wp2_with fail
        have hS0 := Lib.hid (pg_at (PG.start (F := (z + 2)) (BD := m + 5 + 4 * j + 3) S1.out (by omega) (.int .i64 0) 76))
        have HRD := Lib.hid (show Rd B r (m + 5 + 4 * j + 1) (x1.alloc (.cells #[.int .i64 (z + 2), .int .i64 0] 76)).drew from ((S1.out.rd.alloc _).keep (Below.drew (Below.refl _ _)) (by have := S1.out.slt; have := S1.out.o1; have := S1.out.o2; simp; omega)))
        have hmul : ∀ x y : Int, 0 ≤ x → x < 3 → 0 ≤ y → y < 2 → IntKind.i64.wrap (x * y) = x * y := fun x y a b c d => IntWalk.i64_in _ (by have := mul_small a b c d; omega)
        have hadd : ∀ x y : Int, 0 ≤ x → x < 3 → 0 ≤ y → y < 2 → IntKind.i64.wrap ((z + 2) + x * y) = (z + 2) + x * y := fun x y a b c d => IntWalk.i64_in _ (by have := mul_small a b c d; omega)
        go_region_held_law (fun W => W.cell? ⟨x1.heap.size, 0, none⟩ = some (.int .i64 (z + 2)) ∧ PG B r (m + 5 + 4 * j + 3) w.heap.size (w1.heap.size + 1) c g k cap gs w x1.heap.size (z + 2) W)
          (first | with_reducible assumption | with_reducible exact hS0.out | exact pg_only (by assumption) (by assumption) (by assumption) (by omega) | exact pg_store rfl (by assumption))
          (first
            | (go_simp; go_at_call_of 80 (Value.int .i64 3); refine (pick_any B r _ 3 _ (by first | exact HRD.out | assumption) (by omega) (by omega) (by omega)).mono ?_; rintro e w' ⟨pa, rfl, pa0, pa1, hr', ho'⟩; obtain ⟨t0, hV⟩ := (pg_only ho' (by assumption) hr' (by omega)).2.v; have r0 := (hV 0 _ rfl).1; have r1 := (hV 1 _ rfl).1; have rf1 := (hV 1 _ rfl).2)
            | (go_simp; go_at_call_of 80 (Value.int .i64 2); refine (pick_any B r _ 2 _ (by first | exact HRD.out | assumption) (by omega) (by omega) (by omega)).mono ?_; rintro e w' ⟨pb, rfl, pb0, pb1, hr', ho'⟩; obtain ⟨t0, hV⟩ := (pg_only ho' (by assumption) hr' (by omega)).2.v; have r0 := (hV 0 _ rfl).1; have r1 := (hV 1 _ rfl).1; have rf1 := (hV 1 _ rfl).2))
        all_goals
          rename_i hHeld
          obtain ⟨M2, hM2, SY⟩ := hHeld.2.st
          have VY := Lib.hid (hV.set (i := 1) (.int .i64 ((z + 2) + pa * pb)))
          have SY := Lib.hid SY
          obtain ⟨q0, q1⟩ := mul_small pa0 pa1 pb0 pb1
          clear hHeld hV r0 r1 rf1 hmul hadd hS0 HRD S1
          have VY := Lib.hid (show VarN x1.heap.size [.int .i64 (z + 2), .int .i64 ((z + 2) + pa * pb)] _ from VY.out)
          obtain ⟨T, hT⟩ : ∃ T, (z + 2) + pa * pb = T := ⟨_, rfl⟩
          rw [hT] at SY VY ⊢
          have hTb : (z + 2) ≤ T ∧ T ≤ (z + 2) + 2 := by omega
          clear hT q0 q1
          generalize hY : World.setCell w' _ _ = Y at SY VY ⊢
          clear hY hr' ho'
          have d0 := (VY.out 0 _ rfl).1
          have d1 := (VY.out 1 _ rfl).1
          have df1 := (VY.out 1 _ rfl).2
          have hdr : r < x1.heap.size := by have := SY.out.rd.2.1; have := SY.out.o1; have := SY.out.o2; have := hxo; omega
          by_cases hle : (z + 2) ≤ 16
          · have SZ := Lib.hid (SY.out.far (d := x1.heap.size) (i := 1) hxo hxg (.int .i64 (z + 2)))
            have VZ := Lib.hid (show VarN x1.heap.size [.int .i64 (z + 2), .int .i64 (z + 2)] _ from VY.out.set (i := 1) (.int .i64 (z + 2)))
            clear SY VY
            have SA := Lib.hid (SZ.out.up (below_box (.cells #[.int .i64 (z + 2), .int .i64 (z + 2)] 76) (Nat.le_refl _)))
            have s1 := (SZ.out.sv 1 _ rfl).1
            have e0 := (VZ.out 0 _ rfl).1
            have e1 := (VZ.out 1 _ rfl).1
            go_wp2_with (at_builtin; go_loud (refine wpList_append_lies _ rfl _ _ 39 rfl (w.heap.size + 1) 76 i0 (.agg #[.int .i64 0, .int .i64 0]) 2 16 Try.underlying39 HI.out.1 HI.out.2.1 HI.out.2.2.1 HI.out.2.2.2 rfl (by decide) (.slice (some ⟨g, 0, none⟩) k cap) k (flat gs) rfl SA.out.own ⟨Y.heap.size, 0, none⟩ 1 1 [.int .i64 (z + 2), .int .i64 (z + 2)] rfl rfl (news_at (by simp)) (by simp [Value.oneCell']) (by decide) (by unfold maxLen; omega) (by omega) (by have h1 := SA.out.slt; have h2 := SA.out.o2; omega) _ rfl ?_))
            intro g2 cap2 w5 hown5 hgrow5 hat5 hlt5
            have SV := SA.out.sv.more hgrow5 SA.out.slt SA.out.ne.symm
            have t1 := (SV 1 _ rfl).1
            have tf1 := (SV 1 _ rfl).2
            have SP := Lib.hid ((SA.out.push hgrow5 hown5 (hat5.imp (fun h => by simpa [Value.ownBlock] using h) fun h => h.trans (by simp)) ⟨⟨by omega, by omega⟩, by omega, by omega⟩).mono (M' := m + 5 + 4 * (j + 1)) (by omega))
            clear SV SA s1 e0 e1 hown5 hgrow5 hat5 hlt5 SZ VZ
            go_wp2
            go_roundw
            case rel => exact ⟨j + 1, k + 1, g2, cap2, (z + 2), gs ++ [((z + 2), (z + 2))], by omega, by go_num, rfl, by omega, by omega, by omega, SP⟩
            case measure => simp [intOf]; omega
          · have SZ := Lib.hid (SY.out.far (d := x1.heap.size) (i := 1) hxo hxg (.int .i64 (z + 2)))
            have VZ := Lib.hid (show VarN x1.heap.size [.int .i64 (z + 2), .int .i64 (z + 2)] _ from VY.out.set (i := 1) (.int .i64 (z + 2)))
            clear SY VY
            go_wp2_with fail
            refine (pick_any B r _ 8 _ SZ.out.rd (by omega) (by omega) (by omega)).mono ?_
            rintro e x5 ⟨q, rfl, qa, qb, hr5, ho5⟩
            have S5 := Lib.hid (SZ.out.only ho5 hr5)
            have V5 := Lib.hid (VZ.out.only ho5 (by omega))
            clear hr5 ho5 SZ VZ
            by_cases hq : q = 0
            · subst hq
              have SA := Lib.hid (S5.out.up (below_box (.cells #[.int .i64 (z + 2), .int .i64 (z + 2)] 76) (Nat.le_refl _)))
              have s1 := (S5.out.sv 1 _ rfl).1
              have e0 := (V5.out 0 _ rfl).1
              have e1 := (V5.out 1 _ rfl).1
              go_wp2_with (at_builtin; go_loud (refine wpList_append_lies _ rfl _ _ 39 rfl (w.heap.size + 1) 76 i0 (.agg #[.int .i64 0, .int .i64 0]) 2 16 Try.underlying39 HI.out.1 HI.out.2.1 HI.out.2.2.1 HI.out.2.2.2 rfl (by decide) (.slice (some ⟨g, 0, none⟩) k cap) k (flat gs) rfl SA.out.own ⟨x5.heap.size, 0, none⟩ 1 1 [.int .i64 (z + 2), .int .i64 (z + 2)] rfl rfl (news_at (by simp)) (by simp [Value.oneCell']) (by decide) (by unfold maxLen; omega) (by omega) (by have h1 := SA.out.slt; have h2 := SA.out.o2; omega) _ rfl ?_))
              intro g2 cap2 w5 hown5 hgrow5 hat5 hlt5
              have SV := SA.out.sv.more hgrow5 SA.out.slt SA.out.ne.symm
              have t1 := (SV 1 _ rfl).1
              have tf1 := (SV 1 _ rfl).2
              have SP := Lib.hid ((SA.out.push hgrow5 hown5 (hat5.imp (fun h => by simpa [Value.ownBlock] using h) fun h => h.trans (by simp)) ⟨⟨by omega, by omega⟩, by omega, by omega⟩).mono (M' := m + 5 + 4 * (j + 1)) (by omega))
              clear SV SA s1 e0 e1 hown5 hgrow5 hat5 hlt5 S5 V5
              go_wp2
              go_roundw
              case rel => exact ⟨j + 1, k + 1, g2, cap2, (z + 2), gs ++ [((z + 2), (z + 2))], by omega, by go_num, rfl, by omega, by omega, by omega, SP⟩
              case measure => simp [intOf]; omega
            · go_wp2_with fail
              go_roundw
              case rel => exact ⟨j + 1, k, g, cap, (z + 2), gs, by omega, by go_num, rfl, by omega, by omega, by omega, Lib.hid (S5.out.mono (by omega))⟩
              case measure => simp [intOf]; omega
      · obtain rfl : j = 9 := by omega
        go_wp2_with fail
        refine (pick_any B r _ 20 _ hst.out.rd (by omega) (by omega) (by omega)).mono ?_
        rintro e x6 ⟨v, rfl, v0, v1, hr6, ho6⟩
        have S6 := Lib.hid (hst.out.only ho6 hr6)
        clear hst hr6 ho6
        by_cases hv0 : v = 0
        · subst hv0
          go_wp2_with fail
          refine (l91Word_as B r _ _ S6.out.rd (by omega)).mono ?_
          rintro e x7 ⟨⟨c', rfl, ⟨c0', c1'⟩, hr7, hb7⟩, ha7⟩
          have S7 := Lib.hid (S6.out.aside ha7 hr7 hb7)
          have s0 := (S7.out.sv 0 _ rfl).1
          have sf0 := (S7.out.sv 0 _ rfl).2
          have S8 := Lib.hid (S7.out.cum c')
          clear S6 hr7 hb7 ha7 S7
          have r0 := (S8.out.res 0 _ rfl).1
          have r1 := (S8.out.res 1 _ rfl).1
          have rf0 := (S8.out.res 0 _ rfl).2
          have rf1 := (S8.out.res 1 _ rfl).2
          have t0 := (S8.out.sv 0 _ rfl).1
          have t1 := (S8.out.sv 1 _ rfl).1
          go_wp2
          refine bodyPost_ret (v := .agg #[.int .i64 c', .slice (some ⟨g, 0, none⟩) k cap]) ?_ rfl ?_
          · simp [results, Try.results68, go_sem, r0, r1]
          · exact ⟨c', g, k, cap, gs, rfl, ⟨by omega, by omega⟩, by omega, by have := S8.out.gN; omega, (S8.out.done _ _).1, S8.out.sm, (S8.out.done _ _).2.1.mono (by omega), (S8.out.done _ _).2.2⟩
        · by_cases hv1 : v = 1
          · subst hv1
            have S6d := Lib.hid (S6.out.up (Below.drew (Below.refl _ _)))
            have s1 := (S6.out.sv 1 _ rfl).1
            go_wp2_with fail
            go_region_law (first
              | (refine step_append_lies _ (by rfl) _ _ _ (by rfl) (w.heap.size + 1) 76 i0 _ 2 16 Try.underlying39 HI.out.1 HI.out.2.1 HI.out.2.2.1 HI.out.2.2.2 rfl (by omega) _ k (flat gs) (by rfl) (hSt.up (below_box _ (Nat.le_refl _))).own ⟨_, 0, none⟩ 1 1 [_, _] (by rfl) (by rfl) news_two (by simp [Value.oneCell']) (by omega) (by unfold maxLen; omega) (by omega) (by have h1 := (hSt.up (below_box (.cells #[] 0) (Nat.le_refl _))).slt; have h2 := hSt.o2; simp at h1 ⊢; omega) _ rfl ?_; intro g2 cap2 w8 hown8 hgrow8 hat8 hlt8; have SV := (hSt.up (below_box _ (Nat.le_refl _))).sv.more hgrow8 (hSt.up (below_box _ (Nat.le_refl _))).slt hSt.ne.symm; have u1 := (SV 1 _ rfl).1; have uf1 := (SV 1 _ rfl).2; have SP := (hSt.up (below_box _ (Nat.le_refl _))).push hgrow8 hown8 (hat8.imp (fun h => by simpa [Value.ownBlock] using h) fun h => h.trans (by simp)) ⟨⟨by omega, by omega⟩, by omega, by omega⟩)
              | (go_simp; go_at_call 80; refine (pick_any B r _ 18 _ (by first | exact hSt.rd | exact S6d.out.rd) (by omega) (by omega) (by omega)).mono ?_; rintro e w' ⟨pv, rfl, pv0, pv1, hr', ho'⟩; have hSt := St.only (by first | exact hSt | exact S6d.out) ho' hr'; have s1 := (hSt.sv 1 _ rfl).1; have s1p := fun o => past_cell s1 o; dsimp only))
            all_goals
              have SQ := Lib.hid SP
              clear SV SP hgrow8 hown8 hat8 hlt8 hSt s1 s1p hr' ho'
              have r0 := (SQ.out.res 0 _ rfl).1
              have r1 := (SQ.out.res 1 _ rfl).1
              have rf0 := (SQ.out.res 0 _ rfl).2
              have rf1 := (SQ.out.res 1 _ rfl).2
              have t0 := (SQ.out.sv 0 _ rfl).1
              have t1 := (SQ.out.sv 1 _ rfl).1
              go_wp2
              refine bodyPost_ret (v := .agg #[.int .i64 c, .slice (some ⟨g2, 0, none⟩) (k + 1) cap2]) ?_ rfl ?_
              · simp [results, Try.results68, go_sem, r0, r1]
              · exact ⟨c, g2, (k + 1), cap2, _, rfl, ⟨by omega, by omega⟩, by omega, by have := SQ.out.gN; omega, (SQ.out.done _ _).1, SQ.out.sm, (SQ.out.done _ _).2.1.mono (by omega), (SQ.out.done _ _).2.2⟩
          · have r0 := (S6.out.res 0 _ rfl).1
            have r1 := (S6.out.res 1 _ rfl).1
            have rf0 := (S6.out.res 0 _ rfl).2
            have rf1 := (S6.out.res 1 _ rfl).2
            have t0 := (S6.out.sv 0 _ rfl).1
            have t1 := (S6.out.sv 1 _ rfl).1
            go_wp2
            refine bodyPost_ret (v := .agg #[.int .i64 c, .slice (some ⟨g, 0, none⟩) k cap]) ?_ rfl ?_
            · simp [results, Try.results68, go_sem, r0, r1]
            · exact ⟨c, g, k, cap, gs, rfl, ⟨by omega, by omega⟩, by omega, by have := S6.out.gN; omega, (S6.out.done _ _).1, S6.out.sm, (S6.out.done _ _).2.1.mono (by omega), (S6.out.done _ _).2.2⟩
  · have hyb : (y == 0) = false := by simpa using hy
    clear y0 y1
    go_wp2
    go_loopw [4, 6] (fun a i wr => ∃ (j k g cap : Nat) (z : Int) (gs : List (Int × Int)), j ≤ nn ∧ i = .int .i64 j ∧ a = .int .i64 z ∧ 0 ≤ z ∧ z ≤ 6 * j ∧ k ≤ j ∧ Hid (St B r (m + 5 + 4 * j) w.heap.size (w1.heap.size + 1) c g k cap gs w wr)) (fun _ i _ => nn - (intOf i).toNat)
    case atStart => exact ⟨0, 0, w1.heap.size, 0, 0, [], Nat.zero_le _, rfl, rfl, by omega, by omega, by omega, S2⟩
    case round =>
      obtain ⟨j, k, g, cap, z, gs, hj, rfl, rfl, z0, z1, hk, hst⟩ := hrel
      clear S2
      by_cases hlt : j < nn
      · have w1z : IntKind.i64.wrap (z + 2) = z + 2 := IntWalk.i64_in _ (by omega)
        go_wp2_with fail
        refine (pick_any B r _ 3 _ hst.out.rd (by omega) (by omega) (by omega)).mono ?_
        rintro e x1 ⟨p, rfl, p0, p1, hr1, ho1⟩
        have S1 := Lib.hid (hst.out.only ho1 hr1)
        have w2z : IntKind.i64.wrap (z + 2 + p) = z + 2 + p := IntWalk.i64_in _ (by omega)
        have hxo := S1.out.slt
        have hxg : g ≠ x1.heap.size := by have := S1.out.glt; omega
        clear hst hr1 ho1
        go_wp2_with fail
        have hS0 := Lib.hid (pg_at (PG.start (F := (z + 2 + p)) (BD := m + 5 + 4 * j + 3) S1.out (by omega) (.int .i64 0) 76))
        have HRD := Lib.hid (show Rd B r (m + 5 + 4 * j + 1) (x1.alloc (.cells #[.int .i64 (z + 2 + p), .int .i64 0] 76)).drew from ((S1.out.rd.alloc _).keep (Below.drew (Below.refl _ _)) (by have := S1.out.slt; have := S1.out.o1; have := S1.out.o2; simp; omega)))
        have hmul : ∀ x y : Int, 0 ≤ x → x < 3 → 0 ≤ y → y < 2 → IntKind.i64.wrap (x * y) = x * y := fun x y a b c d => IntWalk.i64_in _ (by have := mul_small a b c d; omega)
        have hadd : ∀ x y : Int, 0 ≤ x → x < 3 → 0 ≤ y → y < 2 → IntKind.i64.wrap ((z + 2 + p) + x * y) = (z + 2 + p) + x * y := fun x y a b c d => IntWalk.i64_in _ (by have := mul_small a b c d; omega)
        go_region_held_law (fun W => W.cell? ⟨x1.heap.size, 0, none⟩ = some (.int .i64 (z + 2 + p)) ∧ PG B r (m + 5 + 4 * j + 3) w.heap.size (w1.heap.size + 1) c g k cap gs w x1.heap.size (z + 2 + p) W)
          (first | with_reducible assumption | with_reducible exact hS0.out | exact pg_only (by assumption) (by assumption) (by assumption) (by omega) | exact pg_store rfl (by assumption))
          (first
            | (go_simp; go_at_call_of 80 (Value.int .i64 3); refine (pick_any B r _ 3 _ (by first | exact HRD.out | assumption) (by omega) (by omega) (by omega)).mono ?_; rintro e w' ⟨pa, rfl, pa0, pa1, hr', ho'⟩; obtain ⟨t0, hV⟩ := (pg_only ho' (by assumption) hr' (by omega)).2.v; have r0 := (hV 0 _ rfl).1; have r1 := (hV 1 _ rfl).1; have rf1 := (hV 1 _ rfl).2)
            | (go_simp; go_at_call_of 80 (Value.int .i64 2); refine (pick_any B r _ 2 _ (by first | exact HRD.out | assumption) (by omega) (by omega) (by omega)).mono ?_; rintro e w' ⟨pb, rfl, pb0, pb1, hr', ho'⟩; obtain ⟨t0, hV⟩ := (pg_only ho' (by assumption) hr' (by omega)).2.v; have r0 := (hV 0 _ rfl).1; have r1 := (hV 1 _ rfl).1; have rf1 := (hV 1 _ rfl).2))
        all_goals
          rename_i hHeld
          obtain ⟨M2, hM2, SY⟩ := hHeld.2.st
          have VY := Lib.hid (hV.set (i := 1) (.int .i64 ((z + 2 + p) + pa * pb)))
          have SY := Lib.hid SY
          obtain ⟨q0, q1⟩ := mul_small pa0 pa1 pb0 pb1
          clear hHeld hV r0 r1 rf1 hmul hadd hS0 HRD S1
          have VY := Lib.hid (show VarN x1.heap.size [.int .i64 (z + 2 + p), .int .i64 ((z + 2 + p) + pa * pb)] _ from VY.out)
          obtain ⟨T, hT⟩ : ∃ T, (z + 2 + p) + pa * pb = T := ⟨_, rfl⟩
          rw [hT] at SY VY ⊢
          have hTb : (z + 2 + p) ≤ T ∧ T ≤ (z + 2 + p) + 2 := by omega
          clear hT q0 q1
          generalize hY : World.setCell w' _ _ = Y at SY VY ⊢
          clear hY hr' ho'
          have d0 := (VY.out 0 _ rfl).1
          have d1 := (VY.out 1 _ rfl).1
          have df1 := (VY.out 1 _ rfl).2
          have hdr : r < x1.heap.size := by have := SY.out.rd.2.1; have := SY.out.o1; have := SY.out.o2; have := hxo; omega
          by_cases hle : T ≤ 16
          · have SZ := SY
            have VZ := VY
            clear SY VY
            have SA := Lib.hid (SZ.out.up (below_box (.cells #[.int .i64 (z + 2 + p), .int .i64 T] 76) (Nat.le_refl _)))
            have s1 := (SZ.out.sv 1 _ rfl).1
            have e0 := (VZ.out 0 _ rfl).1
            have e1 := (VZ.out 1 _ rfl).1
            go_wp2_with (at_builtin; go_loud (refine wpList_append_lies _ rfl _ _ 39 rfl (w.heap.size + 1) 76 i0 (.agg #[.int .i64 0, .int .i64 0]) 2 16 Try.underlying39 HI.out.1 HI.out.2.1 HI.out.2.2.1 HI.out.2.2.2 rfl (by decide) (.slice (some ⟨g, 0, none⟩) k cap) k (flat gs) rfl SA.out.own ⟨Y.heap.size, 0, none⟩ 1 1 [.int .i64 (z + 2 + p), .int .i64 T] rfl rfl (news_at (by simp)) (by simp [Value.oneCell']) (by decide) (by unfold maxLen; omega) (by omega) (by have h1 := SA.out.slt; have h2 := SA.out.o2; omega) _ rfl ?_))
            intro g2 cap2 w5 hown5 hgrow5 hat5 hlt5
            have SV := SA.out.sv.more hgrow5 SA.out.slt SA.out.ne.symm
            have t1 := (SV 1 _ rfl).1
            have tf1 := (SV 1 _ rfl).2
            have SP := Lib.hid ((SA.out.push hgrow5 hown5 (hat5.imp (fun h => by simpa [Value.ownBlock] using h) fun h => h.trans (by simp)) ⟨⟨by omega, by omega⟩, by omega, by omega⟩).mono (M' := m + 5 + 4 * (j + 1)) (by omega))
            clear SV SA s1 e0 e1 hown5 hgrow5 hat5 hlt5 SZ VZ
            go_wp2
            go_roundw
            case rel => exact ⟨j + 1, k + 1, g2, cap2, T, gs ++ [((z + 2 + p), T)], by omega, by go_num, rfl, by omega, by omega, by omega, SP⟩
            case measure => simp [intOf]; omega
          · have SZ := SY
            have VZ := VY
            clear SY VY
            go_wp2_with fail
            refine (pick_any B r _ 8 _ SZ.out.rd (by omega) (by omega) (by omega)).mono ?_
            rintro e x5 ⟨q, rfl, qa, qb, hr5, ho5⟩
            have S5 := Lib.hid (SZ.out.only ho5 hr5)
            have V5 := Lib.hid (VZ.out.only ho5 (by omega))
            clear hr5 ho5 SZ VZ
            by_cases hq : q = 0
            · subst hq
              have SA := Lib.hid (S5.out.up (below_box (.cells #[.int .i64 (z + 2 + p), .int .i64 T] 76) (Nat.le_refl _)))
              have s1 := (S5.out.sv 1 _ rfl).1
              have e0 := (V5.out 0 _ rfl).1
              have e1 := (V5.out 1 _ rfl).1
              go_wp2_with (at_builtin; go_loud (refine wpList_append_lies _ rfl _ _ 39 rfl (w.heap.size + 1) 76 i0 (.agg #[.int .i64 0, .int .i64 0]) 2 16 Try.underlying39 HI.out.1 HI.out.2.1 HI.out.2.2.1 HI.out.2.2.2 rfl (by decide) (.slice (some ⟨g, 0, none⟩) k cap) k (flat gs) rfl SA.out.own ⟨x5.heap.size, 0, none⟩ 1 1 [.int .i64 (z + 2 + p), .int .i64 T] rfl rfl (news_at (by simp)) (by simp [Value.oneCell']) (by decide) (by unfold maxLen; omega) (by omega) (by have h1 := SA.out.slt; have h2 := SA.out.o2; omega) _ rfl ?_))
              intro g2 cap2 w5 hown5 hgrow5 hat5 hlt5
              have SV := SA.out.sv.more hgrow5 SA.out.slt SA.out.ne.symm
              have t1 := (SV 1 _ rfl).1
              have tf1 := (SV 1 _ rfl).2
              have SP := Lib.hid ((SA.out.push hgrow5 hown5 (hat5.imp (fun h => by simpa [Value.ownBlock] using h) fun h => h.trans (by simp)) ⟨⟨by omega, by omega⟩, by omega, by omega⟩).mono (M' := m + 5 + 4 * (j + 1)) (by omega))
              clear SV SA s1 e0 e1 hown5 hgrow5 hat5 hlt5 S5 V5
              go_wp2
              go_roundw
              case rel => exact ⟨j + 1, k + 1, g2, cap2, T, gs ++ [((z + 2 + p), T)], by omega, by go_num, rfl, by omega, by omega, by omega, SP⟩
              case measure => simp [intOf]; omega
            · go_wp2_with fail
              go_roundw
              case rel => exact ⟨j + 1, k, g, cap, T, gs, by omega, by go_num, rfl, by omega, by omega, by omega, Lib.hid (S5.out.mono (by omega))⟩
              case measure => simp [intOf]; omega
      · obtain rfl : j = nn := by omega
        go_wp2_with fail
        refine (pick_any B r _ 20 _ hst.out.rd (by omega) (by omega) (by omega)).mono ?_
        rintro e x6 ⟨v, rfl, v0, v1, hr6, ho6⟩
        have S6 := Lib.hid (hst.out.only ho6 hr6)
        clear hst hr6 ho6
        by_cases hv0 : v = 0
        · subst hv0
          go_wp2_with fail
          refine (l91Word_as B r _ _ S6.out.rd (by omega)).mono ?_
          rintro e x7 ⟨⟨c', rfl, ⟨c0', c1'⟩, hr7, hb7⟩, ha7⟩
          have S7 := Lib.hid (S6.out.aside ha7 hr7 hb7)
          have s0 := (S7.out.sv 0 _ rfl).1
          have sf0 := (S7.out.sv 0 _ rfl).2
          have S8 := Lib.hid (S7.out.cum c')
          clear S6 hr7 hb7 ha7 S7
          have r0 := (S8.out.res 0 _ rfl).1
          have r1 := (S8.out.res 1 _ rfl).1
          have rf0 := (S8.out.res 0 _ rfl).2
          have rf1 := (S8.out.res 1 _ rfl).2
          have t0 := (S8.out.sv 0 _ rfl).1
          have t1 := (S8.out.sv 1 _ rfl).1
          go_wp2
          refine bodyPost_ret (v := .agg #[.int .i64 c', .slice (some ⟨g, 0, none⟩) k cap]) ?_ rfl ?_
          · simp [results, Try.results68, go_sem, r0, r1]
          · exact ⟨c', g, k, cap, gs, rfl, ⟨by omega, by omega⟩, by omega, by have := S8.out.gN; omega, (S8.out.done _ _).1, S8.out.sm, (S8.out.done _ _).2.1.mono (by omega), (S8.out.done _ _).2.2⟩
        · by_cases hv1 : v = 1
          · subst hv1
            have S6d := Lib.hid (S6.out.up (Below.drew (Below.refl _ _)))
            have s1 := (S6.out.sv 1 _ rfl).1
            go_wp2_with fail
            go_region_law (first
              | (refine step_append_lies _ (by rfl) _ _ _ (by rfl) (w.heap.size + 1) 76 i0 _ 2 16 Try.underlying39 HI.out.1 HI.out.2.1 HI.out.2.2.1 HI.out.2.2.2 rfl (by omega) _ k (flat gs) (by rfl) (hSt.up (below_box _ (Nat.le_refl _))).own ⟨_, 0, none⟩ 1 1 [_, _] (by rfl) (by rfl) news_two (by simp [Value.oneCell']) (by omega) (by unfold maxLen; omega) (by omega) (by have h1 := (hSt.up (below_box (.cells #[] 0) (Nat.le_refl _))).slt; have h2 := hSt.o2; simp at h1 ⊢; omega) _ rfl ?_; intro g2 cap2 w8 hown8 hgrow8 hat8 hlt8; have SV := (hSt.up (below_box _ (Nat.le_refl _))).sv.more hgrow8 (hSt.up (below_box _ (Nat.le_refl _))).slt hSt.ne.symm; have u1 := (SV 1 _ rfl).1; have uf1 := (SV 1 _ rfl).2; have SP := (hSt.up (below_box _ (Nat.le_refl _))).push hgrow8 hown8 (hat8.imp (fun h => by simpa [Value.ownBlock] using h) fun h => h.trans (by simp)) ⟨⟨by omega, by omega⟩, by omega, by omega⟩)
              | (go_simp; go_at_call 80; refine (pick_any B r _ 18 _ (by first | exact hSt.rd | exact S6d.out.rd) (by omega) (by omega) (by omega)).mono ?_; rintro e w' ⟨pv, rfl, pv0, pv1, hr', ho'⟩; have hSt := St.only (by first | exact hSt | exact S6d.out) ho' hr'; have s1 := (hSt.sv 1 _ rfl).1; have s1p := fun o => past_cell s1 o; dsimp only))
            all_goals
              have SQ := Lib.hid SP
              clear SV SP hgrow8 hown8 hat8 hlt8 hSt s1 s1p hr' ho'
              have r0 := (SQ.out.res 0 _ rfl).1
              have r1 := (SQ.out.res 1 _ rfl).1
              have rf0 := (SQ.out.res 0 _ rfl).2
              have rf1 := (SQ.out.res 1 _ rfl).2
              have t0 := (SQ.out.sv 0 _ rfl).1
              have t1 := (SQ.out.sv 1 _ rfl).1
              go_wp2
              refine bodyPost_ret (v := .agg #[.int .i64 c, .slice (some ⟨g2, 0, none⟩) (k + 1) cap2]) ?_ rfl ?_
              · simp [results, Try.results68, go_sem, r0, r1]
              · exact ⟨c, g2, (k + 1), cap2, _, rfl, ⟨by omega, by omega⟩, by omega, by have := SQ.out.gN; omega, (SQ.out.done _ _).1, SQ.out.sm, (SQ.out.done _ _).2.1.mono (by omega), (SQ.out.done _ _).2.2⟩
          · have r0 := (S6.out.res 0 _ rfl).1
            have r1 := (S6.out.res 1 _ rfl).1
            have rf0 := (S6.out.res 0 _ rfl).2
            have rf1 := (S6.out.res 1 _ rfl).2
            have t0 := (S6.out.sv 0 _ rfl).1
            have t1 := (S6.out.sv 1 _ rfl).1
            go_wp2
            refine bodyPost_ret (v := .agg #[.int .i64 c, .slice (some ⟨g, 0, none⟩) k cap]) ?_ rfl ?_
            · simp [results, Try.results68, go_sem, r0, r1]
            · exact ⟨c, g, k, cap, gs, rfl, ⟨by omega, by omega⟩, by omega, by have := S6.out.gN; omega, (S6.out.done _ _).1, S6.out.sm, (S6.out.done _ _).2.1.mono (by omega), (S6.out.done _ _).2.2⟩

end Go.Proofs.Ytcjabomcndahbaa
