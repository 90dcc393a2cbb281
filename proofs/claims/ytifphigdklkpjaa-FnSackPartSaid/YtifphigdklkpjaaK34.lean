/- The draws of receipts, from bytes. -/
import Derived.Test.YtifphigdklkpjaaK33
import Derived.Test.YtifphigdklkpjaaK12
import Derived.Test.YtifphigdklkpjaaK16
import Derived.Deep.RegionHeldLaw
namespace Go.Proofs.Ytifphigdklkpjaa
open Go.RowKit Go.PlainAid

/-- A receipt was drawn. -/
def DrewS (w : World) (e : Ending) (w' : World) : Prop :=
  ∃ (c : Int) (g k cap : Nat) (gs : List (Int × Int)), e = .returned (.agg #[.int .i64 c, .slice (some ⟨g, 0, none⟩) k cap]) ∧ (-1 ≤ c ∧ c ≤ 65536) ∧ k ≤ 10 ∧ Gaps w' (some ⟨g, 0, none⟩) k cap gs ∧ Small gs ∧ Below w.heap.size w w'
/-- A receipt and a number were drawn. -/
def DrewSH (w : World) (e : Ending) (w' : World) : Prop :=
  ∃ (c : Int) (g k cap : Nat) (gs : List (Int × Int)) (s : Int), e = .returned (.tuple #[.agg #[.int .i64 c, .slice (some ⟨g, 0, none⟩) k cap], .int .i64 s]) ∧ (-1 ≤ c ∧ c ≤ 65536) ∧ (-1 ≤ s ∧ s ≤ 65536) ∧ k ≤ 10 ∧ Gaps w' (some ⟨g, 0, none⟩) k cap gs ∧ Small gs ∧ Below w.heap.size w w'
theorem gap_add (g j : Nat) : (⟨g, 0, none⟩ : Addr).add j = ⟨g, j, none⟩ := by unfold Addr.add; split <;> simp_all
theorem Gaps.far {w : World} {g k cap d i : Nat} {gs : List (Int × Int)} (h : Gaps w (some ⟨g, 0, none⟩) k cap gs) (hd : d ≠ g) (v : Value) : Gaps (w.setCell ⟨d, i, none⟩ v) (some ⟨g, 0, none⟩) k cap gs := by
  rcases h with ⟨e, _⟩ | ⟨a, e, h7, h8, h9, h10⟩
  · cases e
  · obtain rfl : ⟨g, 0, none⟩ = a := by simpa using e
    refine .inr ⟨_, rfl, h7, h8, h9, fun i hi => ?_⟩
    have := h10 i hi
    rw [gap_add] at this ⊢
    exact ⟨cell_far hd this.1, cell_far hd this.2⟩
theorem Gaps.aside {w w' : World} {g k cap r : Nat} {gs : List (Int × Int)} (h : Gaps w (some ⟨g, 0, none⟩) k cap gs) (ha : Aside w.heap.size r w w') (hr : g ≠ r) : Gaps w' (some ⟨g, 0, none⟩) k cap gs := by
  rcases h with ⟨e, _⟩ | ⟨a, e, h7, h8, h9, h10⟩
  · cases e
  · obtain rfl : ⟨g, 0, none⟩ = a := by simpa using e
    refine .inr ⟨_, rfl, h7, h8, h9, fun i hi => ?_⟩
    have := h10 i hi
    rw [gap_add] at this ⊢
    exact ⟨ha.cell (lt_of_cell this.1) hr this.1, ha.cell (lt_of_cell this.1) hr this.2⟩

set_option maxHeartbeats 1000000 in
theorem drawSackPut_any (a0 : Option Addr) (len0 cap0 : Nat) (zs : List Int) (w : World) (h : IsRow .u8 w a0 len0 cap0 zs) :
    Calls Try.prog 12 #[.slice a0 len0 cap0] w (DrewS w) := by
  have H := Lib.hid h
  clear h
  go_enter Try.func12, Try.ntmps12
  go_wp2_with fail
  refine (l6Open_any a0 len0 cap0 zs _ (H.out.keep (below_box _ (Nat.le_refl _)))).mono ?_
  rintro e w1 ⟨r, rfl, hr1, hb1⟩
  have hsz := hb1.size
  go_wp2_with fail
  refine (l91Sack_any _ r 0 _ hr1 (by omega)).mono ?_
  rintro e w2 ⟨c, g, k, cap, gs, rfl, hc, hk, hg, hG, hs, hr2, hb2⟩
  have hb := hb1.trans hb2
  have R := (VarN.new w [.int .i64 0, .slice none 0 0] 28).below hb (by simp)
  have hB := (below_box (.cells (List.toArray [.int .i64 0, .slice none 0 0]) 28) (Nat.le_refl w.heap.size)).trans (hb.mono (by simp))
  have hne : w.heap.size ≠ g := by simp at hsz; omega
  have HG := Lib.hid ((hG.far (i := 0) hne (.int .i64 c)).far (i := 1) hne (.slice (some ⟨g, 0, none⟩) k cap))
  have HB := Lib.hid ((hB.setCell (p := ⟨w.heap.size, 0, none⟩) (Nat.le_refl _) (.int .i64 c)).setCell (p := ⟨w.heap.size, 1, none⟩) (Nat.le_refl _) (.slice (some ⟨g, 0, none⟩) k cap))
  have r0 := (R 0 _ rfl).1
  have r1 := (R 1 _ rfl).1
  have g0 := (R 0 _ rfl).2
  have g1 := (R 1 _ rfl).2
  clear hr1 hb1 hG hb hb2 R hB hsz hr2
  go_wp2
  refine bodyPost_ret (v := .agg #[.int .i64 c, .slice (some ⟨g, 0, none⟩) k cap]) ?_ rfl ?_
  · simp [results, Try.results12, go_sem, r0, r1]
  · exact ⟨c, g, k, cap, gs, rfl, hc, hk, HG.out, hs, HB.out⟩

/-- While a receipt and a number are drawn: the receipt at sv, the result's place at N. -/
structure PH (r N sv : Nat) (c : Int) (g k cap : Nat) (gs : List (Int × Int)) (w W : World) : Prop where
  vs : VarN sv [.int .i64 c, .slice (some ⟨g, 0, none⟩) k cap] W
  vr : ∃ z0 z1, VarN N [z0, z1] W
  gp : Gaps W (some ⟨g, 0, none⟩) k cap gs
  b : Below N w W
  o1 : sv ≠ r
  o2 : N < r
  o3 : N ≠ sv
  o4 : g ≠ r
  o5 : N ≠ g
section
variable {r N sv : Nat} {c : Int} {g k cap : Nat} {gs : List (Int × Int)} {w W W' : World}
theorem ph_at (h : PH r N sv c g k cap gs w W) : W.cell? ⟨sv, 0, none⟩ = some (.int .i64 c) ∧ W.cell? ⟨sv, 1, none⟩ = some (.slice (some ⟨g, 0, none⟩) k cap) ∧ PH r N sv c g k cap gs w W := ⟨(h.vs 0 _ rfl).1, (h.vs 1 _ rfl).1, h⟩
theorem PH.step (h : PH r N sv c g k cap gs w W) (ha : Aside W.heap.size r W W') (hb : Below N W W') : PH r N sv c g k cap gs w W' := by
  obtain ⟨z0, z1, hr⟩ := h.vr
  have h2 := h.o2
  exact ⟨h.vs.aside ha (lt_of_cell (h.vs 0 _ rfl).1) h.o1, ⟨z0, z1, hr.aside ha (lt_of_cell (hr 0 _ rfl).1) (by omega)⟩, h.gp.aside ha h.o4, h.b.trans hb, h.o1, h.o2, h.o3, h.o4, h.o5⟩
theorem ph_only (ho : Only r W W') (h : W.cell? ⟨sv, 0, none⟩ = some (.int .i64 c) ∧ W.cell? ⟨sv, 1, none⟩ = some (.slice (some ⟨g, 0, none⟩) k cap) ∧ PH r N sv c g k cap gs w W) :
    W'.cell? ⟨sv, 0, none⟩ = some (.int .i64 c) ∧ W'.cell? ⟨sv, 1, none⟩ = some (.slice (some ⟨g, 0, none⟩) k cap) ∧ PH r N sv c g k cap gs w W' :=
  ph_at (h.2.2.step ho.aside (ho.below (Nat.le_of_lt h.2.2.o2)))
theorem ph_near (ha : Aside W.heap.size r W W') (hb : Below (N + 1) W W') (h : W.cell? ⟨sv, 0, none⟩ = some (.int .i64 c) ∧ W.cell? ⟨sv, 1, none⟩ = some (.slice (some ⟨g, 0, none⟩) k cap) ∧ PH r N sv c g k cap gs w W) :
    W'.cell? ⟨sv, 0, none⟩ = some (.int .i64 c) ∧ W'.cell? ⟨sv, 1, none⟩ = some (.slice (some ⟨g, 0, none⟩) k cap) ∧ PH r N sv c g k cap gs w W' :=
  ph_at (h.2.2.step ha (hb.mono (Nat.le_succ _)))
theorem ph_store {x y : Value} (e : (W.setCell ⟨N, 0, none⟩ x).setCell ⟨N, 1, none⟩ y = W') (h : W.cell? ⟨sv, 0, none⟩ = some (.int .i64 c) ∧ W.cell? ⟨sv, 1, none⟩ = some (.slice (some ⟨g, 0, none⟩) k cap) ∧ PH r N sv c g k cap gs w W) :
    W'.cell? ⟨sv, 0, none⟩ = some (.int .i64 c) ∧ W'.cell? ⟨sv, 1, none⟩ = some (.slice (some ⟨g, 0, none⟩) k cap) ∧ PH r N sv c g k cap gs w W' := by
  obtain ⟨z0, z1, hr⟩ := h.2.2.vr
  have q := h.2.2
  subst e
  exact ph_at ⟨(q.vs.far x q.o3).far y q.o3, ⟨x, y, (hr.set (i := 0) x).set (i := 1) y⟩, (q.gp.far q.o5 x).far q.o5 y, (q.b.setCell (p := ⟨N, 0, none⟩) (Nat.le_refl _) x).setCell (p := ⟨N, 1, none⟩) (Nat.le_refl _) y, q.o1, q.o2, q.o3, q.o4, q.o5⟩
end

end Go.Proofs.Ytifphigdklkpjaa
