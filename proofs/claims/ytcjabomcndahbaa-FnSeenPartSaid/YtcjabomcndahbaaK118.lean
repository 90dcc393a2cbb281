/- Plain facts and region steps of the law on parts ahead that are left out. -/
import Derived.Test.YtcjabomcndahbaaK98
import Derived.Test.YtcjabomcndahbaaK93
import Derived.Test.YtcjabomcndahbaaK105
import Derived.Deep.RegionHeldLaw
import Derived.Deep.CutRange
import Derived.Deep.DeepCutAuto
import Derived.Handy
namespace Go.Proofs.Ytcjabomcndahbaa
open Go.RowKit Go.PlainAid

theorem varN_drew (w : World) (vs : List Value) (T : TypeId) : VarN w.heap.size vs (w.alloc (.cells vs.toArray T)).drew := (VarN.new w vs T).drewN 1
theorem varN_drew2 (w : World) (vs : List Value) (T : TypeId) (o : Obj) : VarN w.heap.size vs ((w.alloc (.cells vs.toArray T)).alloc o).drew := ((VarN.new w vs T).alloc o (by simp)).drewN 1
theorem VarN.growE {d e : Nat} {vs : List Value} {w w' : World} (h : VarN d vs w) (hg : w.grownBy w' (some e)) (hd : d < w.heap.size) (hne : d ≠ e) : VarN d vs w' := h.plus hg hd hne
section
variable {W5 W W' : World} {vb g n cap : Nat} {c : Int} {es : List Int}
theorem kp_grow {e : Nat} (B0 : W5.cell? ⟨vb, 0, none⟩ = some (.int .i64 c) ∧ W5.cell? ⟨vb, 1, none⟩ = some (.slice (some ⟨g, 0, none⟩) n cap) ∧ Ns W5 (some ⟨g, 0, none⟩) n cap es ∧ Below W5.heap.size W5 W5) (hg : W.grownBy W' (some e)) (he : W5.heap.size ≤ e)
    (h : W.cell? ⟨vb, 0, none⟩ = some (.int .i64 c) ∧ W.cell? ⟨vb, 1, none⟩ = some (.slice (some ⟨g, 0, none⟩) n cap) ∧ Ns W (some ⟨g, 0, none⟩) n cap es ∧ Below W5.heap.size W5 W) :
    W'.cell? ⟨vb, 0, none⟩ = some (.int .i64 c) ∧ W'.cell? ⟨vb, 1, none⟩ = some (.slice (some ⟨g, 0, none⟩) n cap) ∧ Ns W' (some ⟨g, 0, none⟩) n cap es ∧ Below W5.heap.size W5 W' :=
  keptS B0 (Below.grown h.2.2.2 hg h.2.2.2.size fun x hx => by cases hx; exact he)
theorem kp_far {d : Nat} {x y : Value} (B0 : W5.cell? ⟨vb, 0, none⟩ = some (.int .i64 c) ∧ W5.cell? ⟨vb, 1, none⟩ = some (.slice (some ⟨g, 0, none⟩) n cap) ∧ Ns W5 (some ⟨g, 0, none⟩) n cap es ∧ Below W5.heap.size W5 W5) (hd : W5.heap.size ≤ d)
    (h : W.cell? ⟨vb, 0, none⟩ = some (.int .i64 c) ∧ W.cell? ⟨vb, 1, none⟩ = some (.slice (some ⟨g, 0, none⟩) n cap) ∧ Ns W (some ⟨g, 0, none⟩) n cap es ∧ Below W5.heap.size W5 W) :
    ((W.setCell ⟨d, 0, none⟩ x).setCell ⟨d, 1, none⟩ y).cell? ⟨vb, 0, none⟩ = some (.int .i64 c) ∧ ((W.setCell ⟨d, 0, none⟩ x).setCell ⟨d, 1, none⟩ y).cell? ⟨vb, 1, none⟩ = some (.slice (some ⟨g, 0, none⟩) n cap) ∧ Ns ((W.setCell ⟨d, 0, none⟩ x).setCell ⟨d, 1, none⟩ y) (some ⟨g, 0, none⟩) n cap es ∧ Below W5.heap.size W5 ((W.setCell ⟨d, 0, none⟩ x).setCell ⟨d, 1, none⟩ y) :=
  keptS B0 ((h.2.2.2.setCell (p := ⟨d, 0, none⟩) hd x).setCell (p := ⟨d, 1, none⟩) hd y)
theorem kp_refill {a0 a1 x y : Value} {T : TypeId} (B0 : W5.cell? ⟨vb, 0, none⟩ = some (.int .i64 c) ∧ W5.cell? ⟨vb, 1, none⟩ = some (.slice (some ⟨g, 0, none⟩) n cap) ∧ Ns W5 (some ⟨g, 0, none⟩) n cap es ∧ Below W5.heap.size W5 W5) (hd : W5.heap.size ≤ W.heap.size)
    (h : (W.alloc (.cells #[a0, a1] T)).cell? ⟨vb, 0, none⟩ = some (.int .i64 c) ∧ (W.alloc (.cells #[a0, a1] T)).cell? ⟨vb, 1, none⟩ = some (.slice (some ⟨g, 0, none⟩) n cap) ∧ Ns (W.alloc (.cells #[a0, a1] T)) (some ⟨g, 0, none⟩) n cap es ∧ Below W5.heap.size W5 (W.alloc (.cells #[a0, a1] T))) :
    (W.alloc (.cells #[x, y] T)).cell? ⟨vb, 0, none⟩ = some (.int .i64 c) ∧ (W.alloc (.cells #[x, y] T)).cell? ⟨vb, 1, none⟩ = some (.slice (some ⟨g, 0, none⟩) n cap) ∧ Ns (W.alloc (.cells #[x, y] T)) (some ⟨g, 0, none⟩) n cap es ∧ Below W5.heap.size W5 (W.alloc (.cells #[x, y] T)) := by
  have e : ((W.alloc (.cells #[a0, a1] T)).setCell ⟨W.heap.size, 0, none⟩ x).setCell ⟨W.heap.size, 1, none⟩ y = W.alloc (.cells #[x, y] T) := by
    rw [World.setCell_alloc_new, World.setCell_alloc_new]
    rfl
  rw [← e]
  exact kp_far B0 hd h
theorem kp_lo (h : W.cell? ⟨vb, 0, none⟩ = some (.int .i64 c) ∧ W.cell? ⟨vb, 1, none⟩ = some (.slice (some ⟨g, 0, none⟩) n cap) ∧ Ns W (some ⟨g, 0, none⟩) n cap es ∧ Below W5.heap.size W5 W) : W5.heap.size ≤ W.heap.size := h.2.2.2.size
theorem kp_first (h : W.cell? ⟨vb, 0, none⟩ = some (.int .i64 c) ∧ W.cell? ⟨vb, 1, none⟩ = some (.slice (some ⟨g, 0, none⟩) n cap) ∧ Ns W (some ⟨g, 0, none⟩) n cap es ∧ Below W5.heap.size W5 W) (i : Nat) : ∀ j u, (flatN (es.take i))[j]? = some u → W.cell? ((⟨g, 0, none⟩ : Addr).add j) = some u := fun j u hu => by
  refine ns_flat h.2.2.1 j u ?_
  unfold flatN at hu ⊢
  rw [List.map_take] at hu
  rw [List.getElem?_take] at hu
  split at hu
  · exact hu
  · cases hu
theorem kp_last (h : W.cell? ⟨vb, 0, none⟩ = some (.int .i64 c) ∧ W.cell? ⟨vb, 1, none⟩ = some (.slice (some ⟨g, 0, none⟩) n cap) ∧ Ns W (some ⟨g, 0, none⟩) n cap es ∧ Below W5.heap.size W5 W) (i : Nat) : ∀ j u, (flatN (es.drop i))[j]? = some u → W.cell? ((⟨g, i, none⟩ : Addr).add j) = some u := fun j u hu => by
  have e : (⟨g, i, none⟩ : Addr).add j = ⟨g, i + j, none⟩ := by unfold Addr.add; split <;> simp_all
  rw [e]
  have := ns_flat h.2.2.1 (i + j) u (by
    unfold flatN at hu ⊢
    rw [List.map_drop] at hu
    rwa [List.getElem?_drop] at hu)
  rwa [n_add] at this
theorem kp_nil (a : Addr) : ∀ j u, (flatN [])[j]? = some u → W.cell? (a.add j) = some u := fun j u hu => by simp [flatN] at hu
end
end Go.Proofs.Ytcjabomcndahbaa
