/- The drawing functions once more: besides the reader they touch no block that was there. -/
import Derived.Test.YthogaffeeadnhabDoorK4
namespace Go.Proofs.YthogaffeeadnhabDoor
open Go.RowKit

/-- Of the blocks below C none but block r has turned. -/
def Aside (C r : Nat) (w w' : World) : Prop := ∀ b, b < C → b ≠ r → w'.heap[b]? = w.heap[b]?
theorem Aside.refl (C r : Nat) (w : World) : Aside C r w w := fun _ _ _ => rfl
theorem Aside.trans {C r : Nat} {a b c : World} (h : Aside C r a b) (k : Aside C r b c) : Aside C r a c := fun i hi hr => (k i hi hr).trans (h i hi hr)
theorem Aside.less {C D r : Nat} {a b : World} (h : Aside C r a b) (hD : D ≤ C) : Aside D r a b := fun i hi hr => h i (by omega) hr
theorem Aside.cell {C r b i : Nat} {w w' : World} {v : Value} (h : Aside C r w w') (hb : b < C) (hr : b ≠ r) (hc : w.cell? ⟨b, i, none⟩ = some v) : w'.cell? ⟨b, i, none⟩ = some v :=
  (World.cell?_of_block (w := w) (h b hb hr)).trans hc
theorem Aside.frozen {C r b i : Nat} {w w' : World} (h : Aside C r w w') (hb : b < C) (hr : b ≠ r) (hf : w.frozen? ⟨b, i, none⟩ = false) : w'.frozen? ⟨b, i, none⟩ = false :=
  (World.frozen?_of_block (w := w) (h b hb hr)).trans hf
theorem below_aside {C D r : Nat} {w w' : World} (h : Below D w w') (hD : C ≤ D) : Aside C r w w' := fun b hb _ => h.block b (by omega)
theorem Only.aside {r C : Nat} {w w' : World} (h : Only r w w') : Aside C r w w' := by
  obtain ⟨u, q, rfl⟩ := h
  intro b _ hr
  rw [World.heap_drewN]
  exact Below.heap_setCell _ _ _ _ (by simpa using hr)
theorem aside_alloc {C r : Nat} (w : World) (o : Obj) (h : C ≤ w.heap.size) : Aside C r w (w.alloc o) := below_aside ((Below.refl C w).alloc h o) (Nat.le_refl _)

end Go.Proofs.YthogaffeeadnhabDoor
