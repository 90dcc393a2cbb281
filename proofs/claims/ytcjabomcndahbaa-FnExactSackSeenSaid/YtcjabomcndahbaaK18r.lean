/- The contracts of the program's cursor: what it reads and where it stands behind it. -/
import Derived.Test.YtcjabomcndahbaaG10
import Derived.Test.YtcjabomcndahbaaK1
import Derived.Test.YtcjabomcndahbaaK13
import Derived.Deep.RegionHeldLaw
import Derived.IntWalk
import Derived.Handy
import Derived.Test.YtcjabomcndahbaaK2
import Derived.Test.YtcjabomcndahbaaK4c
import Derived.Test.YtcjabomcndahbaaG9
namespace Go.Proofs.Ytcjabomcndahbaa
open Go.RowKit Go.PlainAid

theorem Fr.own {B r i : Nat} {w a : World} (h : Fr B r w a) (hB : B ≤ r) (v : Value) : Fr B r w (a.setCell ⟨r, i, none⟩ v) :=
  ⟨h.below.setCell (p := ⟨r, i, none⟩) hB v, h.aside.trans fun b _ hr => Below.heap_setCell _ _ _ _ (by simpa using hr)⟩

/-- A cursor at block c over the text s, at the place p. -/
def Cur (c : Nat) (s : ByteArray) (p : Int) (w : World) : Prop :=
  c < w.heap.size ∧ w.cell? ⟨c, 0, none⟩ = some (.string s) ∧ w.cell? ⟨c, 1, none⟩ = some (.int .i64 p) ∧ w.frozen? ⟨c, 1, none⟩ = false
theorem Cur.drewN {c : Nat} {s : ByteArray} {p : Int} {w : World} (h : Cur c s p w) (q : Nat) : Cur c s p (w.drewN q) := by
  obtain ⟨h0, h1, h2, h3⟩ := h
  exact ⟨by simpa using h0, by simpa using h1, by simpa using h2, by simpa using h3⟩
theorem Cur.grow {c : Nat} {s : ByteArray} {p : Int} {w w' : World} (h : Cur c s p w) (hb : Below w.heap.size w w') : Cur c s p w' :=
  ⟨Nat.lt_of_lt_of_le h.1 hb.size, kept_cell hb h.1 h.2.1, kept_cell hb h.1 h.2.2.1, kept_frozen hb h.1 h.2.2.2⟩
theorem Cur.to {c : Nat} {s : ByteArray} {p : Int} {w : World} (h : Cur c s p w) (q : Int) : Cur c s q (w.setCell ⟨c, 1, none⟩ (.int .i64 q)) := by
  obtain ⟨h0, h1, h2, h3⟩ := h
  exact ⟨by simpa using h0, cell_other (by decide) h1, World.cell?_setCell_same _ _ _ h2, by rw [World.frozen?_setCell]; exact h3⟩

theorem keptC {B c : Nat} {s : ByteArray} {p : Int} {w W W' : World} (hB : B ≤ w.heap.size) (h : W.cell? ⟨c, 0, none⟩ = some (.string s) ∧ W.cell? ⟨c, 1, none⟩ = some (.int .i64 p) ∧ W.frozen? ⟨c, 1, none⟩ = false ∧ Fr B c w W) (hb : Below W.heap.size W W') :
    W'.cell? ⟨c, 0, none⟩ = some (.string s) ∧ W'.cell? ⟨c, 1, none⟩ = some (.int .i64 p) ∧ W'.frozen? ⟨c, 1, none⟩ = false ∧ Fr B c w W' := by
  obtain ⟨h0, h1, h2, h3⟩ := h
  have hlt : c < W.heap.size := World.block_lt_of_cell? W ⟨c, 0, none⟩ h0
  exact ⟨kept_cell hb hlt h0, kept_cell hb hlt h1, kept_frozen hb hlt h2, h3.grow hB hb⟩

end Go.Proofs.Ytcjabomcndahbaa
