/- What a drawing function leaves: the blocks below B, and of those that were there all but the reader's. -/
import Derived.Test.YtcjabomcndahbaaK4b
namespace Go.Proofs.Ytcjabomcndahbaa
open Go.RowKit

/-- From w to w' nothing below B has turned, and of the blocks that w has none but block r. -/
structure Fr (B r : Nat) (w w' : World) : Prop where
  below : Below B w w'
  aside : Aside w.heap.size r w w'
theorem Fr.refl (B r : Nat) (w : World) : Fr B r w w := ⟨Below.refl _ _, Aside.refl _ _ _⟩
theorem Fr.size {B r : Nat} {w a : World} (h : Fr B r w a) : w.heap.size ≤ a.heap.size := h.below.size
theorem Fr.only {B r : Nat} {w a b : World} (h : Fr B r w a) (hB : B ≤ r) (ho : Only r a b) : Fr B r w b := ⟨h.below.trans (ho.below hB), h.aside.trans ho.aside⟩
theorem Fr.alloc {B r : Nat} {w a : World} (h : Fr B r w a) (hB : B ≤ w.heap.size) (o : Obj) : Fr B r w (a.alloc o) :=
  ⟨h.below.alloc (Nat.le_trans hB h.size) o, h.aside.trans (aside_alloc a o h.size)⟩
theorem Fr.set {B r d i : Nat} {w a : World} (h : Fr B r w a) (hd : w.heap.size ≤ d) (hB : B ≤ w.heap.size) (v : Value) : Fr B r w (a.setCell ⟨d, i, none⟩ v) :=
  ⟨h.below.setCell (Nat.le_trans hB hd) v, h.aside.trans (below_aside ((Below.refl d a).setCell (p := ⟨d, i, none⟩) (Nat.le_refl d) v) hd)⟩
theorem Fr.drewN {B r : Nat} {w a : World} (h : Fr B r w a) (q : Nat) : Fr B r w (a.drewN q) := ⟨below_drewN h.below q, h.aside.trans (below_aside (below_drewN (Below.refl a.heap.size a) q) h.size)⟩
theorem Fr.step {B r : Nat} {w a b : World} (h : Fr B r w a) (hb : Below B a b) (ha : Aside a.heap.size r a b) : Fr B r w b := ⟨h.below.trans hb, h.aside.trans (ha.less h.size)⟩
theorem Fr.trans {B r : Nat} {w a b : World} (h : Fr B r w a) (k : Fr B r a b) : Fr B r w b := h.step k.below k.aside
/-- A callee that touches nothing that was there. -/
theorem Fr.grow {B r : Nat} {w a b : World} (h : Fr B r w a) (hB : B ≤ w.heap.size) (hb : Below a.heap.size a b) : Fr B r w b :=
  h.step (hb.mono (Nat.le_trans hB h.size)) (below_aside hb (Nat.le_refl _))
theorem Rd.far {B r m d : Nat} {w : World} (h : Rd B r m w) (hd : r < d) (i : Nat) (v : Value) : Rd B r m (w.setCell ⟨d, i, none⟩ v) :=
  h.keep ((Below.refl (r + 1) w).setCell (p := ⟨d, i, none⟩) hd v) (Nat.lt_succ_self r)

end Go.Proofs.Ytcjabomcndahbaa
