/- The contracts of chapter 12's model: receipts, asked and written. -/
import Derived.Test.YtcjabomcndahbaaK28
import Derived.Test.YtcjabomcndahbaaK19
import Derived.Deep.RegionHeldLaw
namespace Go.Proofs.Ytcjabomcndahbaa
open Go.RowKit Go.PlainAid

/-- Whether a receipt has a part. -/
def hasV (c s : Int) (gs : List (Int × Int)) : Bool := decide (SackOk c gs) && decide (0 ≤ s ∧ s ≤ 65535) && (blockV (diffS c s) gs || decide (diffS c s ≤ 0))

/-- What a region that reads a block needs to know of a world. -/
theorem keptG {y z : Addr} {b : Nat} {sv : Value} {f t : Int} {w1 W W' : World} (h : W.cell? ⟨b, 1, none⟩ = some sv ∧ W.cell? y = some (.int .i64 f) ∧ W.cell? z = some (.int .i64 t) ∧ Below w1.heap.size w1 W) (hb : Below W.heap.size W W') :
    W'.cell? ⟨b, 1, none⟩ = some sv ∧ W'.cell? y = some (.int .i64 f) ∧ W'.cell? z = some (.int .i64 t) ∧ Below w1.heap.size w1 W' :=
  ⟨(hb.cell (World.block_lt_of_cell? W _ h.1)).trans h.1, (hb.cell (World.block_lt_of_cell? W _ h.2.1)).trans h.2.1, (hb.cell (World.block_lt_of_cell? W _ h.2.2.1)).trans h.2.2.1, h.2.2.2.trans (hb.mono h.2.2.2.size)⟩

end Go.Proofs.Ytcjabomcndahbaa
