/- The contracts of chapter 11's model: whether a chunk is valid, its bytes, the chunk at a place, names. -/
import Derived.Test.YtncbgejggfkdmabG10
import Derived.Test.YtncbgejggfkdmabK1
import Derived.Test.YtncbgejggfkdmabK2
import Derived.Deep.RegionHeldLaw
import Derived.IntWalk
namespace Go.Proofs.Ytncbgejggfkdmab
open Go.RowKit Go.PlainAid

theorem kept_cell {B b i : Nat} {w w' : World} {v : Value} (hb : Below B w w') (h : b < B) (hc : w.cell? ⟨b, i, none⟩ = some v) : w'.cell? ⟨b, i, none⟩ = some v :=
  (hb.cell (p := ⟨b, i, none⟩) h).trans hc
theorem kept_frozen {B b i : Nat} {w w' : World} (hb : Below B w w') (h : b < B) (hf : w.frozen? ⟨b, i, none⟩ = false) : w'.frozen? ⟨b, i, none⟩ = false :=
  (hb.frozen (p := ⟨b, i, none⟩) h).trans hf
theorem below_box {B : Nat} {w : World} (o : Obj) (h : B ≤ w.heap.size) : Below B w (w.alloc o) := (Below.refl B w).alloc h o

/-- Two bytes that lie anywhere, as a text. -/
theorem conv_two (w : World) (g cap : Nat) (x y : Int) (h0 : w.cell? ⟨g, 0, none⟩ = some (.int .u8 x)) (h1 : w.cell? ⟨g, 1, none⟩ = some (.int .u8 y)) :
    (convert 22 9 (.slice (some ⟨g, 0, none⟩) 2 cap)).run Try.prog w = .ok (.string (strOfNums [x, y])) w := by
  refine run_convert_bytes_arg w 22 5 Try.underlying22 Try.underlying5 g 0 2 cap [x, y] rfl (fun i hi => ?_) 9 Try.underlying9
  rcases (show i = 0 ∨ i = 1 by omega) with rfl | rfl
  · exact h0
  · exact h1

end Go.Proofs.Ytncbgejggfkdmab
