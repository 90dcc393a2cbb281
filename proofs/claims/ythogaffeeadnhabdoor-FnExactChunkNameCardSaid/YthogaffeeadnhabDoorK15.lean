/- The contracts of the drawing functions of chapter 11. -/
import Derived.Test.YthogaffeeadnhabDoorK4c
import Derived.Test.YthogaffeeadnhabDoorK7m
import Derived.Test.YthogaffeeadnhabDoorK14
import Derived.Deep.RegionWith
namespace Go.Proofs.YthogaffeeadnhabDoor
open Go.RowKit Go.PlainAid

/-- A chunk lies at block c, in a variable. -/
def Var3 (c : Nat) (k f : Int) (b : ByteArray) (w : World) : Prop :=
  (w.cell? ⟨c, 0, none⟩ = some (.int .i64 k) ∧ w.cell? ⟨c, 1, none⟩ = some (.int .i64 f) ∧ w.cell? ⟨c, 2, none⟩ = some (.string b)) ∧
  w.frozen? ⟨c, 0, none⟩ = false ∧ w.frozen? ⟨c, 1, none⟩ = false ∧ w.frozen? ⟨c, 2, none⟩ = false
theorem Var3.aside {c C r : Nat} {k f : Int} {b : ByteArray} {w w' : World} (h : Var3 c k f b w) (ha : Aside C r w w') (hc : c < C) (hr : c ≠ r) : Var3 c k f b w' :=
  ⟨⟨ha.cell hc hr h.1.1, ha.cell hc hr h.1.2.1, ha.cell hc hr h.1.2.2⟩, ha.frozen hc hr h.2.1, ha.frozen hc hr h.2.2.1, ha.frozen hc hr h.2.2.2⟩
theorem Var3.new (w : World) (k f : Int) (b : ByteArray) (T : TypeId) : Var3 w.heap.size k f b (w.alloc (.cells #[.int .i64 k, .int .i64 f, .string b] T)) :=
  ⟨⟨by simp, by simp, by simp⟩, by simp, by simp, by simp⟩
/-- A chunk was drawn; the reader stands. -/
def DrewC (B r m : Nat) (w : World) (e : Ending) (w' : World) : Prop :=
  ∃ (k f : Int) (b : ByteArray), e = .returned (.agg #[.int .i64 k, .int .i64 f, .string b]) ∧ ((-1 ≤ k ∧ k ≤ 256) ∧ (-1 ≤ f ∧ f ≤ 256) ∧ b.size ≤ 62) ∧ Rd B r m w' ∧ Below B w w'

/-- A new row of one byte becomes a text. -/
theorem conv_single (w : World) (b : Nat) (x : Int) (c : Nat) (h : w.cell? ⟨b, 0, none⟩ = some (.int .u8 x)) :
    (convert 22 9 (.slice (some ⟨b, 0, none⟩) 1 c)).run Tryd.prog w = .ok (.string (strOfNums [x])) w :=
  run_convert_bytes_arg _ 22 5 Tryd.underlying22 Tryd.underlying5 b 0 1 c [x] rfl (fun i hi => by
    obtain rfl : i = 0 := by omega
    exact h) 9 Tryd.underlying9

end Go.Proofs.YthogaffeeadnhabDoor
