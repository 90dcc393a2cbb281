/- The contract of the program's ChunkName, where its table holds the names. -/
import Derived.Test.YthogaffeeadnhabDoorK17
namespace Go.Proofs.YthogaffeeadnhabDoor
open Go.RowKit Go.PlainAid

/-- The program's table holds the names. -/
def Tab (w : World) : Prop := ∀ i : Nat, i < 15 → w.cell? ⟨0, i, none⟩ = some (.string (nameL.getD i ⟨#[]⟩))
theorem Tab.there {w : World} (h : Tab w) : 0 < w.heap.size := World.block_lt_of_cell? w ⟨0, 0, none⟩ (h 0 (by decide))
theorem Tab.below {B : Nat} {w w' : World} (h : Tab w) (hB : w.heap.size ≤ B) (hb : Below B w w') : Tab w' := fun i hi =>
  (hb.cell (p := ⟨0, i, none⟩) (Nat.lt_of_lt_of_le h.there hB)).trans (h i hi)

set_option maxHeartbeats 4000000 in
theorem chunkName_any (k : Int) (w : World) (hT : Tab w) :
    Calls Tryd.prog 7 #[.int .i64 k] w fun e w' => e = .returned (.string (nameV k)) ∧ Below w.heap.size w w' := by
  by_cases h : 0 ≤ k ∧ k ≤ 14
  · obtain ⟨h0, h1⟩ := h
    have c0 := hT 0 (by decide)
    have c1 := hT 1 (by decide)
    have c2 := hT 2 (by decide)
    have c3 := hT 3 (by decide)
    have c4 := hT 4 (by decide)
    have c5 := hT 5 (by decide)
    have c6 := hT 6 (by decide)
    have c7 := hT 7 (by decide)
    have c8 := hT 8 (by decide)
    have c9 := hT 9 (by decide)
    have c10 := hT 10 (by decide)
    have c11 := hT 11 (by decide)
    have c12 := hT 12 (by decide)
    have c13 := hT 13 (by decide)
    have c14 := hT 14 (by decide)
    clear hT
    rcases (show k = 0 ∨ k = 1 ∨ k = 2 ∨ k = 3 ∨ k = 4 ∨ k = 5 ∨ k = 6 ∨ k = 7 ∨ k = 8 ∨ k = 9 ∨ k = 10 ∨ k = 11 ∨ k = 12 ∨ k = 13 ∨ k = 14 by omega) with rfl | rfl | rfl | rfl | rfl | rfl | rfl | rfl | rfl | rfl | rfl | rfl | rfl | rfl | rfl
    all_goals
      go_enter Tryd.func7, Tryd.ntmps7
      go_wp2
      go_ret
      exact ⟨rfl, Below.refl _ _⟩
  · rw [nameV_out h]
    by_cases h0 : k < 0
    · go_enter Tryd.func7, Tryd.ntmps7
      go_wp2
      go_ret
      exact ⟨rfl, Below.refl _ _⟩
    · have h1 : 15 ≤ k := by omega
      go_enter Tryd.func7, Tryd.ntmps7
      go_wp2
      go_ret
      exact ⟨rfl, Below.refl _ _⟩

end Go.Proofs.YthogaffeeadnhabDoor
