/- The contracts of the drawing functions of chapter 3: two serial numbers, seldom an invalid one, or a number and steps. -/
import Derived.Test.YtifphigdklkpjaaK10
import Derived.Deep.RegionWith
namespace Go.Proofs.Ytifphigdklkpjaa
open Go.RowKit

/-- Two numbers were drawn. -/
def DrewII (P : Int → Int → Prop) (w : World) (e : Ending) (w' : World) : Prop := ∃ a n : Int, e = .returned (.tuple #[.int .i64 a, .int .i64 n]) ∧ P a n ∧ Below w.heap.size w w'
/-- Three numbers were drawn. -/
def DrewIII (P : Int → Int → Int → Prop) (w : World) (e : Ending) (w' : World) : Prop := ∃ a b n : Int, e = .returned (.tuple #[.int .i64 a, .int .i64 b, .int .i64 n]) ∧ P a b n ∧ Below w.heap.size w w'
/-- About a serial number. -/
def Near (a : Int) : Prop := -1 ≤ a ∧ a ≤ 65536
theorem Ser.near {a : Int} (h : Ser a) : Near a := by unfold Ser at h; unfold Near; omega
theorem Rd.drew {B r m : Nat} {w : World} (h : Rd B r m w) : Rd B r m w.drew := h.keep (Below.refl _ _).drew h.2.1
theorem only_cell {r b i : Nat} {w w' : World} {v : Value} (ho : Only r w w') (hr : r < b) (h : w.cell? ⟨b, i, none⟩ = some v) : w'.cell? ⟨b, i, none⟩ = some v := by
  obtain ⟨u, q, rfl⟩ := ho
  rw [World.cell?_drewN]
  exact cell_far (by omega) h

/-- A step of the table. -/
def step6 (j : Int) : Int := ([65536, -65536, 100000, -100000, 32768, -1] : List Int).getD j.toNat 0
theorem step6_range (j : Int) : -100000 ≤ step6 j ∧ step6 j ≤ 100000 := by
  unfold step6
  match j.toNat with
  | 0 => decide
  | 1 => decide
  | 2 => decide
  | 3 => decide
  | 4 => decide
  | 5 => decide
  | _ + 6 => exact ⟨by simp, by simp⟩
theorem tab6_at (v : World) (j : Int) (T : Nat) (h0 : 0 ≤ j) (h1 : j < 6) : (v.alloc (.cells #[.int .i64 65536, .int .i64 (-65536), .int .i64 100000, .int .i64 (-100000), .int .i64 32768, .int .i64 (-1)] T)).cell? ⟨v.heap.size, j.toNat, none⟩ = some (.int .i64 (step6 j)) := by
  rw [World.cell?_alloc_at _ _ _ _ rfl]
  rcases (show j = 0 ∨ j = 1 ∨ j = 2 ∨ j = 3 ∨ j = 4 ∨ j = 5 by omega) with rfl | rfl | rfl | rfl | rfl | rfl
  all_goals rfl

/-- A number of the table. -/
def many4 (j : Int) : Int := ([-1, 0, 32768, 32769] : List Int).getD j.toNat 0
theorem many4_range (j : Int) : -1 ≤ many4 j ∧ many4 j ≤ 32769 := by
  unfold many4
  match j.toNat with
  | 0 => decide
  | 1 => decide
  | 2 => decide
  | 3 => decide
  | _ + 4 => exact ⟨by simp, by simp⟩
theorem tab4_at (v : World) (j : Int) (T : Nat) (h0 : 0 ≤ j) (h1 : j < 4) : (v.alloc (.cells #[.int .i64 (-1), .int .i64 0, .int .i64 32768, .int .i64 32769] T)).cell? ⟨v.heap.size, j.toNat, none⟩ = some (.int .i64 (many4 j)) := by
  rw [World.cell?_alloc_at _ _ _ _ rfl]
  rcases (show j = 0 ∨ j = 1 ∨ j = 2 ∨ j = 3 by omega) with rfl | rfl | rfl | rfl
  all_goals rfl

end Go.Proofs.Ytifphigdklkpjaa
