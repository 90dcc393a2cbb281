/- The contracts of the drawing functions of chapter 1: each draws a number or a text in its range and touches nothing that was there. -/
import Derived.Test.YthogaffeeadnhabDoorK3
namespace Go.Proofs.YthogaffeeadnhabDoor
open Go.RowKit

/-- A number with the property P was drawn; the reader stands; nothing below B has turned. -/
def DrewInt (B r m : Nat) (P : Int → Prop) (w : World) (e : Ending) (w' : World) : Prop :=
  ∃ n : Int, e = .returned (.int .i64 n) ∧ P n ∧ Rd B r m w' ∧ Below B w w'
/-- A text of at most n bytes was drawn. -/
def DrewStr (B r m n : Nat) (w : World) (e : Ending) (w' : World) : Prop :=
  ∃ s : ByteArray, e = .returned (.string s) ∧ s.size ≤ n ∧ Rd B r m w' ∧ Below B w w'
theorem tab_at {w w2 : World} {r T : Nat} {cs : Array Value} (ho : Only r (w.alloc (.cells cs T)) w2) (hr : r < w.heap.size) (j : Nat) (v : Value) (hj : cs[j]? = some v) : w2.cell? ⟨w.heap.size, j, none⟩ = some v := by
  obtain ⟨u, q, rfl⟩ := ho
  rw [World.cell?_drewN]
  exact cell_far (by omega) (by rw [World.cell?_alloc_at _ _ _ _ rfl]; exact hj)
theorem Rd.alloc {B r m : Nat} {w : World} (h : Rd B r m w) (o : Obj) : Rd B r m (w.alloc o) :=
  h.keep ((Below.refl _ _).alloc (Nat.le_refl _) o) h.2.1
theorem Rd.below_alloc {B r m : Nat} {w : World} (h : Rd B r m w) (o : Obj) : Below B w (w.alloc o) :=
  (Below.refl _ _).alloc (Nat.le_of_lt (Nat.lt_of_le_of_lt h.1 h.2.1)) o

theorem own_only {w w' : World} {r C e size n : Nat} {v : Value} {xs : List Value} (ho : Only r w w') (hr : r < C) (h : w.ownsRow C e size v n xs) : w'.ownsRow C e size v n xs := by
  obtain ⟨u, q, rfl⟩ := ho
  exact ownsRow_setCell_below h (a := ⟨r, 1, none⟩) hr u
theorem own_ge {w : World} {C e size n k : Nat} {v : Value} {xs : List Value} (h : w.ownsRow C e size v n xs) (hk : v.ownBlock = some k) : C ≤ k := by
  rcases h.2 with ⟨rfl, _⟩ | ⟨g, cap, cur, rfl, hg, _⟩
  · simp [Value.ownBlock] at hk
  · simp [Value.ownBlock] at hk
    omega
theorem info_u8 : (Tryd.prog.info? 5).map (fun i => (i.zero, i.size, i.bytes)) = some (some (.int .u8 0), 1, 1) := by kernel_rfl
theorem conv_own {w : World} {C n : Nat} {v : Value} {l : List Int} (h : w.ownsRow C 5 1 v n (l.map (Value.int .u8))) :
    (convert 22 9 v).run Tryd.prog w = .ok (.string (strOfNums l)) w := by
  have hl : l.length = n := by have := h.1; simpa using this
  rcases h.2 with ⟨rfl, h0⟩ | ⟨g, cap, cur, rfl, hg, _⟩
  · have : l = [] := List.eq_nil_of_length_eq_zero (by omega)
    subst this
    exact run_convert_bytes_nil w 22 5 Tryd.underlying22 Tryd.underlying5 0 0 9 Tryd.underlying9
  · refine run_convert_bytes_arg w 22 5 Tryd.underlying22 Tryd.underlying5 g 0 n cap l hl (fun i hi => ?_) 9 Tryd.underlying9
    have := h.cellAt i (by omega)
    rw [Nat.zero_add, this]
    simp [List.getD, List.getElem?_eq_getElem (show i < l.length by omega)]

/-- A number was drawn out of the given bytes. -/
def DrewN (P : Int → Prop) (w : World) (e : Ending) (w' : World) : Prop := ∃ n : Int, e = .returned (.int .i64 n) ∧ P n ∧ Below w.heap.size w w'
/-- A text and a place were drawn. -/
def DrewSI (P : ByteArray → Int → Prop) (w : World) (e : Ending) (w' : World) : Prop := ∃ s n, e = .returned (.tuple #[.string s, .int .i64 n]) ∧ P s n ∧ Below w.heap.size w w'

end Go.Proofs.YthogaffeeadnhabDoor
