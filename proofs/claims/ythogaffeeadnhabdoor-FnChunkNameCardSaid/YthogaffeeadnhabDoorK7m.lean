/- The contract of the helper that repeats a text. -/
import Derived.Test.YthogaffeeadnhabDoorG2
import Derived.Deep.QuietTactic
import Derived.BigQuiet
namespace Go.Proofs.YthogaffeeadnhabDoor
open Go.RowKit Go.PlainAid

def strSize : Value → Nat
  | .string x => x.size
  | _ => 0
/-- A text of the given size, the world as it was. -/
def ManyStr (T : Nat) (w : World) (e : Ending) (w' : World) : Prop := ∃ t : ByteArray, e = .returned (.string t) ∧ t.size = T ∧ w = w'
theorem half_odd (a o k : Nat) (h : k % 2 = 1) : o + a + (a + a) * (k / 2) = o + a * k := by
  have e : k = 2 * (k / 2) + 1 := by omega
  have : a * k = 2 * (a * (k / 2)) + a := by
    conv => lhs; rw [e]
    rw [Nat.mul_add, Nat.mul_one, Nat.mul_left_comm]
  rw [this, Nat.add_mul]
  omega
theorem half_even (a o k : Nat) (h : k % 2 = 0) : o + (a + a) * (k / 2) = o + a * k := by
  have e : k = 2 * (k / 2) := by omega
  have : a * k = 2 * (a * (k / 2)) := by
    conv => lhs; rw [e]
    rw [Nat.mul_left_comm]
  rw [this, Nat.add_mul]
  omega
theorem le_mul_pos (a k : Nat) (h : 0 < k) : a ≤ a * k := Nat.le_mul_of_pos_right a h

end Go.Proofs.YthogaffeeadnhabDoor
