/- The contracts of the drawing functions for parts. -/
import Derived.Test.YteglajjenihagaaK4c
import Derived.Test.YteglajjenihagaaK7m
import Derived.Test.YteglajjenihagaaK15
namespace Go.Proofs.Yteglajjenihagaa
open Go.RowKit Go.PlainAid

/-- About a serial number. -/
def Near' (a : Int) : Prop := -1 ≤ a ∧ a ≤ 65536
/-- A part was drawn; the reader stands. -/
def DrewD (B r m : Nat) (w : World) (e : Ending) (w' : World) : Prop :=
  ∃ (a b c : Int) (fi la lo : Bool) (t : ByteArray), e = .returned (.agg #[.int .i64 a, .int .i64 b, .int .i64 c, .bool fi, .bool la, .bool lo, .string t]) ∧ (Near' a ∧ Near' b ∧ Near' c ∧ t.size ≤ 30) ∧ Rd B r m w' ∧ Below B w w'

end Go.Proofs.Yteglajjenihagaa
