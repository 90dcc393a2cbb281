/- The contracts of the drawing functions of chapter 2: a checksum, seldom an invalid one, and bytes. -/
import Derived.Test.YtmmgngdebjndbaaK4
import Derived.Test.YtmmgngdebjndbaaK8
namespace Go.Proofs.Ytmmgngdebjndbaa
open Go.RowKit

/-- A text was drawn out of the given bytes. -/
def DrewS (n : Nat) (w : World) (e : Ending) (w' : World) : Prop := ∃ s : ByteArray, e = .returned (.string s) ∧ s.size ≤ n ∧ Below w.heap.size w w'
/-- A number and a text were drawn. -/
def DrewIS (P : Int → ByteArray → Prop) (w : World) (e : Ending) (w' : World) : Prop := ∃ n s, e = .returned (.tuple #[.int .i64 n, .string s]) ∧ P n s ∧ Below w.heap.size w w'

set_option maxHeartbeats 1000000 in
theorem drawSumText_any (a : Option Addr) (len cap : Nat) (zs : List Int) (w : World) (h : IsRow .u8 w a len cap zs) :
    Calls Try.prog 10 #[.slice a len cap] w (DrewS 30 w) := by
  have H := Lib.hid h
  clear h
  go_enter Try.func10, Try.ntmps10
  go_wp2_with fail
  refine (l6Open_any a len cap zs _ H.out).mono ?_
  rintro e w1 ⟨r, rfl, hr1, hb1⟩
  go_wp2_with fail
  refine (l91Bytes_any _ r 0 30 _ hr1 (by omega) (by omega)).mono ?_
  rintro e w2 ⟨s, rfl, hs, hr2, hb2⟩
  go_wp2
  go_ret
  exact ⟨s, rfl, hs, hb1.trans hb2⟩

theorem sum_range {n : Int} (h : Sum n) : -1 ≤ n ∧ n ≤ 4294967296 := by
  unfold Sum at h
  omega

end Go.Proofs.Ytmmgngdebjndbaa
