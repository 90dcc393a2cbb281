/- The contracts of the drawing functions of the laws on chunks: a chunk, bytes and a place, a kind. -/
import Derived.Test.YthogaffeeadnhabDoorK15
namespace Go.Proofs.YthogaffeeadnhabDoor
open Go.RowKit Go.PlainAid

theorem IsRow.keep {k : IntKind} {w w' : World} {a : Option Addr} {len cap : Nat} {zs : List Int} (h : IsRow k w a len cap zs) (hb : Below w.heap.size w w') : IsRow k w' a len cap zs := by
  rcases h with h | ⟨x, h1, h2, h3, h4, h5, h6⟩
  · exact .inl h
  · refine .inr ⟨x, h1, h2, h3, h4, fun i hi => ?_, h6⟩
    have hc := h5 i hi
    exact (hb.cell (World.block_lt_of_cell? w _ hc)).trans hc

/-- A chunk was drawn out of the given bytes. -/
def DrewCh (w : World) (e : Ending) (w' : World) : Prop :=
  ∃ (k f : Int) (b : ByteArray), e = .returned (.agg #[.int .i64 k, .int .i64 f, .string b]) ∧ ((-1 ≤ k ∧ k ≤ 256) ∧ (-1 ≤ f ∧ f ≤ 256) ∧ b.size ≤ 62) ∧ Below w.heap.size w w'

set_option maxHeartbeats 400000 in
theorem drawChunkName_any (a : Option Addr) (len cap : Nat) (zs : List Int) (w : World) (h : IsRow .u8 w a len cap zs) :
    Calls Tryd.prog 6 #[.slice a len cap] w (DrewN (fun n => -2 ≤ n ∧ n ≤ 16) w) := by
  have H := Lib.hid h
  clear h
  go_enter Tryd.func6, Tryd.ntmps6
  go_wp2_with fail
  refine (l6Open_any a len cap zs _ H.out).mono ?_
  rintro e w1 ⟨r, rfl, hr1, hb1⟩
  go_wp2_with fail
  refine (pick_any _ r 0 19 _ hr1 (by omega) (by omega) (by omega)).mono ?_
  rintro e w2 ⟨j, rfl, j0, j1, hr2, ho2⟩
  have hb2 := hb1.trans (ho2.below hr1.1)
  go_wp2
  go_ret
  exact ⟨_, rfl, ⟨by omega, by omega⟩, hb2⟩

end Go.Proofs.YthogaffeeadnhabDoor
