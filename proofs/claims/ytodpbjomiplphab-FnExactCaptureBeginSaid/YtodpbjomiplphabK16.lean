/- The contracts of the drawing functions of the laws on chunks: a chunk, bytes and a place, a kind. -/
import Derived.Test.YtodpbjomiplphabK15
namespace Go.Proofs.Ytodpbjomiplphab
open Go.RowKit Go.PlainAid

theorem IsRow.keep {k : IntKind} {w w' : World} {a : Option Addr} {len cap : Nat} {zs : List Int} (h : IsRow k w a len cap zs) (hb : Below w.heap.size w w') : IsRow k w' a len cap zs := by
  rcases h with h | ⟨x, h1, h2, h3, h4, h5, h6⟩
  · exact .inl h
  · refine .inr ⟨x, h1, h2, h3, h4, fun i hi => ?_, h6⟩
    have hc := h5 i hi
    exact (hb.cell (World.block_lt_of_cell? w _ hc)).trans hc

/-- A chunk was drawn out of the given bytes. -/
def DrewCh (w : World) (e : Ending) (w' : World) : Prop :=
  ∃ (k f : Int) (b : ByteArray), e = .returned (.agg #[.int .i64 k, .int .i64 f, .string b]) ∧ ((-1 ≤ k ∧ k ≤ 256) ∧ (-1 ≤ f ∧ f ≤ 256) ∧ b.size ≤ 62) ∧ Below w.heap.size w w'

end Go.Proofs.Ytodpbjomiplphab
