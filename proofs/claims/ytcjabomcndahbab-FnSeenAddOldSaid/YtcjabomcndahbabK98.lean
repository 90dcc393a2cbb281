/- The draws of what has arrived. -/
import Derived.Test.YtcjabomcndahbabK97
namespace Go.Proofs.Ytcjabomcndahbab
open Go.RowKit Go.PlainAid

/-- What a draw of a value answers to a row of bytes. -/
def DrewSeen (w : World) (e : Ending) (w' : World) : Prop :=
  ∃ (c : Int) (a : Option Addr) (k cap : Nat) (es : List Int), e = .returned (.agg #[.int .i64 c, .slice a k cap]) ∧ k ≤ 17 ∧ (-1 ≤ c ∧ c ≤ 65536) ∧ (∀ j ∈ es, 0 ≤ j ∧ j ≤ 18) ∧ OwnN k (.slice a k cap) es w w'

theorem isRow_up {w w' : World} {a : Option Addr} {len cap : Nat} {zs : List Int} (h : IsRow .u8 w a len cap zs) (hb : Below w.heap.size w w') : IsRow .u8 w' a len cap zs := by
  rcases h with h | ⟨x, rfl, hl, hm, hz, hc, hw⟩
  · exact .inl h
  · exact .inr ⟨x, rfl, hl, hm, hz, fun i hi => (hb.cell (World.block_lt_of_cell? w _ (hc i hi))).trans (hc i hi), hw⟩

end Go.Proofs.Ytcjabomcndahbab
