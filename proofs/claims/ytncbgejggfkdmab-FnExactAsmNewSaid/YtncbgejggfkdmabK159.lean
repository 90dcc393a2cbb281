/- Numbers in a row of one's own; rows that are left be. -/
import Derived.Test.YtncbgejggfkdmabK40
import Derived.Test.YtncbgejggfkdmabK90
import Derived.Lib.Builder
namespace Go.Proofs.Ytncbgejggfkdmab
open Go.RowKit Go.PlainAid

theorem VarN.blk {c : Nat} {vs : List Value} {w w' : World} (h : VarN c vs w) (e : w'.heap[c]? = w.heap[c]?) : VarN c vs w' := fun i v hi =>
  ⟨(World.cell?_of_block (w := w) e).trans (h i v hi).1, (World.frozen?_of_block (w := w) e).trans (h i v hi).2⟩
theorem VarN.lt {c : Nat} {v : Value} {vs : List Value} {w : World} (h : VarN c (v :: vs) w) : c < w.heap.size := lt_of_cell (h 0 v rfl).1
theorem row_low {base base2 e size n : Nat} {v : Value} {xs : List Value} {w : World} (h : w.ownsRow base e size v n xs) (hb : base2 ≤ base) : w.ownsRow base2 e size v n xs := by
  refine ⟨h.1, ?_⟩
  rcases h.2 with h1 | ⟨g, cap, cur, h1, h2, h3⟩
  · exact .inl h1
  · exact .inr ⟨g, cap, cur, h1, Nat.le_trans hb h2, h3⟩
theorem row_same {base e size n : Nat} {v : Value} {xs : List Value} {w w' : World} (h : w.ownsRow base e size v n xs) (hb : ∀ x, base ≤ x → x < w.heap.size → w'.heap[x]? = w.heap[x]?) : w'.ownsRow base e size v n xs := by
  refine ⟨h.1, ?_⟩
  rcases h.2 with h1 | ⟨g, cap, cur, h1, h2, h3, h4⟩
  · exact .inl h1
  · have hg : g < w.heap.size := (Array.getElem?_eq_some_iff.1 h3).1
    exact .inr ⟨g, cap, cur, h1, h2, by rw [hb g h2 hg]; exact h3, h4⟩
/-- Numbers in a row of one's own, at block G. -/
def Nrow (G n cn : Nat) (es : List Int) (W : World) : Prop := W.ownsRow G 3 1 (.slice (some ⟨G, 0, none⟩) n cn) n (flatN es)
theorem own_varN {base G n cap : Nat} {next : List Int} {W : World} (h : W.ownsRow base 3 1 (.slice (some ⟨G, 0, none⟩) n cap) n (flatN next)) : VarN G (flatN next) W := fun i v hi => by
  refine ⟨?_, ?_⟩
  · have hl : i < (flatN next).length := (List.getElem?_eq_some_iff.1 hi).1
    have := h.cellAt i (by rw [← h.1]; exact hl)
    rw [hi] at this
    exact this
  · rcases h.2 with ⟨h1, _⟩ | ⟨g, cap', cur, h1, _, h3, _⟩
    · exact absurd h1 (by intro e; cases e)
    · obtain ⟨rfl, _⟩ : G = g ∧ cap = cap' := by simpa using h1
      exact Lib.frozen_of_heap h3 i
section
variable {G n cn : Nat} {es : List Int} {W W' : World}
theorem Nrow.of {base : Nat} (h : W.ownsRow base 3 1 (.slice (some ⟨G, 0, none⟩) n cn) n (flatN es)) : Nrow G n cn es W := by
  refine ⟨h.1, ?_⟩
  rcases h.2 with ⟨h1, _⟩ | ⟨g, cap', cur, h1, h2, h3⟩
  · exact absurd h1 (by intro e; cases e)
  · have e : G = g ∧ cn = cap' := by simpa using h1
    exact .inr ⟨g, cap', cur, h1, by rw [e.1]; exact Nat.le_refl _, h3⟩
theorem Nrow.var (h : Nrow G n cn es W) : VarN G (flatN es) W := own_varN h
theorem Nrow.blk (h : Nrow G n cn es W) (e : W'.heap[G]? = W.heap[G]?) : Nrow G n cn es W' := by
  refine ⟨h.1, ?_⟩
  rcases h.2 with ⟨h1, _⟩ | ⟨g, cap', cur, h1, h2, h3, h4⟩
  · exact absurd h1 (by intro e; cases e)
  · have eg : G = g ∧ cn = cap' := by simpa using h1
    exact .inr ⟨g, cap', cur, h1, h2, by rw [← eg.1, e, eg.1]; exact h3, h4⟩
theorem Nrow.below {C : Nat} (h : Nrow G n cn es W) (hb : Below C W W') (hG : G < C) : Nrow G n cn es W' := h.blk (hb.block G hG)
theorem flatN_set (es : List Int) (i : Nat) (x : Int) : flatN (es.set i x) = (flatN es).set i (.int .i64 x) := by
  unfold flatN
  rw [List.map_set]
theorem Nrow.set (h : Nrow G n cn es W) (i : Nat) (x : Int) : Nrow G n cn (es.set i x) (W.setCell ⟨G, i, none⟩ (.int .i64 x)) := by
  unfold Nrow
  rw [flatN_set]
  exact (World.ownsRow.stored h i (.int .i64 x)).1
theorem Nrow.len (h : Nrow G n cn es W) : n ≤ cn ∧ cn ≤ maxLen ∧ es.length = n := by
  have := own_ns h
  exact ⟨this.len_le.1, this.len_le.2, this.length⟩
end

end Go.Proofs.Ytncbgejggfkdmab
