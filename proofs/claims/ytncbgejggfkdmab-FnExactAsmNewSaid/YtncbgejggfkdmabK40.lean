/- Rows of one's own: what leaves them be. -/
import Derived.Test.YtncbgejggfkdmabK20v
import Derived.Deep.AppendLies
namespace Go.Proofs.Ytncbgejggfkdmab
open Go.RowKit Go.PlainAid

theorem rowBelow {w w' : World} {base C : Nat} {e : TypeId} {size n m g cap : Nat} {xs : List Value} (h : w.ownsRow base e size (.slice (some ⟨g, 0, none⟩) m cap) n xs) (hb : Below C w w') (hg : g < C) :
    w'.ownsRow base e size (.slice (some ⟨g, 0, none⟩) m cap) n xs := by
  refine ⟨h.1, ?_⟩
  rcases h.2 with ⟨h1, _⟩ | ⟨g', cap', cur, h1, h2, h3, h4⟩
  · exact absurd h1 (by intro e; cases e)
  · obtain ⟨rfl, rfl, rfl⟩ : g = g' ∧ m = n ∧ cap = cap' := by simpa using h1
    exact .inr ⟨g, cap, cur, rfl, h2, by rw [hb.block g hg]; exact h3, h4⟩
theorem rowFar {w : World} {base d i : Nat} {e : TypeId} {size n m g cap : Nat} {xs : List Value} (h : w.ownsRow base e size (.slice (some ⟨g, 0, none⟩) m cap) n xs) (hd : g ≠ d) (v : Value) :
    (w.setCell ⟨d, i, none⟩ v).ownsRow base e size (.slice (some ⟨g, 0, none⟩) m cap) n xs := by
  refine ⟨h.1, ?_⟩
  rcases h.2 with ⟨h1, _⟩ | ⟨g', cap', cur, h1, h2, h3, h4⟩
  · exact absurd h1 (by intro e; cases e)
  · obtain ⟨rfl, rfl, rfl⟩ : g = g' ∧ m = n ∧ cap = cap' := by simpa using h1
    exact .inr ⟨g, cap, cur, rfl, h2, by rw [Below.heap_setCell _ _ _ _ (by simpa using hd)]; exact h3, h4⟩
theorem rowLt {w : World} {base : Nat} {e : TypeId} {size n m g cap : Nat} {xs : List Value} (h : w.ownsRow base e size (.slice (some ⟨g, 0, none⟩) m cap) n xs) : g < w.heap.size := by
  rcases h.2 with ⟨h1, _⟩ | ⟨g', cap', cur, h1, h2, h3, h4⟩
  · exact absurd h1 (by intro e; cases e)
  · obtain ⟨rfl, rfl, rfl⟩ : g = g' ∧ m = n ∧ cap = cap' := by simpa using h1
    exact (Array.getElem?_eq_some_iff.1 h3).1
theorem rowDrewN {w : World} {base : Nat} {e : TypeId} {size : Nat} {v : Value} {n : Nat} {xs : List Value} (h : w.ownsRow base e size v n xs) (q : Nat) : (w.drewN q).ownsRow base e size v n xs := by
  unfold World.ownsRow at h ⊢
  rw [World.heap_drewN]
  exact h
theorem VarN.plus {d g : Nat} {vs : List Value} {w w' : World} (h : VarN d vs w) (hg : w.grownBy w' (some g)) (hd : d < w.heap.size) (hne : d ≠ g) : VarN d vs w' := fun i v hi =>
  ⟨(hg.cell_far ⟨d, i, none⟩ hd (by simpa using hne)).trans (h i v hi).1, (hg.frozen_far ⟨d, i, none⟩ hd (by simpa using hne)).trans (h i v hi).2⟩
theorem news_box {w : World} {vs : List Value} {T : TypeId} {H : Nat} (e : w.heap.size = H) : ∀ j u, vs[j]? = some u → (w.alloc (.cells vs.toArray T)).cell? ((⟨H, 0, none⟩ : Addr).add j) = some u := by
  subst e
  exact World.news_of_block (heap_alloc_new w _)

end Go.Proofs.Ytncbgejggfkdmab
