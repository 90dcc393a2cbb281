/- The contracts of chapter 21's model: the value at the beginning, moving on, a part that arrives. -/
import Derived.Test.YtncbgejggfkdmabK90
import Derived.Test.YtncbgejggfkdmabG18
import Derived.Deep.AppendLies
import Derived.IntWalk
namespace Go.Proofs.Ytncbgejggfkdmab
open Go.RowKit Go.PlainAid

/-- While those left are collected: the result's variable, the value's at D, its row. -/
structure Mvw (w : World) (c : Int) (D m g cap2 : Nat) (ds : List Int) (W : World) : Prop where
  rb : VarN w.heap.size [.int .i64 0, .slice none 0 0] W
  ob : VarN D [.int .i64 c, .slice (some ⟨g, 0, none⟩) m cap2] W
  own : OwnN m (.slice (some ⟨g, 0, none⟩) m cap2) ds w W
  n1 : w.heap.size < D
  n2 : g ≠ D
  n3 : g ≠ w.heap.size
section
variable {w W W' : World} {c : Int} {D m g cap2 : Nat} {ds : List Int}
theorem Mvw.up (h : Mvw w c D m g cap2 ds W) (hb : Below W.heap.size W W') : Mvw w c D m g cap2 ds W' :=
  ⟨h.rb.below hb (lt_of_cell (h.rb 0 _ rfl).1), h.ob.below hb (lt_of_cell (h.ob 0 _ rfl).1), h.own.below hb, h.n1, h.n2, h.n3⟩
theorem OwnN.push {k g2 cap3 : Nat} {v : Value} {es : List Int} {W1 : World} {e : Int} (h : OwnN k v es w W) (hgrow : W.grownBy W1 v.ownBlock) (hown : W1.ownsRow w.heap.size 3 1 (.slice (some ⟨g2, 0, none⟩) (k + 1) cap3) (k + 1) (flatN es ++ [.int .i64 e])) : OwnN (k + 1) (.slice (some ⟨g2, 0, none⟩) (k + 1) cap3) (es ++ [e]) w W1 :=
  ⟨by rw [flatN_append]; exact hown, Below.grown h.b hgrow h.b.size fun x hx => h.base hx⟩
theorem OwnN.far {k g d i : Nat} {cap : Nat} {es : List Int} (h : OwnN k (.slice (some ⟨g, 0, none⟩) k cap) es w W) (hd : g ≠ d) (hw : w.heap.size ≤ d) (v : Value) : OwnN k (.slice (some ⟨g, 0, none⟩) k cap) es w (W.setCell ⟨d, i, none⟩ v) :=
  ⟨rowFar h.own hd v, h.b.setCell (p := ⟨d, i, none⟩) hw v⟩
theorem OwnN.lt {k g cap : Nat} {es : List Int} (h : OwnN k (.slice (some ⟨g, 0, none⟩) k cap) es w W) : g < W.heap.size := rowLt h.own
/-- A number is appended, and the new slice is laid into the value's variable. -/
theorem Mvw.push {g2 cap3 : Nat} {W1 : World} {e : Int} (h : Mvw w c D m g cap2 ds W) (hgrow : W.grownBy W1 (some g)) (hown : W1.ownsRow w.heap.size 3 1 (.slice (some ⟨g2, 0, none⟩) (m + 1) cap3) (m + 1) (flatN ds ++ [.int .i64 e])) (hat : g2 = g ∨ g2 = W.heap.size) :
    Mvw w c D (m + 1) g2 cap3 (ds ++ [e]) (W1.setCell ⟨D, 1, none⟩ (.slice (some ⟨g2, 0, none⟩) (m + 1) cap3)) := by
  have l1 := lt_of_cell (h.rb 0 _ rfl).1
  have l2 := lt_of_cell (h.ob 0 _ rfl).1
  have n1 := h.n1
  have n2 := h.n2
  have n3 := h.n3
  have x2 : g2 ≠ D := by rcases hat with rfl | rfl <;> omega
  have x3 : g2 ≠ w.heap.size := by rcases hat with rfl | rfl <;> omega
  exact ⟨(h.rb.plus hgrow l1 (fun e => n3 e.symm)).far _ (by omega), (h.ob.plus hgrow l2 (fun e => n2 e.symm)).set (i := 1) _, (h.own.push hgrow hown).far x2 (by omega) _, n1, x2, x3⟩
end

end Go.Proofs.Ytncbgejggfkdmab
