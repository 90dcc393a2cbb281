/- The walks of the laws on receipts that are drawn and asked. -/
import Derived.Test.YtifphigdklkpjaaK31
import Derived.Test.YtifphigdklkpjaaK34
import Derived.Test.YtifphigdklkpjaaK17
import Derived.Handy
namespace Go.Proofs.Ytifphigdklkpjaa
open Go.RowKit Go.PlainAid

/-- What a region that asks a receipt needs to know of a world. -/
theorem keptF {p q : Addr} {x y : Value} {a : Option Addr} {l c : Nat} {gs : List (Int × Int)} {w W W' : World} (h : W.cell? p = some x ∧ W.cell? q = some y ∧ Gaps W a l c gs ∧ Below w.heap.size w W) (hb : Below W.heap.size W W') :
    W'.cell? p = some x ∧ W'.cell? q = some y ∧ Gaps W' a l c gs ∧ Below w.heap.size w W' := by
  obtain ⟨h1, h2, h3, h4⟩ := h
  exact ⟨(hb.cell (World.block_lt_of_cell? W _ h1)).trans h1, (hb.cell (World.block_lt_of_cell? W _ h2)).trans h2, h3.below hb, h4.trans (hb.mono h4.size)⟩
theorem hasV_diff {c s : Int} {gs : List (Int × Int)} (h : SackOk c gs) (hs : Ser s) : hasV c s gs = (blockV (diffS c s) gs || decide (diffS c s ≤ 0)) := by
  unfold hasV
  rw [decide_eq_true h, decide_eq_true (ser_le hs), Bool.true_and, Bool.true_and]
theorem hasV_bad {c s : Int} {gs : List (Int × Int)} (h : ¬ SackOk c gs) : hasV c s gs = false := by
  unfold hasV
  rw [decide_eq_false h, Bool.false_and, Bool.false_and]
theorem hasV_old {c s : Int} {gs : List (Int × Int)} (h : SackOk c gs) (hs : Ser s) (hd : diffS c s ≤ 0) : hasV c s gs = true := by
  rw [hasV_diff h hs, decide_eq_true hd, Bool.or_true]
/-- No valid block holds what lies at most one step behind its beginning. -/
theorem block_before : ∀ {l n : Int} {gs : List (Int × Int)}, GapsOk l gs → n ≤ l + 1 → blockV n gs = false
  | _, _, [], _, _ => rfl
  | l, n, g :: gs, ⟨h1, h2, h3, h4⟩, h => by
    have ih := block_before h4 (show n ≤ g.2 + 1 by omega)
    unfold blockV at ih ⊢
    rw [List.any_cons, ih, Bool.or_false]
    exact decide_eq_false (by omega)
theorem hasV_next {c : Int} {gs : List (Int × Int)} (h : SackOk c gs) : hasV c (addS c 1) gs = false := by
  rw [hasV_diff h (addS_ser c 1), diffS_add (by decide) (by decide), block_before h.2 (by decide)]
  decide

end Go.Proofs.Ytifphigdklkpjaa
