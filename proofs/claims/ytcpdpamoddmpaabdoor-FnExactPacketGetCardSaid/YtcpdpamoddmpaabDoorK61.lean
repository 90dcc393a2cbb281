/- Chunks in a row that is being filled; the laws' helpers on packets: size, copy. -/
import Derived.Test.YtcpdpamoddmpaabDoorK43
import Derived.Test.YtcpdpamoddmpaabDoorK40
import Derived.Test.YtcpdpamoddmpaabDoorK20v
import Derived.Test.YtcpdpamoddmpaabDoorK17
import Derived.Laws.MakeOwn
namespace Go.Proofs.YtcpdpamoddmpaabDoor
open Go.RowKit Go.PlainAid

/-- A row of chunks that is being filled: k of 'len' chunks lie there. -/
def Fil (d len k : Nat) (cs : List (Int × Int × ByteArray)) (w : World) : Prop :=
  ∀ i, i < len → ∃ u v x, w.cell? ⟨d, i * 3, none⟩ = some u ∧ w.cell? ⟨d, i * 3 + 1, none⟩ = some v ∧ w.cell? ⟨d, i * 3 + 2, none⟩ = some x ∧ (i < k → u = .int .i64 (chAt cs i).1 ∧ v = .int .i64 (chAt cs i).2.1 ∧ x = .string (chAt cs i).2.2)
/-- The block's cells may be written. -/
def Free (d : Nat) (w : World) : Prop := ∀ j, w.frozen? ⟨d, j, none⟩ = false
theorem Fil.below {d len k : Nat} {cs : List (Int × Int × ByteArray)} {w w' : World} (h : Fil d len k cs w) (hb : Below w.heap.size w w') : Fil d len k cs w' := fun i hi => by
  obtain ⟨u, v, x, h1, h2, h3, h4⟩ := h i hi
  have hd := lt_of_cell h1
  exact ⟨u, v, x, kept_cell hb hd h1, kept_cell hb hd h2, kept_cell hb hd h3, h4⟩
theorem Free.below {d : Nat} {w w' : World} (h : Free d w) (hd : d < w.heap.size) (hb : Below w.heap.size w w') : Free d w' := fun j => (hb.frozen (p := ⟨d, j, none⟩) hd).trans (h j)
theorem Free.set {d e i : Nat} {w : World} (h : Free d w) (v : Value) : Free d (w.setCell ⟨e, i, none⟩ v) := fun j => by rw [World.frozen?_setCell]; exact h j
theorem Fil.far {d e len k i : Nat} {cs : List (Int × Int × ByteArray)} {w : World} (h : Fil d len k cs w) (he : e ≠ d) (y : Value) : Fil d len k cs (w.setCell ⟨e, i, none⟩ y) := fun j hj => by
  obtain ⟨u, v, x, h1, h2, h3, h4⟩ := h j hj
  exact ⟨u, v, x, cell_far he h1, cell_far he h2, cell_far he h3, h4⟩
/-- A cell of a place that is not filled yet is written. -/
theorem Fil.cell {d len k o i j : Nat} {cs : List (Int × Int × ByteArray)} {w : World} (h : Fil d len k cs w) (hi : k ≤ i) (ho : o = i * 3 + j) (hj : j < 3) (y : Value) : Fil d len k cs (w.setCell ⟨d, o, none⟩ y) := fun i' hi' => by
  obtain ⟨u, v, x, h1, h2, h3, h4⟩ := h i' hi'
  subst ho
  by_cases e : i' = i
  · subst e
    have nk : ¬ i' < k := by omega
    rcases (show j = 0 ∨ j = 1 ∨ j = 2 by omega) with rfl | rfl | rfl
    · exact ⟨y, v, x, World.cell?_setCell_same _ _ _ h1, cell_other (by omega) h2, cell_other (by omega) h3, fun h => absurd h nk⟩
    · exact ⟨u, y, x, cell_other (by omega) h1, World.cell?_setCell_same _ _ _ h2, cell_other (by omega) h3, fun h => absurd h nk⟩
    · exact ⟨u, v, y, cell_other (by omega) h1, cell_other (by omega) h2, World.cell?_setCell_same _ _ _ h3, fun h => absurd h nk⟩
  · exact ⟨u, v, x, cell_other (by omega) h1, cell_other (by omega) h2, cell_other (by omega) h3, h4⟩
/-- A place is filled. -/
theorem Fil.step {d len k : Nat} {cs : List (Int × Int × ByteArray)} {w : World} {c1 c2 : Int} {c3 : ByteArray} (h : Fil d len k cs w) (e1 : (chAt cs k).1 = c1) (e2 : (chAt cs k).2.1 = c2) (e3 : (chAt cs k).2.2 = c3)
    (p0 : w.cell? ⟨d, k * 3, none⟩ = some (.int .i64 c1)) (p1 : w.cell? ⟨d, k * 3 + 1, none⟩ = some (.int .i64 c2)) (p2 : w.cell? ⟨d, k * 3 + 2, none⟩ = some (.string c3)) : Fil d len (k + 1) cs w := fun i hi => by
  by_cases e : i = k
  · subst e
    exact ⟨_, _, _, p0, p1, p2, fun _ => ⟨by rw [e1], by rw [e2], by rw [e3]⟩⟩
  · obtain ⟨u, v, x, h1, h2, h3, h4⟩ := h i hi
    exact ⟨u, v, x, h1, h2, h3, fun h => h4 (by omega)⟩
/-- Three cells are written and the place is filled. -/
theorem Fil.put {d len k : Nat} {cs : List (Int × Int × ByteArray)} {w : World} {c1 c2 : Int} {c3 : ByteArray} (h : Fil d len k cs w) (hk : k < len) (e1 : (chAt cs k).1 = c1) (e2 : (chAt cs k).2.1 = c2) (e3 : (chAt cs k).2.2 = c3) :
    Fil d len (k + 1) cs (((w.setCell ⟨d, k * 3, none⟩ (.int .i64 c1)).setCell ⟨d, k * 3 + 1, none⟩ (.int .i64 c2)).setCell ⟨d, k * 3 + 2, none⟩ (.string c3)) := by
  obtain ⟨u, v, x, h1, h2, h3, _⟩ := h k hk
  exact (((h.cell (i := k) (j := 0) (Nat.le_refl _) rfl (by omega) (.int .i64 c1)).cell (i := k) (j := 1) (Nat.le_refl _) rfl (by omega) (.int .i64 c2)).cell (i := k) (j := 2) (Nat.le_refl _) rfl (by omega) (.string c3)).step e1 e2 e3
    (cell_other (by omega) (cell_other (by omega) (World.cell?_setCell_same _ _ _ h1))) (cell_other (by omega) (World.cell?_setCell_same _ _ _ (cell_other (by omega) h2))) (World.cell?_setCell_same _ _ _ (cell_other (by omega) (cell_other (by omega) h3)))
theorem Fil.chs {d len cap : Nat} {cs : List (Int × Int × ByteArray)} {w : World} (h : Fil d len len cs w) (hl : cs.length = len) (hc : len ≤ cap) (hm : cap ≤ maxLen) : Chs w (some ⟨d, 0, none⟩) len cap cs := by
  refine .inr ⟨_, rfl, hc, hm, hl, fun i hi => ?_⟩
  obtain ⟨u, v, x, h1, h2, h3, h4⟩ := h i hi
  obtain ⟨rfl, rfl, rfl⟩ := h4 hi
  rw [ch_add]
  exact ⟨h1, h2, h3⟩
theorem Fil.new (w : World) (len : Nat) (vs : Array Value) (T : TypeId) (cs : List (Int × Int × ByteArray)) (hs : vs.size = len * 3) : Fil w.heap.size len 0 cs (w.alloc (.cells vs T)) ∧ Free w.heap.size (w.alloc (.cells vs T)) := by
  refine ⟨fun i hi => ?_, fun j => by simp⟩
  have h1 : i * 3 < vs.size := by omega
  have h2 : i * 3 + 1 < vs.size := by omega
  have h3 : i * 3 + 2 < vs.size := by omega
  exact ⟨vs[i * 3], vs[i * 3 + 1], vs[i * 3 + 2], by rw [World.cell?_alloc_at _ _ _ _ rfl]; exact Array.getElem?_eq_getElem h1, by rw [World.cell?_alloc_at _ _ _ _ rfl]; exact Array.getElem?_eq_getElem h2, by rw [World.cell?_alloc_at _ _ _ _ rfl]; exact Array.getElem?_eq_getElem h3, fun h => absurd h (by omega)⟩
theorem info_cf : (Tryd.prog.info? 43).map (fun i => (i.zero, i.size, i.bytes)) = some (some (.agg #[.int .i64 0, .int .i64 0, .string (ByteArray.mk #[])]), 3, 32) := by kernel_rfl

end Go.Proofs.YtcpdpamoddmpaabDoor
