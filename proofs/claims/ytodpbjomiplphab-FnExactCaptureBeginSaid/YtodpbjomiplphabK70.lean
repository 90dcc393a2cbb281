/- Records in memory, one after the other: slices of records. -/
import Derived.Test.YtodpbjomiplphabK13
import Derived.Test.YtodpbjomiplphabK4a
import Derived.Laws.OwnMore
namespace Go.Proofs.Ytodpbjomiplphab
open Go.RowKit Go.PlainAid

/-- The cells of records. -/
def flatR : List (Int × ByteArray) → List Value
  | [] => []
  | c :: cs => .int .i64 c.1 :: .string c.2 :: flatR cs
theorem flatR_append (cs ds : List (Int × ByteArray)) : flatR (cs ++ ds) = flatR cs ++ flatR ds := by
  induction cs with
  | nil => rfl
  | cons c cs ih => simp [flatR, ih]
theorem flatR_length (cs : List (Int × ByteArray)) : (flatR cs).length = cs.length * 2 := by
  induction cs with
  | nil => rfl
  | cons c cs ih => simp [flatR, ih]; omega
theorem flatR_one (cs : List (Int × ByteArray)) : ∀ u ∈ flatR cs, u.oneCell' = true := by
  induction cs with
  | nil => intro u hu; simp [flatR] at hu
  | cons x xs ih =>
    intro u hu
    simp only [flatR, List.mem_cons] at hu
    rcases hu with rfl | rfl | hu
    · rfl
    · rfl
    · exact ih u hu
/-- The record at a place of a list. -/
def rcAt (cs : List (Int × ByteArray)) (i : Nat) : Int × ByteArray := cs.getD i (0, ByteArray.mk #[])
theorem rcAt_mem {cs : List (Int × ByteArray)} {i : Nat} (h : i < cs.length) : rcAt cs i ∈ cs := by
  unfold rcAt
  rw [List.getD_eq_getElem?_getD, List.getElem?_eq_getElem h]
  exact List.getElem_mem _
theorem take_rcAt {cs : List (Int × ByteArray)} {k : Nat} (h : k < cs.length) : cs.take (k + 1) = cs.take k ++ [rcAt cs k] := by
  unfold rcAt
  rw [List.take_add_one, List.getD_eq_getElem?_getD, List.getElem?_eq_getElem h]
  rfl
theorem flatR_get (cs : List (Int × ByteArray)) (i : Nat) (h : i < cs.length) : (flatR cs)[i * 2]? = some (.int .i64 (rcAt cs i).1) ∧ (flatR cs)[i * 2 + 1]? = some (.string (rcAt cs i).2) := by
  induction cs generalizing i with
  | nil => simp at h
  | cons c cs ih =>
    cases i with
    | zero => exact ⟨rfl, rfl⟩
    | succ i =>
      have := ih i (by simpa using h)
      have e : (i + 1) * 2 = i * 2 + 1 + 1 := by omega
      rw [e]
      simpa [flatR, rcAt] using this
/-- A slice of records: nil, or the cells of 'len' records, two each, from an address on. -/
def Rcs (w : World) (a : Option Addr) (len cap : Nat) (cs : List (Int × ByteArray)) : Prop :=
  (a = none ∧ len = 0 ∧ cap = 0 ∧ cs = []) ∨
  ∃ x : Addr, a = some x ∧ len ≤ cap ∧ cap ≤ maxLen ∧ cs.length = len ∧ ∀ i, i < len → w.cell? (x.add (i * 2)) = some (.int .i64 (rcAt cs i).1) ∧ w.cell? ⟨(x.add (i * 2)).block, (x.add (i * 2)).off + 1, none⟩ = some (.string (rcAt cs i).2)
theorem Rcs.length {w : World} {a : Option Addr} {len cap : Nat} {cs : List (Int × ByteArray)} (h : Rcs w a len cap cs) : cs.length = len := by
  rcases h with ⟨_, rfl, _, rfl⟩ | ⟨_, _, _, _, h, _⟩
  · rfl
  · exact h
theorem Rcs.len_le {w : World} {a : Option Addr} {len cap : Nat} {cs : List (Int × ByteArray)} (h : Rcs w a len cap cs) : len ≤ cap ∧ cap ≤ maxLen := by
  rcases h with ⟨_, rfl, rfl, rfl⟩ | ⟨_, _, h1, h2, _, _⟩
  · exact ⟨Nat.le_refl _, Nat.zero_le _⟩
  · exact ⟨h1, h2⟩
theorem Rcs.len_int {w : World} {a : Option Addr} {len cap : Nat} {cs : List (Int × ByteArray)} (h : Rcs w a len cap cs) : len ≤ 9223372036854775807 := by
  have := h.len_le
  unfold maxLen at this
  omega
theorem Rcs.below {w w' : World} {a : Option Addr} {len cap : Nat} {cs : List (Int × ByteArray)} (h : Rcs w a len cap cs) (hb : Below w.heap.size w w') : Rcs w' a len cap cs := by
  rcases h with h | ⟨x, h1, h2, h3, h4, h5⟩
  · exact .inl h
  · refine .inr ⟨x, h1, h2, h3, h4, fun i hi => ?_⟩
    obtain ⟨p, q⟩ := h5 i hi
    exact ⟨(hb.cell (World.block_lt_of_cell? w _ p)).trans p, (hb.cell (World.block_lt_of_cell? w _ q)).trans q⟩
theorem Rcs.nil (w : World) : Rcs w none 0 0 [] := .inl ⟨rfl, rfl, rfl, rfl⟩
/-- The cells of the record at a place, in another world. -/
theorem Rcs.at {w wr : World} {x : Addr} {len cap : Nat} {cs : List (Int × ByteArray)} (h : Rcs w (some x) len cap cs) (hb : Below w.heap.size w wr) {k : Nat} (hk : k < len) :
    wr.cell? (x.add (k * 2)) = some (.int .i64 (rcAt cs k).1) ∧ wr.cell? ⟨(x.add (k * 2)).block, (x.add (k * 2)).off + 1, none⟩ = some (.string (rcAt cs k).2) := by
  rcases h with ⟨h0, _⟩ | ⟨y, hy, h1, h2, h3, h4⟩
  · cases h0
  · obtain rfl : x = y := by simpa using hy
    obtain ⟨p, q⟩ := h4 k hk
    exact ⟨(hb.cell (World.block_lt_of_cell? w _ p)).trans p, (hb.cell (World.block_lt_of_cell? w _ q)).trans q⟩
theorem Rcs.addr {w : World} {a : Option Addr} {len cap : Nat} {cs : List (Int × ByteArray)} (h : Rcs w a len cap cs) {k : Nat} (hk : k < len) : ∃ x, a = some x := by
  rcases h with ⟨_, h0, _⟩ | ⟨y, hy, _⟩
  · omega
  · exact ⟨y, hy⟩
theorem rc_add (g j : Nat) : (⟨g, 0, none⟩ : Addr).add j = ⟨g, j, none⟩ := by unfold Addr.add; split <;> simp_all
theorem Rcs.far {w : World} {g k cap d i : Nat} {cs : List (Int × ByteArray)} (h : Rcs w (some ⟨g, 0, none⟩) k cap cs) (hd : d ≠ g) (v : Value) : Rcs (w.setCell ⟨d, i, none⟩ v) (some ⟨g, 0, none⟩) k cap cs := by
  rcases h with ⟨e, _⟩ | ⟨a, e, h7, h8, h9, h10⟩
  · cases e
  · obtain rfl : ⟨g, 0, none⟩ = a := by simpa using e
    refine .inr ⟨_, rfl, h7, h8, h9, fun i hi => ?_⟩
    have := h10 i hi
    rw [rc_add] at this ⊢
    exact ⟨cell_far hd this.1, cell_far hd this.2⟩
theorem Rcs.aside {w w' : World} {g k cap r : Nat} {cs : List (Int × ByteArray)} (h : Rcs w (some ⟨g, 0, none⟩) k cap cs) (ha : Aside w.heap.size r w w') (hr : g ≠ r) : Rcs w' (some ⟨g, 0, none⟩) k cap cs := by
  rcases h with ⟨e, _⟩ | ⟨a, e, h7, h8, h9, h10⟩
  · cases e
  · obtain rfl : ⟨g, 0, none⟩ = a := by simpa using e
    refine .inr ⟨_, rfl, h7, h8, h9, fun i hi => ?_⟩
    have := h10 i hi
    rw [rc_add] at this ⊢
    exact ⟨ha.cell (lt_of_cell this.1) hr this.1, ha.cell (lt_of_cell this.2) hr this.2⟩
theorem Rcs.under {W W' : World} {g n cap C : Nat} {cs : List (Int × ByteArray)} (h : Rcs W (some ⟨g, 0, none⟩) n cap cs) (hb : Below C W W') (hg : g < C ∨ n = 0) : Rcs W' (some ⟨g, 0, none⟩) n cap cs := by
  rcases h with ⟨e, _⟩ | ⟨a, e, h7, h8, h9, h10⟩
  · cases e
  · obtain rfl : ⟨g, 0, none⟩ = a := by simpa using e
    refine .inr ⟨_, rfl, h7, h8, h9, fun i hi => ?_⟩
    have := h10 i hi
    rw [rc_add] at this ⊢
    rcases hg with hg | h0
    · exact ⟨kept_cell hb hg this.1, kept_cell hb hg this.2⟩
    · omega
theorem rcs_lt {W : World} {g n cap : Nat} {cs : List (Int × ByteArray)} (h : Rcs W (some ⟨g, 0, none⟩) n cap cs) : g < W.heap.size ∨ n = 0 := by
  rcases h with ⟨e, _⟩ | ⟨a, e, _, _, _, h10⟩
  · cases e
  · obtain rfl : ⟨g, 0, none⟩ = a := by simpa using e
    by_cases hk0 : 0 < n
    · have := (h10 0 hk0).1
      rw [rc_add] at this
      exact .inl (lt_of_cell this)
    · exact .inr (by omega)
/-- The first records of a slice. -/
theorem rcs_take {w : World} {x : Addr} {len cap j : Nat} {cs : List (Int × ByteArray)} (h : Rcs w (some x) len cap cs) (hj : j ≤ len) : Rcs w (some x) j cap (cs.take j) := by
  rcases h with ⟨h0, _⟩ | ⟨y, hy, h1, h2, h3, h4⟩
  · cases h0
  · refine .inr ⟨y, hy, by omega, h2, by rw [List.length_take]; omega, fun i hi => ?_⟩
    have e : rcAt (cs.take j) i = rcAt cs i := by
      unfold rcAt
      rw [List.getD_eq_getElem?_getD, List.getD_eq_getElem?_getD, List.getElem?_take_of_lt hi]
    rw [e]
    exact h4 i (by omega)
/-- The cells of a slice of records, as a source of an append. -/
theorem rcs_flat {W : World} {g k cap : Nat} {cs : List (Int × ByteArray)} (h : Rcs W (some ⟨g, 0, none⟩) k cap cs) : ∀ j u, (flatR cs)[j]? = some u → W.cell? ((⟨g, 0, none⟩ : Addr).add j) = some u := by
  intro j u hu
  rcases h with ⟨e, _⟩ | ⟨a, e, h7, h8, h9, h10⟩
  · cases e
  · obtain rfl : ⟨g, 0, none⟩ = a := by simpa using e
    have hj : j < k * 2 := by have := (List.getElem?_eq_some_iff.1 hu).1; rw [flatR_length, h9] at this; exact this
    obtain ⟨f1, f2⟩ := flatR_get cs (j / 2) (by omega)
    have := h10 (j / 2) (by omega)
    rw [rc_add] at this ⊢
    rcases (show j = j / 2 * 2 ∨ j = j / 2 * 2 + 1 by omega) with hj2 | hj2
    · rw [← hj2] at f1
      rw [f1] at hu
      cases hu
      have t := this.1
      rw [← hj2] at t
      exact t
    · rw [← hj2] at f2
      rw [f2] at hu
      cases hu
      exact (show W.cell? ⟨g, j, none⟩ = W.cell? ⟨g, j / 2 * 2 + 1, none⟩ from congrArg (fun n => W.cell? ⟨g, n, none⟩) hj2).trans this.2

theorem own_rcs {W : World} {base cap k : Nat} {a : Option Addr} {cs : List (Int × ByteArray)} (h : W.ownsRow base 33 2 (.slice a k cap) k (flatR cs)) : Rcs W a k cap cs := by
  have hl := h.1
  rw [flatR_length] at hl
  rcases h.2 with ⟨h1, h2⟩ | ⟨g, cap', cur, h1, _, _, h4, h5, _⟩
  · obtain ⟨rfl, rfl, rfl⟩ : a = none ∧ k = 0 ∧ cap = 0 := by simpa using h1
    exact .inl ⟨rfl, rfl, rfl, by cases cs with | nil => rfl | cons c l => simp at hl⟩
  · obtain ⟨rfl, rfl⟩ : a = some ⟨g, 0, none⟩ ∧ cap = cap' := by simpa using h1
    refine .inr ⟨_, rfl, h4, h5, by omega, fun i hi => ?_⟩
    obtain ⟨f1, f2⟩ := flatR_get cs i (by omega)
    have c1 := h.cellAt (i * 2) (by omega)
    have c2 := h.cellAt (i * 2 + 1) (by omega)
    rw [rc_add]
    exact ⟨c1.trans f1, c2.trans f2⟩
theorem info_rc : (Try.prog.info? 33).map (fun i => (i.zero, i.size, i.bytes)) = some (some (.agg #[.int .i64 0, .string (ByteArray.mk #[])]), 2, 24) := by kernel_rfl

end Go.Proofs.Ytodpbjomiplphab
