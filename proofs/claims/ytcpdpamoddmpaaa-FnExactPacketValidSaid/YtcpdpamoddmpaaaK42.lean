/- Chunks in memory, one after the other: slices of chunks. -/
import Derived.Test.YtcpdpamoddmpaaaK16
import Derived.Laws.OwnMore
namespace Go.Proofs.Ytcpdpamoddmpaaa
open Go.RowKit Go.PlainAid

/-- The cells of chunks. -/
def flatC : List (Int × Int × ByteArray) → List Value
  | [] => []
  | c :: cs => .int .i64 c.1 :: .int .i64 c.2.1 :: .string c.2.2 :: flatC cs
theorem flatC_append (cs ds : List (Int × Int × ByteArray)) : flatC (cs ++ ds) = flatC cs ++ flatC ds := by
  induction cs with
  | nil => rfl
  | cons c cs ih => simp [flatC, ih]
theorem flatC_length (cs : List (Int × Int × ByteArray)) : (flatC cs).length = cs.length * 3 := by
  induction cs with
  | nil => rfl
  | cons c cs ih => simp [flatC, ih]; omega
theorem flatC_one (cs : List (Int × Int × ByteArray)) : ∀ u ∈ flatC cs, u.oneCell' = true := by
  induction cs with
  | nil => intro u hu; simp [flatC] at hu
  | cons x xs ih =>
    intro u hu
    simp only [flatC, List.mem_cons] at hu
    rcases hu with rfl | rfl | rfl | hu
    · rfl
    · rfl
    · rfl
    · exact ih u hu
/-- The chunk at a place of a list. -/
def chAt (cs : List (Int × Int × ByteArray)) (i : Nat) : Int × Int × ByteArray := cs.getD i (0, 0, ByteArray.mk #[])
theorem chAt_mem {cs : List (Int × Int × ByteArray)} {i : Nat} (h : i < cs.length) : chAt cs i ∈ cs := by
  unfold chAt
  rw [List.getD_eq_getElem?_getD, List.getElem?_eq_getElem h]
  exact List.getElem_mem _
theorem take_chAt {cs : List (Int × Int × ByteArray)} {k : Nat} (h : k < cs.length) : cs.take (k + 1) = cs.take k ++ [chAt cs k] := by
  unfold chAt
  rw [List.take_add_one, List.getD_eq_getElem?_getD, List.getElem?_eq_getElem h]
  rfl
theorem flatC_get (cs : List (Int × Int × ByteArray)) (i : Nat) (h : i < cs.length) : (flatC cs)[i * 3]? = some (.int .i64 (chAt cs i).1) ∧ (flatC cs)[i * 3 + 1]? = some (.int .i64 (chAt cs i).2.1) ∧ (flatC cs)[i * 3 + 2]? = some (.string (chAt cs i).2.2) := by
  induction cs generalizing i with
  | nil => simp at h
  | cons c cs ih =>
    cases i with
    | zero => exact ⟨rfl, rfl, rfl⟩
    | succ i =>
      have := ih i (by simpa using h)
      have e : (i + 1) * 3 = i * 3 + 1 + 1 + 1 := by omega
      rw [e]
      simpa [flatC, chAt] using this
/-- A slice of chunks: nil, or the cells of 'len' chunks, three each, from an address on. -/
def Chs (w : World) (a : Option Addr) (len cap : Nat) (cs : List (Int × Int × ByteArray)) : Prop :=
  (a = none ∧ len = 0 ∧ cap = 0 ∧ cs = []) ∨
  ∃ x : Addr, a = some x ∧ len ≤ cap ∧ cap ≤ maxLen ∧ cs.length = len ∧ ∀ i, i < len → w.cell? (x.add (i * 3)) = some (.int .i64 (chAt cs i).1) ∧ w.cell? ⟨(x.add (i * 3)).block, (x.add (i * 3)).off + 1, none⟩ = some (.int .i64 (chAt cs i).2.1) ∧ w.cell? ⟨(x.add (i * 3)).block, (x.add (i * 3)).off + 2, none⟩ = some (.string (chAt cs i).2.2)
theorem Chs.length {w : World} {a : Option Addr} {len cap : Nat} {cs : List (Int × Int × ByteArray)} (h : Chs w a len cap cs) : cs.length = len := by
  rcases h with ⟨_, rfl, _, rfl⟩ | ⟨_, _, _, _, h, _⟩
  · rfl
  · exact h
theorem Chs.len_le {w : World} {a : Option Addr} {len cap : Nat} {cs : List (Int × Int × ByteArray)} (h : Chs w a len cap cs) : len ≤ cap ∧ cap ≤ maxLen := by
  rcases h with ⟨_, rfl, rfl, rfl⟩ | ⟨_, _, h1, h2, _, _⟩
  · exact ⟨Nat.le_refl _, Nat.zero_le _⟩
  · exact ⟨h1, h2⟩
theorem Chs.below {w w' : World} {a : Option Addr} {len cap : Nat} {cs : List (Int × Int × ByteArray)} (h : Chs w a len cap cs) (hb : Below w.heap.size w w') : Chs w' a len cap cs := by
  rcases h with h | ⟨x, h1, h2, h3, h4, h5⟩
  · exact .inl h
  · refine .inr ⟨x, h1, h2, h3, h4, fun i hi => ?_⟩
    obtain ⟨p, q, r⟩ := h5 i hi
    exact ⟨(hb.cell (World.block_lt_of_cell? w _ p)).trans p, (hb.cell (World.block_lt_of_cell? w _ q)).trans q, (hb.cell (World.block_lt_of_cell? w _ r)).trans r⟩
theorem ch_add (g j : Nat) : (⟨g, 0, none⟩ : Addr).add j = ⟨g, j, none⟩ := by unfold Addr.add; split <;> simp_all
theorem Chs.far {w : World} {g k cap d i : Nat} {cs : List (Int × Int × ByteArray)} (h : Chs w (some ⟨g, 0, none⟩) k cap cs) (hd : d ≠ g) (v : Value) : Chs (w.setCell ⟨d, i, none⟩ v) (some ⟨g, 0, none⟩) k cap cs := by
  rcases h with ⟨e, _⟩ | ⟨a, e, h7, h8, h9, h10⟩
  · cases e
  · obtain rfl : ⟨g, 0, none⟩ = a := by simpa using e
    refine .inr ⟨_, rfl, h7, h8, h9, fun i hi => ?_⟩
    have := h10 i hi
    rw [ch_add] at this ⊢
    exact ⟨cell_far hd this.1, cell_far hd this.2.1, cell_far hd this.2.2⟩
theorem Chs.aside {w w' : World} {g k cap r : Nat} {cs : List (Int × Int × ByteArray)} (h : Chs w (some ⟨g, 0, none⟩) k cap cs) (ha : Aside w.heap.size r w w') (hr : g ≠ r) : Chs w' (some ⟨g, 0, none⟩) k cap cs := by
  rcases h with ⟨e, _⟩ | ⟨a, e, h7, h8, h9, h10⟩
  · cases e
  · obtain rfl : ⟨g, 0, none⟩ = a := by simpa using e
    refine .inr ⟨_, rfl, h7, h8, h9, fun i hi => ?_⟩
    have := h10 i hi
    rw [ch_add] at this ⊢
    exact ⟨ha.cell (lt_of_cell this.1) hr this.1, ha.cell (lt_of_cell this.2.1) hr this.2.1, ha.cell (lt_of_cell this.2.2) hr this.2.2⟩
theorem Chs.under {W W' : World} {g n cap C : Nat} {cs : List (Int × Int × ByteArray)} (h : Chs W (some ⟨g, 0, none⟩) n cap cs) (hb : Below C W W') (hg : g < C ∨ n = 0) : Chs W' (some ⟨g, 0, none⟩) n cap cs := by
  rcases h with ⟨e, _⟩ | ⟨a, e, h7, h8, h9, h10⟩
  · cases e
  · obtain rfl : ⟨g, 0, none⟩ = a := by simpa using e
    refine .inr ⟨_, rfl, h7, h8, h9, fun i hi => ?_⟩
    have := h10 i hi
    rw [ch_add] at this ⊢
    rcases hg with hg | h0
    · exact ⟨kept_cell hb hg this.1, kept_cell hb hg this.2.1, kept_cell hb hg this.2.2⟩
    · omega
theorem chs_lt {W : World} {g n cap : Nat} {cs : List (Int × Int × ByteArray)} (h : Chs W (some ⟨g, 0, none⟩) n cap cs) : g < W.heap.size ∨ n = 0 := by
  rcases h with ⟨e, _⟩ | ⟨a, e, _, _, _, h10⟩
  · cases e
  · obtain rfl : ⟨g, 0, none⟩ = a := by simpa using e
    by_cases hk0 : 0 < n
    · have := (h10 0 hk0).1
      rw [ch_add] at this
      exact .inl (lt_of_cell this)
    · exact .inr (by omega)
theorem own_chs {W : World} {base g cap k : Nat} {cs : List (Int × Int × ByteArray)} (h : W.ownsRow base 32 3 (.slice (some ⟨g, 0, none⟩) k cap) k (flatC cs)) : Chs W (some ⟨g, 0, none⟩) k cap cs := by
  have hl : cs.length = k := by have := h.1; rw [flatC_length] at this; omega
  have hc : k ≤ cap ∧ cap ≤ maxLen := by
    rcases h.2 with ⟨h1, _⟩ | ⟨g', cap', cur, h1, _, _, h4, h5, _⟩
    · exact absurd h1 (by intro e; cases e)
    · obtain ⟨rfl, _, rfl⟩ : g = g' ∧ True ∧ cap = cap' := by simpa using h1
      exact ⟨h4, h5⟩
  refine .inr ⟨_, rfl, hc.1, hc.2, hl, fun i hi => ?_⟩
  obtain ⟨f1, f2, f3⟩ := flatC_get cs i (by omega)
  have c1 := h.cellAt (i * 3) (by omega)
  have c2 := h.cellAt (i * 3 + 1) (by omega)
  have c3 := h.cellAt (i * 3 + 2) (by omega)
  rw [ch_add]
  exact ⟨c1.trans f1, c2.trans f2, c3.trans f3⟩
/-- The cells of a slice of chunks, as a source of an append. -/
theorem chs_flat {W : World} {g k cap : Nat} {cs : List (Int × Int × ByteArray)} (h : Chs W (some ⟨g, 0, none⟩) k cap cs) : ∀ j u, (flatC cs)[j]? = some u → W.cell? ((⟨g, 0, none⟩ : Addr).add j) = some u := by
  intro j u hu
  rcases h with ⟨e, _⟩ | ⟨a, e, h7, h8, h9, h10⟩
  · cases e
  · obtain rfl : ⟨g, 0, none⟩ = a := by simpa using e
    have hj : j < k * 3 := by have := (List.getElem?_eq_some_iff.1 hu).1; rw [flatC_length, h9] at this; exact this
    obtain ⟨f1, f2, f3⟩ := flatC_get cs (j / 3) (by omega)
    have := h10 (j / 3) (by omega)
    rw [ch_add] at this ⊢
    rcases (show j = j / 3 * 3 ∨ j = j / 3 * 3 + 1 ∨ j = j / 3 * 3 + 2 by omega) with hj2 | hj2 | hj2
    · rw [← hj2] at f1
      rw [f1] at hu
      cases hu
      have t := this.1
      rw [← hj2] at t
      exact t
    · rw [← hj2] at f2
      rw [f2] at hu
      cases hu
      exact (show W.cell? ⟨g, j, none⟩ = W.cell? ⟨g, j / 3 * 3 + 1, none⟩ from congrArg (fun n => W.cell? ⟨g, n, none⟩) hj2).trans this.2.1
    · rw [← hj2] at f3
      rw [f3] at hu
      cases hu
      exact (show W.cell? ⟨g, j, none⟩ = W.cell? ⟨g, j / 3 * 3 + 2, none⟩ from congrArg (fun n => W.cell? ⟨g, n, none⟩) hj2).trans this.2.2
theorem info_chunk : (Try.prog.info? 32).map (fun i => (i.zero, i.size, i.bytes)) = some (some (.agg #[.int .i64 0, .int .i64 0, .string (ByteArray.mk #[])]), 3, 32) := by kernel_rfl

end Go.Proofs.Ytcpdpamoddmpaaa
