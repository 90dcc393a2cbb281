/- Parts in memory, one after the other: slices of parts. -/
import Derived.Test.YtncbgejggfkdmabK13
import Derived.Test.YtncbgejggfkdmabK4a
import Derived.Test.YtncbgejggfkdmabG20
import Derived.Laws.OwnMore
namespace Go.Proofs.Ytncbgejggfkdmab
open Go.RowKit Go.PlainAid

/-- The cells of a part. -/
def cellsP (p : Part) : List Value := [.int .i64 p.tsn, .int .i64 p.stream, .int .i64 p.ssn, .bool p.first, .bool p.last, .bool p.loose, .string p.text]
/-- The value of a part. -/
def partV (p : Part) : Value := .agg #[.int .i64 p.tsn, .int .i64 p.stream, .int .i64 p.ssn, .bool p.first, .bool p.last, .bool p.loose, .string p.text]
def flatP : List Part → List Value
  | [] => []
  | p :: ps => cellsP p ++ flatP ps
theorem flatP_append (ps qs : List Part) : flatP (ps ++ qs) = flatP ps ++ flatP qs := by
  induction ps with
  | nil => rfl
  | cons p ps ih => simp [flatP, ih]
theorem cellsP_length (p : Part) : (cellsP p).length = 7 := rfl
theorem flatP_length (ps : List Part) : (flatP ps).length = ps.length * 7 := by
  induction ps with
  | nil => rfl
  | cons p ps ih =>
    show (cellsP p ++ flatP ps).length = _
    rw [List.length_append, cellsP_length, ih, List.length_cons]
    omega
theorem cellsP_one (p : Part) : ∀ u ∈ cellsP p, u.oneCell' = true := by
  intro u hu
  simp only [cellsP, List.mem_cons, List.not_mem_nil, or_false] at hu
  rcases hu with rfl | rfl | rfl | rfl | rfl | rfl | rfl <;> rfl
theorem flatP_one (ps : List Part) : ∀ u ∈ flatP ps, u.oneCell' = true := by
  induction ps with
  | nil => intro u hu; simp [flatP] at hu
  | cons p ps ih =>
    intro u hu
    rcases List.mem_append.1 hu with h | h
    · exact cellsP_one p u h
    · exact ih u h
theorem take_pAt {ps : List Part} {k : Nat} (h : k < ps.length) : ps.take (k + 1) = ps.take k ++ [pAt ps k] := by
  unfold pAt
  rw [List.take_add_one, List.getD_eq_getElem?_getD, List.getElem?_eq_getElem h]
  rfl
theorem flatP_get (ps : List Part) (i j : Nat) (h : i < ps.length) (hj : j < 7) : (flatP ps)[i * 7 + j]? = (cellsP (pAt ps i))[j]? := by
  induction ps generalizing i with
  | nil => simp at h
  | cons p ps ih =>
    show (cellsP p ++ flatP ps)[i * 7 + j]? = _
    cases i with
    | zero =>
      rw [Nat.zero_mul, Nat.zero_add, List.getElem?_append_left (by rw [cellsP_length]; exact hj)]
      rfl
    | succ i =>
      rw [List.getElem?_append_right (by rw [cellsP_length]; omega), cellsP_length, show (i + 1) * 7 + j - 7 = i * 7 + j from by omega, ih i (by simpa using h)]
      rfl
/-- The cell j of the part i. -/
def atP (x : Addr) (i : Nat) : Nat → Addr
  | 0 => x.add (i * 7)
  | j + 1 => ⟨(x.add (i * 7)).block, (x.add (i * 7)).off + (j + 1), none⟩
/-- A slice of parts: nil, or the cells of 'len' parts, seven each, from an address on. -/
def Pts (w : World) (a : Option Addr) (len cap : Nat) (ps : List Part) : Prop :=
  (a = none ∧ len = 0 ∧ cap = 0 ∧ ps = []) ∨
  ∃ x : Addr, a = some x ∧ len ≤ cap ∧ cap ≤ maxLen ∧ ps.length = len ∧ ∀ i, i < len → ∀ j v, (cellsP (pAt ps i))[j]? = some v → w.cell? (atP x i j) = some v
theorem Pts.length {w : World} {a : Option Addr} {len cap : Nat} {ps : List Part} (h : Pts w a len cap ps) : ps.length = len := by
  rcases h with ⟨_, rfl, _, rfl⟩ | ⟨_, _, _, _, h, _⟩
  · rfl
  · exact h
theorem Pts.len_le {w : World} {a : Option Addr} {len cap : Nat} {ps : List Part} (h : Pts w a len cap ps) : len ≤ cap ∧ cap ≤ maxLen := by
  rcases h with ⟨_, rfl, rfl, rfl⟩ | ⟨_, _, h1, h2, _, _⟩
  · exact ⟨Nat.le_refl _, Nat.zero_le _⟩
  · exact ⟨h1, h2⟩
theorem Pts.len_int {w : World} {a : Option Addr} {len cap : Nat} {ps : List Part} (h : Pts w a len cap ps) : len ≤ 9223372036854775807 := by
  have := h.len_le
  unfold maxLen at this
  omega
theorem Pts.nil (w : World) : Pts w none 0 0 [] := .inl ⟨rfl, rfl, rfl, rfl⟩
theorem Pts.moved {w w' : World} {a : Option Addr} {len cap : Nat} {ps : List Part} (h : Pts w a len cap ps) (hk : ∀ x, a = some x → ∀ i j v, i < len → w.cell? (atP x i j) = some v → w'.cell? (atP x i j) = some v) : Pts w' a len cap ps := by
  rcases h with h | ⟨x, h1, h2, h3, h4, h5⟩
  · exact .inl h
  · exact .inr ⟨x, h1, h2, h3, h4, fun i hi j v hv => hk x h1 i j v hi (h5 i hi j v hv)⟩
theorem Pts.below {w w' : World} {a : Option Addr} {len cap : Nat} {ps : List Part} (h : Pts w a len cap ps) (hb : Below w.heap.size w w') : Pts w' a len cap ps :=
  h.moved fun _ _ _ _ _ _ hc => (hb.cell (World.block_lt_of_cell? w _ hc)).trans hc
theorem Pts.addr {w : World} {a : Option Addr} {len cap : Nat} {ps : List Part} (h : Pts w a len cap ps) {k : Nat} (hk : k < len) : ∃ x, a = some x := by
  rcases h with ⟨_, h0, _⟩ | ⟨y, hy, _⟩
  · omega
  · exact ⟨y, hy⟩
/-- The cells of the part at a place, in another world. -/
theorem Pts.cells {w wr : World} {x : Addr} {len cap : Nat} {ps : List Part} (h : Pts w (some x) len cap ps) (hb : Below w.heap.size w wr) {k : Nat} (hk : k < len) (j : Nat) (v : Value) (hv : (cellsP (pAt ps k))[j]? = some v) : wr.cell? (atP x k j) = some v := by
  rcases h with ⟨h0, _⟩ | ⟨y, hy, _, _, _, h5⟩
  · cases h0
  · obtain rfl : x = y := by simpa using hy
    have := h5 k hk j v hv
    exact (hb.cell (World.block_lt_of_cell? w _ this)).trans this
theorem Pts.at {w wr : World} {x : Addr} {len cap : Nat} {ps : List Part} (h : Pts w (some x) len cap ps) (hb : Below w.heap.size w wr) {k : Nat} (hk : k < len) :
    wr.cell? (x.add (k * 7)) = some (.int .i64 (pAt ps k).tsn) ∧ wr.cell? ⟨(x.add (k * 7)).block, (x.add (k * 7)).off + 1, none⟩ = some (.int .i64 (pAt ps k).stream) ∧ wr.cell? ⟨(x.add (k * 7)).block, (x.add (k * 7)).off + 2, none⟩ = some (.int .i64 (pAt ps k).ssn) ∧
      wr.cell? ⟨(x.add (k * 7)).block, (x.add (k * 7)).off + 3, none⟩ = some (.bool (pAt ps k).first) ∧ wr.cell? ⟨(x.add (k * 7)).block, (x.add (k * 7)).off + 4, none⟩ = some (.bool (pAt ps k).last) ∧ wr.cell? ⟨(x.add (k * 7)).block, (x.add (k * 7)).off + 5, none⟩ = some (.bool (pAt ps k).loose) ∧
      wr.cell? ⟨(x.add (k * 7)).block, (x.add (k * 7)).off + 6, none⟩ = some (.string (pAt ps k).text) :=
  ⟨h.cells hb hk 0 _ rfl, h.cells hb hk 1 _ rfl, h.cells hb hk 2 _ rfl, h.cells hb hk 3 _ rfl, h.cells hb hk 4 _ rfl, h.cells hb hk 5 _ rfl, h.cells hb hk 6 _ rfl⟩
theorem pt_add (g j : Nat) : (⟨g, 0, none⟩ : Addr).add j = ⟨g, j, none⟩ := by unfold Addr.add; split <;> simp_all
theorem atP_zero (g i j : Nat) : atP ⟨g, 0, none⟩ i j = ⟨g, i * 7 + j, none⟩ := by
  cases j with
  | zero => exact pt_add g (i * 7)
  | succ j =>
    show (⟨((⟨g, 0, none⟩ : Addr).add (i * 7)).block, ((⟨g, 0, none⟩ : Addr).add (i * 7)).off + (j + 1), none⟩ : Addr) = _
    rw [pt_add]
theorem Pts.far {w : World} {g k cap d i : Nat} {ps : List Part} (h : Pts w (some ⟨g, 0, none⟩) k cap ps) (hd : d ≠ g) (v : Value) : Pts (w.setCell ⟨d, i, none⟩ v) (some ⟨g, 0, none⟩) k cap ps :=
  h.moved fun x hx i j u _ hc => by
    obtain rfl : ⟨g, 0, none⟩ = x := by simpa using hx
    rw [atP_zero] at hc ⊢
    exact cell_far hd hc
theorem Pts.aside {w w' : World} {g k cap r : Nat} {ps : List Part} (h : Pts w (some ⟨g, 0, none⟩) k cap ps) (ha : Aside w.heap.size r w w') (hr : g ≠ r) : Pts w' (some ⟨g, 0, none⟩) k cap ps :=
  h.moved fun x hx i j u _ hc => by
    obtain rfl : ⟨g, 0, none⟩ = x := by simpa using hx
    rw [atP_zero] at hc ⊢
    exact ha.cell (lt_of_cell hc) hr hc
theorem Pts.under {W W' : World} {g n cap C : Nat} {ps : List Part} (h : Pts W (some ⟨g, 0, none⟩) n cap ps) (hb : Below C W W') (hg : g < C ∨ n = 0) : Pts W' (some ⟨g, 0, none⟩) n cap ps :=
  h.moved fun x hx i j u hi hc => by
    obtain rfl : ⟨g, 0, none⟩ = x := by simpa using hx
    rw [atP_zero] at hc ⊢
    rcases hg with hg | h0
    · exact kept_cell hb hg hc
    · omega
theorem pts_lt {W : World} {g n cap : Nat} {ps : List Part} (h : Pts W (some ⟨g, 0, none⟩) n cap ps) : g < W.heap.size ∨ n = 0 := by
  by_cases hk0 : 0 < n
  · have := (h.at (Below.refl _ _) hk0).1
    rw [pt_add] at this
    exact .inl (lt_of_cell this)
  · exact .inr (by omega)
/-- The first parts of a slice. -/
theorem pts_take {w : World} {x : Addr} {len cap j : Nat} {ps : List Part} (h : Pts w (some x) len cap ps) (hj : j ≤ len) : Pts w (some x) j cap (ps.take j) := by
  rcases h with ⟨h0, _⟩ | ⟨y, hy, h1, h2, h3, h4⟩
  · cases h0
  · refine .inr ⟨y, hy, by omega, h2, by rw [List.length_take]; omega, fun i hi => ?_⟩
    have e : pAt (ps.take j) i = pAt ps i := by
      unfold pAt
      rw [List.getD_eq_getElem?_getD, List.getD_eq_getElem?_getD, List.getElem?_take_of_lt hi]
    rw [e]
    exact h4 i (by omega)
/-- The cells of a slice of parts, as a source of an append. -/
theorem pts_flat {W : World} {g k cap : Nat} {ps : List Part} (h : Pts W (some ⟨g, 0, none⟩) k cap ps) : ∀ j u, (flatP ps)[j]? = some u → W.cell? ((⟨g, 0, none⟩ : Addr).add j) = some u := by
  intro j u hu
  have hl := h.length
  have hj : j < k * 7 := by have := (List.getElem?_eq_some_iff.1 hu).1; rw [flatP_length, hl] at this; exact this
  have e : j = j / 7 * 7 + j % 7 := by omega
  have hm : j % 7 < 7 := by omega
  generalize hq : j / 7 = q at e
  generalize j % 7 = r at e hm
  subst e
  rw [flatP_get ps q r (by omega) hm] at hu
  have := h.cells (Below.refl _ _) (k := q) (by omega) r u hu
  rw [atP_zero] at this
  rw [pt_add]
  exact this

theorem own_pts {W : World} {base cap k : Nat} {a : Option Addr} {ps : List Part} (h : W.ownsRow base 43 7 (.slice a k cap) k (flatP ps)) : Pts W a k cap ps := by
  have hl := h.1
  rw [flatP_length] at hl
  rcases h.2 with ⟨h1, h2⟩ | ⟨g, cap', cur, h1, _, _, h4, h5, _⟩
  · obtain ⟨rfl, rfl, rfl⟩ : a = none ∧ k = 0 ∧ cap = 0 := by simpa using h1
    exact .inl ⟨rfl, rfl, rfl, by cases ps with | nil => rfl | cons c l => simp at hl⟩
  · obtain ⟨rfl, rfl⟩ : a = some ⟨g, 0, none⟩ ∧ cap = cap' := by simpa using h1
    refine .inr ⟨_, rfl, h4, h5, by omega, fun i hi j v hv => ?_⟩
    have hj : j < 7 := by have := (List.getElem?_eq_some_iff.1 hv).1; rwa [cellsP_length] at this
    rw [atP_zero]
    exact (h.cellAt (i * 7 + j) (by omega)).trans ((flatP_get ps i j (by omega) hj).trans hv)
theorem info_pt : (Try.prog.info? 43).map (fun i => (i.zero, i.size, i.bytes)) = some (some (partV ⟨0, 0, 0, false, false, false, ByteArray.mk #[]⟩), 7, 48) := by kernel_rfl

end Go.Proofs.Ytncbgejggfkdmab
