/- Texts that a proof needs, merged: G18, K91, G25, G26, K160, K150, K174, K175, K95, K96, K167, K168. -/
import Derived.Test.YtncbgejggfkdmabM2
import Derived.Deep.AppendLies
import Derived.IntWalk
import Derived.Laws.StructEq
import Derived.Laws.MakeOwn
import Derived.Deep.RegionHeldLaw
import Derived.Handy
import Derived.Deep.DeepCutAuto

/- What has arrived, plain: the steps of the model's loops. -/
namespace Go.Proofs.Ytncbgejggfkdmab
open Go.RowKit Go.PlainAid

/-- While those left are collected, up to k. -/
structure Mv (P : Int → Prop) (n k : Int) (ds : List Int) : Prop where
  asc : AscOk 1 ds
  mem : ∀ j, j ∈ ds ↔ 1 ≤ j ∧ j + n < k ∧ P (j + n)
  last : lastE 1 ds ≤ k - 1 - n ∨ k = n + 1
section
variable {P : Int → Prop} {n k : Int} {ds : List Int}
theorem mv_start : Mv P n (n + 1) [] := ⟨trivial, fun j => ⟨fun h => by simp at h, fun h => by omega⟩, .inr rfl⟩
theorem mv_no (h : Mv P n k ds) (_ : n + 1 ≤ k) (hp : ¬ P k) : Mv P n (k + 1) ds := by
  refine ⟨h.asc, fun j => (h.mem j).trans ⟨fun ⟨h1, h2, h3⟩ => ⟨h1, by omega, h3⟩, fun ⟨h1, h2, h3⟩ => ⟨h1, ?_, h3⟩⟩, ?_⟩
  · by_cases e : j + n = k
    · exact absurd (e ▸ h3) hp
    · omega
  · rcases h.last with h1 | h1
    · exact .inl (by omega)
    · have e : ds = [] := List.eq_nil_iff_forall_not_mem.2 fun j hj => by
        have := (h.mem j).1 hj
        omega
      subst e
      exact .inl (by show (1 : Int) ≤ _; omega)
theorem mv_yes (h : Mv P n k ds) (hn : 0 ≤ n) (hk : n + 1 ≤ k) (h16 : k ≤ 16) (hs : ¬ P (n + 1)) (hp : P k) : Mv P n (k + 1) (ds ++ [k - n]) := by
  have hkn : k ≠ n + 1 := fun e => hs (e ▸ hp)
  have hl : lastE 1 ds ≤ k - 1 - n := by
    rcases h.last with h1 | h1
    · exact h1
    · exact absurd h1 hkn
  refine ⟨asc_snoc.2 ⟨h.asc, by omega, by omega⟩, fun j => ?_, .inl (by rw [lastE_snoc]; omega)⟩
  rw [List.mem_append, h.mem j]
  constructor
  · rintro (⟨h1, h2, h3⟩ | h1)
    · exact ⟨h1, by omega, h3⟩
    · have e : j = k - n := by simpa using h1
      exact ⟨by omega, by omega, by rw [e, show k - n + n = k by omega]; exact hp⟩
  · rintro ⟨h1, h2, h3⟩
    by_cases e : j + n = k
    · exact .inr (by simp; omega)
    · exact .inl ⟨h1, by omega, h3⟩
theorem mv_end (h : Mv P n 17 ds) (hn : 0 ≤ n) (hr : ∀ j, 1 ≤ j → j ≤ n → P j) (hs : ¬ P (n + 1)) (hP : ∀ j, P j → 1 ≤ j ∧ j ≤ 16) : Moved P n ds :=
  ⟨hn, hr, hs, h.asc, fun j => (h.mem j).trans ⟨fun ⟨h1, _, h3⟩ => ⟨h1, h3⟩, fun ⟨h1, h3⟩ => ⟨h1, by have := (hP _ h3).2; omega, h3⟩⟩⟩
theorem mv_few (h : Mv P n k ds) : ds.length ≤ 16 := by
  have := asc_few h.asc (by decide)
  omega
end
theorem gaps_snoc {l : Int} {gs : List (Int × Int)} {f t : Int} : GapsOk l (gs ++ [(f, t)]) ↔ GapsOk l gs ∧ lastOf l gs + 2 ≤ f ∧ f ≤ t ∧ t ≤ 16 := by
  rw [gaps_append]
  simp only [GapsOk, and_true]
/-- While a receipt is made, up to k. -/
structure Tl (es : List Int) (k : Int) (gs : List (Int × Int)) : Prop where
  gaps : GapsOk 0 gs
  mem : ∀ j, Blk gs j ↔ j ∈ es ∧ j < k
  last : lastOf 0 gs ≤ k - 1
section
variable {es : List Int} {k : Int} {gs : List (Int × Int)}
theorem tl_start (h : AscOk 1 es) : Tl es 2 [] :=
  ⟨trivial, fun j => ⟨fun h => absurd h (blk_nil j), fun ⟨h1, h2⟩ => by have := asc_low h j h1; omega⟩, by show (0 : Int) ≤ _; omega⟩
theorem tl_no (h : Tl es k gs) (hk : k ∉ es) : Tl es (k + 1) gs :=
  ⟨h.gaps, fun j => (h.mem j).trans ⟨fun ⟨h1, h2⟩ => ⟨h1, by omega⟩, fun ⟨h1, h2⟩ => ⟨h1, by
    by_cases e : j = k
    · exact absurd (e ▸ h1) hk
    · omega⟩⟩, by have := h.last; omega⟩
theorem tl_more {f : Int} (h : Tl es k (gs ++ [(f, k - 1)])) (hk : k ∈ es) (h16 : k ≤ 16) : Tl es (k + 1) (gs ++ [(f, k)]) := by
  obtain ⟨h1, h2, h3, h4⟩ := gaps_snoc.1 h.gaps
  refine ⟨gaps_snoc.2 ⟨h1, h2, by omega, h16⟩, fun j => ?_, by rw [lastOf_append]; show k ≤ _; omega⟩
  have := h.mem j
  rw [blk_snoc] at this ⊢
  by_cases e : j = k
  · subst e
    exact ⟨fun _ => ⟨hk, by omega⟩, fun _ => .inr ⟨by show f ≤ j; omega, Int.le_refl _⟩⟩
  · constructor
    · rintro (h5 | ⟨h5, h6⟩)
      · have := this.1 (.inl h5)
        exact ⟨this.1, by omega⟩
      · have := this.1 (.inr ⟨h5, by simp only at h6 ⊢; omega⟩)
        exact ⟨this.1, by omega⟩
    · rintro ⟨h5, h6⟩
      rcases this.2 ⟨h5, by omega⟩ with h7 | ⟨h7, h8⟩
      · exact .inl h7
      · exact .inr ⟨h7, by simp only at h8 ⊢; omega⟩
theorem tl_new (h : Tl es k gs) (hk : k ∈ es) (h2k : 2 ≤ k) (h16 : k ≤ 16) (hl : gs = [] ∨ lastOf 0 gs ≠ k - 1) : Tl es (k + 1) (gs ++ [(k, k)]) := by
  have h1 : lastOf 0 gs + 2 ≤ k := by
    rcases hl with rfl | hl
    · show (0 : Int) + 2 ≤ k; omega
    · have := h.last; omega
  refine ⟨gaps_snoc.2 ⟨h.gaps, h1, Int.le_refl _, h16⟩, fun j => ?_, by rw [lastOf_append]; show k ≤ _; omega⟩
  rw [blk_snoc, h.mem j]
  constructor
  · rintro (⟨h5, h6⟩ | ⟨h5, h6⟩)
    · exact ⟨h5, by omega⟩
    · have e : j = k := by simp only at h5 h6; omega
      exact ⟨e ▸ hk, by omega⟩
  · rintro ⟨h5, h6⟩
    by_cases e : j = k
    · exact .inr ⟨by simp only; omega, by simp only; omega⟩
    · exact .inl ⟨h5, by omega⟩
theorem tl_end (h : Tl es 17 gs) (ha : AscOk 1 es) : Told es gs :=
  ⟨ha, h.gaps, fun j => ⟨fun hj => (h.mem j).2 ⟨hj, by have := asc_low ha j hj; omega⟩, fun hj => ((h.mem j).1 hj).1⟩⟩
theorem tl_few (h : Tl es k gs) : gs.length ≤ 8 := by
  have := gaps_few h.gaps (by decide)
  omega
end
/-- While the parts of blocks are collected: those of the first i blocks, and from f up to k. -/
structure Sl (gs : List (Int × Int)) (i : Nat) (f k : Int) (ds : List Int) : Prop where
  asc : AscOk 1 ds
  mem : ∀ j, j ∈ ds ↔ Blk (gs.take i) j ∨ (f ≤ j ∧ j < k)
  last : lastE 1 ds + 1 ≤ k
theorem sl_step {gs : List (Int × Int)} {i : Nat} {f k : Int} {ds : List Int} (h : Sl gs i f k ds) (hf : f ≤ k) (hk : k ≤ 16) : Sl gs i f (k + 1) (ds ++ [k]) := by
  refine ⟨asc_snoc.2 ⟨h.asc, h.last, hk⟩, fun j => ?_, by rw [lastE_snoc]; omega⟩
  rw [List.mem_append, h.mem j, or_assoc]
  constructor
  · rintro (h1 | h1 | h1)
    · exact .inl h1
    · exact .inr ⟨h1.1, by omega⟩
    · have e : j = k := by simpa using h1
      exact .inr ⟨by omega, by omega⟩
  · rintro (h1 | h1)
    · exact .inl h1
    · by_cases e : j = k
      · exact .inr (.inr (by simp [e]))
      · exact .inr (.inl ⟨h1.1, by omega⟩)
/-- Between two blocks. -/
structure So (gs : List (Int × Int)) (i : Nat) (ds : List Int) : Prop where
  asc : AscOk 1 ds
  mem : ∀ j, j ∈ ds ↔ Blk (gs.take i) j
  last : lastE 1 ds ≤ lastOf 0 (gs.take i) + 1
theorem so_start (gs : List (Int × Int)) : So gs 0 [] := ⟨trivial, fun j => ⟨fun h => by simp at h, fun h => absurd h (blk_nil j)⟩, by show (1 : Int) ≤ 0 + 1; omega⟩
theorem so_in {gs : List (Int × Int)} {i : Nat} {ds : List Int} {f t : Int} (h : So gs i ds) (hg : GapsOk 0 gs) (hi : i < gs.length) (hf : (gs.getD i (0, 0)).1 = f) (ht : (gs.getD i (0, 0)).2 = t) : Sl gs i f f ds ∧ 2 ≤ f ∧ f ≤ t ∧ t ≤ 16 := by
  have hn := (gaps_next hi hf ht (gaps_head hg)).1 (gaps_head hg)
  have := last_range (gaps_head (k := i) hg) (by decide) (by decide)
  have hl := h.last
  exact ⟨⟨h.asc, fun j => (h.mem j).trans ⟨fun h => .inl h, fun h => by exact h.elim (fun h => h) (fun h => absurd h.1 (by omega))⟩, by omega⟩, by omega, hn.2.1, hn.2.2⟩
theorem so_out {gs : List (Int × Int)} {i : Nat} {ds : List Int} {f t : Int} (h : Sl gs i f (t + 1) ds) (hi : i < gs.length) (hf : (gs.getD i (0, 0)).1 = f) (ht : (gs.getD i (0, 0)).2 = t) : So gs (i + 1) ds := by
  refine ⟨h.asc, fun j => ?_, ?_⟩
  · rw [h.mem j, take_next hi, blk_snoc, hf, ht]
    exact ⟨fun h => by exact h.elim (fun h => .inl h) (fun h => .inr ⟨h.1, by omega⟩), fun h => by exact h.elim (fun h => .inl h) (fun h => .inr ⟨h.1, by omega⟩)⟩
  · rw [last_next hi, ht]
    have := h.last
    omega
theorem so_end {gs : List (Int × Int)} {i : Nat} {ds : List Int} (h : So gs i ds) (hi : i = gs.length) (hg : GapsOk 0 gs) : Told ds gs := by
  subst hi
  have hm := h.mem
  rw [List.take_of_length_le (Nat.le_refl _)] at hm
  exact ⟨h.asc, hg, hm⟩
theorem sl_few {gs : List (Int × Int)} {i : Nat} {f k : Int} {ds : List Int} (h : Sl gs i f k ds) : ds.length ≤ 15 := by
  have := asc_few h.asc (by decide)
  omega

theorem run_some (P : Int → Prop) (h17 : ¬ P 17) : ∀ (m : Nat) (n : Int), 0 ≤ n → n + m = 16 → (∀ j, 1 ≤ j → j ≤ n → P j) → ∃ n, 0 ≤ n ∧ n ≤ 16 ∧ (∀ j, 1 ≤ j → j ≤ n → P j) ∧ ¬ P (n + 1)
  | 0, n, h0, hm, hr => ⟨n, h0, by omega, hr, by rw [show n + 1 = 17 by omega]; exact h17⟩
  | m + 1, n, h0, hm, hr => by
    by_cases hp : P (n + 1)
    · refine run_some P h17 m (n + 1) (by omega) (by omega) fun j h1 h2 => ?_
      by_cases e : j = n + 1
      · rw [e]; exact hp
      · exact hr j h1 (by omega)
    · exact ⟨n, h0, by omega, hr, hp⟩
theorem mv_some (P : Int → Prop) (n : Int) (hn : 0 ≤ n) (hs : ¬ P (n + 1)) : ∀ (m : Nat) (k : Int) (ds : List Int), n + 1 ≤ k → k + m = 17 → Mv P n k ds → ∃ ds, Mv P n 17 ds
  | 0, k, ds, _, hm, h => ⟨ds, by rw [show (17 : Int) = k by omega]; exact h⟩
  | m + 1, k, ds, hk, hm, h => by
    by_cases hp : P k
    · exact mv_some P n hn hs m (k + 1) _ (by omega) (by omega) (mv_yes h hn hk (by omega) hs hp)
    · exact mv_some P n hn hs m (k + 1) _ (by omega) (by omega) (mv_no h hk hp)
theorem moved_some {P : Int → Prop} (hP : ∀ j, P j → 1 ≤ j ∧ j ≤ 16) : ∃ n es, Moved P n es := by
  obtain ⟨n, h0, h1, hr, hs⟩ := run_some P (fun h => by have := (hP 17 h).2; omega) 16 0 (by omega) (by omega) fun j h1 h2 => by omega
  obtain ⟨ds, hd⟩ := mv_some P n h0 hs (16 - n.toNat) (n + 1) [] (Int.le_refl _) (by omega) mv_start
  exact ⟨n, ds, mv_end hd h0 hr hs hP⟩
theorem told_sack {gs : List (Int × Int)} (h : GapsOk 0 gs) : ∃ es, Told es gs := by
  have hl := blk_low h
  obtain ⟨es, he⟩ := mv_some (Blk gs) 0 (by omega) (fun h => by have := (hl _ h).1; omega) 16 (0 + 1) [] (Int.le_refl _) (by omega) mv_start
  have hm := mv_end he (by omega) (fun j h1 h2 => by omega) (fun h => by have := (hl _ h).1; omega) fun j hj => by have := hl j hj; omega
  refine ⟨es, hm.asc, h, fun j => (hm.mem j).trans ?_⟩
  rw [Int.add_zero]
  exact ⟨fun h => h.2, fun h => ⟨by have := (hl j h).1; omega, h⟩⟩
theorem tl_some {es : List Int} : ∀ (m : Nat) (k : Int) (gs : List (Int × Int)), 2 ≤ k → k + m = 17 → Tl es k gs → ∃ gs, Tl es 17 gs
  | 0, k, gs, _, hm, h => ⟨gs, by rw [show (17 : Int) = k by omega]; exact h⟩
  | m + 1, k, gs, hk, hm, h => by
    by_cases hp : k ∈ es
    · by_cases hl : gs = [] ∨ lastOf 0 gs ≠ k - 1
      · exact tl_some m (k + 1) _ (by omega) (by omega) (tl_new h hp hk (by omega) hl)
      · have h1 : gs ≠ [] := fun e => hl (.inl e)
        have h2 : lastOf 0 gs = k - 1 := Classical.byContradiction fun e => hl (.inr e)
        obtain ⟨hs, g, rfl⟩ : ∃ hs g, gs = hs ++ [g] := ⟨gs.dropLast, gs.getLast h1, (List.dropLast_concat_getLast h1).symm⟩
        obtain ⟨f, t⟩ := g
        rw [lastOf_append] at h2
        obtain rfl : t = k - 1 := h2
        exact tl_some m (k + 1) _ (by omega) (by omega) (tl_more h hp (by omega))
    · exact tl_some m (k + 1) _ (by omega) (by omega) (tl_no h hp)
theorem told_seen_some {es : List Int} (h : AscOk 1 es) : ∃ gs, Told es gs := by
  obtain ⟨gs, hg⟩ := tl_some 15 2 [] (by omega) (by omega) (tl_start h)
  exact ⟨gs, tl_end hg h⟩
/-- What SeenAdd answers to any arguments. -/
def AddV (c : Int) (es : List Int) (t : Int) (c2 : Int) (es2 : List Int) (code : Int) : Prop :=
  ((SeenOk c es ∧ Ser t) ∧ AddIs c es t c2 es2 code) ∨ (¬ (SeenOk c es ∧ Ser t) ∧ c2 = 0 ∧ es2 = [] ∧ code = 3)
theorem addV_one {c t c2 c3 : Int} {es e2 e3 : List Int} {k2 k3 : Int} (h : AddV c es t c2 e2 k2) (k : AddV c es t c3 e3 k3) : c2 = c3 ∧ e2 = e3 ∧ k2 = k3 := by
  rcases h with ⟨h1, h2⟩ | ⟨h1, rfl, rfl, rfl⟩ <;> rcases k with ⟨k1, k2⟩ | ⟨k1, rfl, rfl, rfl⟩
  · exact add_one h2 k2
  · exact absurd h1 k1
  · exact absurd k1 h1
  · exact ⟨rfl, rfl, rfl⟩
theorem addV_some (c : Int) (es : List Int) (t : Int) : ∃ c2 es2 code, AddV c es t c2 es2 code := by
  by_cases h : SeenOk c es ∧ Ser t
  · by_cases h1 : HasS c es t
    · exact ⟨c, es, 1, .inl ⟨h, .inl ⟨h1, rfl, rfl, rfl⟩⟩⟩
    · by_cases h2 : 16 < diffS c t
      · exact ⟨c, es, 2, .inl ⟨h, .inr (.inl ⟨h1, h2, rfl, rfl, rfl⟩)⟩⟩
      · have hf : Fresh es (diffS c t) := ⟨Classical.byContradiction fun e => h1 (.inl (by omega)), by omega, fun e => h1 (.inr e)⟩
        obtain ⟨n, ds, hm⟩ := moved_some (with_range h.1.2 hf.1 hf.2.1)
        exact ⟨addS c n, ds, 0, .inl ⟨h, .inr (.inr ⟨hf, rfl, n, hm, rfl⟩)⟩⟩
  · exact ⟨0, [], 3, .inr ⟨h, rfl, rfl, rfl⟩⟩
/-- The code of a part tells what holds of it. -/
theorem addIs_code {c t c2 code : Int} {es e2 : List Int} (ha : AscOk 1 es) (h : AddIs c es t c2 e2 code) : (code = 0 ∨ code = 1 ∨ code = 2) ∧ (code = 1 ↔ HasS c es t) ∧ (code = 2 ↔ 16 < diffS c t) ∧ (code ≠ 0 → c2 = c ∧ e2 = es) := by
  rcases h with ⟨h1, rfl, rfl, rfl⟩ | ⟨h1, h2, rfl, rfl, rfl⟩ | ⟨h1, rfl, n, h2, rfl⟩
  · refine ⟨.inr (.inl rfl), ⟨fun _ => h1, fun _ => rfl⟩, ⟨fun h => absurd h (by decide), fun h => ?_⟩, fun _ => ⟨rfl, rfl⟩⟩
    rcases h1 with h1 | h1
    · omega
    · have := asc_low ha _ h1
      omega
  · exact ⟨.inr (.inr rfl), ⟨fun h => absurd h (by decide), fun h => absurd h h1⟩, ⟨fun _ => h2, fun _ => rfl⟩, fun _ => ⟨rfl, rfl⟩⟩
  · exact ⟨.inl rfl, ⟨fun h => absurd h (by decide), fun h => absurd h (fresh_not h1)⟩, ⟨fun h => absurd h (by decide), fun h => by have := h1.2.1; omega⟩, fun h => absurd rfl h⟩

end Go.Proofs.Ytncbgejggfkdmab

/- The contracts of chapter 21's model: the value at the beginning, moving on, a part that arrives. -/
namespace Go.Proofs.Ytncbgejggfkdmab
open Go.RowKit Go.PlainAid

/-- While those left are collected: the result's variable, the value's at D, its row. -/
structure Mvw (w : World) (c : Int) (D m g cap2 : Nat) (ds : List Int) (W : World) : Prop where
  rb : VarN w.heap.size [.int .i64 0, .slice none 0 0] W
  ob : VarN D [.int .i64 c, .slice (some ⟨g, 0, none⟩) m cap2] W
  own : OwnN m (.slice (some ⟨g, 0, none⟩) m cap2) ds w W
  n1 : w.heap.size < D
  n2 : g ≠ D
  n3 : g ≠ w.heap.size
section
variable {w W W' : World} {c : Int} {D m g cap2 : Nat} {ds : List Int}
theorem Mvw.up (h : Mvw w c D m g cap2 ds W) (hb : Below W.heap.size W W') : Mvw w c D m g cap2 ds W' :=
  ⟨h.rb.below hb (lt_of_cell (h.rb 0 _ rfl).1), h.ob.below hb (lt_of_cell (h.ob 0 _ rfl).1), h.own.below hb, h.n1, h.n2, h.n3⟩
theorem OwnN.push {k g2 cap3 : Nat} {v : Value} {es : List Int} {W1 : World} {e : Int} (h : OwnN k v es w W) (hgrow : W.grownBy W1 v.ownBlock) (hown : W1.ownsRow w.heap.size 3 1 (.slice (some ⟨g2, 0, none⟩) (k + 1) cap3) (k + 1) (flatN es ++ [.int .i64 e])) : OwnN (k + 1) (.slice (some ⟨g2, 0, none⟩) (k + 1) cap3) (es ++ [e]) w W1 :=
  ⟨by rw [flatN_append]; exact hown, Below.grown h.b hgrow h.b.size fun x hx => h.base hx⟩
theorem OwnN.far {k g d i : Nat} {cap : Nat} {es : List Int} (h : OwnN k (.slice (some ⟨g, 0, none⟩) k cap) es w W) (hd : g ≠ d) (hw : w.heap.size ≤ d) (v : Value) : OwnN k (.slice (some ⟨g, 0, none⟩) k cap) es w (W.setCell ⟨d, i, none⟩ v) :=
  ⟨rowFar h.own hd v, h.b.setCell (p := ⟨d, i, none⟩) hw v⟩
theorem OwnN.lt {k g cap : Nat} {es : List Int} (h : OwnN k (.slice (some ⟨g, 0, none⟩) k cap) es w W) : g < W.heap.size := rowLt h.own
/-- A number is appended, and the new slice is laid into the value's variable. -/
theorem Mvw.push {g2 cap3 : Nat} {W1 : World} {e : Int} (h : Mvw w c D m g cap2 ds W) (hgrow : W.grownBy W1 (some g)) (hown : W1.ownsRow w.heap.size 3 1 (.slice (some ⟨g2, 0, none⟩) (m + 1) cap3) (m + 1) (flatN ds ++ [.int .i64 e])) (hat : g2 = g ∨ g2 = W.heap.size) :
    Mvw w c D (m + 1) g2 cap3 (ds ++ [e]) (W1.setCell ⟨D, 1, none⟩ (.slice (some ⟨g2, 0, none⟩) (m + 1) cap3)) := by
  have l1 := lt_of_cell (h.rb 0 _ rfl).1
  have l2 := lt_of_cell (h.ob 0 _ rfl).1
  have n1 := h.n1
  have n2 := h.n2
  have n3 := h.n3
  have x2 : g2 ≠ D := by rcases hat with rfl | rfl <;> omega
  have x3 : g2 ≠ w.heap.size := by rcases hat with rfl | rfl <;> omega
  exact ⟨(h.rb.plus hgrow l1 (fun e => n3 e.symm)).far _ (by omega), (h.ob.plus hgrow l2 (fun e => n2 e.symm)).set (i := 1) _, (h.own.push hgrow hown).far x2 (by omega) _, n1, x2, x3⟩
end

end Go.Proofs.Ytncbgejggfkdmab

/- Assemblies, plain: parts that wait at blocks of their own; a block is taken out. -/
namespace Go.Proofs.Ytncbgejggfkdmab
open Go.RowKit Go.PlainAid

/-- The parts of a list of blocks and parts. -/
def psOf (ns : List (Nat × Part)) : List Part := ns.map Prod.snd
/-- The block at a place. -/
def bk (ns : List (Nat × Part)) (i : Nat) : Option Nat := (ns[i]?).map Prod.fst
/-- The block ahead of a place. -/
def pv (ns : List (Nat × Part)) : Nat → Option Nat
  | 0 => none
  | i + 1 => bk ns i
/-- The block at a place that is there. -/
def bAt (ns : List (Nat × Part)) (i : Nat) : Nat := (ns.map Prod.fst).getD i 0
theorem psOf_length (ns : List (Nat × Part)) : (psOf ns).length = ns.length := List.length_map _
theorem psOf_append (ns ms : List (Nat × Part)) : psOf (ns ++ ms) = psOf ns ++ psOf ms := List.map_append
theorem ns_get {ns : List (Nat × Part)} {i : Nat} (h : i < ns.length) : ns[i]? = some (bAt ns i, pAt (psOf ns) i) := by
  rw [List.getElem?_eq_getElem h]
  unfold bAt pAt psOf
  rw [List.getD_eq_getElem?_getD, List.getD_eq_getElem?_getD, List.getElem?_map, List.getElem?_map, List.getElem?_eq_getElem h]
  rfl
theorem bk_some {ns : List (Nat × Part)} {i : Nat} (h : i < ns.length) : bk ns i = some (bAt ns i) := by
  unfold bk
  rw [ns_get h]
  rfl
theorem bk_none {ns : List (Nat × Part)} {i : Nat} (h : ns.length ≤ i) : bk ns i = none := by
  unfold bk
  rw [List.getElem?_eq_none h]
  rfl
theorem bAt_mem {ns : List (Nat × Part)} {i : Nat} (h : i < ns.length) : (bAt ns i, pAt (psOf ns) i) ∈ ns := List.mem_of_getElem? (ns_get h)
theorem nd_at {ns : List (Nat × Part)} {x : Nat × Part} (h : x ∈ ns) : ∃ i, i < ns.length ∧ x = (bAt ns i, pAt (psOf ns) i) := by
  obtain ⟨i, hi, e⟩ := List.getElem_of_mem h
  refine ⟨i, hi, ?_⟩
  have := ns_get hi
  rw [List.getElem?_eq_getElem hi, e] at this
  exact Option.some.inj this
theorem bAt_inj {ns : List (Nat × Part)} (h : (ns.map Prod.fst).Nodup) {i j : Nat} (hi : i < ns.length) (hj : j < ns.length) (e : bAt ns i = bAt ns j) : i = j := by
  unfold bAt at e
  rw [List.getD_eq_getElem?_getD, List.getD_eq_getElem?_getD, List.getElem?_eq_getElem (by rw [List.length_map]; exact hi), List.getElem?_eq_getElem (by rw [List.length_map]; exact hj)] at e
  rw [List.nodup_iff_pairwise_ne, List.pairwise_iff_getElem] at h
  by_cases hlt : i < j
  · exact absurd e (h i j (by rw [List.length_map]; exact hi) (by rw [List.length_map]; exact hj) hlt)
  · by_cases hgt : j < i
    · exact absurd e.symm (h j i (by rw [List.length_map]; exact hj) (by rw [List.length_map]; exact hi) hgt)
    · omega
theorem ns_range (ns : List (Nat × Part)) : (List.range ns.length).map (fun i => (bAt ns i, pAt (psOf ns) i)) = ns := by
  refine List.ext_getElem (by simp) fun i h1 h2 => ?_
  rw [List.getElem_map, List.getElem_range]
  have := ns_get h2
  rw [List.getElem?_eq_getElem h2] at this
  exact (Option.some.inj this).symm
/-- What is left when some blocks are taken out. -/
def leftB (ns : List (Nat × Part)) (bl : List Nat) : List (Nat × Part) := ns.filter fun x => !decide (x.1 ∈ bl)
theorem leftB_nil (ns : List (Nat × Part)) : leftB ns [] = ns := by
  unfold leftB
  exact List.filter_eq_self.2 fun x _ => by simp
theorem leftB_snoc (ns : List (Nat × Part)) (bl : List Nat) (b : Nat) : leftB ns (bl ++ [b]) = leftB (leftB ns bl) [b] := by
  unfold leftB
  rw [List.filter_filter]
  refine List.filter_congr fun x _ => ?_
  by_cases h1 : x.1 ∈ bl <;> by_cases h2 : x.1 = b <;> simp [h1, h2]
theorem leftB_sub {ns : List (Nat × Part)} {bl : List Nat} {x : Nat × Part} (h : x ∈ leftB ns bl) : x ∈ ns ∧ x.1 ∉ bl := by
  have := List.mem_filter.1 h
  exact ⟨this.1, by simpa using this.2⟩
theorem leftB_in {ns : List (Nat × Part)} {bl : List Nat} {x : Nat × Part} (h : x ∈ ns) (hb : x.1 ∉ bl) : x ∈ leftB ns bl := List.mem_filter.2 ⟨h, by simpa using hb⟩
theorem leftB_sublist (ns : List (Nat × Part)) (bl : List Nat) : (leftB ns bl).Sublist ns := List.filter_sublist
/-- One block is taken out. -/
theorem leftB_one {ns : List (Nat × Part)} (h : (ns.map Prod.fst).Nodup) {j : Nat} (hj : j < ns.length) : leftB ns [bAt ns j] = ns.eraseIdx j := by
  induction ns generalizing j with
  | nil => simp at hj
  | cons x ns ih =>
    rw [List.map_cons, List.nodup_cons] at h
    cases j with
    | zero =>
      rw [List.eraseIdx_cons_zero]
      have e : bAt (x :: ns) 0 = x.1 := rfl
      rw [e]
      unfold leftB
      rw [List.filter_cons]
      rw [if_neg (by simp)]
      refine List.filter_eq_self.2 fun y hy => ?_
      have : y.1 ≠ x.1 := fun e => h.1 (by rw [← e]; exact List.mem_map_of_mem hy)
      simpa using this
    | succ j =>
      rw [List.eraseIdx_cons_succ]
      have hj' : j < ns.length := by simpa using hj
      have e : bAt (x :: ns) (j + 1) = bAt ns j := rfl
      rw [e, ← ih h.2 hj']
      unfold leftB
      rw [List.filter_cons, if_pos]
      have : x.1 ≠ bAt ns j := fun e => h.1 (by rw [e]; exact List.mem_map_of_mem (bAt_mem hj'))
      simpa using this
/-- The parts of what is left. -/
theorem leftB_parts {ns : List (Nat × Part)} (h : (ns.map Prod.fst).Nodup) {ch : List Nat} (hc : ∀ i ∈ ch, i < ns.length) : psOf (leftB ns (ch.map (bAt ns))) = restP (psOf ns) ch := by
  unfold restP restTo
  rw [psOf_length]
  have e : leftB ns (ch.map (bAt ns)) = ((List.range ns.length).filter fun i => !decide (i ∈ ch)).map fun i => (bAt ns i, pAt (psOf ns) i) := by
    conv => lhs; unfold leftB; rw [← ns_range ns]
    rw [ns_range ns]
    rw [← ns_range ns, List.filter_map, ns_range ns]
    congr 1
    refine List.filter_congr fun i hi => ?_
    have hi := List.mem_range.1 hi
    show (!decide (bAt ns i ∈ ch.map (bAt ns))) = !decide (i ∈ ch)
    congr 1
    refine decide_eq_decide.2 ⟨fun hm => ?_, fun hm => List.mem_map_of_mem hm⟩
    obtain ⟨k, hk, e⟩ := List.mem_map.1 hm
    rw [bAt_inj h hi (hc k hk) e.symm]
    exact hk
  rw [e]
  unfold psOf
  rw [List.map_map]
  rfl
/-- Blocks around the one that is taken out. -/
theorem bk_erase (ns : List (Nat × Part)) (j i : Nat) : bk (ns.eraseIdx j) i = if i < j then bk ns i else bk ns (i + 1) := by
  unfold bk
  rw [List.getElem?_eraseIdx]
  split <;> rfl
theorem pv_erase (ns : List (Nat × Part)) (j i : Nat) : pv (ns.eraseIdx j) i = if i ≤ j then pv ns i else pv ns (i + 1) := by
  cases i with
  | zero => simp [pv]
  | succ i =>
    show bk (ns.eraseIdx j) i = _
    rw [bk_erase]
    by_cases h : i < j
    · rw [if_pos h, if_pos (by omega)]
      rfl
    · rw [if_neg h, if_neg (by omega)]
      rfl

end Go.Proofs.Ytncbgejggfkdmab

/- Assemblies, plain: a message is followed, step by step. -/
namespace Go.Proofs.Ytncbgejggfkdmab
open Go.RowKit Go.PlainAid

theorem idx_cases (ps : List Part) (t : Int) : idxP ps t = none ∨ ∃ j, j < ps.length ∧ idxP ps t = some j := by
  cases h : idxP ps t with
  | none => exact .inl rfl
  | some j => exact .inr ⟨j, (idx_some h).1, rfl⟩
theorem idx_has {ps : List Part} {t : Int} (h : idxP ps t = none) : hasT ps t = false := by
  cases hc : hasT ps t with
  | false => rfl
  | true =>
    unfold hasT at hc
    rw [List.any_eq_true] at hc
    obtain ⟨p, hp, e⟩ := hc
    exact absurd (by simpa using e) (idx_none h p hp)
theorem chain_last {ps : List Part} {f k : Nat} {out : List Nat} (hf : 1 ≤ f) (h : (pAt ps k).last = true) : chainP ps f k out = out := by
  obtain ⟨f, rfl⟩ : ∃ f', f = f' + 1 := ⟨f - 1, by omega⟩
  unfold chainP
  rw [if_pos h]
theorem chain_stop {ps : List Part} {f k : Nat} {out : List Nat} (hf : 1 ≤ f) (h : (pAt ps k).last = false) (hi : idxP ps (addS (pAt ps k).tsn 1) = none) : chainP ps f k out = [] := by
  obtain ⟨f, rfl⟩ : ∃ f', f = f' + 1 := ⟨f - 1, by omega⟩
  unfold chainP
  rw [if_neg (by simp [h]), hi]
theorem chain_bad {ps : List Part} {f k j : Nat} {out : List Nat} (hf : 1 ≤ f) (h : (pAt ps k).last = false) (hi : idxP ps (addS (pAt ps k).tsn 1) = some j) (hb : (pAt ps j).first = true ∨ sameM (pAt ps k) (pAt ps j) = false ∨ 12 < out.length) : chainP ps f k out = [] := by
  obtain ⟨f, rfl⟩ : ∃ f', f = f' + 1 := ⟨f - 1, by omega⟩
  unfold chainP
  rw [if_neg (by simp [h]), hi]
  simp only
  rw [if_pos]
  rcases hb with h | h | h <;> simp [h]
theorem chain_go {ps : List Part} {f k j : Nat} {out : List Nat} (hf : 1 ≤ f) (h : (pAt ps k).last = false) (hi : idxP ps (addS (pAt ps k).tsn 1) = some j) (h1 : (pAt ps j).first = false) (h2 : sameM (pAt ps k) (pAt ps j) = true) (h3 : out.length ≤ 12) : chainP ps f k out = chainP ps (f - 1) j (out ++ [j]) := by
  obtain ⟨f, rfl⟩ : ∃ f', f = f' + 1 := ⟨f - 1, by omega⟩
  have : f + 1 - 1 = f := rfl
  rw [this]
  conv => lhs; unfold chainP
  rw [if_neg (by simp [h]), hi]
  simp only
  rw [if_neg]
  simp [h1, h2]
  omega
theorem Cn.nd {ps : List Part} {k : Nat} {out : List Nat} (h : Cn ps k out) : out.Nodup := by
  rw [List.nodup_iff_pairwise_ne, List.pairwise_iff_getElem]
  intro i j hi hj hij e
  have h1 := h.tsn i hi
  have h2 := h.tsn j hj
  rw [List.getD_eq_getElem?_getD, List.getElem?_eq_getElem hi] at h1
  rw [List.getD_eq_getElem?_getD, List.getElem?_eq_getElem hj] at h2
  have e2 : (some out[i]).getD 0 = (some out[j]).getD 0 := e
  rw [e2] at h1
  have hl := h.len
  have := addS_inj (t := (pAt ps (out.getD 0 0)).tsn) (by omega) (by omega) (h1.symm.trans h2)
  omega
theorem Cn.fits {ps : List Part} {k : Nat} {out : List Nat} (h : Cn ps k out) : out.length ≤ ps.length := by
  have := (rest_perm h.nd h.lt).length_eq
  rw [List.length_append, List.length_map] at this
  omega
theorem find_skip {next : List Int} {ps : List Part} {i m : Nat} (h : dueP next (pAt ps i) = false ∨ chainOf ps i = []) (hm : 1 ≤ m) : findFrom next ps i m = findFrom next ps (i + 1) (m - 1) := by
  obtain ⟨m, rfl⟩ : ∃ m', m = m' + 1 := ⟨m - 1, by omega⟩
  conv => lhs; unfold findFrom
  rw [if_neg]
  · rfl
  · rcases h with h | h <;> simp [h]
theorem find_here {next : List Int} {ps : List Part} {i m : Nat} (h1 : dueP next (pAt ps i) = true) (h2 : chainOf ps i ≠ []) (hm : 1 ≤ m) : findFrom next ps i m = chainOf ps i := by
  obtain ⟨m, rfl⟩ : ∃ m', m = m' + 1 := ⟨m - 1, by omega⟩
  unfold findFrom
  rw [if_pos (by simp [h1, h2])]

end Go.Proofs.Ytncbgejggfkdmab

/- The contracts of chapter 22's model: the parts of a message. -/
namespace Go.Proofs.Ytncbgejggfkdmab
open Go.RowKit Go.PlainAid

theorem quiet_loadQ {P : Program} {C : World → Prop} {a : Act} {o : Oper} {K : Act → Prop} {T : TypeId} {x : Operand} {p v : Value} (h : o.op = .load T x) (hp : a.eval x = p) (hl : ∀ W, C W → (Instr.loadAt T p).run P W = .ok v W) (hk : K (a.put o.dst v)) : o.quiet P a C K :=
  ⟨v, fun W hW => by
    unfold Oper.quietAt
    simp [execOp, h, hp, hl W hW, Oper.quietUpon], hk⟩
theorem load_parts {W : World} {x : Addr} {len cap i : Nat} {ps : List Part} (h : Pts W (some x) len cap ps) (hi : i < len) : (Instr.loadAt 43 (.pointer (some (x.add (i * 7))))).run Try.prog W = .ok (partV (pAt ps i)) W := by
  obtain ⟨l0, l1, l2, l3, l4, l5, l6⟩ := h.at (Below.refl _ _) hi
  obtain ⟨⟨t, s, q, fi, la, lo, tx⟩, hp⟩ : ∃ p, pAt ps i = p := ⟨_, rfl⟩
  rw [hp] at l0 l1 l2 l3 l4 l5 l6 ⊢
  dsimp only at l0 l1 l2 l3 l4 l5 l6
  clear h hp
  unfold partV
  go_simp
theorem load_first {W : World} {x : Addr} {len cap i : Nat} {ps : List Part} (h : Pts W (some x) len cap ps) (hi : i < len) : (Instr.loadAt 4 (.pointer (some ⟨(x.add (i * 7)).block, (x.add (i * 7)).off + 3, none⟩))).run Try.prog W = .ok (.bool (pAt ps i).first) W := by
  obtain ⟨l0, l1, l2, l3, l4, l5, l6⟩ := h.at (Below.refl _ _) hi
  clear h l0 l1 l2 l4 l5 l6
  go_simp
def lenQ : Value → Nat
  | .slice _ n _ => n
  | _ => 0
/-- Places as numbers. -/
def natI (l : List Nat) : List Int := l.map fun i : Nat => (i : Int)
theorem natI_length (l : List Nat) : (natI l).length = l.length := List.length_map _
theorem natI_snoc (l : List Nat) (i : Nat) : natI (l ++ [i]) = natI l ++ [(i : Int)] := by unfold natI; rw [List.map_append]; rfl
theorem natI_at {l : List Nat} {i : Nat} (h : i < l.length) : nAt (natI l) i = ((l.getD i 0 : Nat) : Int) := by
  unfold nAt natI
  rw [List.getD_eq_getElem?_getD, List.getElem?_map, List.getD_eq_getElem?_getD, List.getElem?_eq_getElem h]
  rfl
theorem natI_mem {l : List Nat} {i : Nat} : ((i : Int) ∈ natI l) ↔ i ∈ l := by
  unfold natI
  rw [List.mem_map]
  exact ⟨fun ⟨j, hj, e⟩ => by have : j = i := by omega
                              exact this ▸ hj, fun h => ⟨i, h, rfl⟩⟩
theorem OwnN.pushN {w W W1 : World} {k : Nat} {es : List Int} {v : Value} {g2 cap2 : Nat} {e : Int} (h : OwnN k v es w W) (hgrow : W.grownBy W1 v.ownBlock) (hown : W1.ownsRow w.heap.size 3 1 (.slice (some ⟨g2, 0, none⟩) (k + 1) cap2) (k + 1) (flatN es ++ [.int .i64 e])) : OwnN (k + 1) (.slice (some ⟨g2, 0, none⟩) (k + 1) cap2) (es ++ [e]) w W1 :=
  ⟨by rw [flatN_append]; exact hown, Below.grown h.b hgrow h.b.size fun x hx => h.base hx⟩
theorem OwnN.one {w W : World} {k : Nat} (hb : Below w.heap.size w W) : OwnN 1 (.slice (some ⟨W.heap.size, 0, none⟩) 1 1) (natI [k]) w (W.alloc (.cells #[.int .i64 k] 3)) :=
  ⟨World.ownsRow_lit (base := w.heap.size) (e := 3) (size := 1) W #[.int .i64 k] 1 hb.size (by decide) rfl, hb.alloc hb.size _⟩
theorem idxV_is {ps : List Part} {t : Int} : (idxP ps t = none → idxV ps t = -1) ∧ ∀ j, idxP ps t = some j → idxV ps t = (j : Int) := by
  unfold idxV
  exact ⟨fun h => by rw [h], fun j h => by rw [h]⟩
/-- While the parts of a message are sought. -/
structure Chw (ps : List Part) (k0 : Nat) (w : World) (k : Nat) (out : List Nat) (m g cap2 : Nat) (W : World) : Prop where
  f : chainP ps (15 - m) k out = chainOf ps k0
  lo : 1 ≤ m
  hi : m ≤ 13
  ln : out.length = m
  own : OwnN m (.slice (some ⟨g, 0, none⟩) m cap2) (natI out) w W

set_option maxRecDepth 8000 in
set_option maxHeartbeats 1500000 in
theorem l22Chain_any (x : Addr) (len cap : Nat) (ps : List Part) (k0 : Nat) (w : World) (h : Pts w (some x) len cap ps) (hk0 : k0 < len) (ht : ∀ p ∈ ps, Ser p.tsn) :
    Calls Try.prog 87 #[.slice (some x) len cap, .int .i64 k0] w fun e w' => ∃ m g cap2, e = .returned (.slice (some ⟨g, 0, none⟩) m cap2) ∧ m = (chainOf ps k0).length ∧ OwnN m (.slice (some ⟨g, 0, none⟩) m cap2) (natI (chainOf ps k0)) w w' := by
  have hl := h.length
  have hm := h.len_int
  have HG := Lib.hid h
  have HT := Lib.hid ht
  have S0 := Lib.hid (show Chw ps k0 w k0 [k0] 1 w.heap.size 1 (w.alloc (.cells #[.int .i64 k0] 3)) from ⟨rfl, by omega, by omega, rfl, OwnN.one (Below.refl _ _)⟩)
  obtain ⟨i0, hi, hz0, hz1, hz2⟩ := info_parts info_n
  have HI := Lib.hid (And.intro hi (And.intro hz0 (And.intro hz1 hz2)))
  have HL := Lib.hid hl
  clear hi hz0 hz1 hz2
  clear h ht hl
  go_enter Try.func87, Try.ntmps87
  go_wp2
  go_loopw [1, 5] (fun kv ov wr => ∃ (k : Nat) (out : List Nat) (m g cap2 : Nat), k < len ∧ kv = .int .i64 k ∧ ov = .slice (some ⟨g, 0, none⟩) m cap2 ∧ m ≤ 13 ∧ Hid (Chw ps k0 w k out m g cap2 wr)) (fun _ ov _ => 14 - lenQ ov)
  case atStart => exact ⟨k0, [k0], 1, w.heap.size, 1, hk0, rfl, rfl, by omega, S0⟩
  case round =>
    obtain ⟨k, out, m, g, cap2, hk, rfl, rfl, h13, hC⟩ := hrel
    clear S0
    have hkl : k < ps.length := by rw [HL.out]; exact hk
    obtain ⟨p0, p1, p2, p3, p4, p5, p6⟩ := HG.out.at hC.out.own.b hk
    have HS := Lib.hid (HT.out _ (pAt_mem hkl))
    have hf : 1 ≤ 15 - m := by omega
    cases hla : (pAt ps k).last with
    | true =>
      have E := Lib.hid (show chainOf ps k0 = out from hC.out.f.symm.trans (chain_last hf hla))
      have hln := Lib.hid hC.out.ln
      have O := Lib.hid hC.out.own
      rw [hla] at p4
      clear hC hla p1 p2 p3 p5 p6
      go_wp2
      go_ret
      exact ⟨m, g, cap2, rfl, by rw [E.out]; exact hln.out.symm, by rw [E.out]; exact O.out⟩
    | false =>
      rw [hla] at p4
      have HLA := Lib.hid hla
      have hsz := hC.out.own.b.size
      obtain ⟨t, htt⟩ : ∃ t, (pAt ps k).tsn = t := ⟨_, rfl⟩
      have HTT := Lib.hid htt
      rw [htt] at p0 HS
      clear hla htt p1 p2 p3 p5 p6
      go_wp2_with fail
      refine (l3Add_any t 1 _ HS.out).mono ?_
      rintro e w1 ⟨rfl, rfl⟩
      go_wp2_with fail
      refine (l22At_any _ len cap ps _ _ (HG.out.below hC.out.own.b)).mono ?_
      rintro e w2 ⟨rfl, hb2⟩
      have hC := Lib.hid (show Chw ps k0 w k out m g cap2 w2 from ⟨hC.out.f, hC.out.lo, hC.out.hi, hC.out.ln, hC.out.own.below hb2⟩)
      have hsz2 := hC.out.own.b.size
      clear hb2 p0 p4 hsz
      rcases idx_cases ps (addS t 1) with hx | ⟨j, hjl, hx⟩
      · have E := Lib.hid (show chainOf ps k0 = [] from hC.out.f.symm.trans (chain_stop hf HLA.out (by rw [HTT.out]; exact hx)))
        rw [idxV_is.1 hx]
        clear hx
        go_wp2_with fail
        go_quiet (fail)
        have hb := below_drewN hC.out.own.b nq
        go_wp2
        go_ret
        exact ⟨0, _, 0, rfl, by rw [E.out]; rfl, by rw [E.out]; exact OwnN.start hb⟩
      · have hj : j < len := by rw [← HL.out]; exact hjl
        have hj2 : decide ((j : Int) < 0) = false := decide_eq_false (by omega)
        have HX := Lib.hid (show idxP ps (addS (pAt ps k).tsn 1) = some j by rw [HTT.out]; exact hx)
        rw [idxV_is.2 j hx]
        have HW := Lib.hid (HG.out.below hC.out.own.b)
        have LK : ∀ W, Below w2.heap.size w2 W → (Instr.loadAt 43 (.pointer (some (x.add (k * 7))))).run Try.prog W = .ok (partV (pAt ps k)) W := fun W hW => load_parts (HW.out.below hW) hk
        have LJ : ∀ W, Below w2.heap.size w2 W → (Instr.loadAt 43 (.pointer (some (x.add (j * 7))))).run Try.prog W = .ok (partV (pAt ps j)) W := fun W hW => load_parts (HW.out.below hW) hj
        have SM := fun w => l22Same_any (pAt ps k) (pAt ps j) w
        clear hx hjl
        cases hfi : (pAt ps j).first with
        | true =>
          have LF : ∀ W, Below w2.heap.size w2 W → (Instr.loadAt 4 (.pointer (some ⟨(x.add (j * 7)).block, (x.add (j * 7)).off + 3, none⟩))).run Try.prog W = .ok (.bool true) W := fun W hW => hfi ▸ load_first (HW.out.below hW) hj
          have E := Lib.hid (show chainOf ps k0 = [] from hC.out.f.symm.trans (chain_bad hf HLA.out HX.out (.inl hfi)))
          have SMH := Lib.hid SM
          clear hfi SM
          go_wp2_with fail
          refine region_class (C := fun W => Below w2.heap.size w2 W) (by kernel_rfl) (by kernel_rfl) (Below.drew (Below.refl _ _)) ?_
          repeat (first
            | go_big_quiet_skip
            | (go_big_quiet_want; go_big_quiet_op; go_big_quiet_on)
            | (refine BigFrame.wpQuiet_want (by rfl) (fun K hK => ?_)
               first
                 | (refine quiet_loadQ (x := .tmp 35) (by with_reducible rfl) (by rfl) LK (hK _ ?_))
                 | (refine quiet_loadQ (x := .tmp 39) (by with_reducible rfl) (by rfl) LJ (hK _ ?_))
                 | (refine quiet_loadQ (x := .tmp 29) (by with_reducible rfl) (by rfl) LF (hK _ ?_))
                 | (apply Exists.intro
                    refine ⟨fun W hW => ?_, hK _ ?_⟩
                    next =>
                      go_simp
                      first
                        | with_reducible exact rfl
                        | (refine (SMH.out _).mono ?_; rintro e w3 ⟨rfl, hb3⟩; exact ⟨rfl, hW.trans (hb3.mono hW.size)⟩))
               conv => arg 6; simp only [Act.put, List.setIfInBounds_toArray, List.set_cons_zero, List.set_cons_succ]
               clear hK K))
          refine wpQuiet_nil ?_
          intro W hW
          clear LK LJ LF
          have hb := hC.out.own.b.trans (hW.mono hsz2)
          go_wp2
          go_ret
          exact ⟨0, _, 0, rfl, by rw [E.out]; rfl, by rw [E.out]; exact OwnN.start hb⟩
        | false =>
          have LF : ∀ W, Below w2.heap.size w2 W → (Instr.loadAt 4 (.pointer (some ⟨(x.add (j * 7)).block, (x.add (j * 7)).off + 3, none⟩))).run Try.prog W = .ok (.bool false) W := fun W hW => hfi ▸ load_first (HW.out.below hW) hj
          have HFI := Lib.hid hfi
          clear hfi
          cases hsm : sameM (pAt ps k) (pAt ps j) with
          | false =>
            have E := Lib.hid (show chainOf ps k0 = [] from hC.out.f.symm.trans (chain_bad hf HLA.out HX.out (.inr (.inl hsm))))
            simp only [hsm] at SM
            have SMH := Lib.hid SM
            clear hsm SM
            go_wp2_with fail
            refine region_class (C := fun W => Below w2.heap.size w2 W) (by kernel_rfl) (by kernel_rfl) (Below.drew (Below.refl _ _)) ?_
            repeat (first
              | go_big_quiet_skip
              | (go_big_quiet_want; go_big_quiet_op; go_big_quiet_on)
              | (refine BigFrame.wpQuiet_want (by rfl) (fun K hK => ?_)
                 first
                   | (refine quiet_loadQ (x := .tmp 35) (by with_reducible rfl) (by rfl) LK (hK _ ?_))
                   | (refine quiet_loadQ (x := .tmp 39) (by with_reducible rfl) (by rfl) LJ (hK _ ?_))
                   | (refine quiet_loadQ (x := .tmp 29) (by with_reducible rfl) (by rfl) LF (hK _ ?_))
                   | (apply Exists.intro
                      refine ⟨fun W hW => ?_, hK _ ?_⟩
                      next =>
                        go_simp
                        first
                          | with_reducible exact rfl
                          | (refine (SMH.out _).mono ?_; rintro e w3 ⟨rfl, hb3⟩; exact ⟨rfl, hW.trans (hb3.mono hW.size)⟩))
                 conv => arg 6; simp only [Act.put, List.setIfInBounds_toArray, List.set_cons_zero, List.set_cons_succ]
                 clear hK K))
            refine wpQuiet_nil ?_
            intro W hW
            clear LK LJ LF
            have hb := hC.out.own.b.trans (hW.mono hsz2)
            go_wp2
            go_ret
            exact ⟨0, _, 0, rfl, by rw [E.out]; rfl, by rw [E.out]; exact OwnN.start hb⟩
          | true =>
            have HSM := Lib.hid hsm
            simp only [hsm] at SM
            have SMH := Lib.hid SM
            clear hsm SM
            by_cases h12 : 12 < m
            · have E := Lib.hid (show chainOf ps k0 = [] from hC.out.f.symm.trans (chain_bad hf HLA.out HX.out (.inr (.inr (by rw [hC.out.ln]; exact h12)))))
              have hm2 : decide ((12 : Int) < (m : Int)) = true := decide_eq_true (by omega)
              go_wp2_with fail
              refine region_class (C := fun W => Below w2.heap.size w2 W) (by kernel_rfl) (by kernel_rfl) (Below.drew (Below.refl _ _)) ?_
              repeat (first
                | go_big_quiet_skip
                | (go_big_quiet_want; go_big_quiet_op; go_big_quiet_on)
                | (refine BigFrame.wpQuiet_want (by rfl) (fun K hK => ?_)
                   first
                     | (refine quiet_loadQ (x := .tmp 35) (by with_reducible rfl) (by rfl) LK (hK _ ?_))
                     | (refine quiet_loadQ (x := .tmp 39) (by with_reducible rfl) (by rfl) LJ (hK _ ?_))
                     | (refine quiet_loadQ (x := .tmp 29) (by with_reducible rfl) (by rfl) LF (hK _ ?_))
                     | (apply Exists.intro
                        refine ⟨fun W hW => ?_, hK _ ?_⟩
                        next =>
                          go_simp
                          first
                            | with_reducible exact rfl
                            | (refine (SMH.out _).mono ?_; rintro e w3 ⟨rfl, hb3⟩; exact ⟨rfl, hW.trans (hb3.mono hW.size)⟩))
                   conv => arg 6; simp only [Act.put, List.setIfInBounds_toArray, List.set_cons_zero, List.set_cons_succ]
                   clear hK K))
              refine wpQuiet_nil ?_
              intro W hW
              clear LK LJ LF
              have hb := hC.out.own.b.trans (hW.mono hsz2)
              go_wp2
              go_ret
              exact ⟨0, _, 0, rfl, by rw [E.out]; rfl, by rw [E.out]; exact OwnN.start hb⟩
            · have hm2 : decide ((12 : Int) < (m : Int)) = false := decide_eq_false (by omega)
              have F2 := Lib.hid (show chainP ps (15 - (m + 1)) j (out ++ [j]) = chainOf ps k0 from by
                have := chain_go hf HLA.out HX.out HFI.out HSM.out (by rw [hC.out.ln]; omega)
                rw [show 15 - m - 1 = 15 - (m + 1) from by omega] at this
                exact this.symm.trans hC.out.f)
              have hln := Lib.hid hC.out.ln
              go_wp2_with fail
              refine region_class (C := fun W => Below w2.heap.size w2 W) (by kernel_rfl) (by kernel_rfl) (Below.drew (Below.refl _ _)) ?_
              repeat (first
                | go_big_quiet_skip
                | (go_big_quiet_want; go_big_quiet_op; go_big_quiet_on)
                | (refine BigFrame.wpQuiet_want (by rfl) (fun K hK => ?_)
                   first
                     | (refine quiet_loadQ (x := .tmp 35) (by with_reducible rfl) (by rfl) LK (hK _ ?_))
                     | (refine quiet_loadQ (x := .tmp 39) (by with_reducible rfl) (by rfl) LJ (hK _ ?_))
                     | (refine quiet_loadQ (x := .tmp 29) (by with_reducible rfl) (by rfl) LF (hK _ ?_))
                     | (apply Exists.intro
                        refine ⟨fun W hW => ?_, hK _ ?_⟩
                        next =>
                          go_simp
                          first
                            | with_reducible exact rfl
                            | (refine (SMH.out _).mono ?_; rintro e w3 ⟨rfl, hb3⟩; exact ⟨rfl, hW.trans (hb3.mono hW.size)⟩))
                   conv => arg 6; simp only [Act.put, List.setIfInBounds_toArray, List.set_cons_zero, List.set_cons_succ]
                   clear hK K))
              refine wpQuiet_nil ?_
              intro W hW
              clear LK LJ LF
              have MA := Lib.hid ((hC.out.own.below hW).below (below_box (.cells #[.int .i64 (j : Int)] 3) (Nat.le_refl _)))
              have hszW := Nat.le_trans hsz2 hW.size
              clear hW hC hm2 hj2
              go_wp2_with (at_builtin; go_loud (refine wpList_append_lies _ rfl _ _ 24 rfl w.heap.size 3 i0 (.int .i64 0) 1 8 Try.underlying24 HI.out.1 HI.out.2.1 HI.out.2.2.1 HI.out.2.2.2 rfl (by decide) (.slice (some ⟨g, 0, none⟩) m cap2) m (flatN (natI out)) rfl MA.out.own ⟨W.heap.size, 0, none⟩ 1 1 [.int .i64 (j : Int)] rfl rfl (news_box rfl) (by simp [Value.oneCell']) (by decide) (by unfold maxLen; omega) (by omega) (by simp; omega) _ rfl ?_))
              intro g3 cap3 w9 hown hgrow hat hlt9
              have MP := Lib.hid (show Chw ps k0 w j (out ++ [j]) (m + 1) g3 cap3 w9 from ⟨F2.out, by omega, by omega, by rw [List.length_append, hln.out]; rfl, by rw [natI_snoc]; exact MA.out.pushN hgrow hown⟩)
              clear hown hgrow hat hlt9 MA
              go_wp2
              go_roundw
              case rel => exact ⟨j, out ++ [j], m + 1, g3, cap3, hj, rfl, rfl, by omega, MP⟩
              case measure => simp [lenQ]; omega

end Go.Proofs.Ytncbgejggfkdmab

/- Messages in memory, one after the other: slices of messages. -/
namespace Go.Proofs.Ytncbgejggfkdmab
open Go.RowKit Go.PlainAid

/-- The value of a message. -/
def msgV (m : Msg) : Value := .agg #[.int .i64 m.stream, .int .i64 m.ssn, .bool m.loose, .string m.text]
def noMsg : Msg := ⟨0, 0, false, ByteArray.mk #[]⟩
/-- The message at a place. -/
def mAt (ps : List Msg) (i : Nat) : Msg := ps.getD i noMsg
theorem mAt_mem {ps : List Msg} {i : Nat} (h : i < ps.length) : mAt ps i ∈ ps := by
  unfold mAt
  rw [List.getD_eq_getElem?_getD, List.getElem?_eq_getElem h]
  exact List.getElem_mem _
/-- The cells of a part. -/
def cellsM (p : Msg) : List Value := [.int .i64 p.stream, .int .i64 p.ssn, .bool p.loose, .string p.text]
def flatM : List Msg → List Value
  | [] => []
  | p :: ps => cellsM p ++ flatM ps
theorem flatM_append (ps qs : List Msg) : flatM (ps ++ qs) = flatM ps ++ flatM qs := by
  induction ps with
  | nil => rfl
  | cons p ps ih => simp [flatM, ih]
theorem cellsM_length (p : Msg) : (cellsM p).length = 4 := rfl
theorem flatM_length (ps : List Msg) : (flatM ps).length = ps.length * 4 := by
  induction ps with
  | nil => rfl
  | cons p ps ih =>
    show (cellsM p ++ flatM ps).length = _
    rw [List.length_append, cellsM_length, ih, List.length_cons]
    omega
theorem cellsM_one (p : Msg) : ∀ u ∈ cellsM p, u.oneCell' = true := by
  intro u hu
  simp only [cellsM, List.mem_cons, List.not_mem_nil, or_false] at hu
  rcases hu with rfl | rfl | rfl | rfl <;> rfl
theorem flatM_one (ps : List Msg) : ∀ u ∈ flatM ps, u.oneCell' = true := by
  induction ps with
  | nil => intro u hu; simp [flatM] at hu
  | cons p ps ih =>
    intro u hu
    rcases List.mem_append.1 hu with h | h
    · exact cellsM_one p u h
    · exact ih u h
theorem take_mAt {ps : List Msg} {k : Nat} (h : k < ps.length) : ps.take (k + 1) = ps.take k ++ [mAt ps k] := by
  unfold mAt
  rw [List.take_add_one, List.getD_eq_getElem?_getD, List.getElem?_eq_getElem h]
  rfl
theorem flatM_get (ps : List Msg) (i j : Nat) (h : i < ps.length) (hj : j < 4) : (flatM ps)[i * 4 + j]? = (cellsM (mAt ps i))[j]? := by
  induction ps generalizing i with
  | nil => simp at h
  | cons p ps ih =>
    show (cellsM p ++ flatM ps)[i * 4 + j]? = _
    cases i with
    | zero =>
      rw [Nat.zero_mul, Nat.zero_add, List.getElem?_append_left (by rw [cellsM_length]; exact hj)]
      rfl
    | succ i =>
      rw [List.getElem?_append_right (by rw [cellsM_length]; omega), cellsM_length, show (i + 1) * 4 + j - 4 = i * 4 + j from by omega, ih i (by simpa using h)]
      rfl
/-- The cell j of the part i. -/
def atM (x : Addr) (i : Nat) : Nat → Addr
  | 0 => x.add (i * 4)
  | j + 1 => ⟨(x.add (i * 4)).block, (x.add (i * 4)).off + (j + 1), none⟩
/-- A slice of parts: nil, or the cells of 'len' parts, seven each, from an address on. -/
def Mgs (w : World) (a : Option Addr) (len cap : Nat) (ps : List Msg) : Prop :=
  (a = none ∧ len = 0 ∧ cap = 0 ∧ ps = []) ∨
  ∃ x : Addr, a = some x ∧ len ≤ cap ∧ cap ≤ maxLen ∧ ps.length = len ∧ ∀ i, i < len → ∀ j v, (cellsM (mAt ps i))[j]? = some v → w.cell? (atM x i j) = some v
theorem Mgs.length {w : World} {a : Option Addr} {len cap : Nat} {ps : List Msg} (h : Mgs w a len cap ps) : ps.length = len := by
  rcases h with ⟨_, rfl, _, rfl⟩ | ⟨_, _, _, _, h, _⟩
  · rfl
  · exact h
theorem Mgs.len_le {w : World} {a : Option Addr} {len cap : Nat} {ps : List Msg} (h : Mgs w a len cap ps) : len ≤ cap ∧ cap ≤ maxLen := by
  rcases h with ⟨_, rfl, rfl, rfl⟩ | ⟨_, _, h1, h2, _, _⟩
  · exact ⟨Nat.le_refl _, Nat.zero_le _⟩
  · exact ⟨h1, h2⟩
theorem Mgs.len_int {w : World} {a : Option Addr} {len cap : Nat} {ps : List Msg} (h : Mgs w a len cap ps) : len ≤ 9223372036854775807 := by
  have := h.len_le
  unfold maxLen at this
  omega
theorem Mgs.nil (w : World) : Mgs w none 0 0 [] := .inl ⟨rfl, rfl, rfl, rfl⟩
theorem Mgs.moved {w w' : World} {a : Option Addr} {len cap : Nat} {ps : List Msg} (h : Mgs w a len cap ps) (hk : ∀ x, a = some x → ∀ i j v, i < len → w.cell? (atM x i j) = some v → w'.cell? (atM x i j) = some v) : Mgs w' a len cap ps := by
  rcases h with h | ⟨x, h1, h2, h3, h4, h5⟩
  · exact .inl h
  · exact .inr ⟨x, h1, h2, h3, h4, fun i hi j v hv => hk x h1 i j v hi (h5 i hi j v hv)⟩
theorem Mgs.below {w w' : World} {a : Option Addr} {len cap : Nat} {ps : List Msg} (h : Mgs w a len cap ps) (hb : Below w.heap.size w w') : Mgs w' a len cap ps :=
  h.moved fun _ _ _ _ _ _ hc => (hb.cell (World.block_lt_of_cell? w _ hc)).trans hc
theorem Mgs.addr {w : World} {a : Option Addr} {len cap : Nat} {ps : List Msg} (h : Mgs w a len cap ps) {k : Nat} (hk : k < len) : ∃ x, a = some x := by
  rcases h with ⟨_, h0, _⟩ | ⟨y, hy, _⟩
  · omega
  · exact ⟨y, hy⟩
/-- The cells of the part at a place, in another world. -/
theorem Mgs.cells {w wr : World} {x : Addr} {len cap : Nat} {ps : List Msg} (h : Mgs w (some x) len cap ps) (hb : Below w.heap.size w wr) {k : Nat} (hk : k < len) (j : Nat) (v : Value) (hv : (cellsM (mAt ps k))[j]? = some v) : wr.cell? (atM x k j) = some v := by
  rcases h with ⟨h0, _⟩ | ⟨y, hy, _, _, _, h5⟩
  · cases h0
  · obtain rfl : x = y := by simpa using hy
    have := h5 k hk j v hv
    exact (hb.cell (World.block_lt_of_cell? w _ this)).trans this
theorem Mgs.at {w wr : World} {x : Addr} {len cap : Nat} {ps : List Msg} (h : Mgs w (some x) len cap ps) (hb : Below w.heap.size w wr) {k : Nat} (hk : k < len) :
    wr.cell? (x.add (k * 4)) = some (.int .i64 (mAt ps k).stream) ∧ wr.cell? ⟨(x.add (k * 4)).block, (x.add (k * 4)).off + 1, none⟩ = some (.int .i64 (mAt ps k).ssn) ∧ wr.cell? ⟨(x.add (k * 4)).block, (x.add (k * 4)).off + 2, none⟩ = some (.bool (mAt ps k).loose) ∧
      wr.cell? ⟨(x.add (k * 4)).block, (x.add (k * 4)).off + 3, none⟩ = some (.string (mAt ps k).text) :=
  ⟨h.cells hb hk 0 _ rfl, h.cells hb hk 1 _ rfl, h.cells hb hk 2 _ rfl, h.cells hb hk 3 _ rfl⟩
theorem mg_add (g j : Nat) : (⟨g, 0, none⟩ : Addr).add j = ⟨g, j, none⟩ := by unfold Addr.add; split <;> simp_all
theorem atM_zero (g i j : Nat) : atM ⟨g, 0, none⟩ i j = ⟨g, i * 4 + j, none⟩ := by
  cases j with
  | zero => exact mg_add g (i * 4)
  | succ j =>
    show (⟨((⟨g, 0, none⟩ : Addr).add (i * 4)).block, ((⟨g, 0, none⟩ : Addr).add (i * 4)).off + (j + 1), none⟩ : Addr) = _
    rw [mg_add]
theorem Mgs.far {w : World} {g k cap d i : Nat} {ps : List Msg} (h : Mgs w (some ⟨g, 0, none⟩) k cap ps) (hd : d ≠ g) (v : Value) : Mgs (w.setCell ⟨d, i, none⟩ v) (some ⟨g, 0, none⟩) k cap ps :=
  h.moved fun x hx i j u _ hc => by
    obtain rfl : ⟨g, 0, none⟩ = x := by simpa using hx
    rw [atM_zero] at hc ⊢
    exact cell_far hd hc
theorem Mgs.aside {w w' : World} {g k cap r : Nat} {ps : List Msg} (h : Mgs w (some ⟨g, 0, none⟩) k cap ps) (ha : Aside w.heap.size r w w') (hr : g ≠ r) : Mgs w' (some ⟨g, 0, none⟩) k cap ps :=
  h.moved fun x hx i j u _ hc => by
    obtain rfl : ⟨g, 0, none⟩ = x := by simpa using hx
    rw [atM_zero] at hc ⊢
    exact ha.cell (lt_of_cell hc) hr hc
theorem Mgs.under {W W' : World} {g n cap C : Nat} {ps : List Msg} (h : Mgs W (some ⟨g, 0, none⟩) n cap ps) (hb : Below C W W') (hg : g < C ∨ n = 0) : Mgs W' (some ⟨g, 0, none⟩) n cap ps :=
  h.moved fun x hx i j u hi hc => by
    obtain rfl : ⟨g, 0, none⟩ = x := by simpa using hx
    rw [atM_zero] at hc ⊢
    rcases hg with hg | h0
    · exact kept_cell hb hg hc
    · omega
theorem mgs_lt {W : World} {g n cap : Nat} {ps : List Msg} (h : Mgs W (some ⟨g, 0, none⟩) n cap ps) : g < W.heap.size ∨ n = 0 := by
  by_cases hk0 : 0 < n
  · have := (h.at (Below.refl _ _) hk0).1
    rw [mg_add] at this
    exact .inl (lt_of_cell this)
  · exact .inr (by omega)
/-- The first parts of a slice. -/
theorem mgs_take {w : World} {x : Addr} {len cap j : Nat} {ps : List Msg} (h : Mgs w (some x) len cap ps) (hj : j ≤ len) : Mgs w (some x) j cap (ps.take j) := by
  rcases h with ⟨h0, _⟩ | ⟨y, hy, h1, h2, h3, h4⟩
  · cases h0
  · refine .inr ⟨y, hy, by omega, h2, by rw [List.length_take]; omega, fun i hi => ?_⟩
    have e : mAt (ps.take j) i = mAt ps i := by
      unfold mAt
      rw [List.getD_eq_getElem?_getD, List.getD_eq_getElem?_getD, List.getElem?_take_of_lt hi]
    rw [e]
    exact h4 i (by omega)
/-- The cells of a slice of parts, as a source of an append. -/
theorem mgs_flat {W : World} {g k cap : Nat} {ps : List Msg} (h : Mgs W (some ⟨g, 0, none⟩) k cap ps) : ∀ j u, (flatM ps)[j]? = some u → W.cell? ((⟨g, 0, none⟩ : Addr).add j) = some u := by
  intro j u hu
  have hl := h.length
  have hj : j < k * 4 := by have := (List.getElem?_eq_some_iff.1 hu).1; rw [flatM_length, hl] at this; exact this
  have e : j = j / 4 * 4 + j % 4 := by omega
  have hm : j % 4 < 4 := by omega
  generalize hq : j / 4 = q at e
  generalize j % 4 = r at e hm
  subst e
  rw [flatM_get ps q r (by omega) hm] at hu
  have := h.cells (Below.refl _ _) (k := q) (by omega) r u hu
  rw [atM_zero] at this
  rw [mg_add]
  exact this

theorem own_mgs {W : World} {base cap k : Nat} {a : Option Addr} {ps : List Msg} (h : W.ownsRow base 46 4 (.slice a k cap) k (flatM ps)) : Mgs W a k cap ps := by
  have hl := h.1
  rw [flatM_length] at hl
  rcases h.2 with ⟨h1, h2⟩ | ⟨g, cap', cur, h1, _, _, h4, h5, _⟩
  · obtain ⟨rfl, rfl, rfl⟩ : a = none ∧ k = 0 ∧ cap = 0 := by simpa using h1
    exact .inl ⟨rfl, rfl, rfl, by cases ps with | nil => rfl | cons c l => simp at hl⟩
  · obtain ⟨rfl, rfl⟩ : a = some ⟨g, 0, none⟩ ∧ cap = cap' := by simpa using h1
    refine .inr ⟨_, rfl, h4, h5, by omega, fun i hi j v hv => ?_⟩
    have hj : j < 4 := by have := (List.getElem?_eq_some_iff.1 hv).1; rwa [cellsM_length] at this
    rw [atM_zero]
    exact (h.cellAt (i * 4 + j) (by omega)).trans ((flatM_get ps i j (by omega) hj).trans hv)
theorem info_mg : (Try.prog.info? 46).map (fun i => (i.zero, i.size, i.bytes)) = some (some (msgV ⟨0, 0, false, ByteArray.mk #[]⟩), 4, 40) := by kernel_rfl
/-- A slice of messages of one's own, in blocks from R on. -/
theorem flatM_one_ (m : Msg) : flatM [m] = cellsM m := by simp [flatM]

end Go.Proofs.Ytncbgejggfkdmab

/- The laws' helpers on messages: equality, both ways. -/
namespace Go.Proofs.Ytncbgejggfkdmab
open Go.RowKit Go.PlainAid

theorem load_msgs {W : World} {x : Addr} {len cap i : Nat} {ms : List Msg} (h : Mgs W (some x) len cap ms) (hi : i < len) : (Instr.loadAt 46 (.pointer (some (x.add (i * 4))))).run Try.prog W = .ok (msgV (mAt ms i)) W := by
  obtain ⟨l0, l1, l2, l3⟩ := h.at (Below.refl _ _) hi
  obtain ⟨⟨s, q, lo, tx⟩, hp⟩ : ∃ p, mAt ms i = p := ⟨_, rfl⟩
  rw [hp] at l0 l1 l2 l3 ⊢
  dsimp only at l0 l1 l2 l3
  clear h hp
  unfold msgV
  go_simp

set_option maxHeartbeats 2000000 in
theorem sameMessages_same (a b : Option Addr) (len cap cap2 : Nat) (ms : List Msg) (w : World) (h : Mgs w a len cap ms) (k : Mgs w b len cap2 ms) :
    Calls Try.prog 22 #[.slice a len cap, .slice b len cap2] w fun e w' => e = .returned (.bool true) ∧ Below w.heap.size w w' := by
  have hl := h.length
  have hm := h.len_int
  have HG := Lib.hid h
  have HK := Lib.hid k
  clear h k
  go_enter Try.func22, Try.ntmps22
  go_wp2
  go_loopw [5] (fun i wr => ∃ k : Nat, k ≤ len ∧ i = .int .i64 k ∧ Hid (Below w.heap.size w wr)) (fun i _ => len - (intOf i).toNat)
  case atStart => exact ⟨0, Nat.zero_le _, rfl, Lib.hid (Below.refl _ _)⟩
  case round =>
    obtain ⟨k, hk, rfl, hbel⟩ := hrel
    by_cases hlt : k < len
    · obtain ⟨x, rfl⟩ := HG.out.addr hlt
      obtain ⟨y, rfl⟩ := HK.out.addr hlt
      obtain ⟨p0, p1, p2, p3⟩ := HG.out.at hbel.out hlt
      obtain ⟨m0, m1, m2, m3⟩ := HK.out.at hbel.out hlt
      obtain ⟨⟨s, q, lo, tx⟩, hc1⟩ : ∃ c1, mAt ms k = c1 := ⟨_, rfl⟩
      rw [hc1] at p0 p1 p2 p3 m0 m1 m2 m3
      dsimp only at p0 p1 p2 p3 m0 m1 m2 m3
      clear hc1
      have hneq : ∀ w, (binOp .neq 46 (.agg #[.int .i64 s, .int .i64 q, .bool lo, .string tx]) (.agg #[.int .i64 s, .int .i64 q, .bool lo, .string tx])).run Try.prog w = .ok (.bool false) w := fun w => by go_simp
      go_wp2_with fail
      go_quiet (fail)
      go_wp2
      go_roundw
      case rel => exact ⟨k + 1, by omega, by go_num, Lib.hid (below_drewN hbel.out _)⟩
      case measure => simp [intOf]; omega
    · obtain rfl : k = len := by omega
      go_wp2
      go_ret
      exact ⟨rfl, hbel.out⟩

set_option maxHeartbeats 1000000 in
theorem eqMe_same (p : Msg) (w : World) :
    Calls Try.prog 65 #[msgV p, msgV p] w fun e w' => e = .returned (.bool true) ∧ Below w.heap.size w w' := by
  obtain ⟨s, q, lo, tx⟩ := p
  unfold msgV
  go_enter Try.func65, Try.ntmps65
  go_wp2
  go_ret
  exact ⟨rfl, (below_box _ (Nat.le_refl _)).alloc (by simp) _⟩

set_option maxHeartbeats 1000000 in
theorem eqMessageS_same (a b : Option Addr) (len cap cap2 : Nat) (ms : List Msg) (w : World) (h : Mgs w a len cap ms) (k : Mgs w b len cap2 ms) :
    Calls Try.prog 32 #[.slice a len cap, .slice b len cap2] w fun e w' => e = .returned (.bool true) ∧ Below w.heap.size w w' := by
  have hl := h.length
  have hm := h.len_int
  have HG := Lib.hid h
  have HK := Lib.hid k
  clear h k
  go_enter Try.func32, Try.ntmps32
  go_wp2
  go_loopw [5] (fun i wr => ∃ k : Nat, k ≤ len ∧ i = .int .i64 k ∧ Hid (Below w.heap.size w wr)) (fun i _ => len - (intOf i).toNat)
  case atStart => exact ⟨0, Nat.zero_le _, rfl, Lib.hid (Below.refl _ _)⟩
  case round =>
    obtain ⟨k, hk, rfl, hbel⟩ := hrel
    by_cases hlt : k < len
    · obtain ⟨x, rfl⟩ := HG.out.addr hlt
      obtain ⟨y, rfl⟩ := HK.out.addr hlt
      have hsz2 := hbel.out.size
      have LK : ∀ W, Below wr.heap.size wr W → (Instr.loadAt 46 (.pointer (some (x.add (k * 4))))).run Try.prog W = .ok (msgV (mAt ms k)) W := fun W hW => load_msgs ((HG.out.below hbel.out).below hW) hlt
      have LJ : ∀ W, Below wr.heap.size wr W → (Instr.loadAt 46 (.pointer (some (y.add (k * 4))))).run Try.prog W = .ok (msgV (mAt ms k)) W := fun W hW => load_msgs ((HK.out.below hbel.out).below hW) hlt
      have SMH := Lib.hid (fun w => eqMe_same (mAt ms k) w)
      go_wp2_with fail
      refine region_class (C := fun W => Below wr.heap.size wr W) (by kernel_rfl) (by kernel_rfl) (Below.drew (Below.refl _ _)) ?_
      repeat (first
        | go_big_quiet_skip
        | (go_big_quiet_want; go_big_quiet_op; go_big_quiet_on)
        | (refine BigFrame.wpQuiet_want (by rfl) (fun K hK => ?_)
           first
             | (refine quiet_loadQ (x := .tmp 19) (by with_reducible rfl) (by rfl) LK (hK _ ?_))
             | (refine quiet_loadQ (x := .tmp 23) (by with_reducible rfl) (by rfl) LJ (hK _ ?_))
             | (apply Exists.intro
                refine ⟨fun W hW => ?_, hK _ ?_⟩
                next =>
                  go_simp
                  first
                    | with_reducible exact rfl
                    | (refine (SMH.out _).mono ?_; rintro e w3 ⟨rfl, hb3⟩; exact ⟨rfl, hW.trans (hb3.mono hW.size)⟩))
           conv => arg 6; simp only [Act.put, List.setIfInBounds_toArray, List.set_cons_zero, List.set_cons_succ]
           clear hK K))
      refine wpQuiet_nil ?_
      intro W hW
      clear LK LJ
      have hb := Lib.hid (hbel.out.trans (hW.mono hsz2))
      clear hW
      go_wp2
      go_roundw
      case rel => exact ⟨k + 1, by omega, by go_num, hb⟩
      case measure => simp [intOf]; omega
    · obtain rfl : k = len := by omega
      go_wp2
      go_ret
      exact ⟨rfl, hbel.out⟩

end Go.Proofs.Ytncbgejggfkdmab

/- The text of a mark, for any number. -/
namespace Go.Proofs.Ytncbgejggfkdmab
open Go.RowKit Go.PlainAid

theorem conv_one (w : World) (b : Nat) (x : Int) (c : Nat) (h : w.cell? ⟨b, 0, none⟩ = some (.int .u8 x)) :
    (convert 22 9 (.slice (some ⟨b, 0, none⟩) 1 c)).run Try.prog w = .ok (.string (strOfNums [x])) w :=
  run_convert_bytes_arg _ 22 5 Try.underlying22 Try.underlying5 b 0 1 c [x] rfl (fun i hi => by
    obtain rfl : i = 0 := by omega
    exact h) 9 Try.underlying9
def digT (d : Nat) : ByteArray := strOfNums [48 + (d : Int)]
def mkT (c : Nat) (X : ByteArray) : ByteArray := if h : c = 0 then X else mkT (c / 10) (digT (c % 10) ++ X)
termination_by c
decreasing_by omega
def markT (k : Nat) : ByteArray := ByteArray.mk #[109] ++ mkT k (ByteArray.mk #[])

set_option maxHeartbeats 2000000 in
theorem markText_pos (k : Nat) (w : World) (h1 : 1 ≤ k) (h2 : k ≤ 1000000000) :
    Calls Try.prog 67 #[.int .i64 (k : Int)] w fun e w' => e = .returned (.string (markT k)) ∧ Below w.heap.size w w' := by
  have hcv := conv_one
  have k0 : ¬ (k : Int) ≤ 0 := by omega
  go_enter Try.func67, Try.ntmps67
  go_wp2
  go_loopw [0, 3] (fun n s wr => ∃ (c : Nat) (X : ByteArray), n = .int .i64 c ∧ s = .string X ∧ X.size + c ≤ k ∧ Hid (mkT c X = mkT k (ByteArray.mk #[])) ∧ Hid (Below w.heap.size w wr)) (fun n _ _ => (intOf n).toNat)
  case atStart => exact ⟨k, ByteArray.mk #[], rfl, rfl, by simp [ByteArray.size], rfl, Lib.hid (Below.refl _ _)⟩
  case round =>
    obtain ⟨c, X, rfl, rfl, hc, hE, hbel⟩ := hrel
    by_cases h0 : c = 0
    · subst h0
      have E := Lib.hid (show mkT k (ByteArray.mk #[]) = X by rw [← hE.out, mkT, dif_pos rfl])
      have hcat : ¬ 9223372036854775807 < (ByteArray.mk #[109]).size + X.size := by
        have e : (ByteArray.mk #[109]).size = 1 := rfl
        omega
      have hcat1 : ¬ 9223372036854775807 < 1 + X.size := by omega
      go_wp2
      go_ret
      exact ⟨by unfold markT; rw [E.out]; rfl, hbel.out⟩
    · have hp : (0 : Int) < (c : Int) := by omega
      have hz : (strOfNums [48 + (c : Int) % 10]).size = 1 := strOfNums_size _
      have hcat : ¬ 9223372036854775807 < (strOfNums [48 + (c : Int) % 10]).size + X.size := by rw [hz]; omega
      have hcat1 : ¬ 9223372036854775807 < 1 + X.size := by omega
      have e1 := Lib.hid (show (c : Int) / 10 = ((c / 10 : Nat) : Int) by omega)
      have e2 := Lib.hid (show (c : Int) % 10 = ((c % 10 : Nat) : Int) by omega)
      have E2 := Lib.hid (show mkT (c / 10) (strOfNums [48 + (c : Int) % 10] ++ X) = mkT k (ByteArray.mk #[]) by
        rw [← hE.out]
        conv => rhs; rw [mkT]
        rw [dif_neg h0, e2.out]
        rfl)
      have B2 := Lib.hid (hbel.out.alloc hbel.out.size (.cells #[.int .u8 (48 + (c : Int) % 10)] 5))
      clear hE hbel
      go_wp2
      go_roundw
      case rel => exact ⟨c / 10, _, by rw [e1.out], rfl, by rw [ByteArray.size_append, hz]; omega, E2, B2⟩
      case measure => simp [intOf]; omega

end Go.Proofs.Ytncbgejggfkdmab

/- The laws' exact helpers on what has arrived: size, copy, equality, marks. -/
namespace Go.Proofs.Ytncbgejggfkdmab
open Go.RowKit Go.PlainAid

/-- A row of numbers that is being filled: k of 'len' numbers lie there. -/
def FilN (d len k : Nat) (es : List Int) (w : World) : Prop :=
  ∀ i, i < len → ∃ u, w.cell? ⟨d, i, none⟩ = some u ∧ (i < k → u = .int .i64 (nAt es i))
/-- The block's cells may be written. -/
def FreeN (d : Nat) (w : World) : Prop := ∀ j, w.frozen? ⟨d, j, none⟩ = false
section
variable {d len k : Nat} {es : List Int} {w w' : World}
theorem FilN.below (h : FilN d len k es w) (hb : Below w.heap.size w w') : FilN d len k es w' := fun i hi => by
  obtain ⟨u, h1, h4⟩ := h i hi
  exact ⟨u, kept_cell hb (lt_of_cell h1) h1, h4⟩
theorem FreeN.below (h : FreeN d w) (hd : d < w.heap.size) (hb : Below w.heap.size w w') : FreeN d w' := fun j => (hb.frozen (p := ⟨d, j, none⟩) hd).trans (h j)
theorem FreeN.set {e i : Nat} (h : FreeN d w) (v : Value) : FreeN d (w.setCell ⟨e, i, none⟩ v) := fun j => by rw [World.frozen?_setCell]; exact h j
theorem FilN.far {e i : Nat} (h : FilN d len k es w) (he : e ≠ d) (y : Value) : FilN d len k es (w.setCell ⟨e, i, none⟩ y) := fun j hj => by
  obtain ⟨u, h1, h4⟩ := h j hj
  exact ⟨u, cell_far he h1, h4⟩
/-- A cell is written and the place is filled. -/
theorem FilN.put {c : Int} (h : FilN d len k es w) (hk : k < len) (e1 : nAt es k = c) : FilN d len (k + 1) es (w.setCell ⟨d, k, none⟩ (.int .i64 c)) := fun i hi => by
  obtain ⟨u, h1, h4⟩ := h i hi
  by_cases e : i = k
  · subst e
    exact ⟨_, World.cell?_setCell_same _ _ _ h1, fun _ => by rw [e1]⟩
  · exact ⟨u, cell_other (by omega) h1, fun h => h4 (by omega)⟩
theorem FilN.ns {cap : Nat} (h : FilN d len len es w) (hl : es.length = len) (hc : len ≤ cap) (hm : cap ≤ maxLen) : Ns w (some ⟨d, 0, none⟩) len cap es := by
  refine .inr ⟨_, rfl, hc, hm, hl, fun i hi => ?_⟩
  obtain ⟨u, h1, h4⟩ := h i hi
  rw [n_add, h1, h4 hi]
theorem FilN.new (w : World) (len : Nat) (vs : Array Value) (T : TypeId) (es : List Int) (hs : vs.size = len) : FilN w.heap.size len 0 es (w.alloc (.cells vs T)) ∧ FreeN w.heap.size (w.alloc (.cells vs T)) := by
  refine ⟨fun i hi => ?_, fun j => by simp⟩
  have h1 : i < vs.size := by omega
  exact ⟨vs[i], by rw [World.cell?_alloc_at _ _ _ _ rfl]; exact Array.getElem?_eq_getElem h1, fun h => absurd h (by omega)⟩
theorem own_filN {base g n cap : Nat} {xs : List Value} (es : List Int) (h : w.ownsRow base 3 1 (.slice (some ⟨g, 0, none⟩) n cap) n xs) : FilN g n 0 es w ∧ FreeN g w ∧ n ≤ cap ∧ cap ≤ maxLen ∧ base ≤ g ∧ g < w.heap.size := by
  rcases h.2 with ⟨h1, _⟩ | ⟨g', cap', cur, h1, h2, h3, h4, h5, h6, _⟩
  · exact absurd h1 (by intro e; cases e)
  · obtain ⟨rfl, _, rfl⟩ : g = g' ∧ True ∧ cap = cap' := by simpa using h1
    refine ⟨fun i hi => ?_, fun j => by unfold World.frozen?; simp [h3], h4, h5, h2, (Array.getElem?_eq_some_iff.1 h3).1⟩
    have q1 : i < cur.size := by omega
    exact ⟨cur[i], by unfold World.cell?; simp [h3, q1], fun h => absurd h (by omega)⟩
end
/-- Of the blocks that were there none but g's has turned, and none below g. -/
structure MwN (g : Nat) (w W : World) : Prop where
  a : Aside w.heap.size g w W
  b : Below g w W
  z : w.heap.size ≤ W.heap.size
  l : g < w.heap.size
theorem MwN.set {g i : Nat} {w W : World} (h : MwN g w W) (v : Value) : MwN g w (W.setCell ⟨g, i, none⟩ v) :=
  ⟨fun b hb hr => (Below.heap_setCell W ⟨g, i, none⟩ v b (by simpa using hr)).trans (h.a b hb hr), h.b.setCell (p := ⟨g, i, none⟩) (Nat.le_refl _) v, by simpa using h.z, h.l⟩
theorem MwN.grow {g : Nat} {w W W' : World} (h : MwN g w W) (hb : Below W.heap.size W W') : MwN g w W' :=
  ⟨h.a.trans (below_aside hb h.z), h.b.trans (hb.mono (by have := h.z; have := h.l; omega)), Nat.le_trans h.z hb.size, h.l⟩
/-- The marks of n numbers. -/
def marksN (n : Nat) : List Int := (List.range n).map fun i : Nat => 1 + (i : Int)
theorem marksN_length (n : Nat) : (marksN n).length = n := by simp [marksN]
theorem marksN_at (n k : Nat) (h : k < n) : nAt (marksN n) k = 1 + (k : Int) := by
  unfold nAt
  rw [List.getD_eq_getElem?_getD]
  simp [marksN, h]

set_option maxHeartbeats 400000 in
theorem szIntS_any (a : Option Addr) (len cap : Nat) (w : World) (hm : len ≤ 9223372036854775807) :
    Calls Try.prog 61 #[.slice a len cap, .int .i64 1048576] w fun e w' => (∃ z : Int, e = .returned (.int .i64 z) ∧ (z = -1 ∨ (0 ≤ z ∧ len ≤ 1048576))) ∧ Below w.heap.size w w' := by
  have e : IntKind.i64.wrap (1048576 - (len : Int)) = 1048576 - (len : Int) := IntWalk.i64_in _ (by omega)
  by_cases h0 : 1048576 - (len : Int) < 0
  · go_enter Try.func61, Try.ntmps61
    go_wp2
    go_ret
    exact ⟨⟨-1, rfl, .inl rfl⟩, Below.refl _ _⟩
  · go_enter Try.func61, Try.ntmps61
    go_wp2
    go_ret
    exact ⟨⟨_, rfl, .inr ⟨by omega, by omega⟩⟩, Below.refl _ _⟩

set_option maxHeartbeats 1000000 in
theorem toIntS_any (a : Option Addr) (len cap : Nat) (es : List Int) (w : World) (h : Ns w a len cap es) (hn : len ≤ 1048576) :
    Calls Try.prog 62 #[.slice a len cap] w fun e w' => (∃ d, e = .returned (.slice (some ⟨d, 0, none⟩) len len) ∧ w.heap.size ≤ d ∧ FilN d len len es w' ∧ FreeN d w' ∧ d < w'.heap.size) ∧ Below w.heap.size w w' := by
  have hl := h.length
  obtain ⟨i0, hi, hz0, hz1, hz2⟩ := info_parts info_n
  obtain ⟨CS, hCS, hmk⟩ : ∃ CS : Array Value, CS.size = len ∧ ∀ w, (Instr.makeSlice 24 (.int .i64 len) (.int .i64 len)).run Try.prog w = .ok (.slice (some ⟨w.heap.size, 0, none⟩) len len) (w.alloc (.cells CS 3)) := by
    refine ⟨madeCells (Value.int .i64 0).cells (len * 1), by rw [size_madeCells]; omega, fun w => ?_⟩
    have r := run_make w 24 3 i0 _ Try.underlying24 hi hz0 .i64 .i64 len len (by omega) (Int.le_refl _) (by rw [hz2]; omega) (by omega)
    rw [hz1] at r
    exact r
  have HG := Lib.hid h
  have HF := Lib.hid (FilN.new w len CS 3 es hCS)
  clear h hCS hi hz0 hz1 hz2
  go_enter Try.func62, Try.ntmps62
  go_wp2
  go_loopw [4] (fun i wr => ∃ k : Nat, k ≤ len ∧ i = .int .i64 k ∧ Hid (FilN w.heap.size len k es wr ∧ FreeN w.heap.size wr) ∧ w.heap.size < wr.heap.size ∧ Hid (Below w.heap.size w wr)) (fun i _ => len - (intOf i).toNat)
  case atStart => exact ⟨0, Nat.zero_le _, rfl, HF, by simp, Lib.hid (below_box _ (Nat.le_refl _))⟩
  case round =>
    obtain ⟨k, hk, rfl, hfi, hsz, hbel⟩ := hrel
    clear HF
    by_cases hlt : k < len
    · obtain ⟨x, rfl⟩ := HG.out.addr hlt
      have p0 := HG.out.at hbel.out hlt
      obtain ⟨c1, hc1⟩ : ∃ c1, nAt es k = c1 := ⟨_, rfl⟩
      rw [hc1] at p0
      have FP := Lib.hid (And.intro (hfi.out.1.put hlt hc1) (hfi.out.2.set (e := w.heap.size) (i := k) (.int .i64 c1)))
      obtain ⟨u, s0, _⟩ := hfi.out.1 k hlt
      have t0 := hfi.out.2 k
      have BB := Lib.hid (hbel.out.setCell (p := ⟨w.heap.size, k, none⟩) (Nat.le_refl _) (.int .i64 c1))
      clear hc1 hfi hbel
      go_wp2_with fail
      try (go_quiet (fail); go_wp2)
      go_roundw
      case rel => exact ⟨k + 1, by omega, by go_num, FP, by simpa using hsz, BB⟩
      case measure => simp [intOf]; omega
    · obtain rfl : k = len := by omega
      go_wp2
      go_ret
      exact ⟨⟨w.heap.size, rfl, Nat.le_refl _, hfi.out.1, hfi.out.2, hsz⟩, hbel.out⟩

end Go.Proofs.Ytncbgejggfkdmab

/- The laws' exact helpers on what has arrived: copy, equality, marks. -/
namespace Go.Proofs.Ytncbgejggfkdmab
open Go.RowKit Go.PlainAid

set_option maxHeartbeats 1000000 in
theorem eqIntS_same (a b : Option Addr) (len cap cap2 : Nat) (es : List Int) (w : World) (h : Ns w a len cap es) (k : Ns w b len cap2 es) :
    Calls Try.prog 57 #[.slice a len cap, .slice b len cap2] w fun e w' => e = .returned (.bool true) ∧ Below w.heap.size w w' := by
  have hl := h.length
  have hm := h.len_int
  have HG := Lib.hid h
  have HK := Lib.hid k
  clear h k
  go_enter Try.func57, Try.ntmps57
  go_wp2
  go_loopw [5] (fun i wr => ∃ k : Nat, k ≤ len ∧ i = .int .i64 k ∧ Hid (Below w.heap.size w wr)) (fun i _ => len - (intOf i).toNat)
  case atStart => exact ⟨0, Nat.zero_le _, rfl, Lib.hid (Below.refl _ _)⟩
  case round =>
    obtain ⟨k, hk, rfl, hbel⟩ := hrel
    by_cases hlt : k < len
    · obtain ⟨x, rfl⟩ := HG.out.addr hlt
      obtain ⟨y, rfl⟩ := HK.out.addr hlt
      have p0 := HG.out.at hbel.out hlt
      have m0 := HK.out.at hbel.out hlt
      obtain ⟨c1, hc1⟩ : ∃ c1, nAt es k = c1 := ⟨_, rfl⟩
      rw [hc1] at p0 m0
      clear hc1
      go_wp2_with fail
      go_quiet (fail)
      go_wp2
      go_roundw
      case rel => exact ⟨k + 1, by omega, by go_num, Lib.hid (below_drewN hbel.out _)⟩
      case measure => simp [intOf]; omega
    · obtain rfl : k = len := by omega
      go_wp2
      go_ret
      exact ⟨rfl, hbel.out⟩

set_option maxHeartbeats 1000000 in
theorem markIntS_any (g n cap : Nat) (w : World) (hn : n ≤ 1048576) (hg : g < w.heap.size) (h : FilN g n 0 (marksN n) w) (hf : FreeN g w) :
    Calls Try.prog 58 #[.slice (some ⟨g, 0, none⟩) n cap, .int .i64 1] w fun e w' => e = .returned (.int .i64 (1 + (n : Int))) ∧ FilN g n n (marksN n) w' ∧ FreeN g w' ∧ MwN g w w' := by
  have HF := Lib.hid (And.intro h (And.intro hf (show MwN g w w from ⟨Aside.refl _ _ _, Below.refl _ _, Nat.le_refl _, hg⟩)))
  clear h hf
  go_enter Try.func58, Try.ntmps58
  go_wp2
  go_loopw [1, 5] (fun m i wr => ∃ j : Nat, j ≤ n ∧ i = .int .i64 j ∧ m = .int .i64 (1 + (j : Int)) ∧ Hid (FilN g n j (marksN n) wr ∧ FreeN g wr ∧ MwN g w wr)) (fun _ i _ => n - (intOf i).toNat)
  case atStart => exact ⟨0, Nat.zero_le _, rfl, rfl, HF⟩
  case round =>
    obtain ⟨j, hj, rfl, rfl, hfi⟩ := hrel
    clear HF
    by_cases hlt : j < n
    · obtain ⟨F0, R0, M0⟩ := hfi.out
      obtain ⟨u, s0, _⟩ := F0 j hlt
      have r0 := R0 j
      have HN := Lib.hid (show FilN g n (j + 1) (marksN n) (wr.setCell ⟨g, j, none⟩ (.int .i64 (1 + (j : Int)))) ∧ FreeN g (wr.setCell ⟨g, j, none⟩ (.int .i64 (1 + (j : Int)))) ∧ MwN g w (wr.setCell ⟨g, j, none⟩ (.int .i64 (1 + (j : Int)))) from ⟨F0.put hlt (marksN_at n j hlt), R0.set _, M0.set _⟩)
      have k1 : IntKind.i64.wrap (1 + (j : Int) + 1) = 1 + (j : Int) + 1 := IntWalk.i64_in _ (by omega)
      clear F0 R0 M0 hfi
      go_wp2
      go_roundw
      case rel => exact ⟨j + 1, by omega, by go_num, by go_num, HN⟩
      case measure => simp [intOf]; omega
    · obtain rfl : j = n := by omega
      go_wp2
      go_ret
      exact ⟨rfl, hfi.out.1, hfi.out.2.1, hfi.out.2.2⟩

set_option maxHeartbeats 1000000 in
theorem heldIntS_any (a : Option Addr) (n cap : Nat) (w : World) (hn : n ≤ 1048576) (h : Ns w a n cap (marksN n)) :
    Calls Try.prog 59 #[.slice a n cap, .int .i64 1] w fun e w' => e = .returned (.int .i64 (1 + (n : Int))) ∧ Below w.heap.size w w' := by
  have HG := Lib.hid h
  clear h
  go_enter Try.func59, Try.ntmps59
  go_wp2
  go_loopw [1, 5] (fun m i wr => ∃ j : Nat, j ≤ n ∧ i = .int .i64 j ∧ m = .int .i64 (1 + (j : Int)) ∧ Hid (Below w.heap.size w wr)) (fun _ i _ => n - (intOf i).toNat)
  case atStart => exact ⟨0, Nat.zero_le _, rfl, rfl, Lib.hid (Below.refl _ _)⟩
  case round =>
    obtain ⟨j, hj, rfl, rfl, hbel⟩ := hrel
    by_cases hlt : j < n
    · obtain ⟨x, rfl⟩ := HG.out.addr hlt
      have p0 := HG.out.at hbel.out hlt
      rw [marksN_at n j hlt] at p0
      have k1 : IntKind.i64.wrap (1 + (j : Int) + 1) = 1 + (j : Int) + 1 := IntWalk.i64_in _ (by omega)
      go_wp2_with fail
      try (go_quiet (fail); go_wp2)
      go_roundw
      case rel => exact ⟨j + 1, by omega, by go_num, by go_num, Lib.hid (by first | exact hbel.out | exact below_drewN hbel.out _)⟩
      case measure => simp [intOf]; omega
    · obtain rfl : j = n := by omega
      go_wp2
      go_ret
      exact ⟨rfl, hbel.out⟩

set_option maxHeartbeats 400000 in
theorem markIntS_none (w : World) :
    Calls Try.prog 58 #[.slice none 0 0, .int .i64 1] w fun e w' => e = .returned (.int .i64 1) ∧ w' = w := by
  go_enter Try.func58, Try.ntmps58
  go_wp2
  go_loopw [1, 5] (fun m i wr => m = .int .i64 1 ∧ i = .int .i64 0 ∧ wr = w) (fun _ _ _ => 0)
  case atStart => exact ⟨rfl, rfl, rfl⟩
  case round =>
    obtain ⟨rfl, rfl, rfl⟩ := hrel
    go_wp2
    go_ret
    exact ⟨rfl, rfl⟩

end Go.Proofs.Ytncbgejggfkdmab

/- The laws' exact helpers on parts and assemblies: size, copy, equality. -/
namespace Go.Proofs.Ytncbgejggfkdmab
open Go.RowKit Go.PlainAid

/-- A row of parts that is being filled: k of 'len' parts lie there. -/
def FilP (d len k : Nat) (ps : List Part) (w : World) : Prop :=
  ∀ i, i < len → ∀ j, j < 7 → ∃ u, w.cell? ⟨d, i * 7 + j, none⟩ = some u ∧ (i < k → (cellsP (pAt ps i))[j]? = some u)
theorem FilP.below {d len k : Nat} {ps : List Part} {w w' : World} (h : FilP d len k ps w) (hb : Below w.heap.size w w') : FilP d len k ps w' := fun i hi j hj => by
  obtain ⟨u, h1, h2⟩ := h i hi j hj
  exact ⟨u, kept_cell hb (lt_of_cell h1) h1, h2⟩
theorem FilP.far {d e len k o : Nat} {ps : List Part} {w : World} (h : FilP d len k ps w) (he : e ≠ d) (y : Value) : FilP d len k ps (w.setCell ⟨e, o, none⟩ y) := fun i hi j hj => by
  obtain ⟨u, h1, h2⟩ := h i hi j hj
  exact ⟨u, cell_far he h1, h2⟩
theorem FilP.new (w : World) (len : Nat) (vs : Array Value) (T : TypeId) (ps : List Part) (hs : vs.size = len * 7) : FilP w.heap.size len 0 ps (w.alloc (.cells vs T)) ∧ FreeN w.heap.size (w.alloc (.cells vs T)) := by
  refine ⟨fun i hi j hj => ?_, fun j => by simp⟩
  have h1 : i * 7 + j < vs.size := by omega
  exact ⟨vs[i * 7 + j], by rw [World.cell?_alloc_at _ _ _ _ rfl]; exact Array.getElem?_eq_getElem h1, fun h => absurd h (by omega)⟩
theorem FilP.pts {d len cap : Nat} {ps : List Part} {w : World} (h : FilP d len len ps w) (hl : ps.length = len) (hc : len ≤ cap) (hm : cap ≤ maxLen) : Pts w (some ⟨d, 0, none⟩) len cap ps := by
  refine .inr ⟨_, rfl, hc, hm, hl, fun i hi j v hv => ?_⟩
  have hj : j < 7 := (List.getElem?_eq_some_iff.1 hv).1
  obtain ⟨u, h1, h2⟩ := h i hi j hj
  have h3 := h2 hi
  rw [hv] at h3
  rw [atP_zero, h1, h3]
theorem FilP.put {d len k : Nat} {ps : List Part} {w : World} {t s q : Int} {fi la lo : Bool} {tx : ByteArray} (h : FilP d len k ps w) (hk : k < len) (e : pAt ps k = ⟨t, s, q, fi, la, lo, tx⟩) :
    FilP d len (k + 1) ps (((((((w.setCell ⟨d, k * 7, none⟩ (.int .i64 t)).setCell ⟨d, k * 7 + 1, none⟩ (.int .i64 s)).setCell ⟨d, k * 7 + 2, none⟩ (.int .i64 q)).setCell ⟨d, k * 7 + 3, none⟩ (.bool fi)).setCell ⟨d, k * 7 + 4, none⟩ (.bool la)).setCell ⟨d, k * 7 + 5, none⟩ (.bool lo)).setCell ⟨d, k * 7 + 6, none⟩ (.string tx)) := fun i hi j hj => by
  obtain ⟨u, h1, h2⟩ := h i hi j hj
  by_cases hik : i = k
  · subst hik
    rw [e]
    rcases (show j = 0 ∨ j = 1 ∨ j = 2 ∨ j = 3 ∨ j = 4 ∨ j = 5 ∨ j = 6 by omega) with rfl | rfl | rfl | rfl | rfl | rfl | rfl
    · exact ⟨.int .i64 t, (cell_other (by omega) (cell_other (by omega) (cell_other (by omega) (cell_other (by omega) (cell_other (by omega) (cell_other (by omega) (World.cell?_setCell_same _ _ _ h1))))))), fun _ => rfl⟩
    · exact ⟨.int .i64 s, (cell_other (by omega) (cell_other (by omega) (cell_other (by omega) (cell_other (by omega) (cell_other (by omega) (World.cell?_setCell_same _ _ _ (cell_other (by omega) h1))))))), fun _ => rfl⟩
    · exact ⟨.int .i64 q, (cell_other (by omega) (cell_other (by omega) (cell_other (by omega) (cell_other (by omega) (World.cell?_setCell_same _ _ _ (cell_other (by omega) (cell_other (by omega) h1))))))), fun _ => rfl⟩
    · exact ⟨.bool fi, (cell_other (by omega) (cell_other (by omega) (cell_other (by omega) (World.cell?_setCell_same _ _ _ (cell_other (by omega) (cell_other (by omega) (cell_other (by omega) h1))))))), fun _ => rfl⟩
    · exact ⟨.bool la, (cell_other (by omega) (cell_other (by omega) (World.cell?_setCell_same _ _ _ (cell_other (by omega) (cell_other (by omega) (cell_other (by omega) (cell_other (by omega) h1))))))), fun _ => rfl⟩
    · exact ⟨.bool lo, (cell_other (by omega) (World.cell?_setCell_same _ _ _ (cell_other (by omega) (cell_other (by omega) (cell_other (by omega) (cell_other (by omega) (cell_other (by omega) h1))))))), fun _ => rfl⟩
    · exact ⟨.string tx, (World.cell?_setCell_same _ _ _ (cell_other (by omega) (cell_other (by omega) (cell_other (by omega) (cell_other (by omega) (cell_other (by omega) (cell_other (by omega) h1))))))), fun _ => rfl⟩
  · exact ⟨u, (cell_other (by omega) (cell_other (by omega) (cell_other (by omega) (cell_other (by omega) (cell_other (by omega) (cell_other (by omega) (cell_other (by omega) h1))))))), fun h3 => h2 (by omega)⟩
theorem info_pd : (Try.prog.info? 43).map (fun i => (i.zero, i.size, i.bytes)) = some (some (partV ⟨0, 0, 0, false, false, false, ByteArray.mk #[]⟩), 7, 48) := by kernel_rfl

set_option maxHeartbeats 400000 in
theorem szDa_any (t s q : Int) (fi la lo : Bool) (tx : ByteArray) (n : Int) (w : World) (h0 : 0 ≤ n) (h1 : n ≤ 1048576) (hm : tx.size ≤ 9223372036854775807) :
    Calls Try.prog 63 #[.agg #[.int .i64 t, .int .i64 s, .int .i64 q, .bool fi, .bool la, .bool lo, .string tx], .int .i64 n] w fun e w' => (∃ z : Int, e = .returned (.int .i64 z) ∧ (z = -1 ∨ (0 ≤ z ∧ z ≤ n))) ∧ Below w.heap.size w w' := by
  have e : IntKind.i64.wrap (n - (tx.size : Int)) = n - (tx.size : Int) := IntWalk.i64_in _ (by omega)
  by_cases h : n - (tx.size : Int) < 0
  · go_enter Try.func63, Try.ntmps63
    go_wp2
    go_ret
    exact ⟨⟨-1, rfl, .inl rfl⟩, below_box _ (Nat.le_refl _)⟩
  · go_enter Try.func63, Try.ntmps63
    go_wp2
    go_ret
    exact ⟨⟨_, rfl, .inr ⟨by omega, by omega⟩⟩, below_box _ (Nat.le_refl _)⟩

set_option maxHeartbeats 1000000 in
theorem toDa_any (t s q : Int) (fi la lo : Bool) (tx : ByteArray) (w : World) :
    Calls Try.prog 64 #[.agg #[.int .i64 t, .int .i64 s, .int .i64 q, .bool fi, .bool la, .bool lo, .string tx]] w fun e w' => e = .returned (.agg #[.int .i64 t, .int .i64 s, .int .i64 q, .bool fi, .bool la, .bool lo, .string tx]) ∧ Below w.heap.size w w' := by
  go_enter Try.func64, Try.ntmps64
  go_wp2
  refine bodyPost_ret (v := .agg #[.int .i64 t, .int .i64 s, .int .i64 q, .bool fi, .bool la, .bool lo, .string tx]) ?_ rfl ?_
  · simp [results, Try.results64, go_sem]
  · exact ⟨rfl, by go_grown⟩

set_option maxHeartbeats 1000000 in
theorem eqDa_same (p : Part) (w : World) :
    Calls Try.prog 66 #[partV p, partV p] w fun e w' => e = .returned (.bool true) ∧ Below w.heap.size w w' := by
  obtain ⟨t, s, q, fi, la, lo, tx⟩ := p
  unfold partV
  go_enter Try.func66, Try.ntmps66
  go_wp2
  go_ret
  exact ⟨rfl, (below_box _ (Nat.le_refl _)).alloc (by simp) _⟩

set_option maxHeartbeats 1000000 in
theorem szDataS_any (a : Option Addr) (len cap : Nat) (ps : List Part) (n : Int) (w : World) (n0 : 0 ≤ n) (n1 : n ≤ 1048576) (h : Pts w a len cap ps) (hz : ∀ p ∈ ps, p.text.size ≤ maxLen) :
    Calls Try.prog 30 #[.slice a len cap, .int .i64 n] w fun e w' => (∃ z : Int, e = .returned (.int .i64 z) ∧ (z = -1 ∨ (0 ≤ z ∧ len ≤ 1048576))) ∧ Below w.heap.size w w' := by
  have hl := h.length
  have hm := h.len_int
  have HG := Lib.hid h
  have HZ := Lib.hid hz
  clear h hz
  have e : IntKind.i64.wrap (n - (len : Int)) = n - (len : Int) := IntWalk.i64_in _ (by omega)
  by_cases h0 : n - (len : Int) < 0
  · go_enter Try.func30, Try.ntmps30
    go_wp2
    go_ret
    exact ⟨⟨-1, rfl, .inl rfl⟩, Below.refl _ _⟩
  · have hle : len ≤ 1048576 := by omega
    go_enter Try.func30, Try.ntmps30
    go_wp2
    go_loopw [1, 5] (fun m i wr => ∃ (k : Nat) (z : Int), k ≤ len ∧ i = .int .i64 k ∧ m = .int .i64 z ∧ 0 ≤ z ∧ z ≤ 1048576 ∧ Hid (Below w.heap.size w wr)) (fun _ i _ => len - (intOf i).toNat)
    case atStart => exact ⟨0, n - (len : Int), Nat.zero_le _, rfl, rfl, by omega, by omega, Lib.hid (Below.refl _ _)⟩
    case round =>
      obtain ⟨k, z, hk, rfl, rfl, z0, z1, hbel⟩ := hrel
      by_cases hlt : k < len
      · obtain ⟨x, rfl⟩ := HG.out.addr hlt
        obtain ⟨p0, p1, p2, p3, p4, p5, p6⟩ := HG.out.at hbel.out hlt
        have hzk := HZ.out _ (pAt_mem (show k < ps.length by omega))
        obtain ⟨⟨t, s, q, fi, la, lo, tx⟩, hc1⟩ : ∃ c1, pAt ps k = c1 := ⟨_, rfl⟩
        rw [hc1] at p0 p1 p2 p3 p4 p5 p6 hzk
        dsimp only at p0 p1 p2 p3 p4 p5 p6 hzk
        unfold maxLen at hzk
        clear hc1
        go_wp2_with fail
        refine (szDa_any t s q fi la lo tx z _ z0 z1 (by omega)).mono ?_
        rintro e w2 ⟨⟨z2, rfl, hz2⟩, hb2⟩
        have HB := Lib.hid (hbel.out.trans (hb2.mono hbel.out.size))
        clear hb2
        rcases hz2 with rfl | ⟨y0, y1⟩
        · go_wp2
          go_ret
          exact ⟨⟨-1, rfl, .inl rfl⟩, HB.out⟩
        · have yn : ¬ z2 < 0 := by omega
          go_wp2
          go_roundw
          case rel => exact ⟨k + 1, z2, by omega, by go_num, rfl, y0, by omega, HB⟩
          case measure => simp [intOf]; omega
      · obtain rfl : k = len := by omega
        go_wp2
        go_ret
        exact ⟨⟨z, rfl, .inr ⟨z0, hle⟩⟩, hbel.out⟩

set_option maxHeartbeats 1000000 in
theorem toDataS_any (a : Option Addr) (len cap : Nat) (ps : List Part) (w : World) (h : Pts w a len cap ps) (hn : len ≤ 1048576) :
    Calls Try.prog 31 #[.slice a len cap] w fun e w' => (∃ d, e = .returned (.slice (some ⟨d, 0, none⟩) len len) ∧ w.heap.size ≤ d ∧ FilP d len len ps w' ∧ FreeN d w' ∧ d < w'.heap.size) ∧ Below w.heap.size w w' := by
  have hl := h.length
  obtain ⟨i0, hi, hz0, hz1, hz2⟩ := info_parts info_pd
  obtain ⟨CS, hCS, hmk⟩ : ∃ CS : Array Value, CS.size = len * 7 ∧ ∀ w, (Instr.makeSlice 25 (.int .i64 len) (.int .i64 len)).run Try.prog w = .ok (.slice (some ⟨w.heap.size, 0, none⟩) len len) (w.alloc (.cells CS 43)) := by
    refine ⟨madeCells (partV ⟨0, 0, 0, false, false, false, ByteArray.mk #[]⟩).cells (len * 7), size_madeCells _ _, fun w => ?_⟩
    have r := run_make w 25 43 i0 _ Try.underlying25 hi hz0 .i64 .i64 len len (by omega) (Int.le_refl _) (by rw [hz2]; omega) (by omega)
    rw [hz1] at r
    exact r
  have HG := Lib.hid h
  have HF := Lib.hid (FilP.new w len CS 43 ps hCS)
  clear h hCS hi hz0 hz1 hz2
  go_enter Try.func31, Try.ntmps31
  go_wp2
  go_loopw [4] (fun i wr => ∃ k : Nat, k ≤ len ∧ i = .int .i64 k ∧ Hid (FilP w.heap.size len k ps wr ∧ FreeN w.heap.size wr) ∧ w.heap.size < wr.heap.size ∧ Hid (Below w.heap.size w wr)) (fun i _ => len - (intOf i).toNat)
  case atStart => exact ⟨0, Nat.zero_le _, rfl, HF, by simp, Lib.hid (below_box _ (Nat.le_refl _))⟩
  case round =>
    obtain ⟨k, hk, rfl, hfi, hsz, hbel⟩ := hrel
    clear HF
    by_cases hlt : k < len
    · obtain ⟨x, rfl⟩ := HG.out.addr hlt
      obtain ⟨p0, p1, p2, p3, p4, p5, p6⟩ := HG.out.at hbel.out hlt
      obtain ⟨⟨t, s, q, fi, la, lo, tx⟩, hc1⟩ : ∃ c1, pAt ps k = c1 := ⟨_, rfl⟩
      rw [hc1] at p0 p1 p2 p3 p4 p5 p6
      dsimp only at p0 p1 p2 p3 p4 p5 p6
      have HC := Lib.hid hc1
      clear hc1
      go_wp2_with fail
      refine (toDa_any t s q fi la lo tx _).mono ?_
      rintro e w2 ⟨rfl, hb2⟩
      have F2 := hfi.out.1.below hb2
      have R2 : FreeN w.heap.size w2 := fun j => (hb2.frozen (p := ⟨w.heap.size, j, none⟩) hsz).trans (hfi.out.2 j)
      have FP := Lib.hid (And.intro (F2.put hlt HC.out) (FreeN.set (FreeN.set (FreeN.set (FreeN.set (FreeN.set (FreeN.set (FreeN.set R2 (e := w.heap.size) (i := k * 7) (.int .i64 t)) (e := w.heap.size) (i := k * 7 + 1) (.int .i64 s)) (e := w.heap.size) (i := k * 7 + 2) (.int .i64 q)) (e := w.heap.size) (i := k * 7 + 3) (.bool fi)) (e := w.heap.size) (i := k * 7 + 4) (.bool la)) (e := w.heap.size) (i := k * 7 + 5) (.bool lo)) (e := w.heap.size) (i := k * 7 + 6) (.string tx)))
      obtain ⟨u0, s0, _⟩ := F2 k hlt 0 (by omega)
      have t0 := R2 (k * 7)
      obtain ⟨u1, s1, _⟩ := F2 k hlt 1 (by omega)
      have t1 := R2 (k * 7 + 1)
      obtain ⟨u2, s2, _⟩ := F2 k hlt 2 (by omega)
      have t2 := R2 (k * 7 + 2)
      obtain ⟨u3, s3, _⟩ := F2 k hlt 3 (by omega)
      have t3 := R2 (k * 7 + 3)
      obtain ⟨u4, s4, _⟩ := F2 k hlt 4 (by omega)
      have t4 := R2 (k * 7 + 4)
      obtain ⟨u5, s5, _⟩ := F2 k hlt 5 (by omega)
      have t5 := R2 (k * 7 + 5)
      obtain ⟨u6, s6, _⟩ := F2 k hlt 6 (by omega)
      have t6 := R2 (k * 7 + 6)
      have BB := Lib.hid ((((((((hbel.out.trans (hb2.mono hbel.out.size)).setCell (p := ⟨w.heap.size, k * 7, none⟩) (Nat.le_refl _) (.int .i64 t)).setCell (p := ⟨w.heap.size, k * 7 + 1, none⟩) (Nat.le_refl _) (.int .i64 s)).setCell (p := ⟨w.heap.size, k * 7 + 2, none⟩) (Nat.le_refl _) (.int .i64 q)).setCell (p := ⟨w.heap.size, k * 7 + 3, none⟩) (Nat.le_refl _) (.bool fi)).setCell (p := ⟨w.heap.size, k * 7 + 4, none⟩) (Nat.le_refl _) (.bool la)).setCell (p := ⟨w.heap.size, k * 7 + 5, none⟩) (Nat.le_refl _) (.bool lo)).setCell (p := ⟨w.heap.size, k * 7 + 6, none⟩) (Nat.le_refl _) (.string tx))
      have hsz2 : w.heap.size < w2.heap.size := Nat.lt_of_lt_of_le hsz hb2.size
      simp only [Nat.add_zero] at s0
      clear F2 R2 hb2 hfi hbel p0 p1 p2 p3 p4 p5 p6 hsz
      go_wp2
      go_roundw
      case rel => exact ⟨k + 1, by omega, by go_num, FP, by simpa using hsz2, BB⟩
      case measure => simp [intOf]; omega
    · obtain rfl : k = len := by omega
      go_wp2
      go_ret
      exact ⟨⟨w.heap.size, rfl, Nat.le_refl _, hfi.out.1, hfi.out.2, hsz⟩, hbel.out⟩

set_option maxHeartbeats 1000000 in
theorem eqDataS_same (a b : Option Addr) (len cap cap2 : Nat) (ps : List Part) (w : World) (h : Pts w a len cap ps) (k : Pts w b len cap2 ps) :
    Calls Try.prog 33 #[.slice a len cap, .slice b len cap2] w fun e w' => e = .returned (.bool true) ∧ Below w.heap.size w w' := by
  have hl := h.length
  have hm := h.len_int
  have HG := Lib.hid h
  have HK := Lib.hid k
  clear h k
  go_enter Try.func33, Try.ntmps33
  go_wp2
  go_loopw [5] (fun i wr => ∃ k : Nat, k ≤ len ∧ i = .int .i64 k ∧ Hid (Below w.heap.size w wr)) (fun i _ => len - (intOf i).toNat)
  case atStart => exact ⟨0, Nat.zero_le _, rfl, Lib.hid (Below.refl _ _)⟩
  case round =>
    obtain ⟨k, hk, rfl, hbel⟩ := hrel
    by_cases hlt : k < len
    · obtain ⟨x, rfl⟩ := HG.out.addr hlt
      obtain ⟨y, rfl⟩ := HK.out.addr hlt
      have hsz2 := hbel.out.size
      have LK : ∀ W, Below wr.heap.size wr W → (Instr.loadAt 43 (.pointer (some (x.add (k * 7))))).run Try.prog W = .ok (partV (pAt ps k)) W := fun W hW => load_parts ((HG.out.below hbel.out).below hW) hlt
      have LJ : ∀ W, Below wr.heap.size wr W → (Instr.loadAt 43 (.pointer (some (y.add (k * 7))))).run Try.prog W = .ok (partV (pAt ps k)) W := fun W hW => load_parts ((HK.out.below hbel.out).below hW) hlt
      have SMH := Lib.hid (fun w => eqDa_same (pAt ps k) w)
      go_wp2_with fail
      refine region_class (C := fun W => Below wr.heap.size wr W) (by kernel_rfl) (by kernel_rfl) (Below.drew (Below.refl _ _)) ?_
      repeat (first
        | go_big_quiet_skip
        | (go_big_quiet_want; go_big_quiet_op; go_big_quiet_on)
        | (refine BigFrame.wpQuiet_want (by rfl) (fun K hK => ?_)
           first
             | (refine quiet_loadQ (x := .tmp 19) (by with_reducible rfl) (by rfl) LK (hK _ ?_))
             | (refine quiet_loadQ (x := .tmp 23) (by with_reducible rfl) (by rfl) LJ (hK _ ?_))
             | (apply Exists.intro
                refine ⟨fun W hW => ?_, hK _ ?_⟩
                next =>
                  go_simp
                  first
                    | with_reducible exact rfl
                    | (refine (SMH.out _).mono ?_; rintro e w3 ⟨rfl, hb3⟩; exact ⟨rfl, hW.trans (hb3.mono hW.size)⟩))
           conv => arg 6; simp only [Act.put, List.setIfInBounds_toArray, List.set_cons_zero, List.set_cons_succ]
           clear hK K))
      refine wpQuiet_nil ?_
      intro W hW
      clear LK LJ
      have hb := Lib.hid (hbel.out.trans (hW.mono hsz2))
      clear hW
      go_wp2
      go_roundw
      case rel => exact ⟨k + 1, by omega, by go_num, hb⟩
      case measure => simp [intOf]; omega
    · obtain rfl : k = len := by omega
      go_wp2
      go_ret
      exact ⟨rfl, hbel.out⟩

end Go.Proofs.Ytncbgejggfkdmab

/- The laws' exact helpers on assemblies: size, copy, equality. -/
namespace Go.Proofs.Ytncbgejggfkdmab
open Go.RowKit Go.PlainAid

set_option maxHeartbeats 400000 in
theorem szIntS_b (a : Option Addr) (len cap : Nat) (w : World) (hm : len ≤ 9223372036854775807) :
    Calls Try.prog 61 #[.slice a len cap, .int .i64 1048576] w fun e w' => (∃ z : Int, e = .returned (.int .i64 z) ∧ (z = -1 ∨ (0 ≤ z ∧ z ≤ 1048576 ∧ len ≤ 1048576))) ∧ Below w.heap.size w w' := by
  have e : IntKind.i64.wrap (1048576 - (len : Int)) = 1048576 - (len : Int) := IntWalk.i64_in _ (by omega)
  by_cases h0 : 1048576 - (len : Int) < 0
  · go_enter Try.func61, Try.ntmps61
    go_wp2
    go_ret
    exact ⟨⟨-1, rfl, .inl rfl⟩, Below.refl _ _⟩
  · go_enter Try.func61, Try.ntmps61
    go_wp2
    go_ret
    exact ⟨⟨_, rfl, .inr ⟨by omega, by omega, by omega⟩⟩, Below.refl _ _⟩

set_option maxHeartbeats 1000000 in
theorem szAssembly_any (an : Option Addr) (ln cn : Nat) (es : List Int) (ap : Option Addr) (lp cp : Nat) (ps : List Part) (w : World) (h : Ns w an ln cn es) (hp : Pts w ap lp cp ps) (hz : ∀ p ∈ ps, p.text.size ≤ maxLen) :
    Calls Try.prog 28 #[.agg #[.slice an ln cn, .slice ap lp cp], .int .i64 1048576] w fun e w' => (∃ z : Int, e = .returned (.int .i64 z) ∧ (z = -1 ∨ (0 ≤ z ∧ ln ≤ 1048576 ∧ lp ≤ 1048576))) ∧ Below w.heap.size w w' := by
  have hm := h.len_int
  have B1 := Lib.hid (below_box (w := w) (.cells #[.slice an ln cn, .slice ap lp cp] 51) (Nat.le_refl _))
  have P1 := Lib.hid (hp.below B1.out)
  have V1 := Lib.hid (VarN.new w [.slice an ln cn, .slice ap lp cp] 51)
  clear h hp
  go_enter Try.func28, Try.ntmps28
  go_wp2_with fail
  refine (szIntS_b an ln cn _ hm).mono ?_
  rintro e w1 ⟨⟨z, rfl, hzz⟩, hb1⟩
  have v1 := ((V1.out.below hb1 (by simp)) 1 _ rfl).1
  have P2 := Lib.hid (P1.out.below hb1)
  have HB := Lib.hid (B1.out.trans (hb1.mono (by simp)))
  clear hb1
  rcases hzz with rfl | ⟨y0, y1, y2⟩
  · go_wp2
    go_ret
    exact ⟨⟨-1, rfl, .inl rfl⟩, HB.out⟩
  · have yn : ¬ z < 0 := by omega
    go_wp2_with fail
    refine (szDataS_any ap lp cp ps z _ y0 y1 P2.out hz).mono ?_
    rintro e w2 ⟨⟨z2, rfl, hz2⟩, hb2⟩
    have HB2 := Lib.hid (HB.out.trans (hb2.mono HB.out.size))
    clear hb2
    rcases hz2 with rfl | ⟨x0, x1⟩
    · go_wp2
      go_ret
      exact ⟨⟨-1, rfl, .inl rfl⟩, HB2.out⟩
    · have xn : ¬ z2 < 0 := by omega
      go_wp2
      go_ret
      exact ⟨⟨z2, rfl, .inr ⟨x0, y2, x1⟩⟩, HB2.out⟩

/-- An assembly of one's own: both rows may be written. -/
structure OwnA (R d n e m : Nat) (es : List Int) (ps : List Part) (W : World) : Prop where
  fn : FilN d n n es W
  rn : FreeN d W
  fp : FilP e m m ps W
  rp : FreeN e W
  ln : es.length = n
  lp : ps.length = m
  zn : d < W.heap.size
  zp : e < W.heap.size
  lo : R ≤ d ∧ R ≤ e
  ne : d ≠ e
  sn : n ≤ 1048576
  sp : m ≤ 1048576

set_option maxHeartbeats 1000000 in
theorem toAssembly_any (an : Option Addr) (ln cn : Nat) (es : List Int) (ap : Option Addr) (lp cp : Nat) (ps : List Part) (w : World) (h : Ns w an ln cn es) (hp : Pts w ap lp cp ps) (hn : ln ≤ 1048576) (hm : lp ≤ 1048576) :
    Calls Try.prog 29 #[.agg #[.slice an ln cn, .slice ap lp cp]] w fun e w' => (∃ d g, e = .returned (.agg #[.slice (some ⟨d, 0, none⟩) ln ln, .slice (some ⟨g, 0, none⟩) lp lp]) ∧ OwnA w.heap.size d ln g lp es ps w') ∧ Below w.heap.size w w' := by
  have hl := h.length
  have hpl := hp.length
  have B0 := Lib.hid (show Below w.heap.size w (((w.alloc (.cells #[.slice an ln cn, .slice ap lp cp] 51)).alloc (.cells #[.slice none 0 0, .slice none 0 0] 27)).alloc (.cells #[.slice none 0 0, .slice none 0 0] 27)) from ((below_box _ (Nat.le_refl _)).alloc (by simp) _).alloc (by first | (simp; done) | (simp; omega)) _)
  have V0 := Lib.hid (show VarN w.heap.size [.slice an ln cn, .slice ap lp cp] (((w.alloc (.cells #[.slice an ln cn, .slice ap lp cp] 51)).alloc (.cells #[.slice none 0 0, .slice none 0 0] 27)).alloc (.cells #[.slice none 0 0, .slice none 0 0] 27)) from ((VarN.new w _ _).alloc _ (by simp)).alloc _ (by first | (simp; done) | (simp; omega)))
  have R0 := Lib.hid (show VarN (w.heap.size + 1) [.slice none 0 0, .slice none 0 0] (((w.alloc (.cells #[.slice an ln cn, .slice ap lp cp] 51)).alloc (.cells #[.slice none 0 0, .slice none 0 0] 27)).alloc (.cells #[.slice none 0 0, .slice none 0 0] 27)) from (VarN.new_at (by simp) _ _).alloc _ (by first | (simp; done) | (simp; omega)))
  have O0 := Lib.hid (show VarN (w.heap.size + 2) [.slice none 0 0, .slice none 0 0] (((w.alloc (.cells #[.slice an ln cn, .slice ap lp cp] 51)).alloc (.cells #[.slice none 0 0, .slice none 0 0] 27)).alloc (.cells #[.slice none 0 0, .slice none 0 0] 27)) from VarN.new_at (by simp) _ _)
  have Z0 := Lib.hid (show w.heap.size + 3 ≤ (((w.alloc (.cells #[.slice an ln cn, .slice ap lp cp] 51)).alloc (.cells #[.slice none 0 0, .slice none 0 0] 27)).alloc (.cells #[.slice none 0 0, .slice none 0 0] 27)).heap.size by simp)
  have HN := Lib.hid h
  have HP := Lib.hid hp
  have HL := Lib.hid (And.intro hl hpl)
  clear h hp hl hpl
  go_enter Try.func29, Try.ntmps29
  go_upto_region 2 with fail
  generalize (((w.alloc (.cells #[.slice an ln cn, .slice ap lp cp] 51)).alloc (.cells #[.slice none 0 0, .slice none 0 0] 27)).alloc (.cells #[.slice none 0 0, .slice none 0 0] 27)) = w3 at *
  have z3 := Z0.out
  have v0 := (V0.out 0 _ rfl).1
  go_wp2_with fail
  refine (toIntS_any an ln cn es _ (HN.out.below B0.out) hn).mono ?_
  rintro e w4 ⟨⟨d, rfl, hd, hF, hfr, hdl⟩, hb4⟩
  have hd3 : w.heap.size + 3 ≤ d := Nat.le_trans z3 hd
  have V4 := V0.out.below hb4 (by omega)
  have R4 := R0.out.below hb4 (by omega)
  have O4 := O0.out.below hb4 (by omega)
  have B4 := B0.out.trans (hb4.mono (by omega))
  have V5 := Lib.hid (V4.far (i := 0) (.slice (some ⟨d, 0, none⟩) ln ln) (show w.heap.size + 2 ≠ w.heap.size by omega))
  have R5 := Lib.hid (R4.far (i := 0) (.slice (some ⟨d, 0, none⟩) ln ln) (show w.heap.size + 2 ≠ w.heap.size + 1 by omega))
  have O5 := Lib.hid (O4.set (i := 0) (.slice (some ⟨d, 0, none⟩) ln ln))
  have B5 := Lib.hid (B4.setCell (p := ⟨w.heap.size + 2, 0, none⟩) (by show w.heap.size ≤ w.heap.size + 2; omega) (.slice (some ⟨d, 0, none⟩) ln ln))
  have F5 := Lib.hid (And.intro (hF.far (e := w.heap.size + 2) (i := 0) (by omega) (.slice (some ⟨d, 0, none⟩) ln ln)) (hfr.set (e := w.heap.size + 2) (i := 0) (.slice (some ⟨d, 0, none⟩) ln ln)))
  have Z5 := Lib.hid (show d < (w4.setCell ⟨w.heap.size + 2, 0, none⟩ (.slice (some ⟨d, 0, none⟩) ln ln)).heap.size by simpa using hdl)
  have o0 := (O4 0 _ rfl).1
  have o0f := (O4 0 _ rfl).2
  clear V4 R4 O4 B4 hF hfr hb4 v0 V0 R0 O0 B0
  go_upto_region 3 with fail
  generalize (w4.setCell ⟨w.heap.size + 2, 0, none⟩ (.slice (some ⟨d, 0, none⟩) ln ln)) = w5 at *
  have z5 := Z5.out
  clear o0 o0f
  have v1 := (V5.out 1 _ rfl).1
  go_wp2_with fail
  refine (toDataS_any ap lp cp ps _ (HP.out.below B5.out) hm).mono ?_
  rintro e w6 ⟨⟨g, rfl, hg, hG, hgr, hgl⟩, hb6⟩
  have R6 := R5.out.below hb6 (by omega)
  have O6 := O5.out.below hb6 (by omega)
  have B6 := B5.out.trans (hb6.mono (by omega))
  have F6 := F5.out.1.below hb6
  have G6 : FreeN d w6 := fun j => (hb6.frozen (p := ⟨d, j, none⟩) z5).trans (F5.out.2 j)
  have o0 := (O6 0 _ rfl).1
  have o1 := (O6 1 _ rfl).1
  have o1f := (O6 1 _ rfl).2
  have r0 := (R6 0 _ rfl).1
  have r1 := (R6 1 _ rfl).1
  have r0f := (R6 0 _ rfl).2
  have r1f := (R6 1 _ rfl).2
  have A := Lib.hid (show OwnA w.heap.size d ln g lp es ps (((w6.setCell ⟨w.heap.size + 2, 1, none⟩ (.slice (some ⟨g, 0, none⟩) lp lp)).setCell ⟨w.heap.size + 1, 0, none⟩ (.slice (some ⟨d, 0, none⟩) ln ln)).setCell ⟨w.heap.size + 1, 1, none⟩ (.slice (some ⟨g, 0, none⟩) lp lp)) from
    ⟨((F6.far (by omega) _).far (by omega) _).far (by omega) _, ((G6.set _).set _).set _, ((hG.far (by omega) _).far (by omega) _).far (by omega) _, ((hgr.set _).set _).set _, HL.out.1, HL.out.2, by have := hb6.size; simp; omega, by simp; omega, ⟨by omega, by omega⟩, by omega, hn, hm⟩)
  have B7 := Lib.hid (((B6.setCell (p := ⟨w.heap.size + 2, 1, none⟩) (by show w.heap.size ≤ w.heap.size + 2; omega) (.slice (some ⟨g, 0, none⟩) lp lp)).setCell (p := ⟨w.heap.size + 1, 0, none⟩) (by show w.heap.size ≤ w.heap.size + 1; omega) (.slice (some ⟨d, 0, none⟩) ln ln)).setCell (p := ⟨w.heap.size + 1, 1, none⟩) (by show w.heap.size ≤ w.heap.size + 1; omega) (.slice (some ⟨g, 0, none⟩) lp lp))
  clear F6 G6 hG hgr B6 O6 R6 hb6 V5 R5 O5 B5 F5 Z5 v1
  go_wp2
  refine bodyPost_ret (v := .agg #[.slice (some ⟨d, 0, none⟩) ln ln, .slice (some ⟨g, 0, none⟩) lp lp]) ?_ rfl ?_
  · simp [results, Try.results29, go_sem, r0, r1]
  · exact ⟨⟨d, g, rfl, A.out⟩, B7.out⟩

set_option maxHeartbeats 1000000 in
theorem eqAssembly_same (an ap bn bp : Option Addr) (n c1 c2 l c3 c4 : Nat) (es : List Int) (ps : List Part) (w : World) (h1 : Ns w an n c1 es) (h2 : Ns w bn n c2 es) (h3 : Pts w ap l c3 ps) (h4 : Pts w bp l c4 ps) :
    Calls Try.prog 25 #[.agg #[.slice an n c1, .slice ap l c3], .agg #[.slice bn n c2, .slice bp l c4]] w fun e w' => e = .returned (.bool true) ∧ Below w.heap.size w w' := by
  have B2 := Lib.hid (show Below w.heap.size w ((w.alloc (.cells #[.slice an n c1, .slice ap l c3] 27)).alloc (.cells #[.slice bn n c2, .slice bp l c4] 27)) from (below_box _ (Nat.le_refl _)).alloc (by simp) _)
  have N1 := Lib.hid (h1.below B2.out)
  have N2 := Lib.hid (h2.below B2.out)
  have P1 := Lib.hid (h3.below B2.out)
  have P2 := Lib.hid (h4.below B2.out)
  have VA := Lib.hid ((VarN.new w [.slice an n c1, .slice ap l c3] 27).alloc (.cells #[.slice bn n c2, .slice bp l c4] 27) (by simp))
  have VB := Lib.hid (VarN.new_at (w := w.alloc (.cells #[.slice an n c1, .slice ap l c3] 27)) (d := w.heap.size + 1) (by simp) [.slice bn n c2, .slice bp l c4] 27)
  clear h1 h2 h3 h4
  go_enter Try.func25, Try.ntmps25
  go_wp2_with fail
  refine (eqIntS_same an bn n c1 c2 es _ N1.out N2.out).mono ?_
  rintro e w1 ⟨rfl, hb1⟩
  have a1 := ((VA.out.below hb1 (by simp; omega)) 1 _ rfl).1
  have b1 := ((VB.out.below hb1 (by simp)) 1 _ rfl).1
  have Q1 := Lib.hid (P1.out.below hb1)
  have Q2 := Lib.hid (P2.out.below hb1)
  have B3 := Lib.hid (B2.out.trans (hb1.mono B2.out.size))
  clear hb1
  go_wp2_with fail
  refine (eqDataS_same ap bp l c3 c4 ps _ Q1.out Q2.out).mono ?_
  rintro e w2 ⟨rfl, hb2⟩
  have B4 := Lib.hid (B3.out.trans (hb2.mono B3.out.size))
  clear hb2
  go_wp2
  go_ret
  exact ⟨rfl, B4.out⟩

end Go.Proofs.Ytncbgejggfkdmab
