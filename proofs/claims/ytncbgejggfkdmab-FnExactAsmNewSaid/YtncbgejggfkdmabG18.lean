/- What has arrived, plain: the steps of the model's loops. -/
import Derived.Test.YtncbgejggfkdmabG17
namespace Go.Proofs.Ytncbgejggfkdmab
open Go.RowKit Go.PlainAid

/-- While those left are collected, up to k. -/
structure Mv (P : Int → Prop) (n k : Int) (ds : List Int) : Prop where
  asc : AscOk 1 ds
  mem : ∀ j, j ∈ ds ↔ 1 ≤ j ∧ j + n < k ∧ P (j + n)
  last : lastE 1 ds ≤ k - 1 - n ∨ k = n + 1
section
variable {P : Int → Prop} {n k : Int} {ds : List Int}
theorem mv_start : Mv P n (n + 1) [] := ⟨trivial, fun j => ⟨fun h => by simp at h, fun h => by omega⟩, .inr rfl⟩
theorem mv_no (h : Mv P n k ds) (_ : n + 1 ≤ k) (hp : ¬ P k) : Mv P n (k + 1) ds := by
  refine ⟨h.asc, fun j => (h.mem j).trans ⟨fun ⟨h1, h2, h3⟩ => ⟨h1, by omega, h3⟩, fun ⟨h1, h2, h3⟩ => ⟨h1, ?_, h3⟩⟩, ?_⟩
  · by_cases e : j + n = k
    · exact absurd (e ▸ h3) hp
    · omega
  · rcases h.last with h1 | h1
    · exact .inl (by omega)
    · have e : ds = [] := List.eq_nil_iff_forall_not_mem.2 fun j hj => by
        have := (h.mem j).1 hj
        omega
      subst e
      exact .inl (by show (1 : Int) ≤ _; omega)
theorem mv_yes (h : Mv P n k ds) (hn : 0 ≤ n) (hk : n + 1 ≤ k) (h16 : k ≤ 16) (hs : ¬ P (n + 1)) (hp : P k) : Mv P n (k + 1) (ds ++ [k - n]) := by
  have hkn : k ≠ n + 1 := fun e => hs (e ▸ hp)
  have hl : lastE 1 ds ≤ k - 1 - n := by
    rcases h.last with h1 | h1
    · exact h1
    · exact absurd h1 hkn
  refine ⟨asc_snoc.2 ⟨h.asc, by omega, by omega⟩, fun j => ?_, .inl (by rw [lastE_snoc]; omega)⟩
  rw [List.mem_append, h.mem j]
  constructor
  · rintro (⟨h1, h2, h3⟩ | h1)
    · exact ⟨h1, by omega, h3⟩
    · have e : j = k - n := by simpa using h1
      exact ⟨by omega, by omega, by rw [e, show k - n + n = k by omega]; exact hp⟩
  · rintro ⟨h1, h2, h3⟩
    by_cases e : j + n = k
    · exact .inr (by simp; omega)
    · exact .inl ⟨h1, by omega, h3⟩
theorem mv_end (h : Mv P n 17 ds) (hn : 0 ≤ n) (hr : ∀ j, 1 ≤ j → j ≤ n → P j) (hs : ¬ P (n + 1)) (hP : ∀ j, P j → 1 ≤ j ∧ j ≤ 16) : Moved P n ds :=
  ⟨hn, hr, hs, h.asc, fun j => (h.mem j).trans ⟨fun ⟨h1, _, h3⟩ => ⟨h1, h3⟩, fun ⟨h1, h3⟩ => ⟨h1, by have := (hP _ h3).2; omega, h3⟩⟩⟩
theorem mv_few (h : Mv P n k ds) : ds.length ≤ 16 := by
  have := asc_few h.asc (by decide)
  omega
end
theorem gaps_snoc {l : Int} {gs : List (Int × Int)} {f t : Int} : GapsOk l (gs ++ [(f, t)]) ↔ GapsOk l gs ∧ lastOf l gs + 2 ≤ f ∧ f ≤ t ∧ t ≤ 16 := by
  rw [gaps_append]
  simp only [GapsOk, and_true]
/-- While a receipt is made, up to k. -/
structure Tl (es : List Int) (k : Int) (gs : List (Int × Int)) : Prop where
  gaps : GapsOk 0 gs
  mem : ∀ j, Blk gs j ↔ j ∈ es ∧ j < k
  last : lastOf 0 gs ≤ k - 1
section
variable {es : List Int} {k : Int} {gs : List (Int × Int)}
theorem tl_start (h : AscOk 1 es) : Tl es 2 [] :=
  ⟨trivial, fun j => ⟨fun h => absurd h (blk_nil j), fun ⟨h1, h2⟩ => by have := asc_low h j h1; omega⟩, by show (0 : Int) ≤ _; omega⟩
theorem tl_no (h : Tl es k gs) (hk : k ∉ es) : Tl es (k + 1) gs :=
  ⟨h.gaps, fun j => (h.mem j).trans ⟨fun ⟨h1, h2⟩ => ⟨h1, by omega⟩, fun ⟨h1, h2⟩ => ⟨h1, by
    by_cases e : j = k
    · exact absurd (e ▸ h1) hk
    · omega⟩⟩, by have := h.last; omega⟩
theorem tl_more {f : Int} (h : Tl es k (gs ++ [(f, k - 1)])) (hk : k ∈ es) (h16 : k ≤ 16) : Tl es (k + 1) (gs ++ [(f, k)]) := by
  obtain ⟨h1, h2, h3, h4⟩ := gaps_snoc.1 h.gaps
  refine ⟨gaps_snoc.2 ⟨h1, h2, by omega, h16⟩, fun j => ?_, by rw [lastOf_append]; show k ≤ _; omega⟩
  have := h.mem j
  rw [blk_snoc] at this ⊢
  by_cases e : j = k
  · subst e
    exact ⟨fun _ => ⟨hk, by omega⟩, fun _ => .inr ⟨by show f ≤ j; omega, Int.le_refl _⟩⟩
  · constructor
    · rintro (h5 | ⟨h5, h6⟩)
      · have := this.1 (.inl h5)
        exact ⟨this.1, by omega⟩
      · have := this.1 (.inr ⟨h5, by simp only at h6 ⊢; omega⟩)
        exact ⟨this.1, by omega⟩
    · rintro ⟨h5, h6⟩
      rcases this.2 ⟨h5, by omega⟩ with h7 | ⟨h7, h8⟩
      · exact .inl h7
      · exact .inr ⟨h7, by simp only at h8 ⊢; omega⟩
theorem tl_new (h : Tl es k gs) (hk : k ∈ es) (h2k : 2 ≤ k) (h16 : k ≤ 16) (hl : gs = [] ∨ lastOf 0 gs ≠ k - 1) : Tl es (k + 1) (gs ++ [(k, k)]) := by
  have h1 : lastOf 0 gs + 2 ≤ k := by
    rcases hl with rfl | hl
    · show (0 : Int) + 2 ≤ k; omega
    · have := h.last; omega
  refine ⟨gaps_snoc.2 ⟨h.gaps, h1, Int.le_refl _, h16⟩, fun j => ?_, by rw [lastOf_append]; show k ≤ _; omega⟩
  rw [blk_snoc, h.mem j]
  constructor
  · rintro (⟨h5, h6⟩ | ⟨h5, h6⟩)
    · exact ⟨h5, by omega⟩
    · have e : j = k := by simp only at h5 h6; omega
      exact ⟨e ▸ hk, by omega⟩
  · rintro ⟨h5, h6⟩
    by_cases e : j = k
    · exact .inr ⟨by simp only; omega, by simp only; omega⟩
    · exact .inl ⟨h5, by omega⟩
theorem tl_end (h : Tl es 17 gs) (ha : AscOk 1 es) : Told es gs :=
  ⟨ha, h.gaps, fun j => ⟨fun hj => (h.mem j).2 ⟨hj, by have := asc_low ha j hj; omega⟩, fun hj => ((h.mem j).1 hj).1⟩⟩
theorem tl_few (h : Tl es k gs) : gs.length ≤ 8 := by
  have := gaps_few h.gaps (by decide)
  omega
end
/-- While the parts of blocks are collected: those of the first i blocks, and from f up to k. -/
structure Sl (gs : List (Int × Int)) (i : Nat) (f k : Int) (ds : List Int) : Prop where
  asc : AscOk 1 ds
  mem : ∀ j, j ∈ ds ↔ Blk (gs.take i) j ∨ (f ≤ j ∧ j < k)
  last : lastE 1 ds + 1 ≤ k
theorem sl_step {gs : List (Int × Int)} {i : Nat} {f k : Int} {ds : List Int} (h : Sl gs i f k ds) (hf : f ≤ k) (hk : k ≤ 16) : Sl gs i f (k + 1) (ds ++ [k]) := by
  refine ⟨asc_snoc.2 ⟨h.asc, h.last, hk⟩, fun j => ?_, by rw [lastE_snoc]; omega⟩
  rw [List.mem_append, h.mem j, or_assoc]
  constructor
  · rintro (h1 | h1 | h1)
    · exact .inl h1
    · exact .inr ⟨h1.1, by omega⟩
    · have e : j = k := by simpa using h1
      exact .inr ⟨by omega, by omega⟩
  · rintro (h1 | h1)
    · exact .inl h1
    · by_cases e : j = k
      · exact .inr (.inr (by simp [e]))
      · exact .inr (.inl ⟨h1.1, by omega⟩)
/-- Between two blocks. -/
structure So (gs : List (Int × Int)) (i : Nat) (ds : List Int) : Prop where
  asc : AscOk 1 ds
  mem : ∀ j, j ∈ ds ↔ Blk (gs.take i) j
  last : lastE 1 ds ≤ lastOf 0 (gs.take i) + 1
theorem so_start (gs : List (Int × Int)) : So gs 0 [] := ⟨trivial, fun j => ⟨fun h => by simp at h, fun h => absurd h (blk_nil j)⟩, by show (1 : Int) ≤ 0 + 1; omega⟩
theorem so_in {gs : List (Int × Int)} {i : Nat} {ds : List Int} {f t : Int} (h : So gs i ds) (hg : GapsOk 0 gs) (hi : i < gs.length) (hf : (gs.getD i (0, 0)).1 = f) (ht : (gs.getD i (0, 0)).2 = t) : Sl gs i f f ds ∧ 2 ≤ f ∧ f ≤ t ∧ t ≤ 16 := by
  have hn := (gaps_next hi hf ht (gaps_head hg)).1 (gaps_head hg)
  have := last_range (gaps_head (k := i) hg) (by decide) (by decide)
  have hl := h.last
  exact ⟨⟨h.asc, fun j => (h.mem j).trans ⟨fun h => .inl h, fun h => by exact h.elim (fun h => h) (fun h => absurd h.1 (by omega))⟩, by omega⟩, by omega, hn.2.1, hn.2.2⟩
theorem so_out {gs : List (Int × Int)} {i : Nat} {ds : List Int} {f t : Int} (h : Sl gs i f (t + 1) ds) (hi : i < gs.length) (hf : (gs.getD i (0, 0)).1 = f) (ht : (gs.getD i (0, 0)).2 = t) : So gs (i + 1) ds := by
  refine ⟨h.asc, fun j => ?_, ?_⟩
  · rw [h.mem j, take_next hi, blk_snoc, hf, ht]
    exact ⟨fun h => by exact h.elim (fun h => .inl h) (fun h => .inr ⟨h.1, by omega⟩), fun h => by exact h.elim (fun h => .inl h) (fun h => .inr ⟨h.1, by omega⟩)⟩
  · rw [last_next hi, ht]
    have := h.last
    omega
theorem so_end {gs : List (Int × Int)} {i : Nat} {ds : List Int} (h : So gs i ds) (hi : i = gs.length) (hg : GapsOk 0 gs) : Told ds gs := by
  subst hi
  have hm := h.mem
  rw [List.take_of_length_le (Nat.le_refl _)] at hm
  exact ⟨h.asc, hg, hm⟩
theorem sl_few {gs : List (Int × Int)} {i : Nat} {f k : Int} {ds : List Int} (h : Sl gs i f k ds) : ds.length ≤ 15 := by
  have := asc_few h.asc (by decide)
  omega

theorem run_some (P : Int → Prop) (h17 : ¬ P 17) : ∀ (m : Nat) (n : Int), 0 ≤ n → n + m = 16 → (∀ j, 1 ≤ j → j ≤ n → P j) → ∃ n, 0 ≤ n ∧ n ≤ 16 ∧ (∀ j, 1 ≤ j → j ≤ n → P j) ∧ ¬ P (n + 1)
  | 0, n, h0, hm, hr => ⟨n, h0, by omega, hr, by rw [show n + 1 = 17 by omega]; exact h17⟩
  | m + 1, n, h0, hm, hr => by
    by_cases hp : P (n + 1)
    · refine run_some P h17 m (n + 1) (by omega) (by omega) fun j h1 h2 => ?_
      by_cases e : j = n + 1
      · rw [e]; exact hp
      · exact hr j h1 (by omega)
    · exact ⟨n, h0, by omega, hr, hp⟩
theorem mv_some (P : Int → Prop) (n : Int) (hn : 0 ≤ n) (hs : ¬ P (n + 1)) : ∀ (m : Nat) (k : Int) (ds : List Int), n + 1 ≤ k → k + m = 17 → Mv P n k ds → ∃ ds, Mv P n 17 ds
  | 0, k, ds, _, hm, h => ⟨ds, by rw [show (17 : Int) = k by omega]; exact h⟩
  | m + 1, k, ds, hk, hm, h => by
    by_cases hp : P k
    · exact mv_some P n hn hs m (k + 1) _ (by omega) (by omega) (mv_yes h hn hk (by omega) hs hp)
    · exact mv_some P n hn hs m (k + 1) _ (by omega) (by omega) (mv_no h hk hp)
theorem moved_some {P : Int → Prop} (hP : ∀ j, P j → 1 ≤ j ∧ j ≤ 16) : ∃ n es, Moved P n es := by
  obtain ⟨n, h0, h1, hr, hs⟩ := run_some P (fun h => by have := (hP 17 h).2; omega) 16 0 (by omega) (by omega) fun j h1 h2 => by omega
  obtain ⟨ds, hd⟩ := mv_some P n h0 hs (16 - n.toNat) (n + 1) [] (Int.le_refl _) (by omega) mv_start
  exact ⟨n, ds, mv_end hd h0 hr hs hP⟩
theorem told_sack {gs : List (Int × Int)} (h : GapsOk 0 gs) : ∃ es, Told es gs := by
  have hl := blk_low h
  obtain ⟨es, he⟩ := mv_some (Blk gs) 0 (by omega) (fun h => by have := (hl _ h).1; omega) 16 (0 + 1) [] (Int.le_refl _) (by omega) mv_start
  have hm := mv_end he (by omega) (fun j h1 h2 => by omega) (fun h => by have := (hl _ h).1; omega) fun j hj => by have := hl j hj; omega
  refine ⟨es, hm.asc, h, fun j => (hm.mem j).trans ?_⟩
  rw [Int.add_zero]
  exact ⟨fun h => h.2, fun h => ⟨by have := (hl j h).1; omega, h⟩⟩
theorem tl_some {es : List Int} : ∀ (m : Nat) (k : Int) (gs : List (Int × Int)), 2 ≤ k → k + m = 17 → Tl es k gs → ∃ gs, Tl es 17 gs
  | 0, k, gs, _, hm, h => ⟨gs, by rw [show (17 : Int) = k by omega]; exact h⟩
  | m + 1, k, gs, hk, hm, h => by
    by_cases hp : k ∈ es
    · by_cases hl : gs = [] ∨ lastOf 0 gs ≠ k - 1
      · exact tl_some m (k + 1) _ (by omega) (by omega) (tl_new h hp hk (by omega) hl)
      · have h1 : gs ≠ [] := fun e => hl (.inl e)
        have h2 : lastOf 0 gs = k - 1 := Classical.byContradiction fun e => hl (.inr e)
        obtain ⟨hs, g, rfl⟩ : ∃ hs g, gs = hs ++ [g] := ⟨gs.dropLast, gs.getLast h1, (List.dropLast_concat_getLast h1).symm⟩
        obtain ⟨f, t⟩ := g
        rw [lastOf_append] at h2
        obtain rfl : t = k - 1 := h2
        exact tl_some m (k + 1) _ (by omega) (by omega) (tl_more h hp (by omega))
    · exact tl_some m (k + 1) _ (by omega) (by omega) (tl_no h hp)
theorem told_seen_some {es : List Int} (h : AscOk 1 es) : ∃ gs, Told es gs := by
  obtain ⟨gs, hg⟩ := tl_some 15 2 [] (by omega) (by omega) (tl_start h)
  exact ⟨gs, tl_end hg h⟩
/-- What SeenAdd answers to any arguments. -/
def AddV (c : Int) (es : List Int) (t : Int) (c2 : Int) (es2 : List Int) (code : Int) : Prop :=
  ((SeenOk c es ∧ Ser t) ∧ AddIs c es t c2 es2 code) ∨ (¬ (SeenOk c es ∧ Ser t) ∧ c2 = 0 ∧ es2 = [] ∧ code = 3)
theorem addV_one {c t c2 c3 : Int} {es e2 e3 : List Int} {k2 k3 : Int} (h : AddV c es t c2 e2 k2) (k : AddV c es t c3 e3 k3) : c2 = c3 ∧ e2 = e3 ∧ k2 = k3 := by
  rcases h with ⟨h1, h2⟩ | ⟨h1, rfl, rfl, rfl⟩ <;> rcases k with ⟨k1, k2⟩ | ⟨k1, rfl, rfl, rfl⟩
  · exact add_one h2 k2
  · exact absurd h1 k1
  · exact absurd k1 h1
  · exact ⟨rfl, rfl, rfl⟩
theorem addV_some (c : Int) (es : List Int) (t : Int) : ∃ c2 es2 code, AddV c es t c2 es2 code := by
  by_cases h : SeenOk c es ∧ Ser t
  · by_cases h1 : HasS c es t
    · exact ⟨c, es, 1, .inl ⟨h, .inl ⟨h1, rfl, rfl, rfl⟩⟩⟩
    · by_cases h2 : 16 < diffS c t
      · exact ⟨c, es, 2, .inl ⟨h, .inr (.inl ⟨h1, h2, rfl, rfl, rfl⟩)⟩⟩
      · have hf : Fresh es (diffS c t) := ⟨Classical.byContradiction fun e => h1 (.inl (by omega)), by omega, fun e => h1 (.inr e)⟩
        obtain ⟨n, ds, hm⟩ := moved_some (with_range h.1.2 hf.1 hf.2.1)
        exact ⟨addS c n, ds, 0, .inl ⟨h, .inr (.inr ⟨hf, rfl, n, hm, rfl⟩)⟩⟩
  · exact ⟨0, [], 3, .inr ⟨h, rfl, rfl, rfl⟩⟩
/-- The code of a part tells what holds of it. -/
theorem addIs_code {c t c2 code : Int} {es e2 : List Int} (ha : AscOk 1 es) (h : AddIs c es t c2 e2 code) : (code = 0 ∨ code = 1 ∨ code = 2) ∧ (code = 1 ↔ HasS c es t) ∧ (code = 2 ↔ 16 < diffS c t) ∧ (code ≠ 0 → c2 = c ∧ e2 = es) := by
  rcases h with ⟨h1, rfl, rfl, rfl⟩ | ⟨h1, h2, rfl, rfl, rfl⟩ | ⟨h1, rfl, n, h2, rfl⟩
  · refine ⟨.inr (.inl rfl), ⟨fun _ => h1, fun _ => rfl⟩, ⟨fun h => absurd h (by decide), fun h => ?_⟩, fun _ => ⟨rfl, rfl⟩⟩
    rcases h1 with h1 | h1
    · omega
    · have := asc_low ha _ h1
      omega
  · exact ⟨.inr (.inr rfl), ⟨fun h => absurd h (by decide), fun h => absurd h h1⟩, ⟨fun _ => h2, fun _ => rfl⟩, fun _ => ⟨rfl, rfl⟩⟩
  · exact ⟨.inl rfl, ⟨fun h => absurd h (by decide), fun h => absurd h (fresh_not h1)⟩, ⟨fun h => absurd h (by decide), fun h => by have := h1.2.1; omega⟩, fun h => absurd rfl h⟩

end Go.Proofs.Ytncbgejggfkdmab
