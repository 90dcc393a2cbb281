/- What has arrived, plain: parts ahead, moving on, receipts of it. -/
import Derived.Test.YtncbgejggfkdmabG12
namespace Go.Proofs.Ytncbgejggfkdmab
open Go.RowKit Go.PlainAid

/-- Numbers ascend, from behind l up to 16. -/
def AscOk : Int → List Int → Prop
  | _, [] => True
  | l, e :: es => (l + 1 ≤ e ∧ e ≤ 16) ∧ AscOk e es
instance ascDec : (l : Int) → (es : List Int) → Decidable (AscOk l es)
  | _, [] => .isTrue trivial
  | l, e :: es => by
    unfold AscOk
    have := ascDec e es
    infer_instance
/-- The last number. -/
def lastE : Int → List Int → Int
  | l, [] => l
  | _, e :: es => lastE e es
theorem lastE_snoc (l : Int) (es : List Int) (e : Int) : lastE l (es ++ [e]) = e := by
  induction es generalizing l with
  | nil => rfl
  | cons x xs ih => exact ih x
theorem asc_snoc {l : Int} {es : List Int} {e : Int} : AscOk l (es ++ [e]) ↔ AscOk l es ∧ lastE l es + 1 ≤ e ∧ e ≤ 16 := by
  induction es generalizing l with
  | nil => exact ⟨fun h => ⟨trivial, h.1⟩, fun h => ⟨h.2, trivial⟩⟩
  | cons x xs ih =>
    show (l + 1 ≤ x ∧ x ≤ 16) ∧ AscOk x (xs ++ [e]) ↔ ((l + 1 ≤ x ∧ x ≤ 16) ∧ AscOk x xs) ∧ lastE x xs + 1 ≤ e ∧ e ≤ 16
    rw [ih]
    simp only [and_assoc]
theorem asc_left {l : Int} {es ds : List Int} (h : AscOk l (es ++ ds)) : AscOk l es := by
  induction es generalizing l with
  | nil => trivial
  | cons x xs ih => exact ⟨h.1, ih h.2⟩
theorem asc_low {l : Int} {es : List Int} (h : AscOk l es) : ∀ e ∈ es, l + 1 ≤ e ∧ e ≤ 16 := by
  induction es generalizing l with
  | nil => exact fun e he => by simp at he
  | cons x xs ih =>
    intro e he
    rcases List.mem_cons.1 he with rfl | he
    · exact h.1
    · have := ih h.2 e he
      have := h.1.1
      omega
theorem asc_few {l : Int} {es : List Int} (h : AscOk l es) (hl : l ≤ 16) : l + es.length ≤ 16 := by
  induction es generalizing l with
  | nil => simpa using hl
  | cons x xs ih =>
    have := ih h.2 h.1.2
    have := h.1.1
    rw [List.length_cons]
    omega
theorem asc_weak {l l' : Int} {es : List Int} (h : AscOk l es) (hl : l' ≤ l) : AscOk l' es := by
  cases es with
  | nil => trivial
  | cons e es => exact ⟨⟨by have := h.1.1; omega, h.1.2⟩, h.2⟩
theorem lastE_range {l : Int} {es : List Int} (h : AscOk l es) (hl : l ≤ 16) : l ≤ lastE l es ∧ lastE l es ≤ 16 := by
  induction es generalizing l with
  | nil => exact ⟨Int.le_refl _, hl⟩
  | cons x xs ih =>
    have := ih h.2 h.1.2
    have := h.1.1
    show l ≤ lastE x xs ∧ lastE x xs ≤ 16
    omega
/-- Ascending numbers are told by which they are. -/
theorem asc_ext : ∀ {l m : Int} {es ds : List Int}, AscOk l es → AscOk m ds → (∀ j, j ∈ es ↔ j ∈ ds) → es = ds
  | _, _, [], [], _, _, _ => rfl
  | _, _, [], d :: ds, _, _, h => absurd ((h d).2 List.mem_cons_self) (by simp)
  | _, _, e :: es, [], _, _, h => absurd ((h e).1 List.mem_cons_self) (by simp)
  | l, m, e :: es, d :: ds, h1, h2, h => by
    have le := asc_low h1.2
    have ld := asc_low h2.2
    have e1 : e = d := by
      rcases List.mem_cons.1 ((h e).1 List.mem_cons_self) with h3 | h3
      · exact h3
      · rcases List.mem_cons.1 ((h d).2 List.mem_cons_self) with h4 | h4
        · exact h4.symm
        · have := ld e h3
          have := le d h4
          omega
    subst e1
    rw [asc_ext h1.2 h2.2 fun j => ?_]
    constructor
    · intro hj
      rcases List.mem_cons.1 ((h j).1 (List.mem_cons_of_mem _ hj)) with h3 | h3
      · have := le j hj
        omega
      · exact h3
    · intro hj
      rcases List.mem_cons.1 ((h j).2 (List.mem_cons_of_mem _ hj)) with h3 | h3
      · have := ld j hj
        omega
      · exact h3
/-- A value is valid. -/
def SeenOk (c : Int) (es : List Int) : Prop := (0 ≤ c ∧ c ≤ 65535) ∧ AscOk 1 es
instance (c : Int) (es : List Int) : Decidable (SeenOk c es) := by
  unfold SeenOk
  infer_instance
def seenV (c : Int) (es : List Int) : Bool := decide (SeenOk c es)
theorem seenV_yes {c : Int} {es : List Int} (h : SeenOk c es) : seenV c es = true := decide_eq_true h
theorem seenV_no {c : Int} {es : List Int} (h : ¬ SeenOk c es) : seenV c es = false := decide_eq_false h
theorem seen_ser {c : Int} {es : List Int} (h : SeenOk c es) : Ser c := ser_of h.1
instance (a : Int) : Decidable (Ser a) := by
  unfold Ser
  infer_instance
/-- A part has arrived. -/
def HasS (c : Int) (es : List Int) (t : Int) : Prop := diffS c t ≤ 0 ∨ diffS c t ∈ es
instance (c : Int) (es : List Int) (t : Int) : Decidable (HasS c es t) := by
  unfold HasS
  infer_instance
/-- What SeenHas answers. -/
def hasSV (c : Int) (es : List Int) (t : Int) : Bool := decide (SeenOk c es ∧ Ser t ∧ HasS c es t)
/-- The value moves on by n steps, as far as those that P tells have arrived; those left are es. -/
structure Moved (P : Int → Prop) (n : Int) (es : List Int) : Prop where
  n0 : 0 ≤ n
  run : ∀ j, 1 ≤ j → j ≤ n → P j
  stop : ¬ P (n + 1)
  asc : AscOk 1 es
  mem : ∀ j, j ∈ es ↔ 1 ≤ j ∧ P (j + n)
theorem moved_one {P : Int → Prop} {n m : Int} {es ds : List Int} (h : Moved P n es) (k : Moved P m ds) : n = m ∧ es = ds := by
  have e : n = m := by
    rcases Int.lt_trichotomy n m with hl | hl | hl
    · exact absurd (k.run (n + 1) (by have := h.n0; omega) (by omega)) h.stop
    · exact hl
    · exact absurd (h.run (m + 1) (by have := k.n0; omega) (by omega)) k.stop
  subst e
  exact ⟨rfl, asc_ext h.asc k.asc fun j => (h.mem j).trans (k.mem j).symm⟩
theorem moved_congr {P Q : Int → Prop} {n : Int} {es : List Int} (h : Moved P n es) (e : ∀ j, P j ↔ Q j) : Moved Q n es :=
  ⟨h.n0, fun j h1 h2 => (e j).1 (h.run j h1 h2), fun k => h.stop ((e _).2 k), h.asc, fun j => (h.mem j).trans (by rw [e (j + n)])⟩
/-- Moving on twice. -/
theorem moved_two {P : Int → Prop} {n m e : Int} {es ds : List Int} (h : Moved P n es) (k : Moved (fun j => j ∈ es ∨ j = e - n) m ds) : Moved (fun j => P j ∨ j = e) (n + m) ds := by
  have hn := h.n0
  have hm := k.n0
  refine ⟨by omega, fun j h1 h2 => ?_, fun hs => k.stop ?_, k.asc, fun j => (k.mem j).trans ?_⟩
  · by_cases hj : j ≤ n
    · exact .inl (h.run j h1 hj)
    · rcases k.run (j - n) (by omega) (by omega) with h3 | h3
      · have := ((h.mem _).1 h3).2
        rw [show j - n + n = j by omega] at this
        exact .inl this
      · exact .inr (by omega)
  · rcases hs with hs | hs
    · refine .inl ((h.mem _).2 ⟨by omega, ?_⟩)
      rw [show m + 1 + n = n + m + 1 by omega]
      exact hs
    · exact .inr (by omega)
  · constructor
    · rintro ⟨h1, h2 | h2⟩
      · refine ⟨h1, .inl ?_⟩
        have := ((h.mem _).1 h2).2
        rwa [show j + m + n = j + (n + m) by omega] at this
      · exact ⟨h1, .inr (by omega)⟩
    · rintro ⟨h1, h2 | h2⟩
      · refine ⟨h1, .inl ((h.mem _).2 ⟨by omega, ?_⟩)⟩
        rwa [show j + m + n = j + (n + m) by omega]
      · exact ⟨h1, .inr (by omega)⟩
theorem moved_range {P : Int → Prop} {n : Int} {es : List Int} (h : Moved P n es) (hP : ∀ j, P j → 1 ≤ j ∧ j ≤ 16) : n ≤ 16 := by
  by_cases h0 : n = 0
  · omega
  · exact (hP n (h.run n (by have := h.n0; omega) (Int.le_refl _))).2
/-- What arrives ahead: those that had arrived, and the one d steps ahead. -/
def With (es : List Int) (d : Int) : Int → Prop := fun j => j ∈ es ∨ j = d
theorem with_range {es : List Int} {d : Int} (h : AscOk 1 es) (h1 : 1 ≤ d) (h2 : d ≤ 16) : ∀ j, With es d j → 1 ≤ j ∧ j ≤ 16 := by
  rintro j (hj | rfl)
  · have := asc_low h j hj
    omega
  · exact ⟨h1, h2⟩
/-- A part is fresh: d steps ahead, at most 16, and not there. -/
def Fresh (es : List Int) (d : Int) : Prop := 1 ≤ d ∧ d ≤ 16 ∧ d ∉ es
/-- What SeenAdd answers to valid arguments: a value and a code. -/
def AddIs (c : Int) (es : List Int) (t : Int) (c2 : Int) (es2 : List Int) (code : Int) : Prop :=
  (HasS c es t ∧ c2 = c ∧ es2 = es ∧ code = 1)
  ∨ (¬ HasS c es t ∧ 16 < diffS c t ∧ c2 = c ∧ es2 = es ∧ code = 2)
  ∨ (Fresh es (diffS c t) ∧ code = 0 ∧ ∃ n, Moved (With es (diffS c t)) n es2 ∧ c2 = addS c n)
theorem fresh_not {c t : Int} {es : List Int} (h : Fresh es (diffS c t)) : ¬ HasS c es t := by
  rintro (h1 | h1)
  · have := h.1
    omega
  · exact h.2.2 h1
theorem add_one {c t c2 c3 : Int} {es e2 e3 : List Int} {k2 k3 : Int} (h : AddIs c es t c2 e2 k2) (k : AddIs c es t c3 e3 k3) : c2 = c3 ∧ e2 = e3 ∧ k2 = k3 := by
  rcases h with ⟨h1, rfl, rfl, rfl⟩ | ⟨h1, h2, rfl, rfl, rfl⟩ | ⟨h1, rfl, n, h2, rfl⟩ <;> rcases k with ⟨k1, rfl, rfl, rfl⟩ | ⟨k1, k2, rfl, rfl, rfl⟩ | ⟨k1, rfl, m, k2, rfl⟩
  · exact ⟨rfl, rfl, rfl⟩
  · exact absurd h1 k1
  · exact absurd h1 (fresh_not k1)
  · exact absurd k1 h1
  · exact ⟨rfl, rfl, rfl⟩
  · have := k1.2.1
    omega
  · exact absurd k1 (fresh_not h1)
  · have := h1.2.1
    omega
  · obtain ⟨rfl, rfl⟩ := moved_one h2 k2
    exact ⟨rfl, rfl, rfl⟩
theorem diff_two {c d n : Int} (h1 : -100 ≤ d ∧ d ≤ 100) (h2 : -100 ≤ n ∧ n ≤ 100) : diffS (addS c n) (addS c d) = d - n := by
  unfold diffS addS
  split <;> omega
theorem diff_near {c d : Int} (h1 : -100 ≤ d ∧ d ≤ 100) : diffS c (addS c d) = d := by
  unfold diffS addS
  split <;> omega
section
variable {c t c2 : Int} {es es2 : List Int} {n : Int}
/-- What a fresh part leads to. -/
theorem fresh_ok (hs : SeenOk c es) (hf : Fresh es (diffS c t)) (hm : Moved (With es (diffS c t)) n es2) : SeenOk (addS c n) es2 ∧ 0 ≤ n ∧ n ≤ 16 :=
  ⟨⟨ser_le (addS_ser c n), hm.asc⟩, hm.n0, moved_range hm (with_range hs.2 hf.1 hf.2.1)⟩
theorem fresh_has (hs : SeenOk c es) (ht : Ser t) (hf : Fresh es (diffS c t)) (hm : Moved (With es (diffS c t)) n es2) : HasS (addS c n) es2 t := by
  obtain ⟨_, h1, h2⟩ := fresh_ok hs hf hm
  have e : diffS (addS c n) t = diffS c t - n := by
    have h3 := diffS_leads c ht
    have := diff_two (c := c) (d := diffS c t) (n := n) (by have := hf.1; have := hf.2.1; omega) (by omega)
    rwa [h3] at this
  unfold HasS
  rw [e]
  by_cases h3 : diffS c t ≤ n
  · exact .inl (by omega)
  · exact .inr ((hm.mem _).2 ⟨by omega, .inr (by omega)⟩)
theorem fresh_others (hs : SeenOk c es) (hf : Fresh es (diffS c t)) (hm : Moved (With es (diffS c t)) n es2) {k : Int} (hk : -3 ≤ k ∧ k ≤ 17) (hne : k ≠ diffS c t) : HasS (addS c n) es2 (addS c k) ↔ HasS c es (addS c k) := by
  obtain ⟨_, h1, h2⟩ := fresh_ok hs hf hm
  unfold HasS
  rw [diff_two (by omega) (by omega), diff_near (by omega)]
  constructor
  · rintro (h3 | h3)
    · by_cases h4 : k ≤ 0
      · exact .inl h4
      · rcases hm.run k (by omega) (by omega) with h5 | h5
        · exact .inr h5
        · exact absurd h5 hne
    · have h4 := (hm.mem _).1 h3
      rw [show k - n + n = k by omega] at h4
      rcases h4.2 with h5 | h5
      · exact .inr h5
      · exact absurd h5 hne
  · rintro (h3 | h3)
    · exact .inl (by omega)
    · by_cases h4 : k ≤ n
      · exact .inl (by omega)
      · refine .inr ((hm.mem _).2 ⟨by omega, .inl ?_⟩)
        rw [show k - n + n = k by omega]
        exact h3
end
/-- Two fresh parts lead to the same in either order. -/
theorem add_order {c t : Int} {es e1 e2 e3 e4 : List Int} {n1 n2 m1 m2 e : Int} (h1 : Moved (With es (diffS c t)) n1 e1) (h2 : Moved (With e1 (e - n1)) m1 e3) (k1 : Moved (With es e) n2 e2) (k2 : Moved (With e2 (diffS c t - n2)) m2 e4) : addS (addS c n1) m1 = addS (addS c n2) m2 ∧ e3 = e4 := by
  have a := moved_two h1 h2
  have b := moved_two k1 k2
  have := moved_one a (moved_congr b fun j => by unfold With; constructor <;> rintro ((h | h) | h) <;> first | exact .inl (.inl h) | exact .inl (.inr h) | exact .inr h)
  rw [addS_sum, addS_sum, this.1]
  exact ⟨rfl, this.2⟩
theorem next_fresh {c : Int} {es : List Int} (h : SeenOk c es) : Fresh es (diffS c (addS c 1)) := by
  rw [diff_near (by omega)]
  refine ⟨by omega, by omega, fun hj => ?_⟩
  have := asc_low h.2 1 hj
  omega
theorem next_moves {P : Int → Prop} {n : Int} {es : List Int} (h : Moved P n es) (h1 : P 1) : 1 ≤ n := by
  have h0 := h.n0
  by_cases hn : n = 0
  · have := h.stop
    rw [hn] at this
    exact absurd h1 this
  · omega
/-- A number of steps lies in a block. -/
def Blk (gs : List (Int × Int)) (j : Int) : Prop := ∃ g ∈ gs, g.1 ≤ j ∧ j ≤ g.2
theorem blk_nil (j : Int) : ¬ Blk [] j := by rintro ⟨g, hg, _⟩; simp at hg
theorem blk_cons {g : Int × Int} {gs : List (Int × Int)} {j : Int} : Blk (g :: gs) j ↔ (g.1 ≤ j ∧ j ≤ g.2) ∨ Blk gs j := by
  constructor
  · rintro ⟨x, hx, h⟩
    rcases List.mem_cons.1 hx with rfl | hx
    · exact .inl h
    · exact .inr ⟨x, hx, h⟩
  · rintro (h | ⟨x, hx, h⟩)
    · exact ⟨g, List.mem_cons_self, h⟩
    · exact ⟨x, List.mem_cons_of_mem _ hx, h⟩
theorem blk_snoc {g : Int × Int} {gs : List (Int × Int)} {j : Int} : Blk (gs ++ [g]) j ↔ Blk gs j ∨ (g.1 ≤ j ∧ j ≤ g.2) := by
  induction gs with
  | nil => rw [List.nil_append, blk_cons]; exact or_comm
  | cons x xs ih => rw [List.cons_append, blk_cons, blk_cons, ih, or_assoc]
theorem blk_low {l : Int} {gs : List (Int × Int)} (h : GapsOk l gs) : ∀ j, Blk gs j → l + 2 ≤ j ∧ j ≤ 16 := by
  induction gs generalizing l with
  | nil => exact fun j hj => absurd hj (blk_nil j)
  | cons g gs ih =>
    intro j hj
    obtain ⟨h1, h2, h3, h4⟩ := h
    rcases blk_cons.1 hj with h5 | h5
    · omega
    · have := ih h4 j h5
      omega
/-- Blocks are told by which numbers lie in them. -/
theorem gaps_ext : ∀ {l m : Int} {gs hs : List (Int × Int)}, GapsOk l gs → GapsOk m hs → (∀ j, Blk gs j ↔ Blk hs j) → gs = hs
  | _, _, [], [], _, _, _ => rfl
  | _, _, [], g :: gs, _, h2, h => absurd ((h g.1).2 (blk_cons.2 (.inl ⟨Int.le_refl _, h2.2.1⟩))) (blk_nil _)
  | _, _, g :: gs, [], h1, _, h => absurd ((h g.1).1 (blk_cons.2 (.inl ⟨Int.le_refl _, h1.2.1⟩))) (blk_nil _)
  | l, m, (a, b) :: gs, (p, q) :: hs, h1, h2, h => by
    obtain ⟨_, ab, _, h1t⟩ := h1
    obtain ⟨_, pq, _, h2t⟩ := h2
    have lg := blk_low h1t
    have lh := blk_low h2t
    have ea : a = p := by
      have x1 : Blk ((p, q) :: hs) a := (h a).1 (blk_cons.2 (.inl ⟨Int.le_refl _, ab⟩))
      have x2 : Blk ((a, b) :: gs) p := (h p).2 (blk_cons.2 (.inl ⟨Int.le_refl _, pq⟩))
      rcases blk_cons.1 x1 with x1 | x1 <;> rcases blk_cons.1 x2 with x2 | x2
      · simp only at x1 x2; omega
      · have := lg _ x2; simp only at x1 this pq ab; omega
      · have := lh _ x1; simp only at x2 this pq ab; omega
      · have := lg _ x2
        have := lh _ x1
        simp only at *
        omega
    subst ea
    have eb : b = q := by
      rcases Int.lt_trichotomy b q with hl | hl | hl
      · exfalso
        have x := (h (b + 1)).2 (blk_cons.2 (.inl ⟨by simp only at *; omega, by simp only at *; omega⟩))
        rcases blk_cons.1 x with x | x
        · simp only at x; omega
        · have := lg _ x; simp only at this; omega
      · exact hl
      · exfalso
        have x := (h (q + 1)).1 (blk_cons.2 (.inl ⟨by simp only at *; omega, by simp only at *; omega⟩))
        rcases blk_cons.1 x with x | x
        · simp only at x; omega
        · have := lh _ x; simp only at this; omega
    subst eb
    rw [gaps_ext h1t h2t fun j => ?_]
    constructor
    · intro hj
      rcases blk_cons.1 ((h j).1 (blk_cons.2 (.inr hj))) with x | x
      · have := lg _ hj; simp only at this x; omega
      · exact x
    · intro hj
      rcases blk_cons.1 ((h j).2 (blk_cons.2 (.inr hj))) with x | x
      · have := lh _ hj; simp only at this x; omega
      · exact x
/-- The blocks of a receipt tell which parts have arrived ahead. -/
structure Told (es : List Int) (gs : List (Int × Int)) : Prop where
  asc : AscOk 1 es
  gaps : GapsOk 0 gs
  mem : ∀ j, j ∈ es ↔ Blk gs j
theorem told_gaps {es : List Int} {gs hs : List (Int × Int)} (h : Told es gs) (k : Told es hs) : gs = hs := gaps_ext h.gaps k.gaps fun j => (h.mem j).symm.trans (k.mem j)
theorem told_seen {es ds : List Int} {gs : List (Int × Int)} (h : Told es gs) (k : Told ds gs) : es = ds := asc_ext h.asc k.asc fun j => (h.mem j).trans (k.mem j).symm

/-- A part ahead may be missing. -/
theorem asc_drop : ∀ {l : Int} {es : List Int} (k : Nat), AscOk l es → k < es.length → AscOk l (es.take k ++ es.drop (k + 1))
  | l, [], _, _, h => absurd h (by simp)
  | l, e :: es, 0, ⟨h1, h2⟩, _ => asc_weak h2 (by omega)
  | l, e :: es, k + 1, ⟨h1, h2⟩, h => ⟨h1, asc_drop k h2 (by simpa using h)⟩
/-- None may stand twice. -/
theorem asc_twice : ∀ {l : Int} {es : List Int} (k : Nat), k < es.length → ¬ AscOk l (es.take (k + 1) ++ es.drop k)
  | l, [], _, h => absurd h (by simp)
  | l, e :: es, 0, _ => fun h => by
    have := h.2.1.1
    omega
  | l, e :: es, k + 1, h => fun hk => asc_twice k (by simpa using h) hk.2

end Go.Proofs.Ytncbgejggfkdmab
