/- Texts that a proof needs, merged: K185. -/
import Derived.Test.YtncbgejggfkdmabM8

/- Regions that draw their order: each operation's own fact, whatever order comes; one variable is made and filled. -/
namespace Go.Proofs.Ytncbgejggfkdmab
open Go.RowKit Go.PlainAid

/-- No operation waits for one behind it, where it must wait. -/
def low2B (ops : Array Oper) : Bool := (List.range ops.size).all fun i => ((ops[i]?).map fun o => o.after.all fun e => !Region.binds .any e || decide (e.on < i)).getD true
theorem low2B_spec {ops : Array Oper} (h : low2B ops = true) : ∀ i o, ops[i]? = some o → ∀ e ∈ o.after, Region.binds .any e = true → e.on < i := by
  intro i o ho e he hb
  have hlt : i < ops.size := (Array.getElem?_eq_some_iff.1 ho).1
  have := List.all_eq_true.1 h i (List.mem_range.2 hlt)
  rw [ho] at this
  simp only [Option.map_some, Option.getD_some, Array.all_eq_true_iff_forall_mem] at this
  have := this e he
  rw [hb] at this
  simpa using this
/-- A region, by an invariant on its slots' values and the world. -/
theorem region_vals2 {P : Program} {ops : Array Oper} {Q : Exit → Act → World → Prop} {id n : Nat} {a : Act} {w : World} (ds : List Nat) (Iv : (Nat → Bool) → (Nat → Value) → World → Prop) (hm : P.follows .mixedOrders = true) (hn : ops.size = n) (hlow : low2B ops = true)
    (hs : ∀ k ∈ ds, k < a.tmps.size) (h0 : Iv (fun _ => false) (valsOf a) w.drew)
    (hstep : ∀ i l b w, i < n → l i = false → (∀ o, ops[i]? = some o → ∀ e ∈ o.after, Region.binds .any e = true → l e.on = true) → (∀ k ∈ ds, k < b.tmps.size) → Iv l (valsOf b) w →
      wpOp P ops Q i (fun b' w' => (b' = b ∨ ∃ k ∈ ds, ∃ v, b' = b.put (some k) v) ∧ Iv (more l i) (valsOf b') w') b w)
    (hend : ∀ l (V : Nat → Value) w, (∀ i, i < n → l i = true) → Iv l V w → Q .normal (ds.foldl (fun b k => b.put (some k) (V k)) a) w) : (Code.region id ops true).wp P Q a w := by
  refine region_inv (n := n) (Inv := fun l b w => Fr0 ds a b ∧ Iv l (valsOf b) w) hm hn (low2B_spec hlow) ⟨Fr0.refl _ _, h0⟩ (fun i l b w hi hl hd hI => ?_) (fun l b w hall hI => ?_)
  · have h1 := hstep i l b w hi hl hd (fun k hk => by rw [hI.1.size]; exact hs k hk) hI.2
    refine wpOp_mono (fun b' w' hb => ⟨?_, hb.2⟩) h1
    rcases hb.1 with e | ⟨k, hk, v, e⟩
    · rw [e]; exact hI.1
    · rw [e]; exact hI.1.put hk v
  · rw [hI.1.eq hs]
    exact hend l (valsOf b) w hall hI.2
/-- Whether an operation waits for another. -/
def depB (ops : Array Oper) (i j : Nat) : Bool := ((ops[i]?).map fun o => o.after.any fun e => Region.binds .any e && e.on == j).getD false
theorem depB_spec {ops : Array Oper} {i j : Nat} {l : Nat → Bool} (h : depB ops i j = true) (hd : ∀ o, ops[i]? = some o → ∀ e ∈ o.after, Region.binds .any e = true → l e.on = true) : l j = true := by
  unfold depB at h
  cases ho : ops[i]? with
  | none => rw [ho] at h; cases h
  | some o =>
    rw [ho] at h
    simp only [Option.map_some, Option.getD_some, Array.any_eq_true'] at h
    obtain ⟨e, he, h2⟩ := h
    simp only [Bool.and_eq_true, beq_iff_eq] at h2
    rw [← h2.2]
    exact hd o ho e he h2.1
/-- A set of operations that holds whatever its own wait for. -/
def Shut (ops : Array Oper) (n : Nat) (l : Nat → Bool) : Prop := ∀ i j, i < n → l i = true → depB ops i j = true → l j = true
/-- What holds while the region runs. -/
structure Fac (ops : Array Oper) (n : Nat) (dst : Nat → Nat) (is ia : Nat) (keep : Nat → Bool) (G : Nat → Value → World → Prop) (G2 : Value → World → Prop) (n0 : Nat) (w0 : World) (V0 : Nat → Value) (l : Nat → Bool) (V : Nat → Value) (W : World) : Prop where
  b : Below n0 w0 W
  sh : Shut ops n l
  fr : ∀ k, (∀ i, i < n → i ≠ is → dst i ≠ k) → V k = V0 k
  f : ∀ i, i < n → i ≠ is → l i = true → (l is = false ∨ keep i = true) → G i (V (dst i)) W
  s : l is = true → G2 (V (dst ia)) W
theorem region_facts {P : Program} {ops : Array Oper} {Q : Exit → Act → World → Prop} {id n : Nat} {a : Act} {w : World} (dst : Nat → Nat) (is ia sv : Nat) (pre keep : Nat → Bool) (nd : Nat → Nat → Bool) (G : Nat → Value → World → Prop) (G2 : Value → World → Prop) (n0 : Nat) (w0 : World)
    (hm : P.follows .mixedOrders = true) (hn : ops.size = n) (hlow : low2B ops = true) (ha : ia < n ∧ ia ≠ is ∧ depB ops is ia = true) (hv : sv < n ∧ sv ≠ is ∧ depB ops is sv = true)
    (hinj : ∀ i j, i < n → j < n → i ≠ is → j ≠ is → dst i = dst j → i = j) (hs : ∀ i, i < n → i ≠ is → dst i < a.tmps.size)
    (hreach : ∀ l : Nat → Bool, Shut ops n l → l is = true → ∀ i, i < n → pre i = true → l i = true)
    (hnd : ∀ i j, i < n → i ≠ is → nd i j = true → depB ops i j = true ∧ (j < n ∧ j ≠ is) ∧ (pre i = true ∨ keep j = true)) (hnk : pre ia = true)
    (gm : ∀ i v W W', G i v W → Below W.heap.size W W' → G i v W') (g2m : ∀ v W W', G2 v W → Below W.heap.size W W' → G2 v W') (h0 : Below n0 w0 w.drew) (hn0 : n0 ≤ w0.heap.size)
    (hstep : ∀ i b W, i < n → i ≠ is → Below n0 w0 W → (∀ k, k < n → k ≠ is → dst k < b.tmps.size) → (∀ k, (∀ i, i < n → i ≠ is → dst i ≠ k) → valsOf b k = valsOf a k) → (∀ j, nd i j = true → G j (valsOf b (dst j)) W) →
      wpOp P ops Q i (fun b' W' => ∃ v, b' = b.put (some (dst i)) v ∧ G i v W' ∧ Below W.heap.size W W') b W)
    (hstore : ∀ b W, Below n0 w0 W → (∀ k, (∀ i, i < n → i ≠ is → dst i ≠ k) → valsOf b k = valsOf a k) → G ia (valsOf b (dst ia)) W → G sv (valsOf b (dst sv)) W →
      wpOp P ops Q is (fun b' W' => b' = b ∧ G2 (valsOf b (dst ia)) W' ∧ Below n0 w0 W' ∧ ∀ k v, k < n → keep k = true → G k v W → G k v W') b W)
    (his : is < n)
    (hend : ∀ (V : Nat → Value) W, Below n0 w0 W → (∀ i, i < n → i ≠ is → keep i = true → G i (V (dst i)) W) → G2 (V (dst ia)) W → Q .normal (((List.range n).filter fun i => i != is).foldl (fun b i => b.put (some (dst i)) (V (dst i))) a) W) : (Code.region id ops true).wp P Q a w := by
  have hds : ∀ k ∈ ((List.range n).filter fun i => i != is).map dst, ∃ i, i < n ∧ i ≠ is ∧ dst i = k := fun k hk => by
    obtain ⟨i, hi, rfl⟩ := List.mem_map.1 hk
    have := List.mem_filter.1 hi
    exact ⟨i, List.mem_range.1 this.1, by simpa using this.2, rfl⟩
  have hmem : ∀ i, i < n → i ≠ is → dst i ∈ ((List.range n).filter fun i => i != is).map dst := fun i hi hne => List.mem_map.2 ⟨i, List.mem_filter.2 ⟨List.mem_range.2 hi, by simpa using hne⟩, rfl⟩
  refine region_vals2 (((List.range n).filter fun i => i != is).map dst) (Fac ops n dst is ia keep G G2 n0 w0 (valsOf a)) hm hn hlow (fun k hk => by obtain ⟨i, hi, hne, rfl⟩ := hds k hk; exact hs i hi hne) ?_ ?_ ?_
  · exact ⟨h0, (fun i j _ h => by cases h), (fun _ _ => rfl), (fun i _ _ h => by cases h), (fun h => by cases h)⟩
  · intro i l b W hi hl hd hsb hI
    have hsz : ∀ k, k < n → k ≠ is → dst k < b.tmps.size := fun k hk hne => hsb _ (hmem k hk hne)
    have shut2 : Shut ops n (more l i) := fun x y hx hmx hxy => by
      unfold more at hmx ⊢
      by_cases e : x = i
      · subst e
        rw [depB_spec hxy hd, Bool.or_true]
      · have : l x = true := by simpa [e] using hmx
        rw [hI.sh x y hx this hxy, Bool.or_true]
    by_cases hei : i = is
    · subst hei
      have hga := hI.f ia ha.1 ha.2.1 (depB_spec ha.2.2 hd) (.inl hl)
      have hgv := hI.f sv hv.1 hv.2.1 (depB_spec hv.2.2 hd) (.inl hl)
      refine wpOp_mono ?_ (hstore b W hI.b hI.fr hga hgv)
      rintro b' W' ⟨rfl, h2, h3, h4⟩
      refine ⟨.inl rfl, ⟨h3, shut2, hI.fr, fun k hk hne hlk hor => ?_, fun _ => h2⟩⟩
      have hkeep : keep k = true := by
        rcases hor with h | h
        · simp [more] at h
        · exact h
      have hlk' : l k = true := by simpa [more, hne] using hlk
      exact h4 k _ hk hkeep (hI.f k hk hne hlk' (.inl hl))
    · have hdeps : ∀ j, nd i j = true → G j (valsOf b (dst j)) W := fun j hj => by
        obtain ⟨hj1, hj2, hj3⟩ := hnd i j hi hei hj
        refine hI.f j hj2.1 hj2.2 (depB_spec hj1 hd) ?_
        cases hls : l is with
        | false => exact .inl rfl
        | true =>
          right
          cases hp : pre i with
          | true =>
            have := hreach l hI.sh hls i hi hp
            rw [hl] at this
            cases this
          | false =>
            rcases hj3 with h | h
            · rw [hp] at h
              cases h
            · exact h
      refine wpOp_mono ?_ (hstep i b W hi hei hI.b hsz hI.fr hdeps)
      rintro b' W' ⟨v, rfl, h2, h3⟩
      refine ⟨.inr ⟨dst i, hmem i hi hei, v, rfl⟩, ?_⟩
      rw [vals_put (hsz i hi hei)]
      refine ⟨hI.b.trans (h3.mono (Nat.le_trans hn0 hI.b.size)), shut2, fun k hk => ?_, fun k hk hne hlk hor => ?_, fun hls => ?_⟩
      · unfold upd
        rw [if_neg (fun e => hk i hi hei e.symm)]
        exact hI.fr k hk
      · by_cases e : k = i
        · subst e
          simpa [upd] using h2
        · have hdne : dst k ≠ dst i := fun h => e (hinj k i hk hi hne hei h)
          unfold upd
          rw [if_neg hdne]
          have hlk' : l k = true := by simpa [more, e] using hlk
          have hor' : l is = false ∨ keep k = true := by
            rcases hor with h | h
            · left
              simpa [more, Ne.symm hei] using h
            · exact .inr h
          exact gm _ _ _ _ (hI.f k hk hne hlk' hor') h3
      · have hls' : l is = true := by simpa [more, Ne.symm hei] using hls
        have hdne : dst ia ≠ dst i := fun h => by
          have := hinj ia i ha.1 hi ha.2.1 hei h
          subst this
          have := hreach l hI.sh hls' ia hi hnk
          rw [hl] at this
          cases this
        unfold upd
        rw [if_neg hdne]
        exact g2m _ _ _ (hI.s hls') h3
  · intro l V W hall hI
    have h := hend V W hI.b (fun i hi hne hk => hI.f i hi hne (hall i hi) (.inr hk)) (hI.s (hall is his))
    rw [List.foldl_map]
    exact h

/-- Whether an operation waits, by some way, for another. -/
def reachB (ops : Array Oper) (n : Nat) : Nat → Nat → Nat → Bool
  | 0, x, i => x == i
  | f + 1, x, i => x == i || (List.range n).any fun k => depB ops x k && reachB ops n f k i
theorem reachB_spec {ops : Array Oper} {n : Nat} {l : Nat → Bool} (hl : Shut ops n l) : ∀ f x i, x < n → l x = true → reachB ops n f x i = true → l i = true
  | 0, x, i, _, h, hr => by
    have : x = i := by simpa [reachB] using hr
    exact this ▸ h
  | f + 1, x, i, hx, h, hr => by
    rcases Bool.or_eq_true_iff.1 (show (x == i || (List.range n).any fun k => depB ops x k && reachB ops n f k i) = true from hr) with h1 | h1
    · have : x = i := by simpa using h1
      exact this ▸ h
    · obtain ⟨k, hk, h2⟩ := List.any_eq_true.1 h1
      have h3 := Bool.and_eq_true_iff.1 h2
      exact reachB_spec hl f k i (List.mem_range.1 hk) (hl x k hx h h3.1) h3.2
/-- What is asked of a region's shape. -/
def shapeB (ops : Array Oper) (n : Nat) (dl : List Nat) (is ia sv : Nat) (pre keep : List Nat) (nd : List (List Nat)) : Bool :=
  low2B ops && decide (ops.size = n) && (decide (ia < n) && (ia != is) && depB ops is ia) && (decide (sv < n) && (sv != is) && depB ops is sv) && decide (is < n) &&
  ((List.range n).all fun i => (List.range n).all fun j => i == is || j == is || i == j || dl.getD i 0 != dl.getD j 0) &&
  ((List.range n).all fun i => !pre.contains i || reachB ops n n is i) && pre.contains ia &&
  ((List.range n).all fun i => i == is || (nd.getD i []).all fun j => depB ops i j && (decide (j < n) && j != is && (pre.contains i || keep.contains j)))
def dstL (dl : List Nat) (i : Nat) : Nat := dl.getD i 0
theorem region_by {P : Program} {ops : Array Oper} {Q : Exit → Act → World → Prop} {id : Nat} {a : Act} {w : World} (n : Nat) (dl : List Nat) (is ia sv : Nat) (pre keep : List Nat) (nd : List (List Nat)) (G : Nat → Value → World → Prop) (G2 : Value → World → Prop) (n0 : Nat) (w0 : World) (ds : List Nat)
    (hm : P.follows .mixedOrders = true) (hsh : shapeB ops n dl is ia sv pre keep nd = true) (hds : ((List.range n).filter fun i => i != is).map (dstL dl) = ds) (hs : ∀ k ∈ ds, k < a.tmps.size)
    (gm : ∀ i v W W', G i v W → Below W.heap.size W W' → G i v W') (g2m : ∀ v W W', G2 v W → Below W.heap.size W W' → G2 v W') (h0 : Below n0 w0 w.drew) (hn0 : n0 ≤ w0.heap.size)
    (hstep : ∀ i b W, i < n → i ≠ is → Below n0 w0 W → (∀ k ∈ ds, k < b.tmps.size) → (∀ k, k ∉ ds → valsOf b k = valsOf a k) → (∀ j, (nd.getD i []).contains j = true → G j (valsOf b (dstL dl j)) W) →
      wpOp P ops Q i (fun b' W' => ∃ v, b' = b.put (some (dstL dl i)) v ∧ G i v W' ∧ Below W.heap.size W W') b W)
    (hstore : ∀ b W, Below n0 w0 W → (∀ k, k ∉ ds → valsOf b k = valsOf a k) → G ia (valsOf b (dstL dl ia)) W → G sv (valsOf b (dstL dl sv)) W →
      wpOp P ops Q is (fun b' W' => b' = b ∧ G2 (valsOf b (dstL dl ia)) W' ∧ Below n0 w0 W' ∧ ∀ k v, k < n → keep.contains k = true → G k v W → G k v W') b W)
    (hend : ∀ (V : Nat → Value) W, Below n0 w0 W → (∀ i, i < n → i ≠ is → keep.contains i = true → G i (V (dstL dl i)) W) → G2 (V (dstL dl ia)) W → Q .normal (ds.foldl (fun b k => b.put (some k) (V k)) a) W) : (Code.region id ops true).wp P Q a w := by
  unfold shapeB at hsh
  simp only [Bool.and_eq_true, decide_eq_true_eq, bne_iff_ne, ne_eq] at hsh
  obtain ⟨⟨⟨⟨⟨⟨⟨⟨hlow, hn⟩, ⟨h1, h2⟩, h3⟩, ⟨h4, h5⟩, h6⟩, h7⟩, h8⟩, h9⟩, h10⟩, h11⟩ := hsh
  have hin : ∀ k, k ∉ ds → ∀ i, i < n → i ≠ is → dstL dl i ≠ k := fun k hk i hi hne e => hk (by rw [← hds, ← e]; exact List.mem_map.2 ⟨i, List.mem_filter.2 ⟨List.mem_range.2 hi, by simpa using hne⟩, rfl⟩)
  have hmem : ∀ i, i < n → i ≠ is → dstL dl i ∈ ds := fun i hi hne => by rw [← hds]; exact List.mem_map.2 ⟨i, List.mem_filter.2 ⟨List.mem_range.2 hi, by simpa using hne⟩, rfl⟩
  have hout : ∀ {k}, (∀ i, i < n → i ≠ is → dstL dl i ≠ k) → k ∉ ds := fun {k} h hk => by
    rw [← hds] at hk
    obtain ⟨i, hi, e⟩ := List.mem_map.1 hk
    have := List.mem_filter.1 hi
    exact h i (List.mem_range.1 this.1) (by simpa using this.2) e
  have hout2 : ∀ {b : Act}, (∀ k, (∀ i, i < n → i ≠ is → dstL dl i ≠ k) → valsOf b k = valsOf a k) → ∀ k, k ∉ ds → valsOf b k = valsOf a k := fun h k hk => h k (hin k hk)
  have hsz : ∀ {b : Act}, (∀ k, k < n → k ≠ is → dstL dl k < b.tmps.size) → ∀ k ∈ ds, k < b.tmps.size := fun h k hk => by
    rw [← hds] at hk
    obtain ⟨i, hi, rfl⟩ := List.mem_map.1 hk
    have := List.mem_filter.1 hi
    exact h i (List.mem_range.1 this.1) (by simpa using this.2)
  have hpre2 : ∀ i j, i < n → i ≠ is → (nd.getD i []).contains j = true → depB ops i j = true ∧ (j < n ∧ j ≠ is) ∧ (pre.contains i = true ∨ keep.contains j = true) := fun i j hi hne hj => by
    have hx := List.all_eq_true.1 h11 i (List.mem_range.2 hi)
    have hy : ((nd.getD i []).all fun j => depB ops i j && (decide (j < n) && j != is && (pre.contains i || keep.contains j))) = true := by
      rcases Bool.or_eq_true_iff.1 hx with h | h
      · exact absurd (by simpa using h) hne
      · exact h
    have hz := List.all_eq_true.1 hy j (List.contains_iff_mem.1 hj)
    simp only [Bool.and_eq_true, decide_eq_true_eq, bne_iff_ne, ne_eq, Bool.or_eq_true] at hz
    exact ⟨hz.1, ⟨hz.2.1.1, hz.2.1.2⟩, hz.2.2⟩
  refine region_facts (n := n) (dstL dl) is ia sv (fun i => pre.contains i) (fun i => keep.contains i) (fun i j => (nd.getD i []).contains j) G G2 n0 w0 hm hn hlow ⟨h1, h2, h3⟩ ⟨h4, h5, h6⟩ ?_ (fun i hi hne => hs _ (hmem i hi hne)) ?_ hpre2 h10 gm g2m h0 hn0 ?_ ?_ h7 ?_
  · intro i j hi hj hni hnj e
    have := List.all_eq_true.1 (List.all_eq_true.1 h8 i (List.mem_range.2 hi)) j (List.mem_range.2 hj)
    simp only [Bool.or_eq_true, beq_iff_eq, bne_iff_ne, ne_eq] at this
    rcases this with ((h | h) | h) | h
    · exact absurd h hni
    · exact absurd h hnj
    · exact h
    · exact absurd e h
  · intro l hl hls i hi hp
    have := List.all_eq_true.1 h9 i (List.mem_range.2 hi)
    rw [show pre.contains i = true from hp] at this
    exact reachB_spec hl n is i h7 hls (by simpa using this)
  · intro i b W hi hne hb hz hf hd
    exact hstep i b W hi hne hb (hsz hz) (hout2 hf) hd
  · intro b W hb hf hga hgv
    exact hstore b W hb (hout2 hf) hga hgv
  · intro V W hb hk h2
    have h := hend V W hb hk h2
    rw [← hds, List.foldl_map] at h
    exact h

end Go.Proofs.Ytncbgejggfkdmab
