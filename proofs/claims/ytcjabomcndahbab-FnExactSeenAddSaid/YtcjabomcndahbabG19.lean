/- A heap of numbers, plain: up, down, and the parts ahead that it holds. -/
import Derived.Test.YtcjabomcndahbabK90
import Derived.Test.YtcjabomcndahbabG18
namespace Go.Proofs.Ytcjabomcndahbab
open Go.RowKit Go.PlainAid

/-- None of the first n is less than the one above it. -/
def HeapOk (es : List Int) (n : Nat) : Prop := ∀ k, 0 < k → k < n → nAt es ((k - 1) / 2) ≤ nAt es k
/-- Two are exchanged. -/
def swapL (es : List Int) (i j : Nat) : List Int := (es.set i (nAt es j)).set j (nAt es i)
theorem nAt_set {es : List Int} {i : Nat} (v : Int) (h : i < es.length) (k : Nat) : nAt (es.set i v) k = if k = i then v else nAt es k := by
  unfold nAt
  rw [List.getD_eq_getElem?_getD, List.getD_eq_getElem?_getD, List.getElem?_set]
  by_cases e : i = k
  · subst e
    simp [h]
  · rw [if_neg e, if_neg fun e' => e e'.symm]
theorem swapL_length (es : List Int) (i j : Nat) : (swapL es i j).length = es.length := by simp [swapL]
theorem nAt_swap {es : List Int} {i j : Nat} (hi : i < es.length) (hj : j < es.length) (k : Nat) : nAt (swapL es i j) k = if k = j then nAt es i else if k = i then nAt es j else nAt es k := by
  unfold swapL
  rw [nAt_set _ (by simpa using hj), nAt_set _ hi]
theorem nAt_get {es : List Int} {i : Nat} (h : i < es.length) : es[i] = nAt es i := by
  unfold nAt
  rw [List.getD_eq_getElem?_getD, List.getElem?_eq_getElem h]
  rfl
theorem swapL_perm {es : List Int} {i j : Nat} (hi : i < es.length) (hj : j < es.length) : (swapL es i j).Perm es := by
  have := List.set_set_perm hi hj
  rw [nAt_get hi, nAt_get hj] at this
  exact this
/-- While one moves up. -/
structure UpOk (es : List Int) (n j : Nat) : Prop where
  rest : ∀ k, 0 < k → k < n → k ≠ j → nAt es ((k - 1) / 2) ≤ nAt es k
  over : ∀ k, 0 < k → k < n → (k - 1) / 2 = j → 0 < j → nAt es ((j - 1) / 2) ≤ nAt es k
theorem up_done {es : List Int} {n j : Nat} (h : UpOk es n j) (hd : j = 0 ∨ nAt es ((j - 1) / 2) ≤ nAt es j) : HeapOk es n := by
  intro k h0 hk
  by_cases e : k = j
  · subst e
    rcases hd with hd | hd
    · omega
    · exact hd
  · exact h.rest k h0 hk e
theorem up_swap {es : List Int} {n j : Nat} (hn : n ≤ es.length) (h : UpOk es n j) (h0 : 0 < j) (hj : j < n) (hl : nAt es j < nAt es ((j - 1) / 2)) : UpOk (swapL es ((j - 1) / 2) j) n ((j - 1) / 2) := by
  obtain ⟨i, hi⟩ : ∃ i, (j - 1) / 2 = i := ⟨_, rfl⟩
  rw [hi] at hl ⊢
  have hij : i < j := by omega
  have S := nAt_swap (es := es) (i := i) (j := j) (by omega) (by omega)
  refine ⟨fun k k0 kn ki => ?_, fun k k0 kn ki i0 => ?_⟩
  · obtain ⟨p, hp⟩ : ∃ p, (k - 1) / 2 = p := ⟨_, rfl⟩
    have hpk : p < k := by omega
    rw [hp, S, S]
    by_cases e1 : k = j
    · subst e1
      have : p = i := by omega
      subst this
      rw [if_neg (by omega), if_pos rfl, if_pos rfl]
      omega
    · rw [if_neg e1, if_neg ki]
      have h1 := h.rest k k0 kn e1
      rw [hp] at h1
      by_cases e2 : p = j
      · rw [if_pos e2]
        have := h.over k k0 kn (by omega) h0
        rwa [hi] at this
      · rw [if_neg e2]
        by_cases e3 : p = i
        · rw [if_pos e3]
          subst e3
          omega
        · rw [if_neg e3]
          exact h1
  · obtain ⟨p, hp⟩ : ∃ p, (i - 1) / 2 = p := ⟨_, rfl⟩
    have hpi : p < i := by omega
    have h1 := h.rest i i0 (by omega) (by omega)
    rw [hp] at h1 ⊢
    rw [S, S, if_neg (by omega), if_neg (by omega)]
    by_cases e1 : k = j
    · rw [if_pos e1]
      exact h1
    · rw [if_neg e1, if_neg (by omega)]
      have := h.rest k k0 kn e1
      rw [ki] at this
      omega
/-- While one moves down. -/
structure DnOk (es : List Int) (n i : Nat) : Prop where
  rest : ∀ k, 0 < k → k < n → (k - 1) / 2 ≠ i → nAt es ((k - 1) / 2) ≤ nAt es k
  over : ∀ k, 0 < k → k < n → (k - 1) / 2 = i → 0 < i → nAt es ((i - 1) / 2) ≤ nAt es k
theorem dn_done {es : List Int} {n i : Nat} (h : DnOk es n i) (hd : ∀ k, 0 < k → k < n → (k - 1) / 2 = i → nAt es i ≤ nAt es k) : HeapOk es n := by
  intro k h0 hk
  by_cases e : (k - 1) / 2 = i
  · rw [e]
    exact hd k h0 hk e
  · exact h.rest k h0 hk e
theorem dn_swap {es : List Int} {n i j : Nat} (hn : n ≤ es.length) (h : DnOk es n i) (h0 : 0 < j) (hj : j < n) (hi : (j - 1) / 2 = i) (hl : nAt es j < nAt es i) (hm : ∀ k, 0 < k → k < n → (k - 1) / 2 = i → nAt es j ≤ nAt es k) : DnOk (swapL es i j) n j := by
  have hij : i < j := by omega
  have S := nAt_swap (es := es) (i := i) (j := j) (by omega) (by omega)
  refine ⟨fun k k0 kn kj => ?_, fun k k0 kn kj _ => ?_⟩
  · obtain ⟨p, hp⟩ : ∃ p, (k - 1) / 2 = p := ⟨_, rfl⟩
    have hpk : p < k := by omega
    rw [hp] at kj
    rw [hp, S, S, if_neg kj]
    by_cases e1 : p = i
    · rw [if_pos e1]
      by_cases e2 : k = j
      · rw [if_pos e2]
        omega
      · rw [if_neg e2, if_neg (by omega)]
        exact hm k k0 kn (by omega)
    · rw [if_neg e1]
      have h1 := h.rest k k0 kn (by omega)
      rw [hp] at h1
      by_cases e2 : k = j
      · omega
      · rw [if_neg e2]
        by_cases e3 : k = i
        · rw [if_pos e3]
          have := h.over j h0 hj hi (by omega)
          rw [show (i - 1) / 2 = p by omega] at this
          exact this
        · rw [if_neg e3]
          exact h1
  · rw [hi, S, S, if_neg (by omega), if_pos rfl, if_neg (by omega), if_neg (by omega)]
    have := h.rest k k0 kn (by omega)
    rw [kj] at this
    exact this
theorem heap_top {es : List Int} {n : Nat} (h : HeapOk es n) : ∀ (m k : Nat), k < m → k < n → nAt es 0 ≤ nAt es k := by
  intro m
  induction m with
  | zero => intro k hk; omega
  | succ m ih =>
    intro k hk hn
    by_cases h0 : k = 0
    · subst h0
      exact Int.le_refl _
    · exact Int.le_trans (ih ((k - 1) / 2) (by omega) (by omega)) (h k (by omega) hn)
/-- The one on top is taken to the end. -/
theorem dn_start {es : List Int} {n : Nat} (hl : es.length = n + 1) (h : HeapOk es (n + 1)) : DnOk (swapL es 0 n) n 0 := by
  have S := nAt_swap (es := es) (i := 0) (j := n) (by omega) (by omega)
  refine ⟨fun k k0 kn hp => ?_, fun k k0 kn hp h0 => by omega⟩
  rw [S, S, if_neg (by omega), if_neg (by omega), if_neg (by omega), if_neg (by omega)]
  exact h k k0 (by omega)
theorem nAt_append {es ds : List Int} {k : Nat} (h : k < es.length) : nAt (es ++ ds) k = nAt es k := by
  unfold nAt
  rw [List.getD_eq_getElem?_getD, List.getD_eq_getElem?_getD, List.getElem?_append_left h]
theorem nAt_last (es : List Int) (d : Int) : nAt (es ++ [d]) es.length = d := by
  unfold nAt
  simp
theorem nAt_take {es : List Int} {n k : Nat} (h : k < n) : nAt (es.take n) k = nAt es k := by
  unfold nAt
  rw [List.getD_eq_getElem?_getD, List.getD_eq_getElem?_getD, List.getElem?_take, if_pos h]
/-- One is put at the end. -/
theorem up_start {es : List Int} {n : Nat} (hl : es.length = n) (h : HeapOk es n) (d : Int) : UpOk (es ++ [d]) (n + 1) n := by
  subst hl
  refine ⟨fun k k0 kn hk => ?_, fun k k0 kn hp h0 => by omega⟩
  rw [nAt_append (by omega), nAt_append (by omega)]
  exact h k k0 (by omega)
theorem heap_take {es : List Int} {n : Nat} (h : HeapOk es n) : HeapOk (es.take n) n := by
  intro k k0 kn
  rw [nAt_take (by omega), nAt_take (by omega)]
  exact h k k0 kn
/-- What is left when the one on top has been taken away. -/
structure Popped (es : List Int) (m : Int) (rest : List Int) : Prop where
  heap : HeapOk rest rest.length
  perm : (m :: rest).Perm es
  top : m = nAt es 0
theorem popped {es ds : List Int} {n : Nat} (hl : es.length = n + 1) (hd : ds.length = n + 1) (hp : ds.Perm (swapL es 0 n)) (hh : HeapOk ds n) (hn : nAt ds n = nAt (swapL es 0 n) n) : Popped es (nAt ds n) (ds.take n) := by
  have e : ds = ds.take n ++ [nAt ds n] := by
    rw [← take_nAt (by omega), List.take_of_length_le (by omega)]
  refine ⟨?_, ?_, ?_⟩
  · rw [List.length_take, show min n ds.length = n by omega]
    exact heap_take hh
  · refine List.Perm.trans ?_ (hp.trans (swapL_perm (by omega) (by omega)))
    have : (nAt ds n :: ds.take n).Perm (ds.take n ++ [nAt ds n]) := List.perm_append_comm (l₁ := [nAt ds n])
    rwa [← e] at this
  · rw [hn, nAt_swap (by omega) (by omega), if_pos rfl]
theorem Popped.len {es rest : List Int} {m : Int} (h : Popped es m rest) : es.length = rest.length + 1 := by
  have := h.perm.length_eq
  simpa using this.symm
theorem Popped.least {es rest : List Int} {m : Int} (h : Popped es m rest) (hh : HeapOk es es.length) : ∀ e ∈ es, m ≤ e := by
  intro e he
  obtain ⟨k, hk, rfl⟩ := List.getElem_of_mem he
  rw [nAt_get hk, h.top]
  exact heap_top hh (k + 1) k (by omega) hk
theorem asc_nAt : ∀ {l : Int} {es : List Int} {i j : Nat}, AscOk l es → i < j → j < es.length → nAt es i < nAt es j
  | _, [], _, _, _, _, h => absurd h (by simp)
  | _, e :: es, _, 0, _, h, _ => absurd h (by omega)
  | _, e :: es, 0, j + 1, ha, _, h => by
    have hj : j < es.length := by simpa using h
    have h1 := asc_low ha.2 (nAt es j) (nAt_mem hj)
    show e < nAt es j
    omega
  | _, e :: es, i + 1, j + 1, ha, hij, h => asc_nAt (es := es) ha.2 (by omega) (by simpa using h)
/-- Ascending numbers are a heap. -/
theorem asc_heap {l : Int} {es : List Int} (h : AscOk l es) : HeapOk es es.length := by
  intro k k0 kn
  have := asc_nAt (i := (k - 1) / 2) (j := k) h (by omega) kn
  omega
theorem asc_nodup {l : Int} {es : List Int} (h : AscOk l es) : es.Nodup := by
  induction es generalizing l with
  | nil => exact List.nodup_nil
  | cons e es ih =>
    refine List.nodup_cons.2 ⟨fun he => ?_, ih h.2⟩
    have := asc_low h.2 e he
    omega
/-- While the parts ahead move on: n steps so far; those further ahead lie in a heap. -/
structure Go1 (P : Int → Prop) (n : Int) (es : List Int) : Prop where
  n0 : 0 ≤ n
  run : ∀ j, 1 ≤ j → j ≤ n → P j
  heap : HeapOk es es.length
  nod : es.Nodup
  mem : ∀ j, j ∈ es ↔ P j ∧ n < j
theorem go1_step {P : Int → Prop} {n m : Int} {es rest : List Int} (h : Go1 P n es) (hp : Popped es m rest) (hm : nAt es 0 = n + 1) : Go1 P (n + 1) rest := by
  have h0 := h.n0
  have hm' : m = n + 1 := by rw [hp.top, hm]
  have hmem : ∀ j, j ∈ es ↔ j = m ∨ j ∈ rest := fun j => (hp.perm.mem_iff (a := j)).symm.trans List.mem_cons
  have hnd := (hp.perm.nodup_iff).2 h.nod
  have hnot : m ∉ rest := (List.nodup_cons.1 hnd).1
  have hP : P (n + 1) := ((h.mem _).1 ((hmem _).2 (.inl hm'.symm))).1
  refine ⟨by omega, fun j h1 h2 => ?_, hp.heap, (List.nodup_cons.1 hnd).2, fun j => ?_⟩
  · by_cases e : j = n + 1
    · rw [e]; exact hP
    · exact h.run j h1 (by omega)
  · constructor
    · intro hj
      have h1 := (h.mem j).1 ((hmem j).2 (.inr hj))
      refine ⟨h1.1, ?_⟩
      have : j ≠ m := fun e => hnot (e ▸ hj)
      omega
    · rintro ⟨h1, h2⟩
      rcases (hmem j).1 ((h.mem j).2 ⟨h1, by omega⟩) with h3 | h3
      · omega
      · exact h3
theorem go1_stop {P : Int → Prop} {n : Int} {es : List Int} (h : Go1 P n es) (hs : es.length = 0 ∨ nAt es 0 ≠ n + 1) : ¬ P (n + 1) := by
  intro hP
  have hin := (h.mem (n + 1)).2 ⟨hP, by omega⟩
  obtain ⟨k, hk, hke⟩ := List.getElem_of_mem hin
  rcases hs with hs | hs
  · omega
  · rw [nAt_get hk] at hke
    have h1 := heap_top h.heap (k + 1) k (by omega) hk
    have h2 := (h.mem _).1 (nAt_mem (es := es) (i := 0) (by omega))
    omega
/-- While those left are taken out of the heap, the nearest first. -/
structure Go2 (P : Int → Prop) (n : Int) (es ds : List Int) : Prop where
  n0 : 0 ≤ n
  run : ∀ j, 1 ≤ j → j ≤ n → P j
  stop : ¬ P (n + 1)
  heap : HeapOk es es.length
  nod : es.Nodup
  asc : AscOk 1 ds
  mem : ∀ j, j ∈ ds ↔ 1 ≤ j ∧ P (j + n) ∧ j + n ∉ es
  sub : ∀ e ∈ es, P e
  last : ∀ e ∈ es, lastE 1 ds + n + 1 ≤ e
theorem go2_start {P : Int → Prop} {n : Int} {es : List Int} (h : Go1 P n es) (hs : ¬ P (n + 1)) : Go2 P n es [] := by
  refine ⟨h.n0, h.run, hs, h.heap, h.nod, trivial, fun j => ⟨fun hj => by simp at hj, fun ⟨h1, h2, h3⟩ => absurd ((h.mem _).2 ⟨h2, by omega⟩) h3⟩, fun e he => ((h.mem e).1 he).1, fun e he => ?_⟩
  have h1 := (h.mem e).1 he
  show 1 + n + 1 ≤ e
  by_cases e1 : e = n + 1
  · exact absurd (e1 ▸ h1.1) hs
  · omega
theorem go2_step {P : Int → Prop} {n m : Int} {es rest ds : List Int} (h : Go2 P n es ds) (hP : ∀ j, P j → 1 ≤ j ∧ j ≤ 16) (hp : Popped es m rest) : Go2 P n rest (ds ++ [m - n]) := by
  have h0 := h.n0
  have hmem : ∀ j, j ∈ es ↔ j = m ∨ j ∈ rest := fun j => (hp.perm.mem_iff (a := j)).symm.trans List.mem_cons
  have hnd := (hp.perm.nodup_iff).2 h.nod
  have hnot : m ∉ rest := (List.nodup_cons.1 hnd).1
  have hme : m ∈ es := (hmem m).2 (.inl rfl)
  have hPm := h.sub m hme
  have hl := h.last m hme
  have hr := hP m hPm
  have hl1 := (lastE_range h.asc (by decide)).1
  refine ⟨h0, h.run, h.stop, hp.heap, (List.nodup_cons.1 hnd).2, asc_snoc.2 ⟨h.asc, by omega, by omega⟩, fun j => ?_, fun e he => h.sub e ((hmem e).2 (.inr he)), fun e he => ?_⟩
  · rw [List.mem_append, h.mem j, hmem]
    constructor
    · rintro (⟨h1, h2, h3⟩ | h1)
      · exact ⟨h1, h2, fun h4 => h3 (.inr h4)⟩
      · have e : j = m - n := by simpa using h1
        refine ⟨by omega, ?_, ?_⟩
        · rw [e, show m - n + n = m by omega]; exact hPm
        · rw [e, show m - n + n = m by omega]; exact hnot
    · rintro ⟨h1, h2, h3⟩
      by_cases e : j + n = m
      · exact .inr (by simp; omega)
      · exact .inl ⟨h1, h2, fun h4 => h4.elim e h3⟩
  · rw [lastE_snoc]
    have h1 := hp.least h.heap e ((hmem e).2 (.inr he))
    have h2 : e ≠ m := fun e1 => hnot (e1 ▸ he)
    omega
theorem go2_end {P : Int → Prop} {n : Int} {es ds : List Int} (h : Go2 P n es ds) (he : es.length = 0) : Moved P n ds := by
  have e0 : es = [] := List.length_eq_zero_iff.1 he
  subst e0
  exact ⟨h.n0, h.run, h.stop, h.asc, fun j => (h.mem j).trans ⟨fun ⟨h1, h2, _⟩ => ⟨h1, h2⟩, fun ⟨h1, h2⟩ => ⟨h1, h2, by simp⟩⟩⟩
theorem go2_few {P : Int → Prop} {n : Int} {es ds : List Int} (h : Go2 P n es ds) : ds.length ≤ 15 := by
  have := asc_few h.asc (by decide)
  omega
/-- The parts ahead, and a fresh one. -/
theorem go1_start {es hs : List Int} {d : Int} (ha : AscOk 1 es) (hf : Fresh es d) (hh : HeapOk hs hs.length) (hp : hs.Perm (es ++ [d])) : Go1 (With es d) 0 hs := by
  have hnd : (es ++ [d]).Nodup := by
    have : (d :: es).Nodup := List.nodup_cons.2 ⟨hf.2.2, asc_nodup ha⟩
    exact ((List.perm_append_comm (l₁ := [d]) (l₂ := es)).nodup_iff).1 this
  refine ⟨Int.le_refl _, fun j h1 h2 => by omega, hh, (hp.nodup_iff).2 hnd, fun j => ?_⟩
  rw [hp.mem_iff, List.mem_append]
  constructor
  · intro h
    have h1 : With es d j := h.elim .inl fun h => .inr (by simpa using h)
    exact ⟨h1, by have := with_range ha hf.1 hf.2.1 j h1; omega⟩
  · rintro ⟨h | h, _⟩
    · exact .inl h
    · exact .inr (by simp [h])
theorem perm_nAt {es ds : List Int} (h : ds.Perm es) : ds.length = es.length := h.length_eq

end Go.Proofs.Ytcjabomcndahbab
