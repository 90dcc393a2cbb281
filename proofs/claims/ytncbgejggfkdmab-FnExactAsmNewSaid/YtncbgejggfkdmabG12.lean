/- Plain lemmas on receipts: valid blocks, their bytes; blocks that lie in memory. -/
import Derived.Test.YtncbgejggfkdmabG11
import Derived.Test.YtncbgejggfkdmabG8
import Derived.Laws.AppendOwn
namespace Go.Proofs.Ytncbgejggfkdmab
open Go.RowKit Go.PlainAid

theorem ser_of {a : Int} (h : 0 ≤ a ∧ a ≤ 65535) : Ser a := ⟨h.1, by omega⟩
/-- Blocks are in order and do not touch; all of them are behind 'l'. -/
def GapsOk : Int → List (Int × Int) → Prop
  | _, [] => True
  | l, g :: gs => l + 2 ≤ g.1 ∧ g.1 ≤ g.2 ∧ g.2 ≤ 16 ∧ GapsOk g.2 gs

instance gapsOkDec : (l : Int) → (gs : List (Int × Int)) → Decidable (GapsOk l gs)
  | _, [] => isTrue trivial
  | l, g :: gs => by
    have := gapsOkDec g.2 gs
    unfold GapsOk
    infer_instance

/-- A receipt is valid. -/
def SackOk (c : Int) (gs : List (Int × Int)) : Prop := (0 ≤ c ∧ c ≤ 65535) ∧ GapsOk 0 gs

instance (c : Int) (gs : List (Int × Int)) : Decidable (SackOk c gs) := by
  unfold SackOk
  infer_instance

/-- Whether a receipt is valid. -/
def sackV (c : Int) (gs : List (Int × Int)) : Bool := decide (SackOk c gs)
theorem sackV_yes {c : Int} {gs : List (Int × Int)} (h : SackOk c gs) : sackV c gs = true := decide_eq_true h
theorem sackV_no {c : Int} {gs : List (Int × Int)} (h : ¬ SackOk c gs) : sackV c gs = false := decide_eq_false h
theorem gaps_few : ∀ {l : Int} {gs : List (Int × Int)}, GapsOk l gs → l ≤ 16 → l + 2 * gs.length ≤ 16
  | _, [], _, h => by simpa using h
  | l, g :: gs, ⟨h1, h2, h3, h4⟩, _ => by
    have := gaps_few h4 h3
    simp only [List.length_cons]
    omega
theorem sack_few {c : Int} {gs : List (Int × Int)} (h : SackOk c gs) : gs.length ≤ 8 := by
  have := gaps_few h.2 (by decide)
  omega
/-- The number behind which the next block must lie. -/
def lastOf (l : Int) : List (Int × Int) → Int
  | [] => l
  | g :: gs => lastOf g.2 gs
theorem gaps_append : ∀ {l : Int} {gs hs : List (Int × Int)}, GapsOk l (gs ++ hs) ↔ GapsOk l gs ∧ GapsOk (lastOf l gs) hs
  | _, [], _ => by simp [GapsOk, lastOf]
  | l, g :: gs, hs => by
    simp only [List.cons_append, GapsOk, lastOf]
    rw [gaps_append (l := g.2) (gs := gs) (hs := hs)]
    constructor
    · rintro ⟨a, b, c, d, e⟩
      exact ⟨⟨a, b, c, d⟩, e⟩
    · rintro ⟨⟨a, b, c, d⟩, e⟩
      exact ⟨a, b, c, d, e⟩
theorem lastOf_append (l : Int) (gs : List (Int × Int)) (g : Int × Int) : lastOf l (gs ++ [g]) = g.2 := by
  induction gs generalizing l with
  | nil => rfl
  | cons x xs ih => exact ih x.2
theorem last_range {l : Int} {gs : List (Int × Int)} (h : GapsOk l gs) (h0 : 0 ≤ l) (h1 : l ≤ 16) : 0 ≤ lastOf l gs ∧ lastOf l gs ≤ 16 := by
  induction gs generalizing l with
  | nil => exact ⟨h0, h1⟩
  | cons g gs ih =>
    obtain ⟨k1, k2, k3, k4⟩ := h
    exact ih k4 (by omega) k3
theorem gaps_next {gs : List (Int × Int)} {k : Nat} {f t : Int} (hk : k < gs.length) (hf : (gs.getD k (0, 0)).1 = f) (ht : (gs.getD k (0, 0)).2 = t) (h : GapsOk 0 (gs.take k)) :
    GapsOk 0 (gs.take (k + 1)) ↔ lastOf 0 (gs.take k) + 2 ≤ f ∧ f ≤ t ∧ t ≤ 16 := by
  have e : gs.take (k + 1) = gs.take k ++ [gs.getD k (0, 0)] := by
    rw [List.take_add_one, List.getD_eq_getElem?_getD, List.getElem?_eq_getElem hk]
    rfl
  rw [e, gaps_append]
  simp only [GapsOk, hf, ht, and_true]
  exact ⟨fun h => h.2, fun k => ⟨h, k⟩⟩
theorem gaps_head {l : Int} {gs : List (Int × Int)} {k : Nat} (h : GapsOk l gs) : GapsOk l (gs.take k) := by
  rw [← List.take_append_drop k gs, gaps_append] at h
  exact h.1
theorem last_next {gs : List (Int × Int)} {k : Nat} (hk : k < gs.length) : lastOf 0 (gs.take (k + 1)) = (gs.getD k (0, 0)).2 := by
  have e : gs.take (k + 1) = gs.take k ++ [gs.getD k (0, 0)] := by
    rw [List.take_add_one, List.getD_eq_getElem?_getD, List.getElem?_eq_getElem hk]
    rfl
  rw [e, lastOf_append]
/-- The bytes of blocks. -/
def gapsS : List (Int × Int) → ByteArray
  | [] => ByteArray.mk #[]
  | g :: gs => wordS g.1 ++ wordS g.2 ++ gapsS gs
def sackS (c : Int) (gs : List (Int × Int)) : ByteArray := wordS c ++ gapsS gs
theorem gapsS_size : ∀ gs : List (Int × Int), (gapsS gs).size = 4 * gs.length
  | [] => rfl
  | g :: gs => by
    unfold gapsS
    rw [ByteArray.size_append, ByteArray.size_append, wordS_size, wordS_size, gapsS_size gs, List.length_cons]
    omega
theorem sackS_size (c : Int) (gs : List (Int × Int)) : (sackS c gs).size = 2 + 4 * gs.length := by
  unfold sackS
  rw [ByteArray.size_append, wordS_size, gapsS_size]
theorem gapsS_append (gs : List (Int × Int)) (g : Int × Int) : gapsS (gs ++ [g]) = gapsS gs ++ (wordS g.1 ++ wordS g.2) := by
  induction gs with
  | nil =>
    show wordS g.1 ++ wordS g.2 ++ ByteArray.mk #[] = ByteArray.mk #[] ++ (wordS g.1 ++ wordS g.2)
    exact (ByteArray.append_empty).trans (ByteArray.empty_append).symm
  | cons x xs ih =>
    show wordS x.1 ++ wordS x.2 ++ gapsS (xs ++ [g]) = wordS x.1 ++ wordS x.2 ++ gapsS xs ++ (wordS g.1 ++ wordS g.2)
    rw [ih]
    simp only [ByteArray.append_assoc]
theorem sackS_append (c : Int) (gs : List (Int × Int)) (g : Int × Int) : sackS c (gs ++ [g]) = sackS c gs ++ wordS g.1 ++ wordS g.2 := by
  unfold sackS
  rw [gapsS_append]
  simp only [ByteArray.append_assoc]
theorem take_next {gs : List (Int × Int)} {k : Nat} (h : k < gs.length) : gs.take (k + 1) = gs.take k ++ [gs.getD k (0, 0)] := by
  rw [List.take_add_one, List.getD_eq_getElem?_getD, List.getElem?_eq_getElem h]
  rfl

/-- The blocks that bytes hold. -/
def gapsAt (b : ByteArray) : Nat → List (Int × Int)
  | 0 => []
  | k + 1 => gapsAt b k ++ [(be b (2 + 4 * k) 2, be b (4 + 4 * k) 2)]
theorem gapsAt_length (b : ByteArray) (k : Nat) : (gapsAt b k).length = k := by
  induction k with
  | zero => rfl
  | succ k ih => rw [gapsAt, List.length_append, ih, List.length_singleton]
/-- The cells of blocks. -/
def flat : List (Int × Int) → List Value
  | [] => []
  | g :: gs => .int .i64 g.1 :: .int .i64 g.2 :: flat gs
theorem flat_append (gs hs : List (Int × Int)) : flat (gs ++ hs) = flat gs ++ flat hs := by
  induction gs with
  | nil => rfl
  | cons g gs ih => simp [flat, ih]
theorem flat_length (gs : List (Int × Int)) : (flat gs).length = 2 * gs.length := by
  induction gs with
  | nil => rfl
  | cons g gs ih => simp [flat, ih]; omega
theorem flat_get (gs : List (Int × Int)) (i : Nat) (h : i < gs.length) : (flat gs)[i * 2]? = some (.int .i64 (gs.getD i (0, 0)).1) ∧ (flat gs)[i * 2 + 1]? = some (.int .i64 (gs.getD i (0, 0)).2) := by
  induction gs generalizing i with
  | nil => simp at h
  | cons g gs ih =>
    cases i with
    | zero => exact ⟨rfl, rfl⟩
    | succ i =>
      have := ih i (by simpa using h)
      have e : (i + 1) * 2 = i * 2 + 1 + 1 := by omega
      rw [e]
      simpa [flat] using this
/-- A number of steps lies in a block. -/
def blockV (n : Int) (gs : List (Int × Int)) : Bool := gs.any fun g => decide (g.1 ≤ n ∧ n ≤ g.2)
theorem blockV_none (n : Int) : blockV n [] = false := rfl
theorem blockV_next {n f t : Int} {gs : List (Int × Int)} {k : Nat} (hk : k < gs.length) (hf : (gs.getD k (0, 0)).1 = f) (ht : (gs.getD k (0, 0)).2 = t) : blockV n (gs.take (k + 1)) = (blockV n (gs.take k) || decide (f ≤ n ∧ n ≤ t)) := by
  rw [take_next hk]
  unfold blockV
  rw [List.any_append, List.any_cons, List.any_nil, Bool.or_false, hf, ht]
theorem blockV_head {n : Int} {gs : List (Int × Int)} {k : Nat} (h : blockV n (gs.take k) = true) : blockV n gs = true := by
  unfold blockV at h ⊢
  rw [List.any_eq_true] at h ⊢
  obtain ⟨g, h1, h2⟩ := h
  exact ⟨g, List.mem_of_mem_take h1, h2⟩
/-- A slice of blocks: nil, or the cells of 'len' blocks, two each, from an address on. -/
def Gaps (w : World) (a : Option Addr) (len cap : Nat) (gs : List (Int × Int)) : Prop :=
  (a = none ∧ len = 0 ∧ cap = 0 ∧ gs = []) ∨
  ∃ x : Addr, a = some x ∧ len ≤ cap ∧ cap ≤ maxLen ∧ gs.length = len ∧ ∀ i, i < len → w.cell? (x.add (i * 2)) = some (.int .i64 (gs.getD i (0, 0)).1) ∧ w.cell? ⟨(x.add (i * 2)).block, (x.add (i * 2)).off + 1, none⟩ = some (.int .i64 (gs.getD i (0, 0)).2)
theorem Gaps.length {w : World} {a : Option Addr} {len cap : Nat} {gs : List (Int × Int)} (h : Gaps w a len cap gs) : gs.length = len := by
  rcases h with ⟨_, rfl, _, rfl⟩ | ⟨_, _, _, _, h, _⟩
  · rfl
  · exact h
theorem Gaps.below {w w' : World} {a : Option Addr} {len cap : Nat} {gs : List (Int × Int)} (h : Gaps w a len cap gs) (hb : Below w.heap.size w w') : Gaps w' a len cap gs := by
  rcases h with h | ⟨x, h1, h2, h3, h4, h5⟩
  · exact .inl h
  · refine .inr ⟨x, h1, h2, h3, h4, fun i hi => ?_⟩
    obtain ⟨p, q⟩ := h5 i hi
    exact ⟨(hb.cell (World.block_lt_of_cell? w _ p)).trans p, (hb.cell (World.block_lt_of_cell? w _ q)).trans q⟩

end Go.Proofs.Ytncbgejggfkdmab
