/- Records that are linked through pointers: the program's chain, and what a further record does to it. -/
import Derived.Test.YtodpbjomiplphabK71
import Derived.Test.YtodpbjomiplphabK20v
import Derived.Handy
namespace Go.Proofs.Ytodpbjomiplphab
open Go.RowKit Go.PlainAid

/-- A link lies at block d: a record, and where the next one lies. -/
structure LinkAt (w : World) (d : Nat) (r : Int × ByteArray) (nx : Option Addr) : Prop where
  c0 : w.cell? ⟨d, 0, none⟩ = some (.int .i64 r.1)
  c1 : w.cell? ⟨d, 1, none⟩ = some (.string r.2)
  c2 : w.cell? ⟨d, 2, none⟩ = some (.pointer nx)
  f2 : w.frozen? ⟨d, 2, none⟩ = false
/-- Where the i-th of n links lies, if there is one. -/
def nxt (b : Nat → Nat) (n i : Nat) : Option Addr := if i < n then some ⟨b i, 0, none⟩ else none
theorem nxt_some {b : Nat → Nat} {n i : Nat} (h : i < n) : nxt b n i = some ⟨b i, 0, none⟩ := if_pos h
theorem nxt_none {b : Nat → Nat} {n i : Nat} (h : ¬ i < n) : nxt b n i = none := if_neg h
/-- A chain of n links at block C: its first link, its last one, how many. -/
structure Chain (w : World) (C n : Nat) (b : Nat → Nat) (rs : List (Int × ByteArray)) : Prop where
  len : rs.length = n
  c0 : w.cell? ⟨C, 0, none⟩ = some (.pointer (nxt b n 0))
  c1 : w.cell? ⟨C, 1, none⟩ = some (.pointer (nxt b n (n - 1)))
  c2 : w.cell? ⟨C, 2, none⟩ = some (.int .i64 n)
  fr : ∀ j, w.frozen? ⟨C, j, none⟩ = false
  up : ∀ i, i < n → C < b i
  asc : ∀ i j, i < j → j < n → b i < b j
  links : ∀ i, i < n → LinkAt w (b i) (rcAt rs i) (nxt b n (i + 1))
section
variable {w w' : World} {C n d : Nat} {b : Nat → Nat} {rs : List (Int × ByteArray)} {r : Int × ByteArray} {nx : Option Addr}
theorem LinkAt.lt (h : LinkAt w d r nx) : d < w.heap.size := lt_of_cell h.c0
theorem LinkAt.block (h : LinkAt w d r nx) (e : w'.heap[d]? = w.heap[d]?) : LinkAt w' d r nx :=
  ⟨(World.cell?_of_block (w := w) e).trans h.c0, (World.cell?_of_block (w := w) e).trans h.c1, (World.cell?_of_block (w := w) e).trans h.c2, by
    have := h.f2
    unfold World.frozen? at this ⊢
    rw [e]
    exact this⟩
theorem LinkAt.far {e i : Nat} (h : LinkAt w d r nx) (he : e ≠ d) (v : Value) : LinkAt (w.setCell ⟨e, i, none⟩ v) d r nx :=
  ⟨cell_far he h.c0, cell_far he h.c1, cell_far he h.c2, by rw [World.frozen?_setCell]; exact h.f2⟩
theorem LinkAt.to (h : LinkAt w d r nx) (ny : Option Addr) : LinkAt (w.setCell ⟨d, 2, none⟩ (.pointer ny)) d r ny :=
  ⟨cell_other (by omega) h.c0, cell_other (by omega) h.c1, World.cell?_setCell_same _ _ _ h.c2, by rw [World.frozen?_setCell]; exact h.f2⟩
theorem Chain.lt (h : Chain w C n b rs) : C < w.heap.size := lt_of_cell h.c0
theorem Chain.block (h : Chain w C n b rs) (e : ∀ x, C ≤ x → x < w.heap.size → w'.heap[x]? = w.heap[x]?) : Chain w' C n b rs := by
  have hC := h.lt
  have eC := e C (Nat.le_refl _) hC
  refine ⟨h.len, (World.cell?_of_block (w := w) eC).trans h.c0, (World.cell?_of_block (w := w) eC).trans h.c1, (World.cell?_of_block (w := w) eC).trans h.c2, fun j => ?_, h.up, h.asc, fun i hi => (h.links i hi).block (e _ (Nat.le_of_lt (h.up i hi)) (h.links i hi).lt)⟩
  have := h.fr j
  unfold World.frozen? at this ⊢
  rw [eC]
  exact this
theorem Chain.below (h : Chain w C n b rs) (hb : Below w.heap.size w w') : Chain w' C n b rs := h.block fun x _ hx => hb.block x hx
theorem Chain.aside {c : Nat} (h : Chain w C n b rs) (hb : Aside w.heap.size c w w') (hc : c < C) : Chain w' C n b rs := h.block fun x h1 hx => hb x hx (by omega)
theorem Chain.drewN (h : Chain w C n b rs) (q : Nat) : Chain (w.drewN q) C n b rs := h.below (below_drewN (Below.refl _ _) q)
theorem Chain.new (w : World) (T : TypeId) (b : Nat → Nat) : Chain (w.alloc (.cells #[.pointer none, .pointer none, .int .i64 0] T)) w.heap.size 0 b [] := by
  have V := VarN.new w [.pointer none, .pointer none, .int .i64 0] T
  exact ⟨rfl, (V 0 _ rfl).1, (V 1 _ rfl).1, (V 2 _ rfl).1, fun j => by simp, fun i hi => by omega, fun i j _ hj => by omega, fun i hi => by omega⟩
theorem rcAt_left {rs ds : List (Int × ByteArray)} {i : Nat} (h : i < rs.length) : rcAt (rs ++ ds) i = rcAt rs i := by
  unfold rcAt
  rw [List.getD_eq_getElem?_getD, List.getD_eq_getElem?_getD, List.getElem?_append_left h]
theorem rcAt_last {rs : List (Int × ByteArray)} {r : Int × ByteArray} : rcAt (rs ++ [r]) rs.length = r := by
  unfold rcAt
  rw [List.getD_eq_getElem?_getD, List.getElem?_append_right (Nat.le_refl _)]
  simp
/-- The first link. -/
theorem Chain.first {L : Nat} (h : Chain w C 0 b rs) (hL : LinkAt w L r none) (hCL : C < L) :
    Chain (((w.setCell ⟨C, 0, none⟩ (.pointer (some ⟨L, 0, none⟩))).setCell ⟨C, 1, none⟩ (.pointer (some ⟨L, 0, none⟩))).setCell ⟨C, 2, none⟩ (.int .i64 1)) C 1 (fun _ => L) (rs ++ [r]) := by
  have e0 : rs = [] := List.length_eq_zero_iff.1 h.len
  subst e0
  refine ⟨rfl, cell_other (by omega) (cell_other (by omega) (World.cell?_setCell_same _ _ _ h.c0)), cell_other (by omega) (World.cell?_setCell_same _ _ _ (cell_other (by omega) h.c1)), World.cell?_setCell_same _ _ _ (cell_other (by omega) (cell_other (by omega) h.c2)), fun j => ?_, fun i _ => hCL, fun i j h1 h2 => by omega, fun i hi => ?_⟩
  · rw [World.frozen?_setCell, World.frozen?_setCell, World.frozen?_setCell]
    exact h.fr j
  · obtain rfl : i = 0 := by omega
    exact ((hL.far (by omega) _).far (by omega) _).far (by omega) _
/-- A further link. -/
theorem Chain.more {L : Nat} (h : Chain w C (n + 1) b rs) (hL : LinkAt w L r none) (hCL : C < L) (hup : ∀ i, i < n + 1 → b i < L) (z : Int) (hz : z = ((n + 2 : Nat) : Int)) :
    Chain (((w.setCell ⟨b n, 2, none⟩ (.pointer (some ⟨L, 0, none⟩))).setCell ⟨C, 1, none⟩ (.pointer (some ⟨L, 0, none⟩))).setCell ⟨C, 2, none⟩ (.int .i64 z)) C (n + 2) (fun i => if i < n + 1 then b i else L) (rs ++ [r]) := by
  subst hz
  have hl := h.len
  have hn := h.up n (by omega)
  have hne : b n ≠ C := by omega
  refine ⟨by rw [List.length_append, hl]; rfl, ?_, ?_, World.cell?_setCell_same _ _ _ (cell_other (by omega) (cell_far hne h.c2)), fun j => ?_, fun i hi => ?_, fun i j h1 h2 => ?_, fun i hi => ?_⟩
  · have := cell_other (i := 2) (v := .int .i64 ((n + 2 : Nat) : Int)) (by omega) (cell_other (i := 1) (v := .pointer (some ⟨L, 0, none⟩)) (by omega) (cell_far (i := 2) (v := .pointer (some ⟨L, 0, none⟩)) hne h.c0))
    rw [this]
    unfold nxt
    simp
  · have := cell_other (i := 2) (v := .int .i64 ((n + 2 : Nat) : Int)) (by omega) (World.cell?_setCell_same (w.setCell ⟨b n, 2, none⟩ (.pointer (some ⟨L, 0, none⟩))) ⟨C, 1, none⟩ (.pointer (some ⟨L, 0, none⟩)) (cell_far (i := 2) (v := .pointer (some ⟨L, 0, none⟩)) hne h.c1))
    rw [this]
    unfold nxt
    simp
  · rw [World.frozen?_setCell, World.frozen?_setCell, World.frozen?_setCell]
    exact h.fr j
  · by_cases hi2 : i < n + 1
    · simp only [if_pos hi2]
      exact h.up i hi2
    · simp only [if_neg hi2]
      exact hCL
  · have hi2 : i < n + 1 := by omega
    simp only [if_pos hi2]
    by_cases hj2 : j < n + 1
    · simp only [if_pos hj2]
      exact h.asc i j h1 hj2
    · simp only [if_neg hj2]
      exact hup i hi2
  · by_cases hi2 : i < n + 1
    · have hlk := h.links i hi2
      have huc := h.up i hi2
      rw [rcAt_left (by omega)]
      simp only [if_pos hi2]
      by_cases hin : i = n
      · subst hin
        have e : nxt (fun j => if j < i + 1 then b j else L) (i + 2) (i + 1) = some ⟨L, 0, none⟩ := by
          unfold nxt
          simp
        rw [e]
        exact ((hlk.to _).far (by omega) _).far (by omega) _
      · have h3 := h.asc i n (by omega) (by omega)
        have e : nxt (fun j => if j < n + 1 then b j else L) (n + 2) (i + 1) = nxt b (n + 1) (i + 1) := by
          unfold nxt
          simp [show i + 1 < n + 2 by omega, show i + 1 < n + 1 by omega]
        rw [e]
        exact ((hlk.far (by omega) _).far (by omega) _).far (by omega) _
    · obtain rfl : i = n + 1 := by omega
      have e : nxt (fun j => if j < n + 1 then b j else L) (n + 2) (n + 1 + 1) = none := by
        unfold nxt
        simp
      rw [e]
      have e2 : rcAt (rs ++ [r]) (n + 1) = r := by rw [← hl]; exact rcAt_last
      rw [e2]
      simp only [if_neg hi2]
      have := hup n (by omega)
      exact ((hL.far (by omega) _).far (by omega) _).far (by omega) _
end
theorem lastT_at {n : Nat} : ∀ {rs : List (Int × ByteArray)} {l : Int}, rs.length = n + 1 → lastT l rs = (rcAt rs n).1 := by
  induction n with
  | zero =>
    intro rs l h
    match rs, h with
    | [r], _ => rfl
  | succ n ih =>
    intro rs l h
    match rs, h with
    | r :: rs, h => exact ih (rs := rs) (l := r.1) (by simpa using h)

set_option maxHeartbeats 1000000 in
theorem takes_any (C n : Nat) (b : Nat → Nat) (rs : List (Int × ByteArray)) (t : Int) (x : ByteArray) (w : World) (h : Chain w C n b rs) (hok : RecsOk 0 rs) (hn : n ≤ 60) (hx : x.size ≤ 9223372036854775807) (V : Bool) (hV : decide (n < 60 ∧ RecOk (lastT 0 rs) (t, x)) = V) :
    Calls Try.prog 47 #[.pointer (some ⟨C, 0, none⟩), .agg #[.int .i64 t, .string x]] w fun e w' => e = .returned (.bool V) ∧ Below w.heap.size w w' := by
  have hlow := lastT_low (l := 0) (by omega) hok
  obtain ⟨l, hl⟩ : ∃ l, lastT 0 rs = l := ⟨_, rfl⟩
  rw [hl] at hV hlow
  have HP := Lib.hid (below_box (w := w) (.cells #[.int .i64 t, .string x] 33) (Nat.le_refl _))
  have HC := Lib.hid (h.below HP.out)
  have hCl := h.lt
  have c1 := h.c1
  have c2 := h.c2
  by_cases h1 : n < 60
  case neg =>
    obtain rfl : V = false := by rw [← hV]; exact decide_eq_false fun h => h1 h.1
    have i1 : (n : Int) ≥ 60 := by omega
    clear hV HC h hl
    go_enter Try.func47, Try.ntmps47
    go_wp2
    go_ret
    exact ⟨rfl, HP.out⟩
  case pos =>
    have i1 : ¬ (n : Int) ≥ 60 := by omega
    by_cases h2 : (0 ≤ t ∧ t ≤ 4294967295) ∧ x.size ≤ 120
    case neg =>
      obtain rfl : V = false := by rw [← hV]; exact decide_eq_false fun h => h2 ⟨⟨Int.le_trans hlow h.2.1.1, h.2.1.2⟩, h.2.2⟩
      clear hV HC h hl
      by_cases i2 : t < 0
      · go_enter Try.func47, Try.ntmps47
        go_wp2
        go_ret
        exact ⟨rfl, HP.out⟩
      · by_cases i3 : t > 4294967295
        · go_enter Try.func47, Try.ntmps47
          go_wp2
          go_ret
          exact ⟨rfl, HP.out⟩
        · have i4 : (x.size : Int) > 120 := by omega
          go_enter Try.func47, Try.ntmps47
          go_wp2
          go_ret
          exact ⟨rfl, HP.out⟩
    case pos =>
      have i2 : ¬ t < 0 := by omega
      have i3 : ¬ t > 4294967295 := by omega
      have i4 : ¬ (x.size : Int) > 120 := by omega
      match n, h1 with
      | 0, _ =>
        obtain rfl : V = true := by
          rw [← hV]
          obtain rfl : l = 0 := by rw [← hl, List.length_eq_zero_iff.1 h.len]; rfl
          exact decide_eq_true ⟨by omega, h2⟩
        rw [nxt_none (by omega)] at c1
        clear hV HC h hl
        go_enter Try.func47, Try.ntmps47
        go_wp2
        go_quiet (fail)
        go_wp2
        go_ret
        exact ⟨rfl, below_drewN HP.out _⟩
      | n + 1, h1 =>
        have HV := Lib.hid (show decide (t ≥ l) = V by
          rw [← hV]
          by_cases h3 : l ≤ t
          · rw [decide_eq_true (p := t ≥ l) h3, decide_eq_true]
            exact ⟨h1, ⟨h3, h2.1.2⟩, h2.2⟩
          · rw [decide_eq_false (p := t ≥ l) h3, decide_eq_false]
            exact fun h => h3 h.2.1.1)
        have q0 := (h.links n (by omega)).c0
        rw [← lastT_at h.len (l := 0), hl] at q0
        rw [show n + 1 - 1 = n by omega, nxt_some (by omega)] at c1
        have qlt := lt_of_cell q0
        obtain ⟨d, hd⟩ : ∃ d, b n = d := ⟨_, rfl⟩
        rw [hd] at q0 c1 qlt
        clear hV HC h hl hd
        go_enter Try.func47, Try.ntmps47
        go_wp2
        go_quiet (fail)
        go_wp2
        go_ret
        exact ⟨ret_b HV.out, below_drewN HP.out _⟩

end Go.Proofs.Ytodpbjomiplphab
