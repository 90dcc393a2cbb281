/- The laws' exact helpers on what has arrived: size, copy, equality, marks. -/
import Derived.Test.YtncbgejggfkdmabK90
import Derived.Test.YtncbgejggfkdmabK20v
import Derived.Laws.MakeOwn
import Derived.Deep.RegionHeldLaw
import Derived.Handy
namespace Go.Proofs.Ytncbgejggfkdmab
open Go.RowKit Go.PlainAid

/-- A row of numbers that is being filled: k of 'len' numbers lie there. -/
def FilN (d len k : Nat) (es : List Int) (w : World) : Prop :=
  ∀ i, i < len → ∃ u, w.cell? ⟨d, i, none⟩ = some u ∧ (i < k → u = .int .i64 (nAt es i))
/-- The block's cells may be written. -/
def FreeN (d : Nat) (w : World) : Prop := ∀ j, w.frozen? ⟨d, j, none⟩ = false
section
variable {d len k : Nat} {es : List Int} {w w' : World}
theorem FilN.below (h : FilN d len k es w) (hb : Below w.heap.size w w') : FilN d len k es w' := fun i hi => by
  obtain ⟨u, h1, h4⟩ := h i hi
  exact ⟨u, kept_cell hb (lt_of_cell h1) h1, h4⟩
theorem FreeN.below (h : FreeN d w) (hd : d < w.heap.size) (hb : Below w.heap.size w w') : FreeN d w' := fun j => (hb.frozen (p := ⟨d, j, none⟩) hd).trans (h j)
theorem FreeN.set {e i : Nat} (h : FreeN d w) (v : Value) : FreeN d (w.setCell ⟨e, i, none⟩ v) := fun j => by rw [World.frozen?_setCell]; exact h j
theorem FilN.far {e i : Nat} (h : FilN d len k es w) (he : e ≠ d) (y : Value) : FilN d len k es (w.setCell ⟨e, i, none⟩ y) := fun j hj => by
  obtain ⟨u, h1, h4⟩ := h j hj
  exact ⟨u, cell_far he h1, h4⟩
/-- A cell is written and the place is filled. -/
theorem FilN.put {c : Int} (h : FilN d len k es w) (hk : k < len) (e1 : nAt es k = c) : FilN d len (k + 1) es (w.setCell ⟨d, k, none⟩ (.int .i64 c)) := fun i hi => by
  obtain ⟨u, h1, h4⟩ := h i hi
  by_cases e : i = k
  · subst e
    exact ⟨_, World.cell?_setCell_same _ _ _ h1, fun _ => by rw [e1]⟩
  · exact ⟨u, cell_other (by omega) h1, fun h => h4 (by omega)⟩
theorem FilN.ns {cap : Nat} (h : FilN d len len es w) (hl : es.length = len) (hc : len ≤ cap) (hm : cap ≤ maxLen) : Ns w (some ⟨d, 0, none⟩) len cap es := by
  refine .inr ⟨_, rfl, hc, hm, hl, fun i hi => ?_⟩
  obtain ⟨u, h1, h4⟩ := h i hi
  rw [n_add, h1, h4 hi]
theorem FilN.new (w : World) (len : Nat) (vs : Array Value) (T : TypeId) (es : List Int) (hs : vs.size = len) : FilN w.heap.size len 0 es (w.alloc (.cells vs T)) ∧ FreeN w.heap.size (w.alloc (.cells vs T)) := by
  refine ⟨fun i hi => ?_, fun j => by simp⟩
  have h1 : i < vs.size := by omega
  exact ⟨vs[i], by rw [World.cell?_alloc_at _ _ _ _ rfl]; exact Array.getElem?_eq_getElem h1, fun h => absurd h (by omega)⟩
theorem own_filN {base g n cap : Nat} {xs : List Value} (es : List Int) (h : w.ownsRow base 3 1 (.slice (some ⟨g, 0, none⟩) n cap) n xs) : FilN g n 0 es w ∧ FreeN g w ∧ n ≤ cap ∧ cap ≤ maxLen ∧ base ≤ g ∧ g < w.heap.size := by
  rcases h.2 with ⟨h1, _⟩ | ⟨g', cap', cur, h1, h2, h3, h4, h5, h6, _⟩
  · exact absurd h1 (by intro e; cases e)
  · obtain ⟨rfl, _, rfl⟩ : g = g' ∧ True ∧ cap = cap' := by simpa using h1
    refine ⟨fun i hi => ?_, fun j => by unfold World.frozen?; simp [h3], h4, h5, h2, (Array.getElem?_eq_some_iff.1 h3).1⟩
    have q1 : i < cur.size := by omega
    exact ⟨cur[i], by unfold World.cell?; simp [h3, q1], fun h => absurd h (by omega)⟩
end
/-- Of the blocks that were there none but g's has turned, and none below g. -/
structure MwN (g : Nat) (w W : World) : Prop where
  a : Aside w.heap.size g w W
  b : Below g w W
  z : w.heap.size ≤ W.heap.size
  l : g < w.heap.size
theorem MwN.set {g i : Nat} {w W : World} (h : MwN g w W) (v : Value) : MwN g w (W.setCell ⟨g, i, none⟩ v) :=
  ⟨fun b hb hr => (Below.heap_setCell W ⟨g, i, none⟩ v b (by simpa using hr)).trans (h.a b hb hr), h.b.setCell (p := ⟨g, i, none⟩) (Nat.le_refl _) v, by simpa using h.z, h.l⟩
theorem MwN.grow {g : Nat} {w W W' : World} (h : MwN g w W) (hb : Below W.heap.size W W') : MwN g w W' :=
  ⟨h.a.trans (below_aside hb h.z), h.b.trans (hb.mono (by have := h.z; have := h.l; omega)), Nat.le_trans h.z hb.size, h.l⟩
/-- The marks of n numbers. -/
def marksN (n : Nat) : List Int := (List.range n).map fun i : Nat => 1 + (i : Int)
theorem marksN_length (n : Nat) : (marksN n).length = n := by simp [marksN]
theorem marksN_at (n k : Nat) (h : k < n) : nAt (marksN n) k = 1 + (k : Int) := by
  unfold nAt
  rw [List.getD_eq_getElem?_getD]
  simp [marksN, h]

set_option maxHeartbeats 400000 in
theorem szIntS_any (a : Option Addr) (len cap : Nat) (w : World) (hm : len ≤ 9223372036854775807) :
    Calls Try.prog 61 #[.slice a len cap, .int .i64 1048576] w fun e w' => (∃ z : Int, e = .returned (.int .i64 z) ∧ (z = -1 ∨ (0 ≤ z ∧ len ≤ 1048576))) ∧ Below w.heap.size w w' := by
  have e : IntKind.i64.wrap (1048576 - (len : Int)) = 1048576 - (len : Int) := IntWalk.i64_in _ (by omega)
  by_cases h0 : 1048576 - (len : Int) < 0
  · go_enter Try.func61, Try.ntmps61
    go_wp2
    go_ret
    exact ⟨⟨-1, rfl, .inl rfl⟩, Below.refl _ _⟩
  · go_enter Try.func61, Try.ntmps61
    go_wp2
    go_ret
    exact ⟨⟨_, rfl, .inr ⟨by omega, by omega⟩⟩, Below.refl _ _⟩

set_option maxHeartbeats 1000000 in
theorem toIntS_any (a : Option Addr) (len cap : Nat) (es : List Int) (w : World) (h : Ns w a len cap es) (hn : len ≤ 1048576) :
    Calls Try.prog 62 #[.slice a len cap] w fun e w' => (∃ d, e = .returned (.slice (some ⟨d, 0, none⟩) len len) ∧ w.heap.size ≤ d ∧ FilN d len len es w' ∧ FreeN d w' ∧ d < w'.heap.size) ∧ Below w.heap.size w w' := by
  have hl := h.length
  obtain ⟨i0, hi, hz0, hz1, hz2⟩ := info_parts info_n
  obtain ⟨CS, hCS, hmk⟩ : ∃ CS : Array Value, CS.size = len ∧ ∀ w, (Instr.makeSlice 24 (.int .i64 len) (.int .i64 len)).run Try.prog w = .ok (.slice (some ⟨w.heap.size, 0, none⟩) len len) (w.alloc (.cells CS 3)) := by
    refine ⟨madeCells (Value.int .i64 0).cells (len * 1), by rw [size_madeCells]; omega, fun w => ?_⟩
    have r := run_make w 24 3 i0 _ Try.underlying24 hi hz0 .i64 .i64 len len (by omega) (Int.le_refl _) (by rw [hz2]; omega) (by omega)
    rw [hz1] at r
    exact r
  have HG := Lib.hid h
  have HF := Lib.hid (FilN.new w len CS 3 es hCS)
  clear h hCS hi hz0 hz1 hz2
  go_enter Try.func62, Try.ntmps62
  go_wp2
  go_loopw [4] (fun i wr => ∃ k : Nat, k ≤ len ∧ i = .int .i64 k ∧ Hid (FilN w.heap.size len k es wr ∧ FreeN w.heap.size wr) ∧ w.heap.size < wr.heap.size ∧ Hid (Below w.heap.size w wr)) (fun i _ => len - (intOf i).toNat)
  case atStart => exact ⟨0, Nat.zero_le _, rfl, HF, by simp, Lib.hid (below_box _ (Nat.le_refl _))⟩
  case round =>
    obtain ⟨k, hk, rfl, hfi, hsz, hbel⟩ := hrel
    clear HF
    by_cases hlt : k < len
    · obtain ⟨x, rfl⟩ := HG.out.addr hlt
      have p0 := HG.out.at hbel.out hlt
      obtain ⟨c1, hc1⟩ : ∃ c1, nAt es k = c1 := ⟨_, rfl⟩
      rw [hc1] at p0
      have FP := Lib.hid (And.intro (hfi.out.1.put hlt hc1) (hfi.out.2.set (e := w.heap.size) (i := k) (.int .i64 c1)))
      obtain ⟨u, s0, _⟩ := hfi.out.1 k hlt
      have t0 := hfi.out.2 k
      have BB := Lib.hid (hbel.out.setCell (p := ⟨w.heap.size, k, none⟩) (Nat.le_refl _) (.int .i64 c1))
      clear hc1 hfi hbel
      go_wp2_with fail
      try (go_quiet (fail); go_wp2)
      go_roundw
      case rel => exact ⟨k + 1, by omega, by go_num, FP, by simpa using hsz, BB⟩
      case measure => simp [intOf]; omega
    · obtain rfl : k = len := by omega
      go_wp2
      go_ret
      exact ⟨⟨w.heap.size, rfl, Nat.le_refl _, hfi.out.1, hfi.out.2, hsz⟩, hbel.out⟩

end Go.Proofs.Ytncbgejggfkdmab
