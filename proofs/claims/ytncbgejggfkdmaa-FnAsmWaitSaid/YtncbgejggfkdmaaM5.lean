/- Texts that a proof needs, merged: K143, K144, K145, K165, K11, K146, K147, K148, Shelf, B1, B2, K149. -/
import Derived.Test.YtncbgejggfkdmaaM4
import Derived.Deep.RegionLaw
import Derived.Deep.AppendLies
import Derived.Deep.QuietTactic
import Derived.BigQuiet
import Derived.Handy
import Derived.Deep.LoopGhost
import Derived.Shelf.Strings.Builder1
import Derived.Shelf.Strings.BuilderF
import Derived.Test.YtncbgejggfkdmaaProg
import Derived.Lib.Builder
import Derived.Lib.Walk
import Derived.Laws.Externs
import Derived.Lib.AppendStr
import Derived.Deep.CutRange
import Derived.Deep.DeepCutAuto

/- The contract of the program's list of parts that wait: a further part. -/
namespace Go.Proofs.Ytncbgejggfkdmaa
open Go.RowKit Go.PlainAid

theorem td_snoc {ns : List (Nat × Part)} {d : Nat} {p : Part} (h : ((psOf ns).map fun p => p.tsn).Nodup) (ht : hasT (psOf ns) p.tsn = false) : ((psOf (ns ++ [(d, p)])).map fun p => p.tsn).Nodup := by
  rw [psOf_append, List.map_append, List.nodup_append]
  refine ⟨h, by simp [psOf], fun a ha b hb e => ?_⟩
  obtain ⟨q, hq, rfl⟩ := List.mem_map.1 ha
  have : b = p.tsn := by simpa [psOf] using hb
  exact hasT_no ht q hq (e.trans this)
theorem Wl.more {B L M d n : Nat} {w w' : World} {ns : List (Nat × Part)} {p : Part} {D : DataW Unit} (h : Wl B w L M ns) (hl : Lk w' L M (ns ++ [(d, p)])) (ht : Tab w' M (ns ++ [(d, p)]) D) (hp : hasT (psOf ns) p.tsn = false) (hk : Key p.tsn) (hd : B ≤ d) (hm : d ≠ M) (_ : n = 0) : Wl B w' L M (ns ++ [(d, p)]) := by
  refine ⟨hl, ⟨D, ht⟩, td_snoc h.td hp, fun q hq => ?_, h.ml, fun x hx => ?_, h.lo.1, h.lo.2.1, fun x hx => ?_⟩
  · rw [psOf_append] at hq
    rcases List.mem_append.1 hq with hq | hq
    · exact h.key q hq
    · obtain rfl : q = p := by simpa [psOf] using hq
      exact hk
  · rcases List.mem_append.1 hx with hx | hx
    · exact h.fm x hx
    · obtain rfl : x = (d, p) := by simpa using hx
      exact hm
  · rcases List.mem_append.1 hx with hx | hx
    · exact h.lo.2.2 x hx
    · obtain rfl : x = (d, p) := by simpa using hx
      exact hd

theorem Lk.drew {w : World} {L M : Nat} {ns : List (Nat × Part)} (h : Lk w L M ns) : Lk w.drew L M ns := h.same fun _ _ => rfl
theorem Lk.alloc {w : World} {L M : Nat} {ns : List (Nat × Part)} (h : Lk w L M ns) (o : Obj) : Lk (w.alloc o) L M ns := h.same fun x hx => by
  refine (below_box o (Nat.le_refl _)).block x ?_
  rcases hx with rfl | ⟨y, hy, rfl⟩
  · exact h.lt
  · exact h.node_lt hy
theorem partV_eq (t s q : Int) (fi la lo : Bool) (tx : ByteArray) : partV ⟨t, s, q, fi, la, lo, tx⟩ = .agg #[.int .i64 t, .int .i64 s, .int .i64 q, .bool fi, .bool la, .bool lo, .string tx] := rfl
theorem two_past (w : World) (a b : Obj) {p q i j : Nat} {x y : Value} (hp : p < w.heap.size) (hq : q < w.heap.size) :
    (((w.alloc a).alloc b).setCell ⟨p, i, none⟩ x).setCell ⟨q, j, none⟩ y = (((w.setCell ⟨p, i, none⟩ x).setCell ⟨q, j, none⟩ y).alloc a).alloc b := by
  rw [World.setCell_alloc_past b p i x (by simp; omega), World.setCell_alloc_past a p i x hp, World.setCell_alloc_past b q j y (by simp; omega), World.setCell_alloc_past a q j y (by simp; omega)]
theorem heap_past (w : World) (o : Obj) {x : Nat} (h : x < w.heap.size) : (w.alloc o).heap[x]? = w.heap[x]? := (below_box o (Nat.le_refl _)).block x h

set_option maxHeartbeats 2000000 in
theorem add_first (B L M : Nat) (p : Part) (w : World) (h : Wl B w L M []) (hk : Key p.tsn) :
    Calls Try.prog 48 #[.pointer (some ⟨L, 0, none⟩), partV p] w fun e w' => e = .returned (.tuple #[]) ∧ ∃ d, Wl B w' L M [(d, p)] ∧ w.heap.size ≤ d ∧ Kp B L M [] w w' := by
  obtain ⟨t, s, q, fi, la, lo, tx⟩ := p
  have hBw : B ≤ w.heap.size := Nat.le_of_lt (Nat.lt_of_le_of_lt h.lo.1 h.lk.lt)
  have hLt := h.lk.lt
  obtain ⟨D, hD⟩ := h.tab
  have hMt := hD.lt
  have hBL := h.lo.1
  have hBM := h.lo.2.1
  have hml := h.ml
  have V2 := VarN.new_at (w := w.alloc (.cells #[.int .i64 t, .int .i64 s, .int .i64 q, .bool fi, .bool la, .bool lo, .string tx] 28)) (d := w.heap.size + 1) (by simp) (nodeC (⟨t, s, q, fi, la, lo, tx⟩ : Part) none none) 103
  have L3 := ((h.lk.alloc (.cells #[.int .i64 t, .int .i64 s, .int .i64 q, .bool fi, .bool la, .bool lo, .string tx] 28)).alloc (.cells #[.int .i64 t, .int .i64 s, .int .i64 q, .bool fi, .bool la, .bool lo, .string tx, .pointer none, .pointer none] 103)).first V2 (by omega)
  rw [two_past _ _ _ (by omega) hLt] at L3
  have B3 : Below B w ((((w.setCell ⟨L, 0, none⟩ (.pointer (some ⟨w.heap.size + 1, 0, none⟩))).setCell ⟨L, 1, none⟩ (.pointer (some ⟨w.heap.size + 1, 0, none⟩))).alloc (.cells #[.int .i64 t, .int .i64 s, .int .i64 q, .bool fi, .bool la, .bool lo, .string tx] 28)).alloc (.cells #[.int .i64 t, .int .i64 s, .int .i64 q, .bool fi, .bool la, .bool lo, .string tx, .pointer none, .pointer none] 103)) := ((((Below.refl B w).setCell (p := ⟨L, 0, none⟩) hBL (.pointer (some ⟨w.heap.size + 1, 0, none⟩))).setCell (p := ⟨L, 1, none⟩) hBL (.pointer (some ⟨w.heap.size + 1, 0, none⟩))).alloc (by simp; omega) (.cells #[.int .i64 t, .int .i64 s, .int .i64 q, .bool fi, .bool la, .bool lo, .string tx] 28)).alloc (by simp; omega) (.cells #[.int .i64 t, .int .i64 s, .int .i64 q, .bool fi, .bool la, .bool lo, .string tx, .pointer none, .pointer none] 103)
  have E3 : ∀ x, x < w.heap.size → x ≠ L → ((((w.setCell ⟨L, 0, none⟩ (.pointer (some ⟨w.heap.size + 1, 0, none⟩))).setCell ⟨L, 1, none⟩ (.pointer (some ⟨w.heap.size + 1, 0, none⟩))).alloc (.cells #[.int .i64 t, .int .i64 s, .int .i64 q, .bool fi, .bool la, .bool lo, .string tx] 28)).alloc (.cells #[.int .i64 t, .int .i64 s, .int .i64 q, .bool fi, .bool la, .bool lo, .string tx, .pointer none, .pointer none] 103)).heap[x]? = w.heap[x]? := fun x h1 h2 => by
    rw [heap_past _ _ (by simp; omega), heap_past _ _ (by simp; omega), Below.heap_setCell _ _ _ _ (by simpa using h2), Below.heap_setCell _ _ _ _ (by simpa using h2)]
  have T3 : Tab ((((w.setCell ⟨L, 0, none⟩ (.pointer (some ⟨w.heap.size + 1, 0, none⟩))).setCell ⟨L, 1, none⟩ (.pointer (some ⟨w.heap.size + 1, 0, none⟩))).alloc (.cells #[.int .i64 t, .int .i64 s, .int .i64 q, .bool fi, .bool la, .bool lo, .string tx] 28)).alloc (.cells #[.int .i64 t, .int .i64 s, .int .i64 q, .bool fi, .bool la, .bool lo, .string tx, .pointer none, .pointer none] 103)).drew.drew M [] D := hD.block (E3 M hMt hml)
  obtain ⟨w9, D9, hU, T9, G9, S9⟩ := T3.put (w.heap.size + 1) (p := (⟨t, s, q, fi, la, lo, tx⟩ : Part)) hk rfl (by simp)
  have L9 : Lk w9 L M [(w.heap.size + 1, (⟨t, s, q, fi, la, lo, tx⟩ : Part))] := L3.drew.drew.same fun x hx => by
    refine G9.block x ?_ ?_
    · rcases hx with rfl | ⟨y, hy, rfl⟩
      · exact L3.drew.drew.lt
      · exact L3.drew.drew.node_lt hy
    · rcases hx with rfl | ⟨y, hy, rfl⟩
      · simpa using hml.symm
      · obtain rfl : y = (w.heap.size + 1, (⟨t, s, q, fi, la, lo, tx⟩ : Part)) := by simpa using hy
        simp
        omega
  have W9 := Lib.hid (h.more (n := 0) L9 T9 rfl hk (by omega) (by omega) rfl)
  have K9 := Lib.hid (show Kp B L M [] w w9 from ⟨Below.grown B3.drew.drew G9 (by simp; omega) (fun k e => by cases e; exact hBM), fun x h1 h2 h3 h4 => (G9.block x (by simp; omega) (by simpa using h3)).trans (E3 x h1 h2)⟩)
  have c0 : w.cell? ⟨L, 0, none⟩ = some (.pointer none) := (h.lk.l 0 _ rfl).1
  have c1 : w.cell? ⟨L, 1, none⟩ = some (.pointer none) := (h.lk.l 1 _ rfl).1
  have c2 := (h.lk.l 2 _ rfl).1
  have f0 := (h.lk.l 0 _ rfl).2
  have f1 := (h.lk.l 1 _ rfl).2
  clear h hD V2 L3 B3 E3 T3 T9 G9 S9 L9
  dsimp only at hU
  rw [partV_eq]
  go_enter Try.func48, Try.ntmps48
  go_wp2_with fail
  go_region
  go_wp2_with fail
  go_region
  all_goals
    go_end0
    exact ⟨rfl, _, W9.out, by omega, K9.out⟩

set_option maxHeartbeats 2000000 in
theorem add_more (B L M n : Nat) (ns : List (Nat × Part)) (p : Part) (w : World) (h : Wl B w L M ns) (hn : ns.length = n + 1) (hn2 : ns.length ≤ 100) (hk : Key p.tsn) (ht : hasT (psOf ns) p.tsn = false) :
    Calls Try.prog 48 #[.pointer (some ⟨L, 0, none⟩), partV p] w fun e w' => e = .returned (.tuple #[]) ∧ ∃ d, Wl B w' L M (ns ++ [(d, p)]) ∧ w.heap.size ≤ d ∧ Kp B L M ns w w' := by
  obtain ⟨t, s, q, fi, la, lo, tx⟩ := p
  have hBw : B ≤ w.heap.size := Nat.le_of_lt (Nat.lt_of_le_of_lt h.lo.1 h.lk.lt)
  have hLt := h.lk.lt
  obtain ⟨D, hD⟩ := h.tab
  have hMt := hD.lt
  have hBL := h.lo.1
  have hBM := h.lo.2.1
  have hml := h.ml
  have hl : n < ns.length := by omega
  have hm := bAt_mem hl
  have hBe := h.lo.2.2 _ hm
  have het := h.lk.node_lt hm
  have heL := h.lk.fl _ hm
  have heM := h.fm _ hm
  have hpv : pv ns ns.length = some (bAt ns n) := by rw [hn]; exact bk_some hl
  have N := h.lk.nodes n hl
  have HN := Lib.hid hn
  have HF := Lib.hid (show ∀ y ∈ ns, y.1 ≠ w.heap.size + 1 from fun y hy => by have := h.lk.node_lt hy; omega)
  have V2 := VarN.new_at (w := w.alloc (.cells #[.int .i64 t, .int .i64 s, .int .i64 q, .bool fi, .bool la, .bool lo, .string tx] 28)) (d := w.heap.size + 1) (by simp) (nodeC (⟨t, s, q, fi, la, lo, tx⟩ : Part) (some (bAt ns n)) none) 103
  have L3 := ((h.lk.alloc (.cells #[.int .i64 t, .int .i64 s, .int .i64 q, .bool fi, .bool la, .bool lo, .string tx] 28)).alloc (.cells #[.int .i64 t, .int .i64 s, .int .i64 q, .bool fi, .bool la, .bool lo, .string tx, .pointer (some ⟨bAt ns n, 0, none⟩), .pointer none] 103)).more hn V2 (by omega) HF.out
  have nb : bk ns (n + 1) = none := bk_none (by omega)
  rw [nb] at N
  have g8 : w.cell? ⟨bAt ns n, 8, none⟩ = some (.pointer none) := (N 8 _ rfl).1
  have q8 := (N 8 _ rfl).2
  clear N nb
  obtain ⟨e, he⟩ : ∃ e, bAt ns n = e := ⟨_, rfl⟩
  rw [he] at L3 V2 hm hBe het heL heM hpv g8 q8
  clear he
  rw [two_past _ _ _ (by omega) hLt] at L3
  have B3 : Below B w ((((w.setCell ⟨e, 8, none⟩ (.pointer (some ⟨w.heap.size + 1, 0, none⟩))).setCell ⟨L, 1, none⟩ (.pointer (some ⟨w.heap.size + 1, 0, none⟩))).alloc (.cells #[.int .i64 t, .int .i64 s, .int .i64 q, .bool fi, .bool la, .bool lo, .string tx] 28)).alloc (.cells #[.int .i64 t, .int .i64 s, .int .i64 q, .bool fi, .bool la, .bool lo, .string tx, .pointer (some ⟨e, 0, none⟩), .pointer none] 103)) := ((((Below.refl B w).setCell (p := ⟨e, 8, none⟩) hBe (.pointer (some ⟨w.heap.size + 1, 0, none⟩))).setCell (p := ⟨L, 1, none⟩) hBL (.pointer (some ⟨w.heap.size + 1, 0, none⟩))).alloc (by simp; omega) (.cells #[.int .i64 t, .int .i64 s, .int .i64 q, .bool fi, .bool la, .bool lo, .string tx] 28)).alloc (by simp; omega) (.cells #[.int .i64 t, .int .i64 s, .int .i64 q, .bool fi, .bool la, .bool lo, .string tx, .pointer (some ⟨e, 0, none⟩), .pointer none] 103)
  have E3 : ∀ x, x < w.heap.size → x ≠ L → x ≠ e → ((((w.setCell ⟨e, 8, none⟩ (.pointer (some ⟨w.heap.size + 1, 0, none⟩))).setCell ⟨L, 1, none⟩ (.pointer (some ⟨w.heap.size + 1, 0, none⟩))).alloc (.cells #[.int .i64 t, .int .i64 s, .int .i64 q, .bool fi, .bool la, .bool lo, .string tx] 28)).alloc (.cells #[.int .i64 t, .int .i64 s, .int .i64 q, .bool fi, .bool la, .bool lo, .string tx, .pointer (some ⟨e, 0, none⟩), .pointer none] 103)).heap[x]? = w.heap[x]? := fun x h1 h2 h3 => by
    rw [heap_past _ _ (by simp; omega), heap_past _ _ (by simp; omega), Below.heap_setCell _ _ _ _ (by simpa using h2), Below.heap_setCell _ _ _ _ (by simpa using h3)]
  have T3 : Tab ((((w.setCell ⟨e, 8, none⟩ (.pointer (some ⟨w.heap.size + 1, 0, none⟩))).setCell ⟨L, 1, none⟩ (.pointer (some ⟨w.heap.size + 1, 0, none⟩))).alloc (.cells #[.int .i64 t, .int .i64 s, .int .i64 q, .bool fi, .bool la, .bool lo, .string tx] 28)).alloc (.cells #[.int .i64 t, .int .i64 s, .int .i64 q, .bool fi, .bool la, .bool lo, .string tx, .pointer (some ⟨e, 0, none⟩), .pointer none] 103)).drew.drew M ns D := hD.block (E3 M hMt hml heM.symm)
  obtain ⟨w9, D9, hU, T9, G9, S9⟩ := T3.put (w.heap.size + 1) (p := (⟨t, s, q, fi, la, lo, tx⟩ : Part)) hk ht hn2
  have L9 : Lk w9 L M (ns ++ [(w.heap.size + 1, (⟨t, s, q, fi, la, lo, tx⟩ : Part))]) := L3.drew.drew.same fun x hx => by
    refine G9.block x ?_ ?_
    · rcases hx with rfl | ⟨y, hy, rfl⟩
      · exact L3.drew.drew.lt
      · exact L3.drew.drew.node_lt hy
    · rcases hx with rfl | ⟨y, hy, rfl⟩
      · simpa using hml.symm
      · rcases List.mem_append.1 hy with hy | hy
        · simpa using h.fm y hy
        · obtain rfl : y = (w.heap.size + 1, (⟨t, s, q, fi, la, lo, tx⟩ : Part)) := by simpa using hy
          simp
          omega
  have W9 := Lib.hid (h.more (n := 0) L9 T9 ht hk (by omega) (by omega) rfl)
  have K9 := Lib.hid (show Kp B L M ns w w9 from ⟨Below.grown B3.drew.drew G9 (by simp; omega) (fun k e => by cases e; exact hBM), fun x h1 h2 h3 h4 => (G9.block x (by simp; omega) (by simpa using h3)).trans (E3 x h1 h2 (h4 _ hm))⟩)
  have c0 := (h.lk.l 0 _ rfl).1
  have c1 : w.cell? ⟨L, 1, none⟩ = some (.pointer (some ⟨e, 0, none⟩)) := by have := (h.lk.l 1 _ rfl).1; rw [hpv] at this; exact this
  have c2 := (h.lk.l 2 _ rfl).1
  have f0 := (h.lk.l 0 _ rfl).2
  have f1 := (h.lk.l 1 _ rfl).2
  have HE := Lib.hid hm
  have ne1 : ¬ e = L := heL
  have ne2 : ¬ L = e := fun h => heL h.symm
  clear h hD V2 L3 B3 E3 T3 T9 G9 S9 L9 hpv HN HF hl hm hn hn2 ht c0 f0
  dsimp only at hU
  rw [partV_eq]
  go_enter Try.func48, Try.ntmps48
  go_wp2_with fail
  go_region
  go_wp2_with fail
  go_region
  all_goals
    go_end0
    exact ⟨rfl, _, W9.out, by omega, K9.out⟩

theorem add_any (B L M : Nat) (ns : List (Nat × Part)) (p : Part) (w : World) (h : Wl B w L M ns) (hn : ns.length ≤ 100) (hk : Key p.tsn) (ht : hasT (psOf ns) p.tsn = false) :
    Calls Try.prog 48 #[.pointer (some ⟨L, 0, none⟩), partV p] w fun e w' => e = .returned (.tuple #[]) ∧ ∃ d, Wl B w' L M (ns ++ [(d, p)]) ∧ w.heap.size ≤ d ∧ Kp B L M ns w w' := by
  cases ns with
  | nil => exact add_first B L M p w h hk
  | cons x ns => exact add_more B L M ns.length (x :: ns) p w h rfl hn hk ht

end Go.Proofs.Ytncbgejggfkdmaa

/- The contract of the program's list of parts that wait: a part is taken out. -/
namespace Go.Proofs.Ytncbgejggfkdmaa
open Go.RowKit Go.PlainAid

theorem td_inj {ns : List (Nat × Part)} (h : ((psOf ns).map fun p => p.tsn).Nodup) {i j : Nat} (hi : i < ns.length) (hj : j < ns.length) (e : (pAt (psOf ns) i).tsn = (pAt (psOf ns) j).tsn) : i = j := by
  rw [List.nodup_iff_pairwise_ne, List.pairwise_iff_getElem] at h
  have key : ∀ a b, a < ns.length → b < ns.length → a < b → (pAt (psOf ns) a).tsn ≠ (pAt (psOf ns) b).tsn := fun a b ha hb hab => by
    have := h a b (by rw [List.length_map, psOf_length]; exact ha) (by rw [List.length_map, psOf_length]; exact hb) hab
    rwa [List.getElem_map, List.getElem_map, pAt_get (by rw [psOf_length]; exact ha), pAt_get (by rw [psOf_length]; exact hb)] at this
  by_cases h1 : i < j
  · exact absurd e (key i j hi hj h1)
  · by_cases h2 : j < i
    · exact absurd e.symm (key j i hj hi h2)
    · omega
theorem erase_mem {ns : List (Nat × Part)} (h : (ns.map Prod.fst).Nodup) {j : Nat} (hj : j < ns.length) {x : Nat × Part} (hx : x ∈ ns.eraseIdx j) : ∃ i, i < ns.length ∧ i ≠ j ∧ x = (bAt ns i, pAt (psOf ns) i) := by
  rw [← leftB_one h hj] at hx
  obtain ⟨h1, h2⟩ := leftB_sub hx
  obtain ⟨i, hi, rfl⟩ := nd_at h1
  exact ⟨i, hi, fun e => h2 (by subst e; simp), rfl⟩
theorem erase_has {ns : List (Nat × Part)} (h : (ns.map Prod.fst).Nodup) {j : Nat} (hj : j < ns.length) {i : Nat} (hi : i < ns.length) (hne : i ≠ j) : (bAt ns i, pAt (psOf ns) i) ∈ ns.eraseIdx j := by
  rw [← leftB_one h hj]
  exact leftB_in (bAt_mem hi) fun e => hne (bAt_inj h hi hj (by simpa using e))
/-- An entry is struck. -/
theorem Tab.del {w : World} {M : Nat} {ns : List (Nat × Part)} {D : DataW Unit} (h : Tab w M ns D) (nd : (ns.map Prod.fst).Nodup) (td : ((psOf ns).map fun p => p.tsn).Nodup) {j : Nat} (hj : j < ns.length) (hk : Key (pAt (psOf ns) j).tsn) (ty : TypeId) :
    ∃ w' D', (Builtin.delete_ #[98, 3] ty #[.map (some M), .int .i64 (pAt (psOf ns) j).tsn]).run Try.prog w = .ok (.tuple #[]) w' ∧ Tab w' M (ns.eraseIdx j) D' ∧ w.grownBy w' (some M) ∧ w'.heap.size = w.heap.size := by
  obtain ⟨w', hrun, hown, hturn⟩ := h.own.drop ints_keyed Try.underlying98 (key_of hk) ty
  have htidy := h.own.tidy ints_keyed
  have hhas : Maps.has D (.int .i64 (pAt (psOf ns) j).tsn) = true := by
    cases hc : Maps.has D (.int .i64 (pAt (psOf ns) j).tsn) with
    | true => rfl
    | false =>
      have h1 := Maps.atKey_of_not_has hc .nil
      have h2 := h.at_ _ (bAt_mem hj)
      rw [h2] at h1
      cases h1
  refine ⟨w', _, hrun, ⟨own_tight hown, ?_, fun x hx => ?_, fun t ht => ?_⟩, hturn.grown, ?_⟩
  · have h1 := Maps.size_del (k := .int .i64 (pAt (psOf ns) j).tsn) htidy
    rw [hhas, if_pos rfl, h.size] at h1
    rw [List.length_eraseIdx, if_pos hj]
    omega
  · obtain ⟨i, hi, hij, rfl⟩ := erase_mem nd hj hx
    have hne : Lit.int .i64 (pAt (psOf ns) i).tsn ≠ Lit.int .i64 (pAt (psOf ns) j).tsn := fun e => hij (td_inj td hi hj (by simpa using e))
    rw [Maps.atKey_del_other hne]
    exact h.at_ _ (bAt_mem hi)
  · by_cases e : t = (pAt (psOf ns) j).tsn
    · rw [e]
      exact Maps.has_del_same
    · have hne : Lit.int .i64 t ≠ Lit.int .i64 (pAt (psOf ns) j).tsn := fun h => e (by simpa using h)
      rw [Maps.has_del_other hne]
      refine h.no t ?_
      cases hc : hasT (psOf ns) t with
      | false => rfl
      | true =>
        unfold hasT at hc
        rw [List.any_eq_true] at hc
        obtain ⟨p, hp, ep⟩ := hc
        obtain ⟨x, hx, rfl⟩ := List.mem_map.1 hp
        obtain ⟨i, hi, rfl⟩ := nd_at hx
        have ep : (pAt (psOf ns) i).tsn = t := by simpa using ep
        have hij : i ≠ j := fun e2 => e (by rw [← ep, e2])
        have h1 := hasT_mem (show pAt (psOf ns) i ∈ psOf (ns.eraseIdx j) from List.mem_map_of_mem (erase_has nd hj hi hij))
        rw [ep, ht] at h1
        cases h1
  · obtain ⟨es, clock, es', clock', _, rfl⟩ := hturn
    simp [ChangeMaps.setBlock]
theorem Wl.less {B L M j : Nat} {w w' : World} {ns : List (Nat × Part)} {D : DataW Unit} (h : Wl B w L M ns) (hl : Lk w' L M (ns.eraseIdx j)) (ht : Tab w' M (ns.eraseIdx j) D) : Wl B w' L M (ns.eraseIdx j) := by
  have sub : ∀ x, x ∈ ns.eraseIdx j → x ∈ ns := fun x hx => List.mem_of_mem_eraseIdx hx
  refine ⟨hl, ⟨D, ht⟩, h.td.sublist (((List.eraseIdx_sublist ..).map _).map _), fun q hq => ?_, h.ml, fun x hx => h.fm x (sub x hx), h.lo.1, h.lo.2.1, fun x hx => h.lo.2.2 x (sub x hx)⟩
  obtain ⟨x, hx, rfl⟩ := List.mem_map.1 hq
  exact h.key _ (List.mem_map_of_mem (sub x hx))
theorem rm1_heap (w : World) (ns : List (Nat × Part)) (L j : Nat) (hj : j < ns.length) {x : Nat} (hL : x ≠ L) (hb : ∀ y ∈ ns, x ≠ y.1) : (rm1 w ns L j).heap[x]? = w.heap[x]? := by
  cases j with
  | zero => exact Below.heap_setCell _ _ _ _ (by simpa using hL)
  | succ j => exact Below.heap_setCell _ _ _ _ (by simpa using hb _ (bAt_mem (show j < ns.length by omega)))
theorem rm2_heap (w : World) (ns : List (Nat × Part)) (L j : Nat) {x : Nat} (hL : x ≠ L) (hb : ∀ y ∈ ns, x ≠ y.1) : (rm2 w ns L j).heap[x]? = w.heap[x]? := by
  unfold rm2
  split
  · rename_i h
    exact Below.heap_setCell _ _ _ _ (by simpa using hb _ (bAt_mem h))
  · exact Below.heap_setCell _ _ _ _ (by simpa using hL)
theorem rm1_size (w : World) (ns : List (Nat × Part)) (L j : Nat) : (rm1 w ns L j).heap.size = w.heap.size := by
  cases j <;> simp [rm1]
theorem rm2_size (w : World) (ns : List (Nat × Part)) (L j : Nat) : (rm2 w ns L j).heap.size = w.heap.size := by
  unfold rm2
  split <;> simp
theorem rm_below {B L j : Nat} {w : World} {ns : List (Nat × Part)} (hj : j < ns.length) (hL : B ≤ L) (hb : ∀ y ∈ ns, B ≤ y.1) : Below B w (rm2 (rm1 w ns L j) ns L j) := by
  have h1 : Below B w (rm1 w ns L j) := by
    cases j with
    | zero => exact (Below.refl B w).setCell (p := ⟨L, 0, none⟩) hL _
    | succ j => exact (Below.refl B w).setCell (p := ⟨bAt ns j, 8, none⟩) (hb _ (bAt_mem (show j < ns.length by omega))) _
  unfold rm2
  split
  · rename_i h
    exact h1.setCell (p := ⟨bAt ns (j + 1), 7, none⟩) (hb _ (bAt_mem h)) _
  · exact h1.setCell (p := ⟨L, 1, none⟩) hL _
/-- What a removal leaves: the entry struck behind some draws. -/
theorem removed {B L M j q : Nat} {w : World} {ns : List (Nat × Part)} (h : Wl B w L M ns) (hj : j < ns.length) (ty : TypeId) : ∃ w9, (Builtin.delete_ #[98, 3] ty #[.map (some M), .int .i64 (pAt (psOf ns) j).tsn]).run Try.prog ((rm2 (rm1 w ns L j) ns L j).drewN q) = .ok (.tuple #[]) w9 ∧
    Wl B w9 L M (ns.eraseIdx j) ∧ Kp B L M ns w w9 := by
  obtain ⟨D, hD⟩ := h.tab
  have e0 : ((rm2 (rm1 w ns L j) ns L j).drewN q).heap = (rm2 (rm1 w ns L j) ns L j).heap := World.heap_drewN _ _
  have T2 : Tab ((rm2 (rm1 w ns L j) ns L j).drewN q) M ns D := hD.block (by
    rw [e0, rm2_heap _ _ _ _ h.ml (fun y hy => (h.fm y hy).symm), rm1_heap _ _ _ _ hj h.ml (fun y hy => (h.fm y hy).symm)])
  obtain ⟨w9, D9, hU, T9, G9, S9⟩ := T2.del h.lk.nd h.td hj (h.key _ (List.mem_map_of_mem (bAt_mem hj))) ty
  have L2 := (h.lk.rm hj (h.lk.mid hj))
  have hsz : ((rm2 (rm1 w ns L j) ns L j).drewN q).heap.size = w.heap.size := by rw [e0, rm2_size, rm1_size]
  have L9 : Lk w9 L M (ns.eraseIdx j) := L2.same fun x hx => by
    have e1 : w9.heap[x]? = ((rm2 (rm1 w ns L j) ns L j).drewN q).heap[x]? := by
      refine G9.block x ?_ ?_
      · rw [e0]
        rcases hx with rfl | ⟨y, hy, rfl⟩
        · exact L2.lt
        · exact L2.node_lt hy
      · rcases hx with rfl | ⟨y, hy, rfl⟩
        · simpa using h.ml.symm
        · simpa using h.fm y (List.mem_of_mem_eraseIdx hy)
    rw [e1, e0]
  refine ⟨w9, hU, h.less L9 T9, Below.grown (below_drewN (rm_below hj h.lo.1 h.lo.2.2) q) G9 (by rw [hsz]; exact Nat.le_of_lt (Nat.lt_of_le_of_lt h.lo.1 h.lk.lt)) (fun k e => by cases e; exact h.lo.2.1), fun x h1 h2 h3 h4 => ?_⟩
  rw [G9.block x (by rw [hsz]; exact h1) (by simpa using h3), e0, rm2_heap _ _ _ _ h2 h4, rm1_heap _ _ _ _ hj h2 h4]

set_option maxHeartbeats 2000000 in
theorem remove_first (B L M : Nat) (ns : List (Nat × Part)) (w : World) (h : Wl B w L M ns) (hj : 0 < ns.length) (hm : 0 + 1 < ns.length) :
    Calls Try.prog 87 #[.pointer (some ⟨L, 0, none⟩), .pointer (some ⟨bAt ns 0, 0, none⟩)] w fun e w' => e = .returned (.tuple #[]) ∧ Wl B w' L M (ns.eraseIdx 0) ∧ Kp B L M ns w w' := by
  obtain ⟨w9, hU, hW, hK⟩ := removed (q := 2) h hj 0
  have HW := Lib.hid hW
  have HK := Lib.hid hK
  clear hW hK
  have N := h.lk.nodes 0 hj
  unfold rm2 at hU
  rw [if_pos hm] at hU
  have hn := bk_some hm
  have hp : pv ns 0 = none := rfl
  have E1 : rm1 w ns L 0 = w.setCell ⟨L, 0, none⟩ (.pointer (pt (bk ns 1))) := rfl
  rw [E1, hp] at hU
  rw [show bk ns 1 = _ from hn] at hU
  rw [hn, hp] at N
  have n0 := (N 0 _ rfl).1
  have n7 := (N 7 _ rfl).1
  have n8 := (N 8 _ rfl).1
  have c0 := (h.lk.l 0 _ rfl).1
  have c1 := (h.lk.l 1 _ rfl).1
  have c2 := (h.lk.l 2 _ rfl).1
  have f0 := (h.lk.l 0 _ rfl).2
  have f1 := (h.lk.l 1 _ rfl).2
  have hjL := h.lk.fl _ (bAt_mem hj)
  have S := h.lk.nodes _ hm
  have s7 := (S 7 _ rfl).1
  have s7f := (S 7 _ rfl).2
  have hzL := h.lk.fl _ (bAt_mem hm)
  have hzj : ¬ bAt ns (0 + 1) = bAt ns 0 := fun e => by have := bAt_inj h.lk.nd hm hj e; omega
  obtain ⟨t, ht⟩ : ∃ t, (pAt (psOf ns) 0).tsn = t := ⟨_, rfl⟩
  obtain ⟨d, hd⟩ : ∃ d, bAt ns 0 = d := ⟨_, rfl⟩
  rw [ht] at hU n0
  rw [hd] at n0 n7 n8 hjL hzj ⊢
  obtain ⟨z, hz⟩ : ∃ z, bAt ns (0 + 1) = z := ⟨_, rfl⟩
  rw [hz] at hU n8 s7 s7f hzL hzj
  have hzL2 : ¬ L = z := fun h => hzL h.symm
  have hzj2 : ¬ d = z := fun h => hzj h.symm
  have hjL2 : ¬ L = d := fun h => hjL h.symm
  change (Builtin.delete_ _ _ _).run _ (World.setCell (World.setCell w ⟨L, 0, none⟩ (.pointer (some ⟨z, 0, none⟩))) ⟨z, 7, none⟩ (.pointer none)).drew.drew = _ at hU
  change w.cell? _ = some (.pointer none) at n7
  change w.cell? _ = some (.pointer (some ⟨z, 0, none⟩)) at n8
  clear h N ht hd hn hp E1 hj hm S hz
  go_enter Try.func87, Try.ntmps87
  go_wp2_with fail
  go_region
  go_wp2_with fail
  go_region
  all_goals
    go_end0
    exact ⟨rfl, HW.out, HK.out⟩

set_option maxHeartbeats 2000000 in
theorem remove_first_last (B L M : Nat) (ns : List (Nat × Part)) (w : World) (h : Wl B w L M ns) (hj : 0 < ns.length) (hm : ¬ 0 + 1 < ns.length) :
    Calls Try.prog 87 #[.pointer (some ⟨L, 0, none⟩), .pointer (some ⟨bAt ns 0, 0, none⟩)] w fun e w' => e = .returned (.tuple #[]) ∧ Wl B w' L M (ns.eraseIdx 0) ∧ Kp B L M ns w w' := by
  obtain ⟨w9, hU, hW, hK⟩ := removed (q := 1) h hj 0
  have HW := Lib.hid hW
  have HK := Lib.hid hK
  clear hW hK
  have N := h.lk.nodes 0 hj
  unfold rm2 at hU
  rw [if_neg hm] at hU
  have hn := bk_none (ns := ns) (i := 0 + 1) (by omega)
  have hp : pv ns 0 = none := rfl
  have E1 : rm1 w ns L 0 = w.setCell ⟨L, 0, none⟩ (.pointer (pt (bk ns 1))) := rfl
  rw [E1, hp] at hU
  rw [show bk ns 1 = _ from hn] at hU
  rw [hn, hp] at N
  have n0 := (N 0 _ rfl).1
  have n7 := (N 7 _ rfl).1
  have n8 := (N 8 _ rfl).1
  have c0 := (h.lk.l 0 _ rfl).1
  have c1 := (h.lk.l 1 _ rfl).1
  have c2 := (h.lk.l 2 _ rfl).1
  have f0 := (h.lk.l 0 _ rfl).2
  have f1 := (h.lk.l 1 _ rfl).2
  have hjL := h.lk.fl _ (bAt_mem hj)
  obtain ⟨t, ht⟩ : ∃ t, (pAt (psOf ns) 0).tsn = t := ⟨_, rfl⟩
  obtain ⟨d, hd⟩ : ∃ d, bAt ns 0 = d := ⟨_, rfl⟩
  rw [ht] at hU n0
  rw [hd] at n0 n7 n8 hjL ⊢
  have hjL2 : ¬ L = d := fun h => hjL h.symm
  change (Builtin.delete_ _ _ _).run _ (World.setCell (World.setCell w ⟨L, 0, none⟩ (.pointer none)) ⟨L, 1, none⟩ (.pointer none)).drew = _ at hU
  change w.cell? _ = some (.pointer none) at n7
  change w.cell? _ = some (.pointer none) at n8
  clear h N ht hd hn hp E1 hj hm
  go_enter Try.func87, Try.ntmps87
  go_wp2_with fail
  go_region
  all_goals
    go_end0
    exact ⟨rfl, HW.out, HK.out⟩

set_option maxHeartbeats 2000000 in
theorem remove_mid (B L M i : Nat) (ns : List (Nat × Part)) (w : World) (h : Wl B w L M ns) (hj : (i + 1) < ns.length) (hm : (i + 1) + 1 < ns.length) :
    Calls Try.prog 87 #[.pointer (some ⟨L, 0, none⟩), .pointer (some ⟨bAt ns (i + 1), 0, none⟩)] w fun e w' => e = .returned (.tuple #[]) ∧ Wl B w' L M (ns.eraseIdx (i + 1)) ∧ Kp B L M ns w w' := by
  obtain ⟨w9, hU, hW, hK⟩ := removed (q := 3) h hj 0
  have HW := Lib.hid hW
  have HK := Lib.hid hK
  clear hW hK
  have N := h.lk.nodes (i + 1) hj
  unfold rm2 at hU
  rw [if_pos hm] at hU
  have hn := bk_some hm
  have hl : i < ns.length := by omega
  have hp : pv ns (i + 1) = some (bAt ns i) := bk_some hl
  have E1 : rm1 w ns L (i + 1) = w.setCell ⟨bAt ns i, 8, none⟩ (.pointer (pt (bk ns (i + 2)))) := rfl
  rw [E1, hp] at hU
  rw [show bk ns (i + 2) = _ from hn] at hU
  rw [hn, hp] at N
  have n0 := (N 0 _ rfl).1
  have n7 := (N 7 _ rfl).1
  have n8 := (N 8 _ rfl).1
  have c0 := (h.lk.l 0 _ rfl).1
  have c1 := (h.lk.l 1 _ rfl).1
  have c2 := (h.lk.l 2 _ rfl).1
  have f0 := (h.lk.l 0 _ rfl).2
  have f1 := (h.lk.l 1 _ rfl).2
  have hjL := h.lk.fl _ (bAt_mem hj)
  have P := h.lk.nodes i hl
  have p8 := (P 8 _ rfl).1
  have p8f := (P 8 _ rfl).2
  have hyL := h.lk.fl _ (bAt_mem hl)
  have hyj : ¬ bAt ns i = bAt ns (i + 1) := fun e => by have := bAt_inj h.lk.nd hl hj e; omega
  have S := h.lk.nodes _ hm
  have s7 := (S 7 _ rfl).1
  have s7f := (S 7 _ rfl).2
  have hzL := h.lk.fl _ (bAt_mem hm)
  have hzj : ¬ bAt ns ((i + 1) + 1) = bAt ns (i + 1) := fun e => by have := bAt_inj h.lk.nd hm hj e; omega
  have hzy : ¬ bAt ns (i + 1 + 1) = bAt ns i := fun e => by have := bAt_inj h.lk.nd hm hl e; omega
  obtain ⟨t, ht⟩ : ∃ t, (pAt (psOf ns) (i + 1)).tsn = t := ⟨_, rfl⟩
  obtain ⟨d, hd⟩ : ∃ d, bAt ns (i + 1) = d := ⟨_, rfl⟩
  rw [ht] at hU n0
  rw [hd] at n0 n7 n8 hjL hyj hzj ⊢
  obtain ⟨y, hy⟩ : ∃ y, bAt ns i = y := ⟨_, rfl⟩
  rw [hy] at hU n7 p8 p8f hyL hyj hzy
  have hyL2 : ¬ L = y := fun h => hyL h.symm
  have hyj2 : ¬ d = y := fun h => hyj h.symm
  obtain ⟨z, hz⟩ : ∃ z, bAt ns ((i + 1) + 1) = z := ⟨_, rfl⟩
  rw [hz] at hU n8 s7 s7f hzL hzj hzy
  have hzL2 : ¬ L = z := fun h => hzL h.symm
  have hzj2 : ¬ d = z := fun h => hzj h.symm
  have hzy2 : ¬ y = z := fun h => hzy h.symm
  have hjL2 : ¬ L = d := fun h => hjL h.symm
  change (Builtin.delete_ _ _ _).run _ (World.setCell (World.setCell w ⟨y, 8, none⟩ (.pointer (some ⟨z, 0, none⟩))) ⟨z, 7, none⟩ (.pointer (some ⟨y, 0, none⟩))).drew.drew.drew = _ at hU
  change w.cell? _ = some (.pointer (some ⟨y, 0, none⟩)) at n7
  change w.cell? _ = some (.pointer (some ⟨z, 0, none⟩)) at n8
  clear h N ht hd hn hp E1 hj hm P hy hl S hz
  go_enter Try.func87, Try.ntmps87
  go_wp2_with fail
  go_region
  go_wp2_with fail
  go_region
  go_wp2_with fail
  go_region
  all_goals
    go_end0
    exact ⟨rfl, HW.out, HK.out⟩

set_option maxHeartbeats 2000000 in
theorem remove_mid_last (B L M i : Nat) (ns : List (Nat × Part)) (w : World) (h : Wl B w L M ns) (hj : (i + 1) < ns.length) (hm : ¬ (i + 1) + 1 < ns.length) :
    Calls Try.prog 87 #[.pointer (some ⟨L, 0, none⟩), .pointer (some ⟨bAt ns (i + 1), 0, none⟩)] w fun e w' => e = .returned (.tuple #[]) ∧ Wl B w' L M (ns.eraseIdx (i + 1)) ∧ Kp B L M ns w w' := by
  obtain ⟨w9, hU, hW, hK⟩ := removed (q := 2) h hj 0
  have HW := Lib.hid hW
  have HK := Lib.hid hK
  clear hW hK
  have N := h.lk.nodes (i + 1) hj
  unfold rm2 at hU
  rw [if_neg hm] at hU
  have hn := bk_none (ns := ns) (i := (i + 1) + 1) (by omega)
  have hl : i < ns.length := by omega
  have hp : pv ns (i + 1) = some (bAt ns i) := bk_some hl
  have E1 : rm1 w ns L (i + 1) = w.setCell ⟨bAt ns i, 8, none⟩ (.pointer (pt (bk ns (i + 2)))) := rfl
  rw [E1, hp] at hU
  rw [show bk ns (i + 2) = _ from hn] at hU
  rw [hn, hp] at N
  have n0 := (N 0 _ rfl).1
  have n7 := (N 7 _ rfl).1
  have n8 := (N 8 _ rfl).1
  have c0 := (h.lk.l 0 _ rfl).1
  have c1 := (h.lk.l 1 _ rfl).1
  have c2 := (h.lk.l 2 _ rfl).1
  have f0 := (h.lk.l 0 _ rfl).2
  have f1 := (h.lk.l 1 _ rfl).2
  have hjL := h.lk.fl _ (bAt_mem hj)
  have P := h.lk.nodes i hl
  have p8 := (P 8 _ rfl).1
  have p8f := (P 8 _ rfl).2
  have hyL := h.lk.fl _ (bAt_mem hl)
  have hyj : ¬ bAt ns i = bAt ns (i + 1) := fun e => by have := bAt_inj h.lk.nd hl hj e; omega
  obtain ⟨t, ht⟩ : ∃ t, (pAt (psOf ns) (i + 1)).tsn = t := ⟨_, rfl⟩
  obtain ⟨d, hd⟩ : ∃ d, bAt ns (i + 1) = d := ⟨_, rfl⟩
  rw [ht] at hU n0
  rw [hd] at n0 n7 n8 hjL hyj ⊢
  obtain ⟨y, hy⟩ : ∃ y, bAt ns i = y := ⟨_, rfl⟩
  rw [hy] at hU n7 p8 p8f hyL hyj
  have hyL2 : ¬ L = y := fun h => hyL h.symm
  have hyj2 : ¬ d = y := fun h => hyj h.symm
  have hjL2 : ¬ L = d := fun h => hjL h.symm
  change (Builtin.delete_ _ _ _).run _ (World.setCell (World.setCell w ⟨y, 8, none⟩ (.pointer none)) ⟨L, 1, none⟩ (.pointer (some ⟨y, 0, none⟩))).drew.drew = _ at hU
  change w.cell? _ = some (.pointer (some ⟨y, 0, none⟩)) at n7
  change w.cell? _ = some (.pointer none) at n8
  clear h N ht hd hn hp E1 hj hm P hy hl
  go_enter Try.func87, Try.ntmps87
  go_wp2_with fail
  go_region
  go_wp2_with fail
  go_region
  all_goals
    go_end0
    exact ⟨rfl, HW.out, HK.out⟩

theorem remove_any (B L M j : Nat) (ns : List (Nat × Part)) (w : World) (h : Wl B w L M ns) (hj : j < ns.length) :
    Calls Try.prog 87 #[.pointer (some ⟨L, 0, none⟩), .pointer (some ⟨bAt ns j, 0, none⟩)] w fun e w' => e = .returned (.tuple #[]) ∧ Wl B w' L M (ns.eraseIdx j) ∧ Kp B L M ns w w' := by
  cases j with
  | zero =>
    by_cases hm : 0 + 1 < ns.length
    · exact remove_first B L M ns w h hj hm
    · exact remove_first_last B L M ns w h hj hm
  | succ i =>
    by_cases hm : i + 1 + 1 < ns.length
    · exact remove_mid B L M i ns w h hj hm
    · exact remove_mid_last B L M i ns w h hj hm

end Go.Proofs.Ytncbgejggfkdmaa

/- Rows of parts of one's own; the program's parts that wait as a list. -/
namespace Go.Proofs.Ytncbgejggfkdmaa
open Go.RowKit Go.PlainAid

theorem past_c {w : World} {p : Addr} {v : Value} (h : w.cell? p = some v) (o : Obj) : (w.alloc o).cell? p = some v := (World.cell?_alloc_lt _ _ _ (World.block_lt_of_cell? w p h)).trans h
/-- A slice of parts of one's own. -/
structure OwnP (k : Nat) (v : Value) (ps : List Part) (w W : World) : Prop where
  own : W.ownsRow w.heap.size 28 7 v k (flatP ps)
  b : Below w.heap.size w W
section
variable {k : Nat} {v : Value} {ps : List Part} {w W W' : World}
theorem OwnP.up (h : OwnP k v ps w W) (hb : Below W.heap.size W W') : OwnP k v ps w W' := by
  refine ⟨⟨h.own.1, ?_⟩, h.b.trans (hb.mono h.b.size)⟩
  rcases h.own.2 with h1 | ⟨g, cap, cur, h1, h2, h3, h4⟩
  · exact .inl h1
  · have hg : g < W.heap.size := (Array.getElem?_eq_some_iff.1 h3).1
    exact .inr ⟨g, cap, cur, h1, h2, by rw [hb.block g hg]; exact h3, h4⟩
theorem OwnP.low (h : OwnP k v ps W W') (hb : Below w.heap.size w W) : OwnP k v ps w W' := by
  refine ⟨⟨h.own.1, ?_⟩, hb.trans (h.b.mono hb.size)⟩
  rcases h.own.2 with h1 | ⟨g, cap, cur, h1, h2, h3⟩
  · exact .inl h1
  · exact .inr ⟨g, cap, cur, h1, Nat.le_trans hb.size h2, h3⟩
theorem OwnP.base {g : Nat} (h : OwnP k v ps w W) (hv : v.ownBlock = some g) : w.heap.size ≤ g := by
  rcases h.own.2 with ⟨h1, _⟩ | ⟨g', cap', cur, h1, h2, _⟩
  · rw [h1] at hv
    cases hv
  · rw [h1] at hv
    obtain rfl : g' = g := by simpa [Value.ownBlock] using hv
    exact h2
theorem OwnP.push {W1 : World} {g2 cap2 : Nat} {p : Part} (h : OwnP k v ps w W) (hgrow : W.grownBy W1 v.ownBlock) (hown : W1.ownsRow w.heap.size 28 7 (.slice (some ⟨g2, 0, none⟩) (k + 1) cap2) (k + 1) (flatP ps ++ cellsP p)) : OwnP (k + 1) (.slice (some ⟨g2, 0, none⟩) (k + 1) cap2) (ps ++ [p]) w W1 := by
  have e : flatP ps ++ cellsP p = flatP (ps ++ [p]) := by rw [flatP_append]; simp [flatP]
  exact ⟨by rw [← e]; exact hown, Below.grown h.b hgrow h.b.size fun x hx => h.base hx⟩
theorem OwnP.pts {a : Option Addr} {cap : Nat} (h : OwnP k (.slice a k cap) ps w W) : Pts W a k cap ps := own_pts h.own
theorem OwnP.nil (hb : Below w.heap.size w W) : OwnP 0 (.slice none 0 0) [] w W := ⟨⟨rfl, .inl ⟨rfl, rfl⟩⟩, hb⟩
theorem OwnP.start (hb : Below w.heap.size w W) : OwnP 0 (.slice (some ⟨W.heap.size, 0, none⟩) 0 0) [] w (W.alloc (.cells #[] 28)) :=
  ⟨World.ownsRow_lit (base := w.heap.size) (e := 28) (size := 7) W #[] 0 hb.size (by decide) rfl, hb.alloc hb.size _⟩
end
theorem pt_some (d : Nat) : pt (some d) = some ⟨d, 0, none⟩ := rfl
theorem pt_none : pt none = none := rfl
def lenV : Value → Nat
  | .slice _ n _ => n
  | _ => 0
/-- The blocks from a place on, as the walk over the links meets them. -/
theorem bk_cases (ns : List (Nat × Part)) (k : Nat) : (k < ns.length ∧ bk ns k = some (bAt ns k)) ∨ (ns.length ≤ k ∧ bk ns k = none) := by
  by_cases h : k < ns.length
  · exact .inl ⟨h, bk_some h⟩
  · exact .inr ⟨by omega, bk_none (by omega)⟩
theorem ps_take {ns : List (Nat × Part)} {k : Nat} (h : k < ns.length) : (psOf ns).take (k + 1) = (psOf ns).take k ++ [pAt (psOf ns) k] := take_pAt (by rw [psOf_length]; exact h)

set_option maxHeartbeats 2000000 in
theorem list_any (B L M : Nat) (ns : List (Nat × Part)) (w : World) (h : Wl B w L M ns) (hn : ns.length ≤ 100) :
    Calls Try.prog 46 #[.pointer (some ⟨L, 0, none⟩)] w fun e w' => ∃ a cap, e = .returned (.slice a ns.length cap) ∧ OwnP ns.length (.slice a ns.length cap) (psOf ns) w w' := by
  have HC := Lib.hid h
  have c0 := (h.lk.l 0 _ rfl).1
  have O0 := Lib.hid (OwnP.nil (Below.refl w.heap.size w))
  obtain ⟨i0, hi, hz0, hz1, hz2⟩ := info_parts info_pt
  have HI := Lib.hid (And.intro hi (And.intro hz0 (And.intro hz1 hz2)))
  clear hi hz0 hz1 hz2 h
  go_enter Try.func46, Try.ntmps46
  go_wp2
  go_loopw [3, 4] (fun v p wr => ∃ (k : Nat) (a : Option Addr) (cap : Nat), k ≤ ns.length ∧ v = .slice a k cap ∧ p = .pointer (pt (bk ns k)) ∧ Hid (OwnP k (.slice a k cap) ((psOf ns).take k) w wr)) (fun v _ _ => ns.length - lenV v)
  case atStart => exact ⟨0, none, 0, Nat.zero_le _, rfl, rfl, O0⟩
  case round =>
    obtain ⟨k, a, cap, hk, rfl, rfl, hr⟩ := hrel
    clear O0 c0
    rcases bk_cases ns k with ⟨hlt, hb⟩ | ⟨hge, hb⟩
    · have lk := HC.out.lk.nodes k hlt
      have llt := lk.lt
      rw [hb]
      have ET := Lib.hid (ps_take hlt)
      have lp := fun i v hi => kept_cell hr.out.b llt (lk i v hi).1
      have HNB : Hid (some (bAt ns k) ≠ (Value.slice a k cap).ownBlock) := Lib.hid fun e => by
        have := hr.out.base e.symm
        omega
      have HL := Lib.hid hb
      obtain ⟨d, hd⟩ : ∃ d, bAt ns k = d := ⟨_, rfl⟩
      obtain ⟨⟨t, s, q, fi, la, lo, tx⟩, hp⟩ : ∃ p, pAt (psOf ns) k = p := ⟨_, rfl⟩
      rw [hd] at lp llt HNB ⊢
      rw [hp] at lp ET
      have l0 := lp 0 _ rfl
      have l1 := lp 1 _ rfl
      have l2 := lp 2 _ rfl
      have l3 := lp 3 _ rfl
      have l4 := lp 4 _ rfl
      have l5 := lp 5 _ rfl
      have l6 := lp 6 _ rfl
      have l8 := lp 8 _ rfl
      have SA := Lib.hid (hr.out.up (below_box (.cells #[.int .i64 t, .int .i64 s, .int .i64 q, .bool fi, .bool la, .bool lo, .string tx] 28) (Nat.le_refl _)))
      have hsz := hr.out.b.size
      clear lp hp lk hd hr hb
      rw [pt_some]
      go_wp2_with (at_builtin; go_loud (refine wpList_append_lies _ rfl _ _ 24 rfl w.heap.size 28 i0 (partV ⟨0, 0, 0, false, false, false, ByteArray.mk #[]⟩) 7 48 Try.underlying24 HI.out.1 HI.out.2.1 HI.out.2.2.1 HI.out.2.2.2 rfl (by decide) (.slice a k cap) k (flatP ((psOf ns).take k)) rfl SA.out.own ⟨wr.heap.size, 0, none⟩ 1 1 (cellsP ⟨t, s, q, fi, la, lo, tx⟩) rfl rfl (news_box rfl) (cellsP_one _) (by decide) (by unfold maxLen; omega) (by omega) (by simp; omega) _ rfl ?_))
      intro g2 cap2 w9 hown hgrow hat hlt9
      have SP := Lib.hid (show OwnP (k + 1) (.slice (some ⟨g2, 0, none⟩) (k + 1) cap2) ((psOf ns).take (k + 1)) w w9 by rw [ET.out]; exact SA.out.push hgrow hown)
      have x2 := (hgrow.cell_far ⟨d, 8, none⟩ (by simp; omega) HNB.out).trans (show (wr.alloc (.cells #[.int .i64 t, .int .i64 s, .int .i64 q, .bool fi, .bool la, .bool lo, .string tx] 28)).cell? ⟨d, 8, none⟩ = _ from past_c l8 _)
      clear SA hown hgrow hat hlt9 l0 l1 l2 l3 l4 l5 l6 l8 HNB
      go_wp2
      go_roundw
      case rel => exact ⟨k + 1, some ⟨g2, 0, none⟩, cap2, by omega, rfl, rfl, SP⟩
      case measure => simp [lenV]; omega
    · obtain rfl : k = ns.length := by omega
      have e : (psOf ns).take ns.length = psOf ns := List.take_of_length_le (by rw [psOf_length]; exact Nat.le_refl _)
      rw [hb]
      have HR := hr.out
      rw [e] at HR
      have HR := Lib.hid HR
      clear hr e hb
      rw [pt_none]
      go_wp2
      go_ret
      exact ⟨a, cap, rfl, HR.out⟩

end Go.Proofs.Ytncbgejggfkdmaa

/- The contracts of AsmNew, the program's and the model's; its draw. -/
namespace Go.Proofs.Ytncbgejggfkdmaa
open Go.RowKit Go.PlainAid

theorem flat_rep (n : Nat) : flatN (List.replicate n 0) = List.replicate n (.int .i64 0) := by
  induction n with
  | zero => rfl
  | succ n ih =>
    rw [List.replicate_succ, List.replicate_succ, ← ih]
    rfl
/-- A new assembly: n numbers of one's own, all zero, and parts of one's own. -/
def NewA (n : Nat) (w : World) (e : Ending) (w' : World) : Prop :=
  ∃ g p, e = .returned (.tuple #[.agg #[.slice (some ⟨g, 0, none⟩) n n, .slice p 0 0], .bool true]) ∧ w'.ownsRow w.heap.size 3 1 (.slice (some ⟨g, 0, none⟩) n n) n (flatN (List.replicate n 0)) ∧ w'.ownsRow w.heap.size 28 7 (.slice p 0 0) 0 (flatP []) ∧ Below w.heap.size w w'
def NoA (w : World) (e : Ending) (w' : World) : Prop := e = .returned (.tuple #[.agg #[.slice none 0 0, .slice none 0 0], .bool false]) ∧ Below w.heap.size w w'

set_option maxHeartbeats 1000000 in
theorem sAsmNew_1 (w : World) : Calls Try.prog 68 #[.int .i64 1] w (NewA 1 w) := by
  have hmk : ∀ w, (Instr.makeSlice 23 (.int .i64 1) (.int .i64 1)).run Try.prog w = .ok (.slice (some ⟨w.heap.size, 0, none⟩) 1 1) (w.alloc (.cells #[.int .i64 0] 3)) := fun _ => by kernel_rfl
  have Z := (VarN.new w [.slice (some ⟨w.heap.size + 1, 0, none⟩) 1 1, .slice (some ⟨w.heap.size + 1 + 1, 0, none⟩) 0 0] 26).alloc (.cells #[.int .i64 0] 3) (by simp)
  have Z := Z.alloc (.cells #[] 28) (by first | (simp; done) | (simp; omega))
  have z0 := (Z 0 _ rfl).1
  have z1 := (Z 1 _ rfl).1
  have O := Lib.hid (World.ownsRow_lit (base := w.heap.size) (e := 3) (size := 1) (w.alloc (.cells (List.toArray [.slice (some ⟨w.heap.size + 1, 0, none⟩) 1 1, .slice (some ⟨w.heap.size + 1 + 1, 0, none⟩) 0 0]) 26)) #[.int .i64 0] 1 (by simp) (by decide) rfl)
  have Q := Lib.hid (World.ownsRow_lit (base := w.heap.size) (e := 28) (size := 7) ((w.alloc (.cells (List.toArray [.slice (some ⟨w.heap.size + 1, 0, none⟩) 1 1, .slice (some ⟨w.heap.size + 1 + 1, 0, none⟩) 0 0]) 26)).alloc (.cells #[.int .i64 0] 3)) #[] 0 (by first | (simp; done) | (simp; omega)) (by decide) rfl)
  have B := Lib.hid (show Below w.heap.size w (((w.alloc (.cells (List.toArray [.slice (some ⟨w.heap.size + 1, 0, none⟩) 1 1, .slice (some ⟨w.heap.size + 1 + 1, 0, none⟩) 0 0]) 26)).alloc (.cells #[.int .i64 0] 3)).alloc (.cells #[] 28)) from ((below_box _ (Nat.le_refl _)).alloc (by simp) _).alloc (by first | (simp; done) | (simp; omega)) _)
  clear Z
  go_enter Try.func68, Try.ntmps68
  go_wp2_with fail
  refine (l6In_any 1 1 4 _).mono ?_
  rintro e w' ⟨rfl, rfl⟩
  go_wp2
  refine bodyPost_ret (v := .tuple #[.agg #[.slice (some ⟨w.heap.size + 1, 0, none⟩) 1 1, .slice (some ⟨w.heap.size + 1 + 1, 0, none⟩) 0 0], .bool true]) ?_ rfl ?_
  · simp [results, Try.results68, go_sem, z0, z1]
  · refine ⟨w.heap.size + 1, _, rfl, ?_, ?_, B.out⟩
    · have h := O.out.alloc (.cells #[] 28)
      rw [flat_rep]
      simpa using h
    · have h := Q.out
      simpa [flatP] using h

set_option maxHeartbeats 1000000 in
theorem sAsmNew_2 (w : World) : Calls Try.prog 68 #[.int .i64 2] w (NewA 2 w) := by
  have hmk : ∀ w, (Instr.makeSlice 23 (.int .i64 2) (.int .i64 2)).run Try.prog w = .ok (.slice (some ⟨w.heap.size, 0, none⟩) 2 2) (w.alloc (.cells #[.int .i64 0, .int .i64 0] 3)) := fun _ => by kernel_rfl
  have Z := (VarN.new w [.slice (some ⟨w.heap.size + 1, 0, none⟩) 2 2, .slice (some ⟨w.heap.size + 1 + 1, 0, none⟩) 0 0] 26).alloc (.cells #[.int .i64 0, .int .i64 0] 3) (by simp)
  have Z := Z.alloc (.cells #[] 28) (by first | (simp; done) | (simp; omega))
  have z0 := (Z 0 _ rfl).1
  have z1 := (Z 1 _ rfl).1
  have O := Lib.hid (World.ownsRow_lit (base := w.heap.size) (e := 3) (size := 1) (w.alloc (.cells (List.toArray [.slice (some ⟨w.heap.size + 1, 0, none⟩) 2 2, .slice (some ⟨w.heap.size + 1 + 1, 0, none⟩) 0 0]) 26)) #[.int .i64 0, .int .i64 0] 2 (by simp) (by decide) rfl)
  have Q := Lib.hid (World.ownsRow_lit (base := w.heap.size) (e := 28) (size := 7) ((w.alloc (.cells (List.toArray [.slice (some ⟨w.heap.size + 1, 0, none⟩) 2 2, .slice (some ⟨w.heap.size + 1 + 1, 0, none⟩) 0 0]) 26)).alloc (.cells #[.int .i64 0, .int .i64 0] 3)) #[] 0 (by first | (simp; done) | (simp; omega)) (by decide) rfl)
  have B := Lib.hid (show Below w.heap.size w (((w.alloc (.cells (List.toArray [.slice (some ⟨w.heap.size + 1, 0, none⟩) 2 2, .slice (some ⟨w.heap.size + 1 + 1, 0, none⟩) 0 0]) 26)).alloc (.cells #[.int .i64 0, .int .i64 0] 3)).alloc (.cells #[] 28)) from ((below_box _ (Nat.le_refl _)).alloc (by simp) _).alloc (by first | (simp; done) | (simp; omega)) _)
  clear Z
  go_enter Try.func68, Try.ntmps68
  go_wp2_with fail
  refine (l6In_any 2 1 4 _).mono ?_
  rintro e w' ⟨rfl, rfl⟩
  go_wp2
  refine bodyPost_ret (v := .tuple #[.agg #[.slice (some ⟨w.heap.size + 1, 0, none⟩) 2 2, .slice (some ⟨w.heap.size + 1 + 1, 0, none⟩) 0 0], .bool true]) ?_ rfl ?_
  · simp [results, Try.results68, go_sem, z0, z1]
  · refine ⟨w.heap.size + 1, _, rfl, ?_, ?_, B.out⟩
    · have h := O.out.alloc (.cells #[] 28)
      rw [flat_rep]
      simpa using h
    · have h := Q.out
      simpa [flatP] using h

set_option maxHeartbeats 1000000 in
theorem sAsmNew_3 (w : World) : Calls Try.prog 68 #[.int .i64 3] w (NewA 3 w) := by
  have hmk : ∀ w, (Instr.makeSlice 23 (.int .i64 3) (.int .i64 3)).run Try.prog w = .ok (.slice (some ⟨w.heap.size, 0, none⟩) 3 3) (w.alloc (.cells #[.int .i64 0, .int .i64 0, .int .i64 0] 3)) := fun _ => by kernel_rfl
  have Z := (VarN.new w [.slice (some ⟨w.heap.size + 1, 0, none⟩) 3 3, .slice (some ⟨w.heap.size + 1 + 1, 0, none⟩) 0 0] 26).alloc (.cells #[.int .i64 0, .int .i64 0, .int .i64 0] 3) (by simp)
  have Z := Z.alloc (.cells #[] 28) (by first | (simp; done) | (simp; omega))
  have z0 := (Z 0 _ rfl).1
  have z1 := (Z 1 _ rfl).1
  have O := Lib.hid (World.ownsRow_lit (base := w.heap.size) (e := 3) (size := 1) (w.alloc (.cells (List.toArray [.slice (some ⟨w.heap.size + 1, 0, none⟩) 3 3, .slice (some ⟨w.heap.size + 1 + 1, 0, none⟩) 0 0]) 26)) #[.int .i64 0, .int .i64 0, .int .i64 0] 3 (by simp) (by decide) rfl)
  have Q := Lib.hid (World.ownsRow_lit (base := w.heap.size) (e := 28) (size := 7) ((w.alloc (.cells (List.toArray [.slice (some ⟨w.heap.size + 1, 0, none⟩) 3 3, .slice (some ⟨w.heap.size + 1 + 1, 0, none⟩) 0 0]) 26)).alloc (.cells #[.int .i64 0, .int .i64 0, .int .i64 0] 3)) #[] 0 (by first | (simp; done) | (simp; omega)) (by decide) rfl)
  have B := Lib.hid (show Below w.heap.size w (((w.alloc (.cells (List.toArray [.slice (some ⟨w.heap.size + 1, 0, none⟩) 3 3, .slice (some ⟨w.heap.size + 1 + 1, 0, none⟩) 0 0]) 26)).alloc (.cells #[.int .i64 0, .int .i64 0, .int .i64 0] 3)).alloc (.cells #[] 28)) from ((below_box _ (Nat.le_refl _)).alloc (by simp) _).alloc (by first | (simp; done) | (simp; omega)) _)
  clear Z
  go_enter Try.func68, Try.ntmps68
  go_wp2_with fail
  refine (l6In_any 3 1 4 _).mono ?_
  rintro e w' ⟨rfl, rfl⟩
  go_wp2
  refine bodyPost_ret (v := .tuple #[.agg #[.slice (some ⟨w.heap.size + 1, 0, none⟩) 3 3, .slice (some ⟨w.heap.size + 1 + 1, 0, none⟩) 0 0], .bool true]) ?_ rfl ?_
  · simp [results, Try.results68, go_sem, z0, z1]
  · refine ⟨w.heap.size + 1, _, rfl, ?_, ?_, B.out⟩
    · have h := O.out.alloc (.cells #[] 28)
      rw [flat_rep]
      simpa using h
    · have h := Q.out
      simpa [flatP] using h

set_option maxHeartbeats 1000000 in
theorem sAsmNew_4 (w : World) : Calls Try.prog 68 #[.int .i64 4] w (NewA 4 w) := by
  have hmk : ∀ w, (Instr.makeSlice 23 (.int .i64 4) (.int .i64 4)).run Try.prog w = .ok (.slice (some ⟨w.heap.size, 0, none⟩) 4 4) (w.alloc (.cells #[.int .i64 0, .int .i64 0, .int .i64 0, .int .i64 0] 3)) := fun _ => by kernel_rfl
  have Z := (VarN.new w [.slice (some ⟨w.heap.size + 1, 0, none⟩) 4 4, .slice (some ⟨w.heap.size + 1 + 1, 0, none⟩) 0 0] 26).alloc (.cells #[.int .i64 0, .int .i64 0, .int .i64 0, .int .i64 0] 3) (by simp)
  have Z := Z.alloc (.cells #[] 28) (by first | (simp; done) | (simp; omega))
  have z0 := (Z 0 _ rfl).1
  have z1 := (Z 1 _ rfl).1
  have O := Lib.hid (World.ownsRow_lit (base := w.heap.size) (e := 3) (size := 1) (w.alloc (.cells (List.toArray [.slice (some ⟨w.heap.size + 1, 0, none⟩) 4 4, .slice (some ⟨w.heap.size + 1 + 1, 0, none⟩) 0 0]) 26)) #[.int .i64 0, .int .i64 0, .int .i64 0, .int .i64 0] 4 (by simp) (by decide) rfl)
  have Q := Lib.hid (World.ownsRow_lit (base := w.heap.size) (e := 28) (size := 7) ((w.alloc (.cells (List.toArray [.slice (some ⟨w.heap.size + 1, 0, none⟩) 4 4, .slice (some ⟨w.heap.size + 1 + 1, 0, none⟩) 0 0]) 26)).alloc (.cells #[.int .i64 0, .int .i64 0, .int .i64 0, .int .i64 0] 3)) #[] 0 (by first | (simp; done) | (simp; omega)) (by decide) rfl)
  have B := Lib.hid (show Below w.heap.size w (((w.alloc (.cells (List.toArray [.slice (some ⟨w.heap.size + 1, 0, none⟩) 4 4, .slice (some ⟨w.heap.size + 1 + 1, 0, none⟩) 0 0]) 26)).alloc (.cells #[.int .i64 0, .int .i64 0, .int .i64 0, .int .i64 0] 3)).alloc (.cells #[] 28)) from ((below_box _ (Nat.le_refl _)).alloc (by simp) _).alloc (by first | (simp; done) | (simp; omega)) _)
  clear Z
  go_enter Try.func68, Try.ntmps68
  go_wp2_with fail
  refine (l6In_any 4 1 4 _).mono ?_
  rintro e w' ⟨rfl, rfl⟩
  go_wp2
  refine bodyPost_ret (v := .tuple #[.agg #[.slice (some ⟨w.heap.size + 1, 0, none⟩) 4 4, .slice (some ⟨w.heap.size + 1 + 1, 0, none⟩) 0 0], .bool true]) ?_ rfl ?_
  · simp [results, Try.results68, go_sem, z0, z1]
  · refine ⟨w.heap.size + 1, _, rfl, ?_, ?_, B.out⟩
    · have h := O.out.alloc (.cells #[] 28)
      rw [flat_rep]
      simpa using h
    · have h := Q.out
      simpa [flatP] using h

theorem sAsmNew_yes (n : Int) (w : World) (h : 1 ≤ n ∧ n ≤ 4) : Calls Try.prog 68 #[.int .i64 n] w (NewA n.toNat w) := by
  obtain rfl | rfl | rfl | rfl : n = 1 ∨ n = 2 ∨ n = 3 ∨ n = 4 := by omega
  · exact sAsmNew_1 w
  · exact sAsmNew_2 w
  · exact sAsmNew_3 w
  · exact sAsmNew_4 w

theorem sAsmNew_no (n : Int) (w : World) (h : ¬ (1 ≤ n ∧ n ≤ 4)) : Calls Try.prog 68 #[.int .i64 n] w (NoA w) := by
  have Z := VarN.new w [.slice none 0 0, .slice none 0 0] 26
  have z0 := (Z 0 _ rfl).1
  have z1 := (Z 1 _ rfl).1
  have B := Lib.hid (show Below w.heap.size w (w.alloc (.cells (List.toArray [.slice none 0 0, .slice none 0 0]) 26)) from below_box _ (Nat.le_refl _))
  clear Z
  have d := decide_eq_false h
  go_enter Try.func68, Try.ntmps68
  go_wp2_with fail
  refine (l6In_any n 1 4 _).mono ?_
  rw [d]
  rintro e w' ⟨rfl, rfl⟩
  go_wp2
  refine bodyPost_ret (v := .tuple #[.agg #[.slice none 0 0, .slice none 0 0], .bool false]) ?_ rfl ⟨rfl, B.out⟩
  simp [results, Try.results68, go_sem, z0, z1]

end Go.Proofs.Ytncbgejggfkdmaa

/- The contracts of the program's chapter 3: steps, differences by a closure, and what follows of them. -/
namespace Go.Proofs.Ytncbgejggfkdmaa
open Go.RowKit

set_option maxHeartbeats 400000 in
theorem serialValid_yes (n : Int) (w : World) (h : Ser n) :
    Calls Try.prog 54 #[.int .i64 n] w fun e w' => e = .returned (.bool true) ∧ w = w' := by
  obtain ⟨h0, h1⟩ := h
  go_enter Try.func54, Try.ntmps54
  go_wp2
  go_ret
  exact ⟨rfl, rfl⟩

set_option maxHeartbeats 400000 in
theorem serialValid_no (n : Int) (w : World) (h : ¬ Ser n) :
    Calls Try.prog 54 #[.int .i64 n] w fun e w' => e = .returned (.bool false) ∧ w = w' := by
  unfold Ser at h
  by_cases h0 : 0 ≤ n
  · have d1 : decide (n < 65536) = false := decide_eq_false (by omega)
    clear h
    go_enter Try.func54, Try.ntmps54
    go_wp2
    go_ret
    exact ⟨rfl, rfl⟩
  · have d0 : decide (0 ≤ n) = false := decide_eq_false h0
    clear h
    go_enter Try.func54, Try.ntmps54
    go_wp2
    go_ret
    exact ⟨rfl, rfl⟩

set_option maxHeartbeats 400000 in
theorem serialAdd_any (a n : Int) (w : World) :
    Calls Try.prog 23 #[.int .i64 a, .int .i64 n] w fun e w' => e = .returned (.int .i64 (addV a n)) ∧ w = w' := by
  by_cases h : Ser a
  · have H := Lib.hid h
    have E := Lib.hid (rem_mod a n)
    obtain ⟨t0, t1⟩ := rem_range n
    obtain ⟨a0, a1⟩ := h
    rw [addV_yes n H.out]
    go_enter Try.func23, Try.ntmps23
    go_wp2_with fail
    refine (serialValid_yes a _ H.out).mono ?_
    rintro e w1 ⟨rfl, rfl⟩
    go_wp2
    go_ret
    exact ⟨ret_i E.out, rfl⟩
  · have H := Lib.hid h
    rw [addV_no n h]
    clear h
    go_enter Try.func23, Try.ntmps23
    go_wp2_with fail
    refine (serialValid_no a _ H.out).mono ?_
    rintro e w1 ⟨rfl, rfl⟩
    go_wp2
    go_ret
    exact ⟨rfl, rfl⟩

theorem lessV_steps {a b : Int} (ha : Ser a) (hb : Ser b) : lessV a b = (decide (0 < diffV a b) && decide (diffV a b < 32768)) := by
  rw [diffV_yes ha hb]
  by_cases h : LessS a b
  · rw [lessV_yes ha hb h]
    unfold LessS at h
    rw [decide_eq_true (show 0 < diffS a b by omega), decide_eq_true (show diffS a b < 32768 by omega)]
    rfl
  · rw [lessV_no h]
    unfold LessS at h
    by_cases h0 : 0 < diffS a b
    · rw [decide_eq_false (show ¬ diffS a b < 32768 by omega), Bool.and_false]
    · rw [decide_eq_false h0, Bool.false_and]
theorem lessV_diff (a b : Int) : lessV a b = (decide (0 < diffV a b) && decide (diffV a b < 32768)) := by
  by_cases ha : Ser a
  · by_cases hb : Ser b
    · exact lessV_steps ha hb
    · rw [lessV_right a hb, diffV_right a hb]
      decide
  · rw [lessV_left b ha, diffV_left b ha]
    decide
theorem inV_diff {n a m : Int} (h : 0 ≤ m ∧ m ≤ 32768) : inV n a m = (decide (0 ≤ diffV a n) && decide (diffV a n < m)) := by
  by_cases ha : Ser a
  · by_cases hn : Ser n
    · rw [diffV_yes ha hn]
      have g := inS_diff hn ha h.1 h.2
      by_cases hi : InS n a m
      · rw [inV_yes hi, decide_eq_true (g.1 hi).1, decide_eq_true (g.1 hi).2]
        rfl
      · rw [inV_no hi]
        by_cases h0 : 0 ≤ diffS a n
        · rw [decide_eq_false (fun h1 => hi (g.2 ⟨h0, h1⟩)), Bool.and_false]
        · rw [decide_eq_false h0, Bool.false_and]
    · rw [inV_no (fun g => hn g.1), diffV_right a hn]
      rfl
  · rw [inV_no (fun g => ha g.2.1), diffV_left n ha]
    rfl

end Go.Proofs.Ytncbgejggfkdmaa

/- The contracts of the program's list of parts that wait: the parts of a complete message. -/
namespace Go.Proofs.Ytncbgejggfkdmaa
open Go.RowKit Go.PlainAid

/-- A slice of pointers to blocks, of one's own. -/
structure OwnQ (k : Nat) (v : Value) (bl : List Nat) (w W : World) : Prop where
  own : W.ownsRow w.heap.size 99 1 v k (bl.map fun b => .pointer (some ⟨b, 0, none⟩))
  b : Below w.heap.size w W
section
variable {k : Nat} {v : Value} {bl : List Nat} {w W W' : World}
theorem OwnQ.up (h : OwnQ k v bl w W) (hb : Below W.heap.size W W') : OwnQ k v bl w W' := by
  refine ⟨⟨h.own.1, ?_⟩, h.b.trans (hb.mono h.b.size)⟩
  rcases h.own.2 with h1 | ⟨g, cap, cur, h1, h2, h3, h4⟩
  · exact .inl h1
  · have hg : g < W.heap.size := (Array.getElem?_eq_some_iff.1 h3).1
    exact .inr ⟨g, cap, cur, h1, h2, by rw [hb.block g hg]; exact h3, h4⟩
theorem OwnQ.low (h : OwnQ k v bl W W') (hb : Below w.heap.size w W) : OwnQ k v bl w W' := by
  refine ⟨⟨h.own.1, ?_⟩, hb.trans (h.b.mono hb.size)⟩
  rcases h.own.2 with h1 | ⟨g, cap, cur, h1, h2, h3⟩
  · exact .inl h1
  · exact .inr ⟨g, cap, cur, h1, Nat.le_trans hb.size h2, h3⟩
theorem OwnQ.base {g : Nat} (h : OwnQ k v bl w W) (hv : v.ownBlock = some g) : w.heap.size ≤ g := by
  rcases h.own.2 with ⟨h1, _⟩ | ⟨g', cap', cur, h1, h2, _⟩
  · rw [h1] at hv
    cases hv
  · rw [h1] at hv
    obtain rfl : g' = g := by simpa [Value.ownBlock] using hv
    exact h2
theorem OwnQ.length (h : OwnQ k v bl w W) : bl.length = k := by have := h.own.1; rw [List.length_map] at this; omega
theorem OwnQ.push {W1 : World} {g2 cap2 d : Nat} (h : OwnQ k v bl w W) (hgrow : W.grownBy W1 v.ownBlock) (hown : W1.ownsRow w.heap.size 99 1 (.slice (some ⟨g2, 0, none⟩) (k + 1) cap2) (k + 1) ((bl.map fun b => .pointer (some ⟨b, 0, none⟩)) ++ [.pointer (some ⟨d, 0, none⟩)])) : OwnQ (k + 1) (.slice (some ⟨g2, 0, none⟩) (k + 1) cap2) (bl ++ [d]) w W1 :=
  ⟨by rw [List.map_append]; exact hown, Below.grown h.b hgrow h.b.size fun x hx => h.base hx⟩
theorem OwnQ.nil (hb : Below w.heap.size w W) : OwnQ 0 (.slice none 0 0) [] w W := ⟨⟨rfl, .inl ⟨rfl, rfl⟩⟩, hb⟩
theorem OwnQ.one (d : Nat) (hb : Below w.heap.size w W) : OwnQ 1 (.slice (some ⟨W.heap.size, 0, none⟩) 1 1) [d] w (W.alloc (.cells #[.pointer (some ⟨d, 0, none⟩)] 99)) :=
  ⟨World.ownsRow_lit (base := w.heap.size) (e := 99) (size := 1) W #[.pointer (some ⟨d, 0, none⟩)] 1 hb.size (by decide) rfl, hb.alloc hb.size _⟩
/-- The block that the i-th pointer leads to. -/
theorem OwnQ.at {a : Option Addr} {cap i : Nat} (h : OwnQ k (.slice a k cap) bl w W) (hi : i < k) : ∃ g, a = some ⟨g, 0, none⟩ ∧ w.heap.size ≤ g ∧ g < W.heap.size ∧ W.cell? ⟨g, i, none⟩ = some (.pointer (some ⟨bl.getD i 0, 0, none⟩)) := by
  have hl := h.length
  rcases h.own.2 with ⟨h1, h2⟩ | ⟨g, cap', cur, h1, h2, h3, _⟩
  · omega
  · obtain ⟨rfl, rfl⟩ : a = some ⟨g, 0, none⟩ ∧ cap = cap' := by simpa using h1
    refine ⟨g, rfl, h2, (Array.getElem?_eq_some_iff.1 h3).1, ?_⟩
    have := h.own.cellAt i (by omega)
    rw [this, List.getElem?_map, List.getElem?_eq_getElem (by omega), List.getD_eq_getElem?_getD, List.getElem?_eq_getElem (by omega)]
    rfl
end
theorem info_wp : (Try.prog.info? 99).map (fun i => (i.zero, i.size, i.bytes)) = some (some (.pointer none), 1, 8) := by kernel_rfl
set_option maxHeartbeats 400000 in
theorem goesOn_any (p q : Part) (w : World) :
    Calls Try.prog 93 #[partV p, partV q] w fun e w' => e = .returned (.bool (!q.first && sameM p q)) ∧ Below w.heap.size w w' := by
  obtain ⟨t, s, n, fi, la, lo, tx⟩ := p
  obtain ⟨t2, s2, n2, fi2, la2, lo2, tx2⟩ := q
  have HB := Lib.hid (fun (o o2 : Obj) => (below_box (w := w) o (Nat.le_refl _)).trans ((below_box (w := w.alloc o) o2 (Nat.le_refl _)).mono (by simp)))
  unfold partV sameM
  cases fi2 with
  | true =>
    go_enter Try.func93, Try.ntmps93
    go_wp2
    go_ret
    exact ⟨rfl, HB.out _ _⟩
  | false =>
    by_cases h1 : s2 = s
    · by_cases h2 : n2 = n
      · go_enter Try.func93, Try.ntmps93
        go_wp2
        go_ret
        exact ⟨ret_b (by rw [h1, h2]; cases lo <;> cases lo2 <;> simp), HB.out _ _⟩
      · have h2' : ¬ n = n2 := fun h => h2 h.symm
        go_enter Try.func93, Try.ntmps93
        go_wp2
        go_ret
        exact ⟨ret_b (by simp [h2']), HB.out _ _⟩
    · have h1' : ¬ s = s2 := fun h => h1 h.symm
      go_enter Try.func93, Try.ntmps93
      go_wp2
      go_ret
      exact ⟨ret_b (by simp [h1']), HB.out _ _⟩

end Go.Proofs.Ytncbgejggfkdmaa

/- The contract of the program's search for the parts of a complete message. -/
namespace Go.Proofs.Ytncbgejggfkdmaa
open Go.RowKit Go.PlainAid

/-- The blocks of the complete message that begins at a place, or none. -/
def compl (ns : List (Nat × Part)) (k : Nat) : List Nat := if (pAt (psOf ns) k).first then (chainOf (psOf ns) k).map (bAt ns) else []
/-- While a message is followed. -/
structure Cw (ns : List (Nat × Part)) (k0 : Nat) (w : World) (i : Nat) (out : List Nat) (m g cap : Nat) (W : World) : Prop where
  f : chainP (psOf ns) (15 - m) i out = chainOf (psOf ns) k0
  ln : out.length = m
  cn : Cn (psOf ns) i out
  own : OwnQ m (.slice (some ⟨g, 0, none⟩) m cap) (out.map (bAt ns)) w W
theorem serialAdd_same (a n : Int) (w : World) : Calls Try.prog 23 #[.int .i64 a, .int .i64 n] w fun e w' => e = .returned (.int .i64 (addV a n)) ∧ w' = w := (serialAdd_any a n w).mono fun _ _ h => ⟨h.1, h.2.symm⟩

theorem quiet_load {P : Program} {C : World → Prop} {a : Act} {o : Oper} {K : Act → Prop} {T : TypeId} {x : Operand} {p v : Value} (h : o.op = .load T x) (hp : a.eval x = p) (hl : ∀ W, C W → (Instr.loadAt T p).run P W = .ok v W) (hk : K (a.put o.dst v)) : o.quiet P a C K :=
  ⟨v, fun W hW => by
    unfold Oper.quietAt
    simp [execOp, h, hp, hl W hW, Oper.quietUpon], hk⟩
theorem load_part {W : World} {d : Nat} {p : Part} {bf bh : Option Nat} (h : VarN d (nodeC p bf bh) W) : (Instr.loadAt 28 (.pointer (some ⟨d, 0, none⟩))).run Try.prog W = .ok (partV p) W := by
  obtain ⟨t, s, q, fi, la, lo, tx⟩ := p
  have l0 := (h 0 _ rfl).1
  have l1 := (h 1 _ rfl).1
  have l2 := (h 2 _ rfl).1
  have l3 := (h 3 _ rfl).1
  have l4 := (h 4 _ rfl).1
  have l5 := (h 5 _ rfl).1
  have l6 := (h 6 _ rfl).1
  dsimp only at l0 l1 l2 l3 l4 l5 l6
  clear h
  unfold partV
  go_simp

set_option maxRecDepth 8000 in
set_option maxHeartbeats 4000000 in
theorem complete_any (B L M k0 : Nat) (ns : List (Nat × Part)) (w : World) (h : Wl B w L M ns) (hk : k0 < ns.length) (hn : ns.length ≤ 12) (hs : ∀ p ∈ psOf ns, Ser p.tsn) :
    Calls Try.prog 85 #[.pointer (some ⟨L, 0, none⟩), .pointer (some ⟨bAt ns k0, 0, none⟩)] w fun e w' => ∃ a m cap, e = .returned (.slice a m cap) ∧ m = (compl ns k0).length ∧ OwnQ m (.slice a m cap) (compl ns k0) w w' := by
  have HW := Lib.hid h
  have c2 := (h.lk.l 2 _ rfl).1
  have N := h.lk.nodes k0 hk
  cases hf : (pAt (psOf ns) k0).first with
  | false =>
    have n3 := (N 3 _ rfl).1
    rw [hf] at n3
    have E := Lib.hid (show compl ns k0 = [] by unfold compl; rw [hf]; rfl)
    clear h N hf
    go_enter Try.func85, Try.ntmps85
    go_wp2
    go_ret
    exact ⟨none, 0, 0, rfl, by rw [E.out]; rfl, by rw [E.out]; exact OwnQ.nil (Below.refl _ _)⟩
  | true =>
    have n3 := (N 3 _ rfl).1
    rw [hf] at n3
    have E := Lib.hid (show compl ns k0 = (chainOf (psOf ns) k0).map (bAt ns) by unfold compl; rw [hf]; rfl)
    have C0 := Lib.hid (show Cw ns k0 w k0 [k0] 1 w.heap.size 1 (w.alloc (.cells #[.pointer (some ⟨bAt ns k0, 0, none⟩)] 99)) from
      ⟨rfl, rfl, cn_start (by rw [psOf_length]; exact hk) (hs _ (List.mem_map_of_mem (bAt_mem hk))), OwnQ.one _ (Below.refl _ _)⟩)
    have HS := Lib.hid hs
    obtain ⟨i0, hi, hz0, hz1, hz2⟩ := info_parts info_wp
    have HI := Lib.hid (And.intro hi (And.intro hz0 (And.intro hz1 hz2)))
    clear h N hf hs hi hz0 hz1 hz2
    go_enter Try.func85, Try.ntmps85
    go_wp2
    go_loopw [1, 5] (fun d v wr => ∃ (i : Nat) (out : List Nat) (m g cap : Nat), i < ns.length ∧ d = .pointer (some ⟨bAt ns i, 0, none⟩) ∧ v = .slice (some ⟨g, 0, none⟩) m cap ∧ 1 ≤ m ∧ m ≤ 12 ∧ Hid (Cw ns k0 w i out m g cap wr)) (fun _ v _ => 14 - lenV v)
    case atStart => exact ⟨k0, [k0], 1, _, _, hk, rfl, rfl, by omega, by omega, C0⟩
    case round =>
      obtain ⟨i, out, m, g, cap, hil, rfl, rfl, hm1, hm2, hC⟩ := hrel
      clear C0 n3
      have hb := hC.out.own.b
      have hf1 : 1 ≤ 15 - m := by omega
      have NI := (HW.out.below hb).lk.nodes i hil
      have l2 := ((HW.out.below hb).lk.l 2 _ rfl).1
      have HM := Lib.hid (bAt_mem hil)
      have llt := HW.out.lk.node_lt HM.out
      cases hla : (pAt (psOf ns) i).last with
      | true =>
        have n4 := (NI 4 _ rfl).1
        rw [hla] at n4
        have E2 := Lib.hid (show chainOf (psOf ns) k0 = out from hC.out.f.symm.trans (chain_last hf1 hla))
        clear NI hla
        go_wp2
        go_ret
        exact ⟨_, m, cap, rfl, by rw [E.out, E2.out, List.length_map]; exact hC.out.ln.symm, by rw [E.out, E2.out]; exact hC.out.own⟩
      | false =>
        have n4 := (NI 4 _ rfl).1
        have n0 := (NI 0 _ rfl).1
        rw [hla] at n4
        have hser := HS.out _ (List.mem_map_of_mem HM.out)
        have AV := Lib.hid (addV_yes 1 hser)
        obtain ⟨t, ht⟩ : ∃ t, (pAt (psOf ns) i).tsn = t := ⟨_, rfl⟩
        have HT := Lib.hid ht
        change wr.cell? _ = some (.int .i64 (pAt (psOf ns) i).tsn) at n0
        rw [show (bAt ns i, pAt (psOf ns) i).snd.tsn = t from ht] at AV
        rw [ht] at n0
        obtain ⟨x, hx⟩ : ∃ x, addS t 1 = x := ⟨_, rfl⟩
        have HX := Lib.hid (show addS (pAt (psOf ns) i).tsn 1 = x by rw [ht]; exact hx)
        have hxk := ser_key (hx ▸ addS_ser t 1)
        rw [hx] at AV
        have SA : ∀ w, Calls Try.prog 23 #[.int .i64 t, .int .i64 1] w fun e w' => e = .returned (.int .i64 x) ∧ w' = w := fun w => (serialAdd_same t 1 w).mono fun e w' h => ⟨h.1.trans (by rw [AV.out]), h.2⟩
        have hlaH := Lib.hid hla
        clear NI ht hx hla
        rcases idx_cases (psOf ns) x with hj | ⟨j, hjl, hj⟩
        · have hL : ∀ q, (Instr.lookup 98 (.map (some M)) (.int .i64 x) false).run Try.prog (wr.drewN q) = .ok (.pointer none) (wr.drewN q) := fun q => by
            obtain ⟨D, hD⟩ := ((HW.out.below hb).drewN q).tab
            exact hD.look_no (idx_has hj) hxk
          have E2 := Lib.hid (show chainOf (psOf ns) k0 = [] from hC.out.f.symm.trans (chain_stop hf1 hlaH.out (by rw [HX.out]; exact hj)))
          have HB := Lib.hid (below_drewN hb)
          clear hj
          go_wp2_with fail
          go_quiet ((go_at_call 23; exact Calls.quiet_of_same (SA _)))
          go_wp2_with fail
          go_quiet (fail)
          go_wp2
          go_ret
          exact ⟨none, 0, 0, rfl, by rw [E.out, E2.out]; rfl, by rw [E.out, E2.out]; exact OwnQ.nil (below_drewN (below_drewN hb _) _)⟩
        · have hjn : j < ns.length := by rw [psOf_length] at hjl; exact hjl
          have HJ := Lib.hid hj
          obtain ⟨hj1, hj2, _⟩ := idx_some hj
          have hL : ∀ q, (Instr.lookup 98 (.map (some M)) (.int .i64 x) false).run Try.prog (wr.drewN q) = .ok (.pointer (some ⟨bAt ns j, 0, none⟩)) (wr.drewN q) := fun q => by
            obtain ⟨D, hD⟩ := ((HW.out.below hb).drewN q).tab
            have := hD.look_at (bAt_mem hjn) (by show Key (pAt (psOf ns) j).tsn; rw [hj2]; exact hxk)
            rw [show ((bAt ns j, pAt (psOf ns) j) : Nat × Part).2.tsn = x from hj2] at this
            exact this
          have HMJ := Lib.hid (bAt_mem hjn)
          clear hj hj1 hj2 hjl
          go_wp2_with fail
          go_quiet ((go_at_call 23; exact Calls.quiet_of_same (SA _)))
          have hB2 := below_drewN hb nq
          have HC2 := Lib.hid (hC.out.own.up (below_drewN (Below.refl wr.heap.size wr) nq))
          clear hL SA n4 n0 l2
          generalize hwx : World.drewN wr nq = wx at *
          have HWX := Lib.hid (HW.out.below hB2)
          have LI : ∀ W, Below wx.heap.size wx W → (Instr.loadAt 28 (.pointer (some ⟨bAt ns i, 0, none⟩))).run Try.prog W = .ok (partV (pAt (psOf ns) i)) W := fun W hW => load_part ((HWX.out.below hW).lk.nodes i hil)
          have LJ : ∀ W, Below wx.heap.size wx W → (Instr.loadAt 28 (.pointer (some ⟨bAt ns j, 0, none⟩))).run Try.prog W = .ok (partV (pAt (psOf ns) j)) W := fun W hW => load_part ((HWX.out.below hW).lk.nodes j hjn)
          have GO := fun w => goesOn_any (pAt (psOf ns) i) (pAt (psOf ns) j) w
          clear hwx
          cases hgo : (!(pAt (psOf ns) j).first && sameM (pAt (psOf ns) i) (pAt (psOf ns) j)) with
          | false =>
            have E2 := Lib.hid (show chainOf (psOf ns) k0 = [] from hC.out.f.symm.trans (chain_bad hf1 hlaH.out (by rw [HX.out]; exact HJ.out) (by
              cases h1 : (pAt (psOf ns) j).first with
              | true => exact .inl rfl
              | false => exact .inr (.inl (by simpa [h1] using hgo)))))
            simp only [hgo] at GO
            have GOH := Lib.hid GO
            clear hgo GO
            go_wp2_with fail
            refine region_class (C := fun W => Below wx.heap.size wx W) (by kernel_rfl) (by kernel_rfl) (Below.drew (Below.refl _ _)) ?_
            repeat (first
              | go_big_quiet_skip
              | (refine BigFrame.wpQuiet_want (by rfl) (fun K hK => ?_)
                 first
                   | (refine BigFrame.quiet_move _ (by rfl) (hK _ ?_))
                   | (refine quiet_load (by rfl) (by rfl) LI (hK _ ?_))
                   | (refine quiet_load (by rfl) (by rfl) LJ (hK _ ?_))
                   | (apply Exists.intro
                      refine ⟨fun W hW => ?_, hK _ ?_⟩
                      next =>
                        go_simp
                        first
                          | with_reducible exact rfl
                          | (refine (GOH.out _).mono ?_; rintro e w3 ⟨rfl, hb3⟩; exact ⟨rfl, hW.trans (hb3.mono hW.size)⟩))
                 conv => arg 6; simp only [Act.put, List.setIfInBounds_toArray, List.set_cons_zero, List.set_cons_succ]
                 clear hK K))
            refine wpQuiet_nil ?_
            intro W hW
            clear LI LJ
            go_wp2
            go_ret
            exact ⟨none, 0, 0, rfl, by rw [E.out, E2.out]; rfl, by rw [E.out, E2.out]; exact OwnQ.nil (hB2.trans (hW.mono hB2.size))⟩
          | true =>
            obtain ⟨g1, g2⟩ : (pAt (psOf ns) j).first = false ∧ sameM (pAt (psOf ns) i) (pAt (psOf ns) j) = true := by simpa using hgo
            have hm12 : out.length ≤ 12 := by rw [hC.out.ln]; exact hm2
            have CN := cn_step hC.out.cn hlaH.out (by rw [HX.out]; exact HJ.out) g1 g2 hm12
            have hm3 : m + 1 ≤ 12 := by
              have h1 := CN.fits
              rw [psOf_length, List.length_append, hC.out.ln] at h1
              simp at h1
              omega
            have F2 := Lib.hid (show chainP (psOf ns) (15 - (m + 1)) j (out ++ [j]) = chainOf (psOf ns) k0 from by
              have := chain_go hf1 hlaH.out (by rw [HX.out]; exact HJ.out) g1 g2 hm12
              rw [show 15 - m - 1 = 15 - (m + 1) from by omega] at this
              exact this.symm.trans hC.out.f)
            have CNH := Lib.hid CN
            simp only [hgo] at GO
            have GOH := Lib.hid GO
            clear hgo GO g1 g2 hm12 CN
            go_wp2_with fail
            refine region_class (C := fun W => Below wx.heap.size wx W) (by kernel_rfl) (by kernel_rfl) (Below.drew (Below.refl _ _)) ?_
            repeat (first
              | go_big_quiet_skip
              | (refine BigFrame.wpQuiet_want (by rfl) (fun K hK => ?_)
                 first
                   | (refine BigFrame.quiet_move _ (by rfl) (hK _ ?_))
                   | (refine quiet_load (by rfl) (by rfl) LI (hK _ ?_))
                   | (refine quiet_load (by rfl) (by rfl) LJ (hK _ ?_))
                   | (apply Exists.intro
                      refine ⟨fun W hW => ?_, hK _ ?_⟩
                      next =>
                        go_simp
                        first
                          | with_reducible exact rfl
                          | (refine (GOH.out _).mono ?_; rintro e w3 ⟨rfl, hb3⟩; exact ⟨rfl, hW.trans (hb3.mono hW.size)⟩))
                 conv => arg 6; simp only [Act.put, List.setIfInBounds_toArray, List.set_cons_zero, List.set_cons_succ]
                 clear hK K))
            refine wpQuiet_nil ?_
            intro W hW
            clear LI LJ
            have hO := HC2.out.up hW
            have hszW := hO.b.size
            have MA := Lib.hid (hO.up (below_box (.cells #[.pointer (some ⟨bAt ns j, 0, none⟩)] 99) (Nat.le_refl _)))
            have hlnH := Lib.hid hC.out.ln
            clear hO hW hC HC2 hB2 hb
            go_wp2_with (at_builtin; go_loud (refine wpList_append_lies _ rfl _ _ 104 rfl w.heap.size 99 i0 (.pointer none) 1 8 Try.underlying104 HI.out.1 HI.out.2.1 HI.out.2.2.1 HI.out.2.2.2 rfl (by decide) (.slice (some ⟨g, 0, none⟩) m cap) m _ rfl MA.out.own ⟨W.heap.size, 0, none⟩ 1 1 [.pointer (some ⟨bAt ns j, 0, none⟩)] rfl rfl (news_box rfl) (by simp [Value.oneCell']) (by decide) (by unfold maxLen; omega) (by omega) (by simp; omega) _ rfl ?_))
            intro g3 cap3 w9 hown hgrow hat hlt9
            have MP := Lib.hid (show Cw ns k0 w j (out ++ [j]) (m + 1) g3 cap3 w9 from ⟨F2.out, by rw [List.length_append, hlnH.out]; rfl, CNH.out, by rw [List.map_append]; exact MA.out.push hgrow (by rw [List.map_map]; exact hown)⟩)
            clear hown hgrow hat hlt9 MA
            go_wp2
            go_roundw
            case rel => exact ⟨j, out ++ [j], m + 1, g3, cap3, hjn, rfl, rfl, by omega, hm3, MP⟩
            case measure => simp [lenV]; omega

end Go.Proofs.Ytncbgejggfkdmaa

/- The contract of the program's search for the message that is due. -/
namespace Go.Proofs.Ytncbgejggfkdmaa
open Go.RowKit Go.PlainAid

theorem asm_sers {next : List Int} {ps : List Part} (h : AsmOk next ps) : ∀ p ∈ ps, Ser p.tsn := fun p hp => ⟨(h.ok p hp).1.1.1, by have := (h.ok p hp).1.1.2; omega⟩
theorem find_none {next : List Int} {ps : List Part} {k n : Nat} (h : findFrom next ps k (n - k) = findP next ps) (hk : n ≤ k) : findP next ps = [] := by
  rw [← h, show n - k = 0 by omega]
  rfl

set_option maxHeartbeats 2000000 in
theorem due_any (B L M : Nat) (ns : List (Nat × Part)) (an : Option Addr) (ln cn : Nat) (next : List Int) (w : World) (h : Wl B w L M ns) (hx : Ns w an ln cn next) (ha : AsmOk next (psOf ns)) :
    Calls Try.prog 77 #[.pointer (some ⟨L, 0, none⟩), .slice an ln cn] w fun e w' => ∃ a m cap, e = .returned (.slice a m cap) ∧ m = (findP next (psOf ns)).length ∧ OwnQ m (.slice a m cap) ((findP next (psOf ns)).map (bAt ns)) w w' := by
  have hn : ns.length ≤ 12 := by have := ha.few; rwa [psOf_length] at this
  have hxl := hx.length
  have HW := Lib.hid h
  have HG := Lib.hid hx
  have HA := Lib.hid ha
  have c0 := (h.lk.l 0 _ rfl).1
  clear h hx ha
  go_enter Try.func77, Try.ntmps77
  go_wp2
  go_loopg [5] ns.length (fun gk p wr => ∃ k : Nat, Hid (gk = ns.length - k) ∧ k ≤ ns.length ∧ p = .pointer (pt (bk ns k)) ∧ Hid (findFrom next (psOf ns) k (ns.length - k) = findP next (psOf ns)) ∧ Hid (Below w.heap.size w wr))
  case atStart => exact ⟨0, rfl, Nat.zero_le _, rfl, by show findFrom _ _ _ _ = _; unfold findP; rw [psOf_length]; rfl, Lib.hid (Below.refl _ _)⟩
  case round =>
    obtain ⟨k, HK, hk, rfl, hF, hb⟩ := hrel
    clear c0
    rcases bk_cases ns k with ⟨hlt, hbk⟩ | ⟨hge, hbk⟩
    · rw [hbk]
      have N := (HW.out.below hb.out).lk.nodes k hlt
      have hmem := bAt_mem hlt
      have HO := Lib.hid (HA.out.ok _ (List.mem_map_of_mem hmem))
      obtain ⟨⟨t, s, q, fi, la, lo, tx⟩, hp⟩ : ∃ p, pAt (psOf ns) k = p := ⟨_, rfl⟩
      have HP := Lib.hid hp
      rw [hp] at N HO
      have n1 := (N 1 _ rfl).1
      have n2 := (N 2 _ rfl).1
      have n5 := (N 5 _ rfl).1
      have n8 := (N 8 _ rfl).1
      dsimp only at n1 n2 n5 HO
      obtain ⟨sn, rfl⟩ : ∃ sn : Nat, s = (sn : Int) := ⟨s.toNat, by have := HO.out.1.2.1.1; omega⟩
      have hsn : sn < ln := by have := HO.out.2; omega
      obtain ⟨y, rfl⟩ := HG.out.addr hsn
      have m0 := HG.out.at hb.out hsn
      obtain ⟨nx, hnx⟩ : ∃ nx, nAt next sn = nx := ⟨_, rfl⟩
      rw [hnx] at m0
      have hsi : ((sn : Nat) : Int) < (ln : Int) := by omega
      have DU := Lib.hid (show dueP next (pAt (psOf ns) k) = (fi && (lo || q == nx)) by rw [hp, ← hnx]; rfl)
      have CO := Lib.hid (show compl ns k = if fi then (chainOf (psOf ns) k).map (bAt ns) else [] by unfold compl; rw [hp])
      clear hp hnx hmem N hbk
      rw [pt_some]
      cases lo with
      | true =>
        go_wp2_with fail
        go_quiet (fail)
        have HB2 := Lib.hid (below_drewN hb.out nq)
        clear m0 n1 n2 n5
        go_wp2_with fail
        refine (complete_any B L M k ns _ (HW.out.below HB2.out) hlt hn (asm_sers HA.out)).mono ?_
        rintro e w3 ⟨a, m, cap2, rfl, hm4, ho3⟩
        have hm3 := Lib.hid hm4
        clear hm4
        have O := Lib.hid (ho3.low HB2.out)
        have k8 := (ho3.b.cell (World.block_lt_of_cell? _ _ (show (wr.drewN nq).cell? _ = _ by simpa using n8))).trans (show (wr.drewN nq).cell? _ = _ by simpa using n8)
        clear ho3 n8
        by_cases hm0 : m = 0
        · have F := Lib.hid (show findFrom next (psOf ns) (k + 1) (ns.length - (k + 1)) = findP next (psOf ns) by
            have hz : compl ns k = [] := List.eq_nil_of_length_eq_zero (by rw [← hm3.out]; exact hm0)
            have h := find_skip (next := next) (ps := psOf ns) (i := k) (m := ns.length - k) (by
              rw [CO.out] at hz
              cases fi with
              | false => exact .inl (by rw [DU.out]; rfl)
              | true => exact .inr (List.map_eq_nil_iff.1 hz)) (by omega)
            rw [Nat.sub_sub] at h; exact h.symm.trans hF.out)
          subst hm0
          have hBk := Lib.hid O.out.b
          clear O
          go_wp2
          go_roundg (ns.length - (k + 1))
          case rel => exact ⟨k + 1, rfl, by omega, rfl, F, hBk⟩
          case measure => have := HK.out; omega
        · have E := Lib.hid (show (findP next (psOf ns)).map (bAt ns) = compl ns k from by
            have hz : compl ns k ≠ [] := fun h => hm0 (by rw [hm3.out, h]; rfl)
            rw [CO.out] at hz ⊢
            cases fi with
            | false => exact absurd rfl hz
            | true =>
              have hz2 : chainOf (psOf ns) k ≠ [] := fun h => hz (by rw [h]; rfl)
              rw [hF.out.symm.trans (find_here (by rw [DU.out]; rfl) hz2 (by omega))]
              rfl)
          have EL := Lib.hid (show (findP next (psOf ns)).length = (compl ns k).length by rw [← E.out, List.length_map])
          have hpos : (0 : Int) < (m : Int) := by omega
          clear k8
          go_wp2
          go_ret
          exact ⟨a, m, cap2, rfl, by rw [EL.out]; exact hm3.out, by rw [E.out]; exact O.out⟩
      | false =>
        by_cases hq : q = nx
        · subst hq
          go_wp2_with fail
          go_quiet (fail)
          have HB2 := Lib.hid (below_drewN hb.out nq)
          clear m0 n1 n2 n5
          go_wp2_with fail
          refine (complete_any B L M k ns _ (HW.out.below HB2.out) hlt hn (asm_sers HA.out)).mono ?_
          rintro e w3 ⟨a, m, cap2, rfl, hm4, ho3⟩
          have hm3 := Lib.hid hm4
          clear hm4
          have O := Lib.hid (ho3.low HB2.out)
          have k8 := (ho3.b.cell (World.block_lt_of_cell? _ _ (show (wr.drewN nq).cell? _ = _ by simpa using n8))).trans (show (wr.drewN nq).cell? _ = _ by simpa using n8)
          clear ho3 n8
          by_cases hm0 : m = 0
          · have F := Lib.hid (show findFrom next (psOf ns) (k + 1) (ns.length - (k + 1)) = findP next (psOf ns) by
              have hz : compl ns k = [] := List.eq_nil_of_length_eq_zero (by rw [← hm3.out]; exact hm0)
              have h := find_skip (next := next) (ps := psOf ns) (i := k) (m := ns.length - k) (by
                rw [CO.out] at hz
                cases fi with
                | false => exact .inl (by rw [DU.out]; rfl)
                | true => exact .inr (List.map_eq_nil_iff.1 hz)) (by omega)
              rw [Nat.sub_sub] at h; exact h.symm.trans hF.out)
            subst hm0
            have hBk := Lib.hid O.out.b
            clear O
            go_wp2
            go_roundg (ns.length - (k + 1))
            case rel => exact ⟨k + 1, rfl, by omega, rfl, F, hBk⟩
            case measure => have := HK.out; omega
          · have E := Lib.hid (show (findP next (psOf ns)).map (bAt ns) = compl ns k from by
              have hz : compl ns k ≠ [] := fun h => hm0 (by rw [hm3.out, h]; rfl)
              rw [CO.out] at hz ⊢
              cases fi with
              | false => exact absurd rfl hz
              | true =>
                have hz2 : chainOf (psOf ns) k ≠ [] := fun h => hz (by rw [h]; rfl)
                rw [hF.out.symm.trans (find_here (by rw [DU.out]; simp) hz2 (by omega))]
                rfl)
            have EL := Lib.hid (show (findP next (psOf ns)).length = (compl ns k).length by rw [← E.out, List.length_map])
            have hpos : (0 : Int) < (m : Int) := by omega
            clear k8
            go_wp2
            go_ret
            exact ⟨a, m, cap2, rfl, by rw [EL.out]; exact hm3.out, by rw [E.out]; exact O.out⟩
        · have hq2 : decide (q = nx) = false := decide_eq_false hq
          have F := Lib.hid (show findFrom next (psOf ns) (k + 1) (ns.length - (k + 1)) = findP next (psOf ns) by have h := find_skip (next := next) (ps := psOf ns) (i := k) (m := ns.length - k) (.inl (by rw [DU.out]; simp [hq])) (by omega); rw [Nat.sub_sub] at h; exact h.symm.trans hF.out)
          go_wp2_with fail
          go_quiet (fail)
          clear m0 n1 n2 n5
          have HB2 := Lib.hid (below_drewN hb.out nq)
          go_wp2
          go_roundg (ns.length - (k + 1))
          case rel => exact ⟨k + 1, rfl, by omega, rfl, F, HB2⟩
          case measure => have := HK.out; omega
    · rw [hbk, pt_none]
      have E := Lib.hid (find_none hF.out hge)
      clear hbk
      go_wp2
      go_ret
      exact ⟨none, 0, 0, rfl, by rw [E.out]; rfl, by rw [E.out]; exact OwnQ.nil hb.out⟩

end Go.Proofs.Ytncbgejggfkdmaa

/- The library's contracts at this program's numbers. -/
namespace Go.Proofs
open Go.Shelf
def Try.lays169_ren : Go.Shelf.Ren := ⟨fun | 169 => 88 | n => n, fun | 70 => 117 | 9 => 9 | 0 => 0 | 72 => 119 | 37 => 22 | 127 => 128 | 3 => 3 | 5 => 5 | n => n, fun | n => n⟩
theorem Try.lays169 : Go.Proofs.Lays.n169 Try.prog Try.lays169_ren := {
  mixed := by kernel_rfl
  f169 := Try.func88.trans (congrArg some (by kernel_rfl))
  t0 := Try.underlying0
  a0 := Try.isAgg0
  z0 := Try.sizeOf0
  v0 := Try.zeroValue0
  t3 := Try.underlying3
  a3 := Try.isAgg3
  z3 := Try.sizeOf3
  v3 := Try.zeroValue3
  t9 := Try.underlying9
  a9 := Try.isAgg9
  z9 := Try.sizeOf9
  v9 := Try.zeroValue9
  t37 := Try.underlying22
  a37 := Try.isAgg22
  z37 := Try.sizeOf22
  v37 := Try.zeroValue22
  t70 := Try.underlying117
  a70 := Try.isAgg117
  z70 := Try.sizeOf117
  v70 := Try.zeroValue117
  t72 := Try.underlying119
  a72 := Try.isAgg119
  z72 := Try.sizeOf119
  v72 := Try.zeroValue119
  t127 := Try.underlying128
  a127 := Try.isAgg128
  z127 := Try.sizeOf128
  v127 := Try.zeroValue128 }
theorem Try.Builder_Extra_169 : Builder.Extra Try.prog Try.lays169_ren := {
  sizeBuilder := by kernel_rfl
  liesBuilder := by kernel_rfl
  t5 := Try.underlying5
  a5 := Try.isAgg5
  z5 := Try.sizeOf5
  v5 := Try.zeroValue5
  infoByte := by kernel_rfl
  cellsByte := by kernel_rfl
  sizeByte := by kernel_rfl
  neB5 := by decide }
open Go.RowKit in
theorem Try.Builder_String (B b : Nat) (l : List UInt8) (w : World) (h : Lib.IsBuilder 119 5 B b (Lib.byteCells l) w) (h0 : l ≠ []) :
    Calls Try.prog 88 #[.pointer (some ⟨b, 0, none⟩)] w fun e w' => e = .returned (.string ⟨l.toArray⟩) ∧ Below B w w' := Any.Builder_String Try.lays169 Try.Builder_Extra_169 B b l w h h0
open Go.RowKit in
theorem Try.Builder_String_empty (B b : Nat) (w : World) (h : Lib.IsBuilder 119 5 B b [] w) (hBw : B ≤ w.heap.size) :
    Calls Try.prog 88 #[.pointer (some ⟨b, 0, none⟩)] w fun e w' => e = .returned (.string ⟨#[]⟩) ∧ Below B w w' := Any.Builder_String_empty Try.lays169 Try.Builder_Extra_169 B b w h hBw
open Go.RowKit in
theorem Try.Builder_String_any (B b : Nat) (l : List UInt8) (w : World) (h : Lib.IsBuilder 119 5 B b (Lib.byteCells l) w) (hBw : B ≤ w.heap.size) :
    Calls Try.prog 88 #[.pointer (some ⟨b, 0, none⟩)] w fun e w' => e = .returned (.string ⟨l.toArray⟩) ∧ Below B w w' := Any.Builder_String_any Try.lays169 Try.Builder_Extra_169 B b l w h hBw
open Go.RowKit in
theorem Try.Builder_String_f (B b : Nat) (l : List UInt8) (w : World) (h : Lib.IsBuilderF 119 5 B b (Lib.byteCells l) w) (h0 : l ≠ []) :
    Calls Try.prog 88 #[.pointer (some ⟨b, 0, none⟩)] w fun e w' => e = .returned (.string ⟨l.toArray⟩) ∧ (Lib.IsBuilderF 119 5 B b (Lib.byteCells l) w' ∧ Below B w w') := Any.Builder_String_f Try.lays169 Try.Builder_Extra_169 B b l w h h0
open Go.RowKit in
theorem Try.Builder_String_empty_f (B b : Nat) (w : World) (h : Lib.IsBuilderF 119 5 B b [] w) (hBw : B ≤ w.heap.size) :
    Calls Try.prog 88 #[.pointer (some ⟨b, 0, none⟩)] w fun e w' => e = .returned (.string ⟨#[]⟩) ∧ (Lib.IsBuilderF 119 5 B b [] w' ∧ Below B w w') := Any.Builder_String_empty_f Try.lays169 Try.Builder_Extra_169 B b w h hBw
open Go.RowKit in
theorem Try.Builder_String_any_f (B b : Nat) (l : List UInt8) (w : World) (h : Lib.IsBuilderF 119 5 B b (Lib.byteCells l) w) (hBw : B ≤ w.heap.size) :
    Calls Try.prog 88 #[.pointer (some ⟨b, 0, none⟩)] w fun e w' => e = .returned (.string ⟨l.toArray⟩) ∧ (Lib.IsBuilderF 119 5 B b (Lib.byteCells l) w' ∧ Below B w w') := Any.Builder_String_any_f Try.lays169 Try.Builder_Extra_169 B b l w h hBw
end Go.Proofs

/- The contracts of the string builder's writing methods at a builder that the call itself has made. -/
namespace Go.Proofs.Ytncbgejggfkdmaa
open Go.RowKit

theorem b_size : (Try.prog.info? 119).map (·.size) = some 2 := by kernel_rfl
theorem b_lies : liesAt Try.prog Try.prog.depth 119 (2 / Try.prog.cellsOf 119) 0 119 1 = true := by kernel_rfl
theorem b_info8 : (Try.prog.info? 5).map (fun i => (i.zero, i.size, i.bytes)) = some (some (.int .u8 0), 1, 1) := by kernel_rfl

set_option maxRecDepth 100000 in
set_option maxHeartbeats 1000000 in
theorem copyCheck_used (b : Nat) (w : World) (h0 : w.cell? ⟨b, 0, none⟩ = some (.pointer (some ⟨b, 0, none⟩))) :
    Calls Try.prog 94 #[.pointer (some ⟨b, 0, none⟩)] w fun e w' => e = .returned (.tuple #[]) ∧ w = w' := by
  obtain ⟨j, hj, _⟩ := Option.map_eq_some_iff.1 b_size
  go_enter Try.func94, Try.ntmps94
  go_wp2
  rw [Lib.run_neq_ptr_same w _ Try.underlying117 hj]
  go_wp2
  go_end0
  exact ⟨rfl, rfl⟩

set_option maxRecDepth 100000 in
set_option maxHeartbeats 1000000 in
theorem copyCheck_fresh (b : Nat) (w : World) (h0 : w.cell? ⟨b, 0, none⟩ = some (.pointer none)) (hsh : w.shape? b = some (119, 2)) (hfz : w.frozen? ⟨b, 0, none⟩ = false) :
    Calls Try.prog 94 #[.pointer (some ⟨b, 0, none⟩)] w fun e w' => e = .returned (.tuple #[]) ∧ w' = w.setCell ⟨b, 0, none⟩ (.pointer (some ⟨b, 0, none⟩)) := by
  obtain ⟨j, hj, hjs⟩ := Option.map_eq_some_iff.1 b_size
  go_enter Try.func94, Try.ntmps94
  go_wp2
  rw [Lib.run_to_unsafe w ⟨b, 0, none⟩ Try.underlying117 Try.underlying129 hj (by rw [hjs]; decide) hsh (Nat.zero_lt_succ 1)]
  simp only [Result.andThen]
  rw [Oper.upon_value]
  go_wp2
  rw [run_callFunc_extern Try.func96 (by kernel_rfl) (by kernel_rfl) (by kernel_rfl) (e := Extern.AbiNoEscape.same) (by kernel_rfl)]
  rw [Lib.run_noEscape]
  simp only [Result.andThen]
  rw [Oper.upon_value]
  go_wp2
  rw [Lib.run_from_unsafe w ⟨b, 0, none⟩ Try.underlying129 Try.underlying117 hj hsh b_lies]
  simp only [Result.andThen]
  rw [Oper.upon_value]
  go_wp2
  go_end0
  exact ⟨rfl, rfl⟩

theorem copyCheck_any (B b : Nat) (bs : List Value) (w : World) (h : Lib.IsBuilder 119 5 B b bs w) :
    Calls Try.prog 94 #[.pointer (some ⟨b, 0, none⟩)] w fun e w' => e = .returned (.tuple #[]) ∧ (Lib.BuilderAt 119 5 B b (.pointer (some ⟨b, 0, none⟩)) bs w' ∧ Below B w w') := by
  rcases h with h | h
  · refine (copyCheck_fresh b w h.cell0 h.shape h.frozen0).mono ?_
    rintro e w' ⟨rfl, rfl⟩
    exact ⟨rfl, h.used _, (Below.refl B w).setCell (p := ⟨b, 0, none⟩) h.1 _⟩
  · refine (copyCheck_used b w h.cell0).mono ?_
    rintro e w' ⟨rfl, rfl⟩
    exact ⟨rfl, h, Below.refl B _⟩

end Go.Proofs.Ytncbgejggfkdmaa

/- The contract of the string builder's WriteString at a builder that the call itself has made. -/
namespace Go.Proofs.Ytncbgejggfkdmaa
open Go.RowKit

set_option maxHeartbeats 2000000 in
theorem writeString_any (B b : Nat) (bs : List Value) (s : ByteArray) (w : World) (h : Lib.IsBuilder 119 5 B b bs w) (hlen : bs.length + s.size ≤ 140737488355328) (hBw : B ≤ w.heap.size) :
    Calls Try.prog 86 #[.pointer (some ⟨b, 0, none⟩), .string s] w fun e w' => e = .returned (.tuple #[.int .i64 s.size, .nilIface]) ∧ (Lib.IsBuilder 119 5 B b (bs ++ Lib.strCells s) w' ∧ Below B w w') := by
  obtain ⟨i0, hi, hz0, hz1, hz2⟩ := info_parts b_info8
  go_enter Try.func86, Try.ntmps86
  go_wp2_with (go_at_call 94; refine (copyCheck_any B b bs _ h).mono ?_)
  rintro e w1 ⟨rfl, h1, hb1⟩
  obtain ⟨hB, v, hbk, hown, hne⟩ := h1
  have c0 : w1.cell? ⟨b, 0, none⟩ = some (.pointer (some ⟨b, 0, none⟩)) := by rw [Lib.cell_of_heap hbk]; rfl
  have c1 : w1.cell? ⟨b, 1, none⟩ = some v := by rw [Lib.cell_of_heap hbk]; rfl
  go_wp2_with (at_builtin; refine Lib.wpList_append_own_string _ rfl _ _ 22 9 rfl B 5 i0 Try.underlying22 Try.underlying9 hi hz0 hz1 hz2 _ _ _ rfl hown s rfl ?c3 ?c4 ?c5 ?_)
  case c3 => unfold maxLen; omega
  case c4 => omega
  case c5 => have := hb1.size; omega
  intro v' w2 hown' hgrow _
  have hlt : b < w1.heap.size := by
    rcases Nat.lt_or_ge b w1.heap.size with h' | h'
    · exact h'
    · simp [Array.getElem?_eq_none h'] at hbk
  have hb2 : w2.heap[b]? = some (.cells #[.pointer (some ⟨b, 0, none⟩), v] 119 (0, 0)) := by
    rw [hgrow.block b hlt (fun e => hne e.symm)]
    exact hbk
  have d0 : w2.cell? ⟨b, 0, none⟩ = some (.pointer (some ⟨b, 0, none⟩)) := by rw [Lib.cell_of_heap hb2]; rfl
  have d1 : w2.cell? ⟨b, 1, none⟩ = some v := by rw [Lib.cell_of_heap hb2]; rfl
  have f1 : w2.frozen? ⟨b, 1, none⟩ = false := Lib.frozen_of_heap hb2 1
  obtain ⟨ao, n', cap, rfl⟩ : ∃ ao n' cap, v' = .slice ao n' cap := by
    rcases hown'.2 with ⟨hv, _⟩ | ⟨g, cap, cur, hv, _⟩
    · exact ⟨_, _, _, hv⟩
    · exact ⟨_, _, _, hv⟩
  go_wp2
  go_ret2
  refine ⟨rfl, Or.inr ?_, ?_⟩
  · exact Lib.BuilderAt.put (T := 119) (e := 5) hB hb2 (bs' := bs ++ Lib.strCells s) (by simpa [Lib.strCells_length] using hown') (by decide)
  · exact (hb1.grown hgrow (by have := hb1.size; omega) (fun k hk => (hown.lt k hk).1)).setCell (p := ⟨b, 1, none⟩) hB _

end Go.Proofs.Ytncbgejggfkdmaa

/- The contract of the program's taking out of a message. -/
namespace Go.Proofs.Ytncbgejggfkdmaa
open Go.RowKit Go.PlainAid

theorem strCells_append (a b : ByteArray) : Lib.strCells a ++ Lib.strCells b = Lib.strCells (a ++ b) := by
  rw [Lib.strCells_eq, Lib.strCells_eq, Lib.strCells_eq, ← Lib.byteCells_append, ByteArray.data_append, Array.toList_append]
theorem isBuilder_same {T E : TypeId} {B b : Nat} {bs : List Value} {w w' : World} (h : Lib.IsBuilder T E B b bs w) (hb : ∀ x, B ≤ x → x < w.heap.size → w'.heap[x]? = w.heap[x]?) : Lib.IsBuilder T E B b bs w' := by
  have key : ∀ p, Lib.BuilderAt T E B b p bs w → Lib.BuilderAt T E B b p bs w' := by
    rintro p ⟨hB, v, hbk, hown, hne⟩
    have hlt : b < w.heap.size := (Array.getElem?_eq_some_iff.1 hbk).1
    refine ⟨hB, v, by rw [hb b hB hlt]; exact hbk, ⟨hown.1, ?_⟩, hne⟩
    rcases hown.2 with h1 | ⟨g, cap, cur, h1, h2, h3, h4⟩
    · exact .inl h1
    · have hg : g < w.heap.size := (Array.getElem?_eq_some_iff.1 h3).1
      exact .inr ⟨g, cap, cur, h1, h2, by rw [hb g h2 hg]; exact h3, h4⟩
  rcases h with h | h
  · exact .inl (key _ h)
  · exact .inr (key _ h)
theorem Wl.same2 {B L M : Nat} {w w' : World} {ns : List (Nat × Part)} (h : Wl B w L M ns) (e : ∀ x, x = L ∨ x = M ∨ (∃ y ∈ ns, x = y.1) → w'.heap[x]? = w.heap[x]?) : Wl B w' L M ns := by
  obtain ⟨D, hD⟩ := h.tab
  exact ⟨h.lk.same fun x hx => e x (by rcases hx with h | h; exact .inl h; exact .inr (.inr h)), ⟨D, hD.block (e M (.inr (.inl rfl)))⟩, h.td, h.key, h.ml, h.fm, h.lo⟩
theorem Wl.lts {B L M : Nat} {w : World} {ns : List (Nat × Part)} (h : Wl B w L M ns) : ∀ x, x = L ∨ x = M ∨ (∃ y ∈ ns, x = y.1) → x < w.heap.size := by
  obtain ⟨D, hD⟩ := h.tab
  rintro x (rfl | rfl | ⟨y, hy, rfl⟩)
  · exact h.lk.lt
  · exact hD.lt
  · exact h.lk.node_lt hy
/-- While a message is taken out: i parts are out, X is their text; R is the heap's size at the beginning. -/
structure Tk (B L M R : Nat) (ns : List (Nat × Part)) (ch : List Nat) (f : Part) (i : Nat) (X : ByteArray) (w W : World) : Prop where
  wl : Wl B W L M (leftB ns ((ch.take i).map (bAt ns)))
  bu : Lib.IsBuilder 119 5 (R + 2) (R + 2) (Lib.strCells X) W
  kp : Kp B L M ns w W
  res : VarN R [.int .i64 0, .int .i64 0, .bool false, .string (ByteArray.mk #[])] W
  fst : VarN (R + 1) (cellsP f) W
  sz : R + 2 < W.heap.size
  tx : X = textP (psOf ns) (ch.take i)
theorem Kp.trans {B L M : Nat} {ns ms : List (Nat × Part)} {a b c : World} (h : Kp B L M ns a b) (k : Kp B L M ms b c) (hs : ∀ y ∈ ms, y ∈ ns) : Kp B L M ns a c :=
  ⟨h.b.trans k.b, fun x h1 h2 h3 h4 => (k.o x (Nat.lt_of_lt_of_le h1 h.b.size) h2 h3 fun y hy => h4 y (hs y hy)).trans (h.o x h1 h2 h3 h4)⟩
theorem Kp.below {B L M : Nat} {ns : List (Nat × Part)} {a b c : World} (h : Kp B L M ns a b) (hB : B ≤ a.heap.size) (k : Below a.heap.size b c) : Kp B L M ns a c :=
  ⟨h.b.trans (k.mono hB), fun x h1 h2 h3 h4 => (k.block x h1).trans (h.o x h1 h2 h3 h4)⟩
theorem Kp.refl (B L M : Nat) (ns : List (Nat × Part)) (w : World) : Kp B L M ns w w := ⟨Below.refl _ _, fun _ _ _ _ _ => rfl⟩
section
variable {B L M R i : Nat} {ns : List (Nat × Part)} {ch : List Nat} {f : Part} {X : ByteArray} {w W W' : World}
/-- A callee that touches the builder alone. -/
theorem Tk.write (h : Tk B L M R ns ch f i X w W) (hw : Wl B w L M ns) (hR : w.heap.size = R) (hb : Below (R + 2) W W') :
    Wl B W' L M (leftB ns ((ch.take i).map (bAt ns))) ∧ Kp B L M ns w W' ∧ VarN R [.int .i64 0, .int .i64 0, .bool false, .string (ByteArray.mk #[])] W' ∧ VarN (R + 1) (cellsP f) W' ∧ R + 2 < W'.heap.size := by
  have hlt := hw.lts
  have hBw : B ≤ w.heap.size := Nat.le_of_lt (Nat.lt_of_le_of_lt hw.lo.1 hw.lk.lt)
  refine ⟨h.wl.same2 fun x hx => hb.block x ?_, h.kp.below hBw (hb.mono (by omega)), h.res.below hb (by omega), h.fst.below hb (by omega), Nat.lt_of_lt_of_le h.sz hb.size⟩
  have := hlt x (by
    rcases hx with hx | hx | ⟨y, hy, e⟩
    · exact .inl hx
    · exact .inr (.inl hx)
    · exact .inr (.inr ⟨y, (leftB_sub hy).1, e⟩))
  omega
theorem at_in_left (h : (ns.map Prod.fst).Nodup) (hc : ch.Nodup) (hl : ∀ j ∈ ch, j < ns.length) (hi : i < ch.length) : ∃ j, j < (leftB ns ((ch.take i).map (bAt ns))).length ∧ bAt (leftB ns ((ch.take i).map (bAt ns))) j = bAt ns (ch.getD i 0) ∧ pAt (psOf (leftB ns ((ch.take i).map (bAt ns)))) j = pAt (psOf ns) (ch.getD i 0) := by
  have hci : ch.getD i 0 ∈ ch := getD_in hi
  have hcl := hl _ hci
  have hm : (bAt ns (ch.getD i 0), pAt (psOf ns) (ch.getD i 0)) ∈ leftB ns ((ch.take i).map (bAt ns)) := by
    refine leftB_in (bAt_mem hcl) fun hb => ?_
    obtain ⟨k, hk, e⟩ := List.mem_map.1 hb
    have hk2 := hl k (List.mem_of_mem_take hk)
    have e2 := bAt_inj h hk2 hcl e
    obtain ⟨n, hn, e3⟩ := List.getElem_of_mem hk
    rw [List.length_take] at hn
    rw [List.getElem_take] at e3
    have e4 : ch[i] = ch.getD i 0 := by rw [List.getD_eq_getElem?_getD, List.getElem?_eq_getElem hi]; rfl
    rw [List.nodup_iff_pairwise_ne, List.pairwise_iff_getElem] at hc
    exact hc n i (by omega) hi (by omega) (by rw [e3, e4]; exact e2)
  obtain ⟨j, hj, e⟩ := nd_at hm
  exact ⟨j, hj, (congrArg Prod.fst e).symm, (congrArg Prod.snd e).symm⟩
theorem left_next (h : (ns.map Prod.fst).Nodup) (hi : i < ch.length) {j : Nat} (hj : j < (leftB ns ((ch.take i).map (bAt ns))).length) (e : bAt (leftB ns ((ch.take i).map (bAt ns))) j = bAt ns (ch.getD i 0)) : (leftB ns ((ch.take i).map (bAt ns))).eraseIdx j = leftB ns ((ch.take (i + 1)).map (bAt ns)) := by
  rw [← leftB_one (h.sublist ((leftB_sublist _ _).map _)) hj, e]
  have e2 : ch.take (i + 1) = ch.take i ++ [ch.getD i 0] := by
    rw [List.take_add_one, List.getD_eq_getElem?_getD, List.getElem?_eq_getElem hi]
    rfl
  rw [e2, List.map_append]
  exact (leftB_snoc _ _ _).symm
end

theorem taken_end {B L M R : Nat} {ns ms : List (Nat × Part)} {w W wc : World} (hw : Wl B w L M ns) (h : Wl B W L M ms) (hs : ∀ y ∈ ms, y ∈ ns) (hk : Kp B L M ns w W) (hb : Below (R + 2) W wc) (hR : w.heap.size = R) (a b c d : Value) :
    Wl B ((((wc.setCell ⟨R, 0, none⟩ a).setCell ⟨R, 1, none⟩ b).setCell ⟨R, 2, none⟩ c).setCell ⟨R, 3, none⟩ d) L M ms ∧ Kp B L M ns w ((((wc.setCell ⟨R, 0, none⟩ a).setCell ⟨R, 1, none⟩ b).setCell ⟨R, 2, none⟩ c).setCell ⟨R, 3, none⟩ d) := by
  have hlt := hw.lts
  have hBw : B ≤ w.heap.size := Nat.le_of_lt (Nat.lt_of_le_of_lt hw.lo.1 hw.lk.lt)
  have e : ∀ x, x < R → ((((wc.setCell ⟨R, 0, none⟩ a).setCell ⟨R, 1, none⟩ b).setCell ⟨R, 2, none⟩ c).setCell ⟨R, 3, none⟩ d).heap[x]? = W.heap[x]? := fun x hx => by
    rw [Below.heap_setCell _ _ _ _ (by show x ≠ R; omega), Below.heap_setCell _ _ _ _ (by show x ≠ R; omega), Below.heap_setCell _ _ _ _ (by show x ≠ R; omega), Below.heap_setCell _ _ _ _ (by show x ≠ R; omega)]
    exact hb.block x (by omega)
  refine ⟨h.same2 fun x hx => e x ?_, (((((hk.b.trans (hb.mono (by omega))).setCell (p := ⟨R, 0, none⟩) (by show B ≤ R; omega) a).setCell (p := ⟨R, 1, none⟩) (by show B ≤ R; omega) b).setCell (p := ⟨R, 2, none⟩) (by show B ≤ R; omega) c).setCell (p := ⟨R, 3, none⟩) (by show B ≤ R; omega) d), fun x h1 h2 h3 h4 => (e x (by omega)).trans (hk.o x h1 h2 h3 h4)⟩
  have := hlt x (by
    rcases hx with hx | hx | ⟨y, hy, e⟩
    · exact .inl hx
    · exact .inr (.inl hx)
    · exact .inr (.inr ⟨y, hs y hy, e⟩))
  omega

set_option maxHeartbeats 4000000 in
theorem take_any (B L M k0 : Nat) (ns : List (Nat × Part)) (ch : List Nat) (g m cap : Nat) (w : World) (h : Wl B w L M ns) (hc : Chn (psOf ns) k0 ch) (hm : ch.length = m)
    (hrow : ∀ i, i < m → w.cell? ⟨g, i, none⟩ = some (.pointer (some ⟨bAt ns (ch.getD i 0), 0, none⟩))) (hg : ∀ x, x = L ∨ x = M ∨ (∃ y ∈ ns, x = y.1) → x ≠ g) (hs : ∀ p ∈ psOf ns, p.text.size ≤ 20) :
    Calls Try.prog 78 #[.pointer (some ⟨L, 0, none⟩), .slice (some ⟨g, 0, none⟩) m cap] w fun e w' => e = .returned (msgV (msgP (psOf ns) ch)) ∧ Wl B w' L M (leftB ns (ch.map (bAt ns))) ∧ Kp B L M ns w w' := by
  have hpos : 0 < ch.length := List.length_pos_iff.2 hc.cn.ne
  have hlen := hc.cn.len
  have hlt : ∀ j ∈ ch, j < ns.length := fun j hj => by have := hc.cn.lt j hj; rwa [psOf_length] at this
  have h0 : ch.getD 0 0 < ns.length := hlt _ (getD_in hpos)
  have gl : g < w.heap.size := lt_of_cell (hrow 0 (by omega))
  have r0 := hrow 0 (by omega)
  have N0 := h.lk.nodes _ h0
  have HW := Lib.hid h
  have HR := Lib.hid hrow
  have HGG := Lib.hid hg
  have HC := Lib.hid hc
  have HS := Lib.hid hs
  have HL := Lib.hid hlt
  have HE := Lib.hid hm
  obtain ⟨p, hp⟩ : ∃ p, pAt (psOf ns) (ch.getD 0 0) = p := ⟨_, rfl⟩
  have HP := Lib.hid hp
  have T0 := Lib.hid (show Tk B L M w.heap.size ns ch p 0 (ByteArray.mk #[]) w (((w.alloc (.cells #[.int .i64 0, .int .i64 0, .bool false, .string (ByteArray.mk #[])] 45)).alloc (.cells (cellsP p).toArray 28)).alloc (.cells #[.pointer none, .slice none 0 0] 119)) from by
    have B1 := below_box (w := w) (.cells #[.int .i64 0, .int .i64 0, .bool false, .string (ByteArray.mk #[])] 45) (Nat.le_refl _)
    have B2 := B1.alloc (by simp) (.cells (cellsP p).toArray 28)
    have B3 := B2.alloc (Nat.le_of_lt (by simp; omega)) (.cells #[.pointer none, .slice none 0 0] 119)
    refine ⟨by rw [List.take_zero, List.map_nil, leftB_nil]; exact h.below B3, ?_, (Kp.refl B L M ns w).below (Nat.le_of_lt (Nat.lt_of_le_of_lt h.lo.1 h.lk.lt)) B3, ?_, ?_, Nat.lt_of_lt_of_le (Nat.lt_succ_self _) (by simp), rfl⟩
    · have := Lib.fresh_isBuilder 119 5 ((w.alloc (.cells #[.int .i64 0, .int .i64 0, .bool false, .string (ByteArray.mk #[])] 45)).alloc (.cells (cellsP p).toArray 28))
      rw [show ((w.alloc (.cells #[.int .i64 0, .int .i64 0, .bool false, .string (ByteArray.mk #[])] 45)).alloc (.cells (cellsP p).toArray 28)).heap.size = w.heap.size + 2 by simp] at this
      exact this
    · exact ((VarN.new w [.int .i64 0, .int .i64 0, .bool false, .string (ByteArray.mk #[])] _).alloc _ (by first | (simp; done) | (simp; omega))).alloc _ (by first | (simp; done) | (simp; omega))
    · exact (VarN.new_at (w := w.alloc (.cells #[.int .i64 0, .int .i64 0, .bool false, .string (ByteArray.mk #[])] 45)) (d := w.heap.size + 1) (by simp) (cellsP p) _).alloc _ (by first | (simp; done) | (simp; omega)))
  rw [hp] at N0
  obtain ⟨t, s, q, fi, la, lo, tx⟩ := p
  have x0 := (N0 0 _ rfl).1
  have x1 := (N0 1 _ rfl).1
  have x2 := (N0 2 _ rfl).1
  have x3 := (N0 3 _ rfl).1
  have x4 := (N0 4 _ rfl).1
  have x5 := (N0 5 _ rfl).1
  have x6 := (N0 6 _ rfl).1
  dsimp only at x0 x1 x2 x3 x4 x5 x6
  obtain ⟨d0, hd0⟩ : ∃ d, bAt ns (ch.getD 0 0) = d := ⟨_, rfl⟩
  rw [hd0] at x0 x1 x2 x3 x4 x5 x6 r0
  have him : (0 : Int) < (m : Int) := by omega
  have dl : d0 < w.heap.size := lt_of_cell x0
  clear h hrow hg hc hs hlt hm hp N0 hd0 h0
  go_enter Try.func78, Try.ntmps78
  go_wp2
  go_loopw [17] (fun c wr => ∃ (i : Nat) (X : ByteArray), i ≤ m ∧ c = .int .i64 i ∧ X.size ≤ 20 * i ∧ Hid (Tk B L M w.heap.size ns ch ⟨t, s, q, fi, la, lo, tx⟩ i X w wr)) (fun c _ => m - (intOf c).toNat)
  case atStart => exact ⟨0, _, Nat.zero_le _, rfl, Nat.le_refl _, T0⟩
  case round =>
    obtain ⟨i, X, hi, rfl, hX, hT⟩ := hrel
    clear T0 x0 x1 x2 x3 x4 x5 x6 r0 him
    by_cases hlt : i < m
    · have hil : i < ch.length := by rw [HE.out]; exact hlt
      obtain ⟨j, hj1, hj2, hj3⟩ := at_in_left HW.out.lk.nd HC.out.nd HL.out hil
      have hcl := HL.out _ (getD_in hil)
      have ri := HR.out i hlt
      have g1 : g < w.heap.size := gl
      have ri2 : wr.cell? ⟨g, i, none⟩ = some (.pointer (some ⟨bAt ns (ch.getD i 0), 0, none⟩)) :=
        (World.cell?_of_block (w := w) (hT.out.kp.o g gl (fun e => HGG.out L (.inl rfl) e.symm) (fun e => HGG.out M (.inr (.inl rfl)) e.symm) fun y hy e => HGG.out y.1 (.inr (.inr ⟨y, hy, rfl⟩)) e.symm)).trans ri
      have N := hT.out.wl.lk.nodes j hj1
      rw [hj2, hj3] at N
      have n6 := (N 6 _ rfl).1
      have hz := HS.out _ (List.mem_map_of_mem (bAt_mem hcl))
      have ET := Lib.hid (show textP (psOf ns) (ch.take (i + 1)) = X ++ (pAt (psOf ns) (ch.getD i 0)).text by
        have e2 : ch.take (i + 1) = ch.take i ++ [ch.getD i 0] := by
          rw [List.take_add_one, List.getD_eq_getElem?_getD, List.getElem?_eq_getElem hil]
          rfl
        rw [e2, textP_snoc, ← hT.out.tx])
      have HN := Lib.hid (left_next HW.out.lk.nd hil hj1 hj2)
      have HJ2 := Lib.hid hj2
      obtain ⟨y, hy⟩ : ∃ y, (pAt (psOf ns) (ch.getD i 0)).text = y := ⟨_, rfl⟩
      change wr.cell? _ = some (.string (pAt (psOf ns) (ch.getD i 0)).text) at n6
      rw [hy] at n6 ET
      have hyz : y.size ≤ 20 := hy ▸ hz
      obtain ⟨d, hd⟩ : ∃ d, bAt ns (ch.getD i 0) = d := ⟨_, rfl⟩
      rw [hd] at ri2 n6 HJ2
      have hm13 : i ≤ 13 := by omega
      have hsz := Lib.hid hT.out.sz
      have HB := Lib.hid hT.out.bu
      clear ri N hz hy hd hcl hj2 hj3 g1
      go_wp2_with fail
      refine (writeString_any (w.heap.size + 2) (w.heap.size + 2) (Lib.strCells X) y _ HB.out (by rw [Lib.strCells_length]; omega) (Nat.le_of_lt hsz.out)).mono ?_
      rintro e w1 ⟨rfl, hbu, hb1⟩
      obtain ⟨p1, p2, p3, p4, p5⟩ := hT.out.write HW.out rfl hb1
      have HB1 := Lib.hid hbu
      have P2 := Lib.hid p2
      have P3 := Lib.hid p3
      have P4 := Lib.hid p4
      have P5 := Lib.hid p5
      have RM := remove_any B L M j _ w1 p1 hj1
      rw [HJ2.out] at RM
      have HRM := Lib.hid RM
      have P1 := Lib.hid p1
      have hlts := Lib.hid HW.out.lts
      have txH := Lib.hid hT.out.tx
      clear hbu hb1 p1 p2 p3 p4 p5 RM hT ri2 n6 HB
      go_wp2_with fail
      refine HRM.out.mono ?_
      rintro e w2 ⟨rfl, hw2, hk2⟩
      have T2 := Lib.hid (show Tk B L M w.heap.size ns ch ⟨t, s, q, fi, la, lo, tx⟩ (i + 1) (X ++ y) w w2 from by
        have hne : ∀ x, w.heap.size ≤ x → x < w1.heap.size → w2.heap[x]? = w1.heap[x]? := fun x h1 h2 => hk2.o x h2
          (fun e => by have := hlts.out L (.inl rfl); omega) (fun e => by have := hlts.out M (.inr (.inl rfl)); omega)
          (fun z hz e => by have := hlts.out z.1 (.inr (.inr ⟨z, (leftB_sub hz).1, rfl⟩)); omega)
        have h5 := P5.out
        refine ⟨by rw [← HN.out]; exact hw2, ?_, P2.out.trans hk2 (fun z hz => (leftB_sub hz).1), P3.out.blk (hne _ (Nat.le_refl _) (by omega)), P4.out.blk (hne _ (Nat.le_succ _) (by omega)), Nat.lt_of_lt_of_le h5 hk2.b.size, ET.out.symm⟩
        rw [← strCells_append]
        exact isBuilder_same HB1.out fun x h1 h2 => hne x (by omega) h2)
      clear hw2 hk2
      go_wp2
      go_roundw
      case rel => exact ⟨i + 1, X ++ y, by omega, by go_num, by rw [ByteArray.size_append]; omega, T2⟩
      case measure => simp [intOf]; omega
    · obtain rfl : i = m := by omega
      have K := hT.out
      have et : ch.take i = ch := List.take_of_length_le (by rw [HE.out]; exact Nat.le_refl _)
      have E := Lib.hid (show X = textP (psOf ns) ch by rw [K.tx, et])
      have BU := Lib.hid (show Lib.IsBuilder 119 5 (w.heap.size + 2) (w.heap.size + 2) (Lib.byteCells X.data.toList) wr.drew from isBuilder_same K.bu fun x _ _ => rfl)
      have SZ := Lib.hid K.sz
      have WF := Lib.hid (show Wl B wr.drew L M (leftB ns (ch.map (bAt ns))) by have := K.wl; rw [et] at this; exact this.drewN 1)
      have KF := Lib.hid (show Kp B L M ns w wr.drew from ⟨K.kp.b.drew, K.kp.o⟩)
      have V3 := Lib.hid K.res
      have V4 := Lib.hid K.fst
      have r0 := (V3.out 0 _ rfl).1
      have r1 := (V3.out 1 _ rfl).1
      have r2 := (V3.out 2 _ rfl).1
      have r3 := (V3.out 3 _ rfl).1
      have f0 := (V3.out 0 _ rfl).2
      have f1 := (V3.out 1 _ rfl).2
      have f2 := (V3.out 2 _ rfl).2
      have f3 := (V3.out 3 _ rfl).2
      have y1 := (V4.out 1 _ rfl).1
      have y2 := (V4.out 2 _ rfl).1
      have y5 := (V4.out 5 _ rfl).1
      dsimp only at y1 y2 y5
      clear K et hT
      go_upto_region 9 with fail
      go_cut [] from 31 to 38 (fun wx => VarN w.heap.size [.int .i64 s, .int .i64 q, .bool lo, .string ⟨X.data.toList.toArray⟩] wx ∧ Hid (Wl B wx L M (leftB ns (ch.map (bAt ns))) ∧ Kp B L M ns w wx))
      case first =>
        go_region_law (go_simp; go_at_call 88; refine (Try.Builder_String_any (w.heap.size + 2) (w.heap.size + 2) _ _ BU.out (Nat.le_of_lt SZ.out)).mono ?_; rintro e wc ⟨rfl, hbc⟩; have HBC := Lib.hid hbc; have R3 := Lib.hid (show VarN w.heap.size _ wc from (V3.out.drewN 1).below hbc (by omega)); have R4 := Lib.hid (show VarN (w.heap.size + 1) _ wc from (V4.out.drewN 1).below hbc (by omega)); have r0c := (R3.out 0 _ rfl).1; have r1c := (R3.out 1 _ rfl).1; have r2c := (R3.out 2 _ rfl).1; have r3c := (R3.out 3 _ rfl).1; have f0c := (R3.out 0 _ rfl).2; have f1c := (R3.out 1 _ rfl).2; have f2c := (R3.out 2 _ rfl).2; have f3c := (R3.out 3 _ rfl).2; have y1c := (R4.out 1 _ rfl).1; have y2c := (R4.out 2 _ rfl).1; have y5c := (R4.out 5 _ rfl).1; clear hbc; dsimp only at y1c y2c y5c)
        all_goals
          have V5 := R3.out.put4 (.int .i64 s) (.int .i64 q) (.bool lo) (.string ⟨X.data.toList.toArray⟩)
          have WL5 := taken_end HW.out WF.out (fun y hy => (leftB_sub hy).1) KF.out HBC.out rfl (.int .i64 s) (.int .i64 q) (.bool lo) (.string ⟨X.data.toList.toArray⟩)
          clear r0 r1 r2 r3 f0 f1 f2 f3 y1 y2 y5 r0c r1c r2c r3c f0c f1c f2c f3c y1c y2c y5c
          go_wp2_with fail
          go_meet
          exact ⟨V5, Lib.hid WL5⟩
      case rest =>
        obtain ⟨V5, WL5⟩ := hcut
        have z0 := (V5 0 _ rfl).1
        have z1 := (V5 1 _ rfl).1
        have z2 := (V5 2 _ rfl).1
        have z3 := (V5 3 _ rfl).1
        clear V5 r0 r1 r2 r3 f0 f1 f2 f3 y1 y2 y5
        go_wp2
        refine bodyPost_ret (v := .agg #[.int .i64 s, .int .i64 q, .bool lo, .string ⟨X.data.toList.toArray⟩]) ?_ rfl ?_
        · simp [results, Try.results78, go_sem, z0, z1, z2, z3]
        · refine ⟨congrArg Ending.returned ?_, WL5.out⟩
          unfold msgV msgP
          rw [HP.out, ← E.out]

end Go.Proofs.Ytncbgejggfkdmaa
