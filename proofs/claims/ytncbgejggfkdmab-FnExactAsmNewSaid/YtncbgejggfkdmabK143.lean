/- The contract of the program's list of parts that wait: a further part. -/
import Derived.Test.YtncbgejggfkdmabK142
import Derived.Deep.RegionLaw
namespace Go.Proofs.Ytncbgejggfkdmab
open Go.RowKit Go.PlainAid

theorem td_snoc {ns : List (Nat × Part)} {d : Nat} {p : Part} (h : ((psOf ns).map fun p => p.tsn).Nodup) (ht : hasT (psOf ns) p.tsn = false) : ((psOf (ns ++ [(d, p)])).map fun p => p.tsn).Nodup := by
  rw [psOf_append, List.map_append, List.nodup_append]
  refine ⟨h, by simp [psOf], fun a ha b hb e => ?_⟩
  obtain ⟨q, hq, rfl⟩ := List.mem_map.1 ha
  have : b = p.tsn := by simpa [psOf] using hb
  exact hasT_no ht q hq (e.trans this)
theorem Wl.more {B L M d n : Nat} {w w' : World} {ns : List (Nat × Part)} {p : Part} {D : DataW Unit} (h : Wl B w L M ns) (hl : Lk w' L M (ns ++ [(d, p)])) (ht : Tab w' M (ns ++ [(d, p)]) D) (hp : hasT (psOf ns) p.tsn = false) (hk : Key p.tsn) (hd : B ≤ d) (hm : d ≠ M) (_ : n = 0) : Wl B w' L M (ns ++ [(d, p)]) := by
  refine ⟨hl, ⟨D, ht⟩, td_snoc h.td hp, fun q hq => ?_, h.ml, fun x hx => ?_, h.lo.1, h.lo.2.1, fun x hx => ?_⟩
  · rw [psOf_append] at hq
    rcases List.mem_append.1 hq with hq | hq
    · exact h.key q hq
    · obtain rfl : q = p := by simpa [psOf] using hq
      exact hk
  · rcases List.mem_append.1 hx with hx | hx
    · exact h.fm x hx
    · obtain rfl : x = (d, p) := by simpa using hx
      exact hm
  · rcases List.mem_append.1 hx with hx | hx
    · exact h.lo.2.2 x hx
    · obtain rfl : x = (d, p) := by simpa using hx
      exact hd

theorem Lk.drew {w : World} {L M : Nat} {ns : List (Nat × Part)} (h : Lk w L M ns) : Lk w.drew L M ns := h.same fun _ _ => rfl
theorem Lk.alloc {w : World} {L M : Nat} {ns : List (Nat × Part)} (h : Lk w L M ns) (o : Obj) : Lk (w.alloc o) L M ns := h.same fun x hx => by
  refine (below_box o (Nat.le_refl _)).block x ?_
  rcases hx with rfl | ⟨y, hy, rfl⟩
  · exact h.lt
  · exact h.node_lt hy
theorem partV_eq (t s q : Int) (fi la lo : Bool) (tx : ByteArray) : partV ⟨t, s, q, fi, la, lo, tx⟩ = .agg #[.int .i64 t, .int .i64 s, .int .i64 q, .bool fi, .bool la, .bool lo, .string tx] := rfl
theorem two_past (w : World) (a b : Obj) {p q i j : Nat} {x y : Value} (hp : p < w.heap.size) (hq : q < w.heap.size) :
    (((w.alloc a).alloc b).setCell ⟨p, i, none⟩ x).setCell ⟨q, j, none⟩ y = (((w.setCell ⟨p, i, none⟩ x).setCell ⟨q, j, none⟩ y).alloc a).alloc b := by
  rw [World.setCell_alloc_past b p i x (by simp; omega), World.setCell_alloc_past a p i x hp, World.setCell_alloc_past b q j y (by simp; omega), World.setCell_alloc_past a q j y (by simp; omega)]
theorem heap_past (w : World) (o : Obj) {x : Nat} (h : x < w.heap.size) : (w.alloc o).heap[x]? = w.heap[x]? := (below_box o (Nat.le_refl _)).block x h

set_option maxHeartbeats 2000000 in
theorem add_first (B L M : Nat) (p : Part) (w : World) (h : Wl B w L M []) (hk : Key p.tsn) :
    Calls Try.prog 55 #[.pointer (some ⟨L, 0, none⟩), partV p] w fun e w' => e = .returned (.tuple #[]) ∧ ∃ d, Wl B w' L M [(d, p)] ∧ w.heap.size ≤ d ∧ Kp B L M [] w w' := by
  obtain ⟨t, s, q, fi, la, lo, tx⟩ := p
  have hBw : B ≤ w.heap.size := Nat.le_of_lt (Nat.lt_of_le_of_lt h.lo.1 h.lk.lt)
  have hLt := h.lk.lt
  obtain ⟨D, hD⟩ := h.tab
  have hMt := hD.lt
  have hBL := h.lo.1
  have hBM := h.lo.2.1
  have hml := h.ml
  have V2 := VarN.new_at (w := w.alloc (.cells #[.int .i64 t, .int .i64 s, .int .i64 q, .bool fi, .bool la, .bool lo, .string tx] 43)) (d := w.heap.size + 1) (by simp) (nodeC (⟨t, s, q, fi, la, lo, tx⟩ : Part) none none) 110
  have L3 := ((h.lk.alloc (.cells #[.int .i64 t, .int .i64 s, .int .i64 q, .bool fi, .bool la, .bool lo, .string tx] 43)).alloc (.cells #[.int .i64 t, .int .i64 s, .int .i64 q, .bool fi, .bool la, .bool lo, .string tx, .pointer none, .pointer none] 110)).first V2 (by omega)
  rw [two_past _ _ _ (by omega) hLt] at L3
  have B3 : Below B w ((((w.setCell ⟨L, 0, none⟩ (.pointer (some ⟨w.heap.size + 1, 0, none⟩))).setCell ⟨L, 1, none⟩ (.pointer (some ⟨w.heap.size + 1, 0, none⟩))).alloc (.cells #[.int .i64 t, .int .i64 s, .int .i64 q, .bool fi, .bool la, .bool lo, .string tx] 43)).alloc (.cells #[.int .i64 t, .int .i64 s, .int .i64 q, .bool fi, .bool la, .bool lo, .string tx, .pointer none, .pointer none] 110)) := ((((Below.refl B w).setCell (p := ⟨L, 0, none⟩) hBL (.pointer (some ⟨w.heap.size + 1, 0, none⟩))).setCell (p := ⟨L, 1, none⟩) hBL (.pointer (some ⟨w.heap.size + 1, 0, none⟩))).alloc (by simp; omega) (.cells #[.int .i64 t, .int .i64 s, .int .i64 q, .bool fi, .bool la, .bool lo, .string tx] 43)).alloc (by simp; omega) (.cells #[.int .i64 t, .int .i64 s, .int .i64 q, .bool fi, .bool la, .bool lo, .string tx, .pointer none, .pointer none] 110)
  have E3 : ∀ x, x < w.heap.size → x ≠ L → ((((w.setCell ⟨L, 0, none⟩ (.pointer (some ⟨w.heap.size + 1, 0, none⟩))).setCell ⟨L, 1, none⟩ (.pointer (some ⟨w.heap.size + 1, 0, none⟩))).alloc (.cells #[.int .i64 t, .int .i64 s, .int .i64 q, .bool fi, .bool la, .bool lo, .string tx] 43)).alloc (.cells #[.int .i64 t, .int .i64 s, .int .i64 q, .bool fi, .bool la, .bool lo, .string tx, .pointer none, .pointer none] 110)).heap[x]? = w.heap[x]? := fun x h1 h2 => by
    rw [heap_past _ _ (by simp; omega), heap_past _ _ (by simp; omega), Below.heap_setCell _ _ _ _ (by simpa using h2), Below.heap_setCell _ _ _ _ (by simpa using h2)]
  have T3 : Tab ((((w.setCell ⟨L, 0, none⟩ (.pointer (some ⟨w.heap.size + 1, 0, none⟩))).setCell ⟨L, 1, none⟩ (.pointer (some ⟨w.heap.size + 1, 0, none⟩))).alloc (.cells #[.int .i64 t, .int .i64 s, .int .i64 q, .bool fi, .bool la, .bool lo, .string tx] 43)).alloc (.cells #[.int .i64 t, .int .i64 s, .int .i64 q, .bool fi, .bool la, .bool lo, .string tx, .pointer none, .pointer none] 110)).drew.drew M [] D := hD.block (E3 M hMt hml)
  obtain ⟨w9, D9, hU, T9, G9, S9⟩ := T3.put (w.heap.size + 1) (p := (⟨t, s, q, fi, la, lo, tx⟩ : Part)) hk rfl (by simp)
  have L9 : Lk w9 L M [(w.heap.size + 1, (⟨t, s, q, fi, la, lo, tx⟩ : Part))] := L3.drew.drew.same fun x hx => by
    refine G9.block x ?_ ?_
    · rcases hx with rfl | ⟨y, hy, rfl⟩
      · exact L3.drew.drew.lt
      · exact L3.drew.drew.node_lt hy
    · rcases hx with rfl | ⟨y, hy, rfl⟩
      · simpa using hml.symm
      · obtain rfl : y = (w.heap.size + 1, (⟨t, s, q, fi, la, lo, tx⟩ : Part)) := by simpa using hy
        simp
        omega
  have W9 := Lib.hid (h.more (n := 0) L9 T9 rfl hk (by omega) (by omega) rfl)
  have K9 := Lib.hid (show Kp B L M [] w w9 from ⟨Below.grown B3.drew.drew G9 (by simp; omega) (fun k e => by cases e; exact hBM), fun x h1 h2 h3 h4 => (G9.block x (by simp; omega) (by simpa using h3)).trans (E3 x h1 h2)⟩)
  have c0 : w.cell? ⟨L, 0, none⟩ = some (.pointer none) := (h.lk.l 0 _ rfl).1
  have c1 : w.cell? ⟨L, 1, none⟩ = some (.pointer none) := (h.lk.l 1 _ rfl).1
  have c2 := (h.lk.l 2 _ rfl).1
  have f0 := (h.lk.l 0 _ rfl).2
  have f1 := (h.lk.l 1 _ rfl).2
  clear h hD V2 L3 B3 E3 T3 T9 G9 S9 L9
  dsimp only at hU
  rw [partV_eq]
  go_enter Try.func55, Try.ntmps55
  go_wp2_with fail
  go_region
  go_wp2_with fail
  go_region
  all_goals
    go_end0
    exact ⟨rfl, _, W9.out, by omega, K9.out⟩

set_option maxHeartbeats 2000000 in
theorem add_more (B L M n : Nat) (ns : List (Nat × Part)) (p : Part) (w : World) (h : Wl B w L M ns) (hn : ns.length = n + 1) (hn2 : ns.length ≤ 100) (hk : Key p.tsn) (ht : hasT (psOf ns) p.tsn = false) :
    Calls Try.prog 55 #[.pointer (some ⟨L, 0, none⟩), partV p] w fun e w' => e = .returned (.tuple #[]) ∧ ∃ d, Wl B w' L M (ns ++ [(d, p)]) ∧ w.heap.size ≤ d ∧ Kp B L M ns w w' := by
  obtain ⟨t, s, q, fi, la, lo, tx⟩ := p
  have hBw : B ≤ w.heap.size := Nat.le_of_lt (Nat.lt_of_le_of_lt h.lo.1 h.lk.lt)
  have hLt := h.lk.lt
  obtain ⟨D, hD⟩ := h.tab
  have hMt := hD.lt
  have hBL := h.lo.1
  have hBM := h.lo.2.1
  have hml := h.ml
  have hl : n < ns.length := by omega
  have hm := bAt_mem hl
  have hBe := h.lo.2.2 _ hm
  have het := h.lk.node_lt hm
  have heL := h.lk.fl _ hm
  have heM := h.fm _ hm
  have hpv : pv ns ns.length = some (bAt ns n) := by rw [hn]; exact bk_some hl
  have N := h.lk.nodes n hl
  have HN := Lib.hid hn
  have HF := Lib.hid (show ∀ y ∈ ns, y.1 ≠ w.heap.size + 1 from fun y hy => by have := h.lk.node_lt hy; omega)
  have V2 := VarN.new_at (w := w.alloc (.cells #[.int .i64 t, .int .i64 s, .int .i64 q, .bool fi, .bool la, .bool lo, .string tx] 43)) (d := w.heap.size + 1) (by simp) (nodeC (⟨t, s, q, fi, la, lo, tx⟩ : Part) (some (bAt ns n)) none) 110
  have L3 := ((h.lk.alloc (.cells #[.int .i64 t, .int .i64 s, .int .i64 q, .bool fi, .bool la, .bool lo, .string tx] 43)).alloc (.cells #[.int .i64 t, .int .i64 s, .int .i64 q, .bool fi, .bool la, .bool lo, .string tx, .pointer (some ⟨bAt ns n, 0, none⟩), .pointer none] 110)).more hn V2 (by omega) HF.out
  have nb : bk ns (n + 1) = none := bk_none (by omega)
  rw [nb] at N
  have g8 : w.cell? ⟨bAt ns n, 8, none⟩ = some (.pointer none) := (N 8 _ rfl).1
  have q8 := (N 8 _ rfl).2
  clear N nb
  obtain ⟨e, he⟩ : ∃ e, bAt ns n = e := ⟨_, rfl⟩
  rw [he] at L3 V2 hm hBe het heL heM hpv g8 q8
  clear he
  rw [two_past _ _ _ (by omega) hLt] at L3
  have B3 : Below B w ((((w.setCell ⟨e, 8, none⟩ (.pointer (some ⟨w.heap.size + 1, 0, none⟩))).setCell ⟨L, 1, none⟩ (.pointer (some ⟨w.heap.size + 1, 0, none⟩))).alloc (.cells #[.int .i64 t, .int .i64 s, .int .i64 q, .bool fi, .bool la, .bool lo, .string tx] 43)).alloc (.cells #[.int .i64 t, .int .i64 s, .int .i64 q, .bool fi, .bool la, .bool lo, .string tx, .pointer (some ⟨e, 0, none⟩), .pointer none] 110)) := ((((Below.refl B w).setCell (p := ⟨e, 8, none⟩) hBe (.pointer (some ⟨w.heap.size + 1, 0, none⟩))).setCell (p := ⟨L, 1, none⟩) hBL (.pointer (some ⟨w.heap.size + 1, 0, none⟩))).alloc (by simp; omega) (.cells #[.int .i64 t, .int .i64 s, .int .i64 q, .bool fi, .bool la, .bool lo, .string tx] 43)).alloc (by simp; omega) (.cells #[.int .i64 t, .int .i64 s, .int .i64 q, .bool fi, .bool la, .bool lo, .string tx, .pointer (some ⟨e, 0, none⟩), .pointer none] 110)
  have E3 : ∀ x, x < w.heap.size → x ≠ L → x ≠ e → ((((w.setCell ⟨e, 8, none⟩ (.pointer (some ⟨w.heap.size + 1, 0, none⟩))).setCell ⟨L, 1, none⟩ (.pointer (some ⟨w.heap.size + 1, 0, none⟩))).alloc (.cells #[.int .i64 t, .int .i64 s, .int .i64 q, .bool fi, .bool la, .bool lo, .string tx] 43)).alloc (.cells #[.int .i64 t, .int .i64 s, .int .i64 q, .bool fi, .bool la, .bool lo, .string tx, .pointer (some ⟨e, 0, none⟩), .pointer none] 110)).heap[x]? = w.heap[x]? := fun x h1 h2 h3 => by
    rw [heap_past _ _ (by simp; omega), heap_past _ _ (by simp; omega), Below.heap_setCell _ _ _ _ (by simpa using h2), Below.heap_setCell _ _ _ _ (by simpa using h3)]
  have T3 : Tab ((((w.setCell ⟨e, 8, none⟩ (.pointer (some ⟨w.heap.size + 1, 0, none⟩))).setCell ⟨L, 1, none⟩ (.pointer (some ⟨w.heap.size + 1, 0, none⟩))).alloc (.cells #[.int .i64 t, .int .i64 s, .int .i64 q, .bool fi, .bool la, .bool lo, .string tx] 43)).alloc (.cells #[.int .i64 t, .int .i64 s, .int .i64 q, .bool fi, .bool la, .bool lo, .string tx, .pointer (some ⟨e, 0, none⟩), .pointer none] 110)).drew.drew M ns D := hD.block (E3 M hMt hml heM.symm)
  obtain ⟨w9, D9, hU, T9, G9, S9⟩ := T3.put (w.heap.size + 1) (p := (⟨t, s, q, fi, la, lo, tx⟩ : Part)) hk ht hn2
  have L9 : Lk w9 L M (ns ++ [(w.heap.size + 1, (⟨t, s, q, fi, la, lo, tx⟩ : Part))]) := L3.drew.drew.same fun x hx => by
    refine G9.block x ?_ ?_
    · rcases hx with rfl | ⟨y, hy, rfl⟩
      · exact L3.drew.drew.lt
      · exact L3.drew.drew.node_lt hy
    · rcases hx with rfl | ⟨y, hy, rfl⟩
      · simpa using hml.symm
      · rcases List.mem_append.1 hy with hy | hy
        · simpa using h.fm y hy
        · obtain rfl : y = (w.heap.size + 1, (⟨t, s, q, fi, la, lo, tx⟩ : Part)) := by simpa using hy
          simp
          omega
  have W9 := Lib.hid (h.more (n := 0) L9 T9 ht hk (by omega) (by omega) rfl)
  have K9 := Lib.hid (show Kp B L M ns w w9 from ⟨Below.grown B3.drew.drew G9 (by simp; omega) (fun k e => by cases e; exact hBM), fun x h1 h2 h3 h4 => (G9.block x (by simp; omega) (by simpa using h3)).trans (E3 x h1 h2 (h4 _ hm))⟩)
  have c0 := (h.lk.l 0 _ rfl).1
  have c1 : w.cell? ⟨L, 1, none⟩ = some (.pointer (some ⟨e, 0, none⟩)) := by have := (h.lk.l 1 _ rfl).1; rw [hpv] at this; exact this
  have c2 := (h.lk.l 2 _ rfl).1
  have f0 := (h.lk.l 0 _ rfl).2
  have f1 := (h.lk.l 1 _ rfl).2
  have HE := Lib.hid hm
  have ne1 : ¬ e = L := heL
  have ne2 : ¬ L = e := fun h => heL h.symm
  clear h hD V2 L3 B3 E3 T3 T9 G9 S9 L9 hpv HN HF hl hm hn hn2 ht c0 f0
  dsimp only at hU
  rw [partV_eq]
  go_enter Try.func55, Try.ntmps55
  go_wp2_with fail
  go_region
  go_wp2_with fail
  go_region
  all_goals
    go_end0
    exact ⟨rfl, _, W9.out, by omega, K9.out⟩

theorem add_any (B L M : Nat) (ns : List (Nat × Part)) (p : Part) (w : World) (h : Wl B w L M ns) (hn : ns.length ≤ 100) (hk : Key p.tsn) (ht : hasT (psOf ns) p.tsn = false) :
    Calls Try.prog 55 #[.pointer (some ⟨L, 0, none⟩), partV p] w fun e w' => e = .returned (.tuple #[]) ∧ ∃ d, Wl B w' L M (ns ++ [(d, p)]) ∧ w.heap.size ≤ d ∧ Kp B L M ns w w' := by
  cases ns with
  | nil => exact add_first B L M p w h hk
  | cons x ns => exact add_more B L M ns.length (x :: ns) p w h rfl hn hk ht

end Go.Proofs.Ytncbgejggfkdmab
