/- The contracts of the laws' helpers on receipts: size, copy, comparison. -/
import Derived.Test.YtcjabomcndahbaaK29
import Derived.Laws.MakeOwn
import Derived.Test.YtcjabomcndahbaaK20v
namespace Go.Proofs.Ytcjabomcndahbaa
open Go.RowKit Go.PlainAid

set_option maxHeartbeats 400000 in
theorem szGapS_any (a : Option Addr) (len cap : Nat) (n : Int) (w : World) (h0 : 0 ≤ n) (h1 : n ≤ 1048576) (hm : len ≤ 9223372036854775807) :
    Calls Try.prog 78 #[.slice a len cap, .int .i64 n] w fun e w' => e = .returned (.int .i64 (if n - len < 0 then -1 else n - len)) ∧ w = w' := by
  have e : IntKind.i64.wrap (n - len) = n - len := IntWalk.i64_in _ (by omega)
  by_cases h : n - len < 0
  · have E := Lib.hid (show (-1 : Int) = if n - len < 0 then -1 else n - len by rw [if_pos h])
    go_enter Try.func78, Try.ntmps78
    go_wp2
    go_ret
    exact ⟨by first | rfl | exact ret_i E.out, rfl⟩
  · have E := Lib.hid (show n - len = if n - len < 0 then -1 else n - len by rw [if_neg h])
    go_enter Try.func78, Try.ntmps78
    go_wp2
    go_ret
    exact ⟨by first | rfl | exact ret_i E.out, rfl⟩

set_option maxHeartbeats 400000 in
theorem szSack_yes (c : Int) (a : Option Addr) (len cap : Nat) (w : World) (hm : len ≤ 1048576) :
    Calls Try.prog 46 #[.agg #[.int .i64 c, .slice a len cap], .int .i64 1048576] w fun e w' => e = .returned (.int .i64 (1048576 - len)) ∧ Below w.heap.size w w' := by
  have h : ¬ (1048576 : Int) - len < 0 := by omega
  have E := Lib.hid (show (if (1048576 : Int) - (len : Int) < 0 then (-1 : Int) else (1048576 : Int) - (len : Int)) = (1048576 : Int) - (len : Int) by rw [if_neg h])
  go_enter Try.func46, Try.ntmps46
  go_wp2_with fail
  refine (szGapS_any a len cap 1048576 _ (by omega) (by omega) (by omega)).mono ?_
  rw [E.out]
  rintro e w1 ⟨rfl, rfl⟩
  go_wp2
  go_ret
  exact ⟨rfl, below_box _ (Nat.le_refl _)⟩

set_option maxHeartbeats 400000 in
theorem szSack_no (c : Int) (a : Option Addr) (len cap : Nat) (w : World) (h : 1048576 < len) (hm : len ≤ 9223372036854775807) :
    Calls Try.prog 46 #[.agg #[.int .i64 c, .slice a len cap], .int .i64 1048576] w fun e w' => e = .returned (.int .i64 (-1)) ∧ Below w.heap.size w w' := by
  have E := Lib.hid (show (if (1048576 : Int) - (len : Int) < 0 then (-1 : Int) else (1048576 : Int) - (len : Int)) = (-1 : Int) by rw [if_pos (by omega)])
  go_enter Try.func46, Try.ntmps46
  go_wp2_with fail
  refine (szGapS_any a len cap 1048576 _ (by omega) (by omega) hm).mono ?_
  rw [E.out]
  rintro e w1 ⟨rfl, rfl⟩
  go_wp2
  go_ret
  exact ⟨rfl, below_box _ (Nat.le_refl _)⟩

set_option maxHeartbeats 400000 in
theorem toGap_any (f t : Int) (w : World) :
    Calls Try.prog 90 #[.agg #[.int .i64 f, .int .i64 t]] w fun e w' => e = .returned (.agg #[.int .i64 f, .int .i64 t]) ∧ Below w.heap.size w w' := by
  go_enter Try.func90, Try.ntmps90
  go_wp2
  refine bodyPost_ret (v := .agg #[.int .i64 f, .int .i64 t]) ?_ rfl ?_
  · simp [results, Try.results90, go_sem]
  · exact ⟨rfl, by
      repeat (first | exact Below.refl _ _ | refine Below.setCell ?_ (by simp <;> omega) _ | refine Below.alloc ?_ (by simp <;> omega) _)⟩

/-- A row of blocks that is being filled: k of 'len' blocks lie there. -/
def Fill (d len k : Nat) (gs : List (Int × Int)) (w : World) : Prop :=
  ∀ i, i < len → ∃ u v, w.cell? ⟨d, i * 2, none⟩ = some u ∧ w.cell? ⟨d, i * 2 + 1, none⟩ = some v ∧ w.frozen? ⟨d, i * 2, none⟩ = false ∧ w.frozen? ⟨d, i * 2 + 1, none⟩ = false ∧ (i < k → u = .int .i64 (gs.getD i (0, 0)).1 ∧ v = .int .i64 (gs.getD i (0, 0)).2)
theorem info_gap : (Try.prog.info? 76).map (fun i => (i.zero, i.size, i.bytes)) = some (some (.agg #[.int .i64 0, .int .i64 0]), 2, 16) := by kernel_rfl
theorem addr_add (d j : Nat) : (⟨d, 0, none⟩ : Addr).add j = ⟨d, j, none⟩ := by
  unfold Addr.add
  split <;> simp_all
theorem Fill.below {d len k : Nat} {gs : List (Int × Int)} {w w' : World} (h : Fill d len k gs w) (hb : Below w.heap.size w w') : Fill d len k gs w' := fun i hi => by
  obtain ⟨u, v, h1, h2, h3, h4, h5⟩ := h i hi
  have hd := lt_of_cell h1
  exact ⟨u, v, kept_cell hb hd h1, kept_cell hb hd h2, kept_frozen hb hd h3, kept_frozen hb hd h4, h5⟩
theorem Fill.put {d len k : Nat} {gs : List (Int × Int)} {w : World} {f t : Int} (h : Fill d len k gs w) (hk : k < len) (hf : (gs.getD k (0, 0)).1 = f) (ht : (gs.getD k (0, 0)).2 = t) :
    Fill d len (k + 1) gs ((w.setCell ⟨d, k * 2, none⟩ (.int .i64 f)).setCell ⟨d, k * 2 + 1, none⟩ (.int .i64 t)) := fun i hi => by
  obtain ⟨u, v, h1, h2, h3, h4, h5⟩ := h i hi
  by_cases e : i = k
  · subst e
    exact ⟨.int .i64 f, .int .i64 t, cell_other (by omega) (World.cell?_setCell_same _ _ _ h1), World.cell?_setCell_same _ _ _ (cell_other (by omega) h2), by rw [World.frozen?_setCell, World.frozen?_setCell]; exact h3, by rw [World.frozen?_setCell, World.frozen?_setCell]; exact h4, fun _ => ⟨by rw [hf], by rw [ht]⟩⟩
  · exact ⟨u, v, cell_other (by omega) (cell_other (by omega) h1), cell_other (by omega) (cell_other (by omega) h2), by rw [World.frozen?_setCell, World.frozen?_setCell]; exact h3, by rw [World.frozen?_setCell, World.frozen?_setCell]; exact h4, fun h => h5 (by omega)⟩
theorem Fill.gaps {d len : Nat} {gs : List (Int × Int)} {w : World} (h : Fill d len len gs w) (hl : gs.length = len) (hm : len ≤ maxLen) : Gaps w (some ⟨d, 0, none⟩) len len gs := by
  refine .inr ⟨_, rfl, Nat.le_refl _, hm, hl, fun i hi => ?_⟩
  obtain ⟨u, v, h1, h2, _, _, h5⟩ := h i hi
  obtain ⟨rfl, rfl⟩ := h5 hi
  rw [addr_add]
  exact ⟨h1, h2⟩
theorem Fill.new (w : World) (len : Nat) (cs : Array Value) (T : TypeId) (gs : List (Int × Int)) (hs : cs.size = len * 2) : Fill w.heap.size len 0 gs (w.alloc (.cells cs T)) := fun i hi => by
  have h1 : i * 2 < cs.size := by omega
  have h2 : i * 2 + 1 < cs.size := by omega
  exact ⟨cs[i * 2], cs[i * 2 + 1], by rw [World.cell?_alloc_at _ _ _ _ rfl]; exact Array.getElem?_eq_getElem h1, by rw [World.cell?_alloc_at _ _ _ _ rfl]; exact Array.getElem?_eq_getElem h2, by simp, by simp, fun h => absurd h (by omega)⟩

set_option maxHeartbeats 1000000 in
theorem toGapS_any (a : Option Addr) (len cap : Nat) (gs : List (Int × Int)) (w : World) (h : Gaps w a len cap gs) (hn : len ≤ 1048576) :
    Calls Try.prog 79 #[.slice a len cap] w fun e w' => (∃ d, e = .returned (.slice (some ⟨d, 0, none⟩) len len) ∧ w.heap.size ≤ d ∧ Fill d len len gs w') ∧ Below w.heap.size w w' := by
  have hl := h.length
  obtain ⟨i0, hi, hz0, hz1, hz2⟩ := info_parts info_gap
  obtain ⟨CS, hCS, hmk⟩ : ∃ CS : Array Value, CS.size = len * 2 ∧ ∀ w, (Instr.makeSlice 39 (.int .i64 len) (.int .i64 len)).run Try.prog w = .ok (.slice (some ⟨w.heap.size, 0, none⟩) len len) (w.alloc (.cells CS 76)) := by
    refine ⟨madeCells (Value.agg #[.int .i64 0, .int .i64 0]).cells (len * 2), size_madeCells _ _, fun w => ?_⟩
    have r := run_make w 39 76 i0 _ Try.underlying39 hi hz0 .i64 .i64 len len (by omega) (Int.le_refl _) (by rw [hz2]; omega) (by omega)
    rw [hz1] at r
    exact r
  have HG := Lib.hid h
  have HF := Lib.hid (Fill.new w len CS 76 gs hCS)
  clear h hCS hi hz0 hz1 hz2
  go_enter Try.func79, Try.ntmps79
  go_wp2
  go_loopw [4] (fun i wr => ∃ k : Nat, k ≤ len ∧ i = .int .i64 k ∧ Hid (Fill w.heap.size len k gs wr) ∧ Hid (Below w.heap.size w wr)) (fun i _ => len - (intOf i).toNat)
  case atStart => exact ⟨0, Nat.zero_le _, rfl, HF, Lib.hid (below_box _ (Nat.le_refl _))⟩
  case round =>
    obtain ⟨k, hk, rfl, hfi, hbel⟩ := hrel
    by_cases hlt : k < len
    · have hG := HG.out
      rcases hG with ⟨_, h0, _, _⟩ | ⟨x, rfl, h1, h2, h3, h4⟩
      · omega
      obtain ⟨p0, p1⟩ := h4 k hlt
      obtain ⟨f, hf⟩ : ∃ f, (gs.getD k (0, 0)).1 = f := ⟨_, rfl⟩
      obtain ⟨t, ht⟩ : ∃ t, (gs.getD k (0, 0)).2 = t := ⟨_, rfl⟩
      rw [hf] at p0
      rw [ht] at p1
      have q0 : wr.cell? (x.add (k * 2)) = some (.int .i64 f) := (hbel.out.cell (World.block_lt_of_cell? w _ p0)).trans p0
      have q1 : wr.cell? ⟨(x.add (k * 2)).block, (x.add (k * 2)).off + 1, none⟩ = some (.int .i64 t) := (hbel.out.cell (World.block_lt_of_cell? w _ p1)).trans p1
      have hkl : k < gs.length := by omega
      have HFT := Lib.hid (And.intro hf ht)
      clear p0 p1 h4 hf ht HF
      go_wp2_with fail
      refine (toGap_any f t _).mono ?_
      rintro e w2 ⟨rfl, hb2⟩
      have F2 := hfi.out.below hb2
      have FP := Lib.hid (F2.put hlt HFT.out.1 HFT.out.2)
      obtain ⟨u, v, s0, s1, s2, s3, _⟩ := F2 k hlt
      have BB := Lib.hid (((hbel.out.trans (hb2.mono hbel.out.size)).setCell (p := ⟨w.heap.size, k * 2, none⟩) (Nat.le_refl _) (.int .i64 f)).setCell (p := ⟨w.heap.size, k * 2 + 1, none⟩) (Nat.le_refl _) (.int .i64 t))
      clear F2 hb2 hfi hbel q0 q1
      go_wp2
      go_roundw
      case rel => exact ⟨k + 1, by omega, by go_num, FP, BB⟩
      case measure => simp [intOf]; omega
    · obtain rfl : k = len := by omega
      clear HF
      go_wp2
      go_ret
      exact ⟨⟨w.heap.size, rfl, Nat.le_refl _, hfi.out⟩, hbel.out⟩

theorem Fill.far {d e len k i : Nat} {gs : List (Int × Int)} {w : World} (h : Fill d len k gs w) (he : e ≠ d) (x : Value) : Fill d len k gs (w.setCell ⟨e, i, none⟩ x) := fun j hj => by
  obtain ⟨u, v, h1, h2, h3, h4, h5⟩ := h j hj
  exact ⟨u, v, cell_far he h1, cell_far he h2, by rw [World.frozen?_setCell]; exact h3, by rw [World.frozen?_setCell]; exact h4, h5⟩

set_option maxHeartbeats 1000000 in
theorem toSack_any (c : Int) (a : Option Addr) (len cap : Nat) (gs : List (Int × Int)) (w : World) (h : Gaps w a len cap gs) (hn : len ≤ 1048576) :
    Calls Try.prog 47 #[.agg #[.int .i64 c, .slice a len cap]] w fun e w' => (∃ d, e = .returned (.agg #[.int .i64 c, .slice (some ⟨d, 0, none⟩) len len]) ∧ w.heap.size ≤ d ∧ Gaps w' (some ⟨d, 0, none⟩) len len gs) ∧ Below w.heap.size w w' := by
  have hl := h.length
  have G1 := ((h.below (below_box (.cells #[.int .i64 c, .slice a len cap] 63) (Nat.le_refl _))).below (below_box (.cells #[.int .i64 0, .slice none 0 0] 41) (Nat.le_refl _))).below (below_box (.cells #[.int .i64 c, .slice none 0 0] 41) (Nat.le_refl _))
  have R0 := (VarN.new_at (w := w.alloc (.cells #[.int .i64 c, .slice a len cap] 63)) (d := w.heap.size + 1) (by simp) [.int .i64 0, .slice none 0 0] 41).alloc (.cells #[.int .i64 c, .slice none 0 0] 41) (by simp)
  have O0 := VarN.new_at (w := (w.alloc (.cells #[.int .i64 c, .slice a len cap] 63)).alloc (.cells #[.int .i64 0, .slice none 0 0] 41)) (d := w.heap.size + 1 + 1) (by simp) [.int .i64 c, .slice none 0 0] 41
  have B0 := ((below_box (.cells #[.int .i64 c, .slice a len cap] 63) (Nat.le_refl w.heap.size)).alloc (by simp) (.cells #[.int .i64 0, .slice none 0 0] 41)).alloc (by simp; omega) (.cells #[.int .i64 c, .slice none 0 0] 41)
  have G1 := Lib.hid G1
  have R0 := Lib.hid R0
  have O0 := Lib.hid O0
  have B0 := Lib.hid B0
  clear h
  go_enter Try.func47, Try.ntmps47
  go_wp2_with fail
  refine (toGapS_any a len cap gs _ G1.out hn).mono ?_
  rintro e w1 ⟨⟨d, rfl, hd, hF⟩, hb1⟩
  have hd2 : w.heap.size + 1 + 1 < d := by simp at hd; omega
  have R1 := R0.out.below hb1 (by simp)
  have O1 := O0.out.below hb1 (by simp)
  have B1 := B0.out.trans (hb1.mono (by simp; omega))
  have FF := Lib.hid ((((hF.far (e := w.heap.size + 1 + 1) (i := 1) (by omega) (.slice (some ⟨d, 0, none⟩) len len)).far (e := w.heap.size + 1) (i := 0) (by omega) (.int .i64 c)).far (e := w.heap.size + 1) (i := 1) (by omega) (.slice (some ⟨d, 0, none⟩) len len)).gaps hl (Nat.le_trans hn (by decide)))
  have BB := Lib.hid (((B1.setCell (p := ⟨w.heap.size + 1 + 1, 1, none⟩) (by show w.heap.size ≤ w.heap.size + 1 + 1; omega) (.slice (some ⟨d, 0, none⟩) len len)).setCell (p := ⟨w.heap.size + 1, 0, none⟩) (Nat.le_succ _) (.int .i64 c)).setCell (p := ⟨w.heap.size + 1, 1, none⟩) (Nat.le_succ _) (.slice (some ⟨d, 0, none⟩) len len))
  have r0 := (R1 0 _ rfl).1
  have r1 := (R1 1 _ rfl).1
  have g0 := (R1 0 _ rfl).2
  have g1 := (R1 1 _ rfl).2
  have o0 := (O1 0 _ rfl).1
  have o1 := (O1 1 _ rfl).1
  have og1 := (O1 1 _ rfl).2
  have HD := Lib.hid hd2
  clear hb1 hd hF R1 O1 B1 hd2 G1 R0 O0 B0
  go_wp2
  refine bodyPost_ret (v := .agg #[.int .i64 c, .slice (some ⟨d, 0, none⟩) len len]) ?_ rfl ?_
  · simp [results, Try.results47, go_sem, r0, r1]
  · exact ⟨⟨d, rfl, by have := HD.out; omega, FF.out⟩, BB.out⟩

set_option maxHeartbeats 400000 in
theorem eqGap_same (f t : Int) (w : World) :
    Calls Try.prog 89 #[.agg #[.int .i64 f, .int .i64 t], .agg #[.int .i64 f, .int .i64 t]] w fun e w' => e = .returned (.bool true) ∧ Below w.heap.size w w' := by
  go_enter Try.func89, Try.ntmps89
  go_wp2
  go_ret
  exact ⟨rfl, (below_box _ (Nat.le_refl _)).alloc (by simp) _⟩

theorem keptE {x0 x1 y0 y1 : Addr} {f t : Int} {w W W' : World} (h : W.cell? x0 = some (.int .i64 f) ∧ W.cell? x1 = some (.int .i64 t) ∧ W.cell? y0 = some (.int .i64 f) ∧ W.cell? y1 = some (.int .i64 t) ∧ Below w.heap.size w W) (hb : Below W.heap.size W W') :
    W'.cell? x0 = some (.int .i64 f) ∧ W'.cell? x1 = some (.int .i64 t) ∧ W'.cell? y0 = some (.int .i64 f) ∧ W'.cell? y1 = some (.int .i64 t) ∧ Below w.heap.size w W' :=
  ⟨(hb.cell (World.block_lt_of_cell? W _ h.1)).trans h.1, (hb.cell (World.block_lt_of_cell? W _ h.2.1)).trans h.2.1, (hb.cell (World.block_lt_of_cell? W _ h.2.2.1)).trans h.2.2.1, (hb.cell (World.block_lt_of_cell? W _ h.2.2.2.1)).trans h.2.2.2.1, h.2.2.2.2.trans (hb.mono h.2.2.2.2.size)⟩

set_option maxHeartbeats 1000000 in
theorem eqGapS_same (a b : Option Addr) (len cap cap2 : Nat) (gs : List (Int × Int)) (w : World) (h : Gaps w a len cap gs) (k : Gaps w b len cap2 gs) :
    Calls Try.prog 75 #[.slice a len cap, .slice b len cap2] w fun e w' => e = .returned (.bool true) ∧ Below w.heap.size w w' := by
  have hl := h.length
  have hm : len ≤ 9223372036854775807 := by
    rcases h with ⟨_, rfl, _⟩ | ⟨_, _, h1, h2, _⟩
    · omega
    · unfold maxLen at h2
      omega
  have HG := Lib.hid h
  have HK := Lib.hid k
  clear h k
  go_enter Try.func75, Try.ntmps75
  go_wp2
  go_loopw [5] (fun i wr => ∃ k : Nat, k ≤ len ∧ i = .int .i64 k ∧ Hid (Below w.heap.size w wr)) (fun i _ => len - (intOf i).toNat)
  case atStart => exact ⟨0, Nat.zero_le _, rfl, Lib.hid (Below.refl _ _)⟩
  case round =>
    obtain ⟨k, hk, rfl, hbel⟩ := hrel
    by_cases hlt : k < len
    · have hG := HG.out
      have hK := HK.out
      rcases hG with ⟨_, h0, _, _⟩ | ⟨x, rfl, h1, h2, h3, h4⟩
      · omega
      rcases hK with ⟨_, h0, _, _⟩ | ⟨y, rfl, k1, k2, k3, k4⟩
      · omega
      obtain ⟨p0, p1⟩ := h4 k hlt
      obtain ⟨m0, m1⟩ := k4 k hlt
      obtain ⟨f, hf⟩ : ∃ f, (gs.getD k (0, 0)).1 = f := ⟨_, rfl⟩
      obtain ⟨t, ht⟩ : ∃ t, (gs.getD k (0, 0)).2 = t := ⟨_, rfl⟩
      rw [hf] at p0 m0
      rw [ht] at p1 m1
      have q0 : wr.cell? (x.add (k * 2)) = some (.int .i64 f) := (hbel.out.cell (World.block_lt_of_cell? w _ p0)).trans p0
      have q1 : wr.cell? ⟨(x.add (k * 2)).block, (x.add (k * 2)).off + 1, none⟩ = some (.int .i64 t) := (hbel.out.cell (World.block_lt_of_cell? w _ p1)).trans p1
      have n0 : wr.cell? (y.add (k * 2)) = some (.int .i64 f) := (hbel.out.cell (World.block_lt_of_cell? w _ m0)).trans m0
      have n1 : wr.cell? ⟨(y.add (k * 2)).block, (y.add (k * 2)).off + 1, none⟩ = some (.int .i64 t) := (hbel.out.cell (World.block_lt_of_cell? w _ m1)).trans m1
      clear p0 p1 m0 m1 h4 k4 hf ht
      go_wp2_with fail
      have hS : wr.drew.cell? (x.add (k * 2)) = some (.int .i64 f) ∧ wr.drew.cell? ⟨(x.add (k * 2)).block, (x.add (k * 2)).off + 1, none⟩ = some (.int .i64 t) ∧ wr.drew.cell? (y.add (k * 2)) = some (.int .i64 f) ∧ wr.drew.cell? ⟨(y.add (k * 2)).block, (y.add (k * 2)).off + 1, none⟩ = some (.int .i64 t) ∧ Below w.heap.size w wr.drew := by
        simp only [World.cell?_drew]
        exact ⟨q0, q1, n0, n1, hbel.out.drew⟩
      go_region_held_law (fun W => W.cell? (x.add (k * 2)) = some (.int .i64 f) ∧ W.cell? ⟨(x.add (k * 2)).block, (x.add (k * 2)).off + 1, none⟩ = some (.int .i64 t) ∧ W.cell? (y.add (k * 2)) = some (.int .i64 f) ∧ W.cell? ⟨(y.add (k * 2)).block, (y.add (k * 2)).off + 1, none⟩ = some (.int .i64 t) ∧ Below w.heap.size w W)
        (first | with_reducible assumption | with_reducible exact hS | exact keptE (by assumption) (by assumption))
        (first | (go_simp; go_at_call 89; refine (eqGap_same f t _).mono ?_; rintro e w' ⟨rfl, hbn⟩))
      all_goals
        go_wp2
        go_roundw
        case rel => exact ⟨k + 1, by omega, by go_num, by go_split_ands; exact Lib.hid (by assumption)⟩
        case measure => simp [intOf]; omega
    · obtain rfl : k = len := by omega
      go_wp2
      go_ret
      exact ⟨rfl, hbel.out⟩

set_option maxHeartbeats 1000000 in
theorem sameGaps_same (a b : Option Addr) (len cap cap2 : Nat) (gs : List (Int × Int)) (w : World) (h : Gaps w a len cap gs) (k : Gaps w b len cap2 gs) :
    Calls Try.prog 63 #[.slice a len cap, .slice b len cap2] w fun e w' => e = .returned (.bool true) ∧ Below w.heap.size w w' := by
  have hl := h.length
  have hm : len ≤ 9223372036854775807 := by
    rcases h with ⟨_, rfl, _⟩ | ⟨_, _, h1, h2, _⟩
    · omega
    · unfold maxLen at h2
      omega
  have HG := Lib.hid h
  have HK := Lib.hid k
  clear h k
  go_enter Try.func63, Try.ntmps63
  go_wp2
  go_loopw [5] (fun i wr => ∃ k : Nat, k ≤ len ∧ i = .int .i64 k ∧ Hid (Below w.heap.size w wr)) (fun i _ => len - (intOf i).toNat)
  case atStart => exact ⟨0, Nat.zero_le _, rfl, Lib.hid (Below.refl _ _)⟩
  case round =>
    obtain ⟨k, hk, rfl, hbel⟩ := hrel
    by_cases hlt : k < len
    · have hG := HG.out
      have hK := HK.out
      rcases hG with ⟨_, h0, _, _⟩ | ⟨x, rfl, h1, h2, h3, h4⟩
      · omega
      rcases hK with ⟨_, h0, _, _⟩ | ⟨y, rfl, k1, k2, k3, k4⟩
      · omega
      obtain ⟨p0, p1⟩ := h4 k hlt
      obtain ⟨m0, m1⟩ := k4 k hlt
      obtain ⟨f, hf⟩ : ∃ f, (gs.getD k (0, 0)).1 = f := ⟨_, rfl⟩
      obtain ⟨t, ht⟩ : ∃ t, (gs.getD k (0, 0)).2 = t := ⟨_, rfl⟩
      rw [hf] at p0 m0
      rw [ht] at p1 m1
      have q0 : wr.cell? (x.add (k * 2)) = some (.int .i64 f) := (hbel.out.cell (World.block_lt_of_cell? w _ p0)).trans p0
      have q1 : wr.cell? ⟨(x.add (k * 2)).block, (x.add (k * 2)).off + 1, none⟩ = some (.int .i64 t) := (hbel.out.cell (World.block_lt_of_cell? w _ p1)).trans p1
      have n0 : wr.cell? (y.add (k * 2)) = some (.int .i64 f) := (hbel.out.cell (World.block_lt_of_cell? w _ m0)).trans m0
      have n1 : wr.cell? ⟨(y.add (k * 2)).block, (y.add (k * 2)).off + 1, none⟩ = some (.int .i64 t) := (hbel.out.cell (World.block_lt_of_cell? w _ m1)).trans m1
      clear p0 p1 m0 m1 h4 k4 hf ht
      go_wp2_with fail
      go_quiet (fail)
      go_wp2
      go_roundw
      case rel => exact ⟨k + 1, by omega, by go_num, Lib.hid (below_drewN hbel.out _)⟩
      case measure => simp [intOf]; omega
    · obtain rfl : k = len := by omega
      go_wp2
      go_ret
      exact ⟨rfl, hbel.out⟩

set_option maxHeartbeats 1000000 in
theorem sameSack_same (c : Int) (a b : Option Addr) (len cap cap2 : Nat) (gs : List (Int × Int)) (w : World) (h : Gaps w a len cap gs) (k : Gaps w b len cap2 gs) :
    Calls Try.prog 31 #[.agg #[.int .i64 c, .slice a len cap], .agg #[.int .i64 c, .slice b len cap2]] w fun e w' => e = .returned (.bool true) ∧ Below w.heap.size w w' := by
  have G1 := Lib.hid ((h.below (below_box (.cells #[.int .i64 c, .slice a len cap] 41) (Nat.le_refl _))).below (below_box (.cells #[.int .i64 c, .slice b len cap2] 41) (Nat.le_refl _)))
  have K1 := Lib.hid ((k.below (below_box (.cells #[.int .i64 c, .slice a len cap] 41) (Nat.le_refl _))).below (below_box (.cells #[.int .i64 c, .slice b len cap2] 41) (Nat.le_refl _)))
  clear h k
  go_enter Try.func31, Try.ntmps31
  go_wp2_with fail
  refine (sameGaps_same a b len cap cap2 gs _ G1.out K1.out).mono ?_
  rintro e w1 ⟨rfl, hb1⟩
  go_wp2
  go_ret
  exact ⟨rfl, ((below_box _ (Nat.le_refl _)).alloc (by simp) _).trans (hb1.mono (by simp; omega))⟩

set_option maxHeartbeats 1000000 in
theorem eqSack_same (c : Int) (a b : Option Addr) (len cap cap2 : Nat) (gs : List (Int × Int)) (w : World) (h : Gaps w a len cap gs) (k : Gaps w b len cap2 gs) :
    Calls Try.prog 43 #[.agg #[.int .i64 c, .slice a len cap], .agg #[.int .i64 c, .slice b len cap2]] w fun e w' => e = .returned (.bool true) ∧ Below w.heap.size w w' := by
  have G1 := Lib.hid ((h.below (below_box (.cells #[.int .i64 c, .slice a len cap] 41) (Nat.le_refl _))).below (below_box (.cells #[.int .i64 c, .slice b len cap2] 41) (Nat.le_refl _)))
  have K1 := Lib.hid ((k.below (below_box (.cells #[.int .i64 c, .slice a len cap] 41) (Nat.le_refl _))).below (below_box (.cells #[.int .i64 c, .slice b len cap2] 41) (Nat.le_refl _)))
  clear h k
  go_enter Try.func43, Try.ntmps43
  go_wp2_with fail
  refine (eqGapS_same a b len cap cap2 gs _ G1.out K1.out).mono ?_
  rintro e w1 ⟨rfl, hb1⟩
  go_wp2
  go_ret
  exact ⟨rfl, ((below_box _ (Nat.le_refl _)).alloc (by simp) _).trans (hb1.mono (by simp; omega))⟩

end Go.Proofs.Ytcjabomcndahbaa
