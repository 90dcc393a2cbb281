/- Chunks in a row that is being filled; the laws' helpers on packets: size, copy. -/
import Derived.Test.YtcpdpamoddmpaaaK43
import Derived.Test.YtcpdpamoddmpaaaK40
import Derived.Test.YtcpdpamoddmpaaaK20v
import Derived.Test.YtcpdpamoddmpaaaK17
import Derived.Laws.MakeOwn
namespace Go.Proofs.Ytcpdpamoddmpaaa
open Go.RowKit Go.PlainAid

/-- A row of chunks that is being filled: k of 'len' chunks lie there. -/
def Fil (d len k : Nat) (cs : List (Int × Int × ByteArray)) (w : World) : Prop :=
  ∀ i, i < len → ∃ u v x, w.cell? ⟨d, i * 3, none⟩ = some u ∧ w.cell? ⟨d, i * 3 + 1, none⟩ = some v ∧ w.cell? ⟨d, i * 3 + 2, none⟩ = some x ∧ (i < k → u = .int .i64 (chAt cs i).1 ∧ v = .int .i64 (chAt cs i).2.1 ∧ x = .string (chAt cs i).2.2)
/-- The block's cells may be written. -/
def Free (d : Nat) (w : World) : Prop := ∀ j, w.frozen? ⟨d, j, none⟩ = false
theorem Fil.below {d len k : Nat} {cs : List (Int × Int × ByteArray)} {w w' : World} (h : Fil d len k cs w) (hb : Below w.heap.size w w') : Fil d len k cs w' := fun i hi => by
  obtain ⟨u, v, x, h1, h2, h3, h4⟩ := h i hi
  have hd := lt_of_cell h1
  exact ⟨u, v, x, kept_cell hb hd h1, kept_cell hb hd h2, kept_cell hb hd h3, h4⟩
theorem Free.below {d : Nat} {w w' : World} (h : Free d w) (hd : d < w.heap.size) (hb : Below w.heap.size w w') : Free d w' := fun j => (hb.frozen (p := ⟨d, j, none⟩) hd).trans (h j)
theorem Free.set {d e i : Nat} {w : World} (h : Free d w) (v : Value) : Free d (w.setCell ⟨e, i, none⟩ v) := fun j => by rw [World.frozen?_setCell]; exact h j
theorem Fil.far {d e len k i : Nat} {cs : List (Int × Int × ByteArray)} {w : World} (h : Fil d len k cs w) (he : e ≠ d) (y : Value) : Fil d len k cs (w.setCell ⟨e, i, none⟩ y) := fun j hj => by
  obtain ⟨u, v, x, h1, h2, h3, h4⟩ := h j hj
  exact ⟨u, v, x, cell_far he h1, cell_far he h2, cell_far he h3, h4⟩
/-- A cell of a place that is not filled yet is written. -/
theorem Fil.cell {d len k o i j : Nat} {cs : List (Int × Int × ByteArray)} {w : World} (h : Fil d len k cs w) (hi : k ≤ i) (ho : o = i * 3 + j) (hj : j < 3) (y : Value) : Fil d len k cs (w.setCell ⟨d, o, none⟩ y) := fun i' hi' => by
  obtain ⟨u, v, x, h1, h2, h3, h4⟩ := h i' hi'
  subst ho
  by_cases e : i' = i
  · subst e
    have nk : ¬ i' < k := by omega
    rcases (show j = 0 ∨ j = 1 ∨ j = 2 by omega) with rfl | rfl | rfl
    · exact ⟨y, v, x, World.cell?_setCell_same _ _ _ h1, cell_other (by omega) h2, cell_other (by omega) h3, fun h => absurd h nk⟩
    · exact ⟨u, y, x, cell_other (by omega) h1, World.cell?_setCell_same _ _ _ h2, cell_other (by omega) h3, fun h => absurd h nk⟩
    · exact ⟨u, v, y, cell_other (by omega) h1, cell_other (by omega) h2, World.cell?_setCell_same _ _ _ h3, fun h => absurd h nk⟩
  · exact ⟨u, v, x, cell_other (by omega) h1, cell_other (by omega) h2, cell_other (by omega) h3, h4⟩
/-- A place is filled. -/
theorem Fil.step {d len k : Nat} {cs : List (Int × Int × ByteArray)} {w : World} {c1 c2 : Int} {c3 : ByteArray} (h : Fil d len k cs w) (e1 : (chAt cs k).1 = c1) (e2 : (chAt cs k).2.1 = c2) (e3 : (chAt cs k).2.2 = c3)
    (p0 : w.cell? ⟨d, k * 3, none⟩ = some (.int .i64 c1)) (p1 : w.cell? ⟨d, k * 3 + 1, none⟩ = some (.int .i64 c2)) (p2 : w.cell? ⟨d, k * 3 + 2, none⟩ = some (.string c3)) : Fil d len (k + 1) cs w := fun i hi => by
  by_cases e : i = k
  · subst e
    exact ⟨_, _, _, p0, p1, p2, fun _ => ⟨by rw [e1], by rw [e2], by rw [e3]⟩⟩
  · obtain ⟨u, v, x, h1, h2, h3, h4⟩ := h i hi
    exact ⟨u, v, x, h1, h2, h3, fun h => h4 (by omega)⟩
/-- Three cells are written and the place is filled. -/
theorem Fil.put {d len k : Nat} {cs : List (Int × Int × ByteArray)} {w : World} {c1 c2 : Int} {c3 : ByteArray} (h : Fil d len k cs w) (hk : k < len) (e1 : (chAt cs k).1 = c1) (e2 : (chAt cs k).2.1 = c2) (e3 : (chAt cs k).2.2 = c3) :
    Fil d len (k + 1) cs (((w.setCell ⟨d, k * 3, none⟩ (.int .i64 c1)).setCell ⟨d, k * 3 + 1, none⟩ (.int .i64 c2)).setCell ⟨d, k * 3 + 2, none⟩ (.string c3)) := by
  obtain ⟨u, v, x, h1, h2, h3, _⟩ := h k hk
  exact (((h.cell (i := k) (j := 0) (Nat.le_refl _) rfl (by omega) (.int .i64 c1)).cell (i := k) (j := 1) (Nat.le_refl _) rfl (by omega) (.int .i64 c2)).cell (i := k) (j := 2) (Nat.le_refl _) rfl (by omega) (.string c3)).step e1 e2 e3
    (cell_other (by omega) (cell_other (by omega) (World.cell?_setCell_same _ _ _ h1))) (cell_other (by omega) (World.cell?_setCell_same _ _ _ (cell_other (by omega) h2))) (World.cell?_setCell_same _ _ _ (cell_other (by omega) (cell_other (by omega) h3)))
theorem Fil.chs {d len cap : Nat} {cs : List (Int × Int × ByteArray)} {w : World} (h : Fil d len len cs w) (hl : cs.length = len) (hc : len ≤ cap) (hm : cap ≤ maxLen) : Chs w (some ⟨d, 0, none⟩) len cap cs := by
  refine .inr ⟨_, rfl, hc, hm, hl, fun i hi => ?_⟩
  obtain ⟨u, v, x, h1, h2, h3, h4⟩ := h i hi
  obtain ⟨rfl, rfl, rfl⟩ := h4 hi
  rw [ch_add]
  exact ⟨h1, h2, h3⟩
theorem Fil.new (w : World) (len : Nat) (vs : Array Value) (T : TypeId) (cs : List (Int × Int × ByteArray)) (hs : vs.size = len * 3) : Fil w.heap.size len 0 cs (w.alloc (.cells vs T)) ∧ Free w.heap.size (w.alloc (.cells vs T)) := by
  refine ⟨fun i hi => ?_, fun j => by simp⟩
  have h1 : i * 3 < vs.size := by omega
  have h2 : i * 3 + 1 < vs.size := by omega
  have h3 : i * 3 + 2 < vs.size := by omega
  exact ⟨vs[i * 3], vs[i * 3 + 1], vs[i * 3 + 2], by rw [World.cell?_alloc_at _ _ _ _ rfl]; exact Array.getElem?_eq_getElem h1, by rw [World.cell?_alloc_at _ _ _ _ rfl]; exact Array.getElem?_eq_getElem h2, by rw [World.cell?_alloc_at _ _ _ _ rfl]; exact Array.getElem?_eq_getElem h3, fun h => absurd h (by omega)⟩
theorem info_cf : (Try.prog.info? 32).map (fun i => (i.zero, i.size, i.bytes)) = some (some (.agg #[.int .i64 0, .int .i64 0, .string (ByteArray.mk #[])]), 3, 32) := by kernel_rfl

set_option maxHeartbeats 400000 in
theorem szCh_any (k f : Int) (b : ByteArray) (n : Int) (w : World) (h0 : 0 ≤ n) (h1 : n ≤ 1048576) (hm : b.size ≤ 9223372036854775807) :
    Calls Try.prog 65 #[.agg #[.int .i64 k, .int .i64 f, .string b], .int .i64 n] w fun e w' => (∃ z : Int, e = .returned (.int .i64 z) ∧ (z = -1 ∨ (0 ≤ z ∧ z ≤ n))) ∧ Below w.heap.size w w' := by
  have e : IntKind.i64.wrap (n - (b.size : Int)) = n - (b.size : Int) := IntWalk.i64_in _ (by omega)
  by_cases h : n - (b.size : Int) < 0
  · go_enter Try.func65, Try.ntmps65
    go_wp2
    go_ret
    exact ⟨⟨-1, rfl, .inl rfl⟩, below_box _ (Nat.le_refl _)⟩
  · go_enter Try.func65, Try.ntmps65
    go_wp2
    go_ret
    exact ⟨⟨_, rfl, .inr ⟨by omega, by omega⟩⟩, below_box _ (Nat.le_refl _)⟩

set_option maxHeartbeats 1000000 in
theorem szChunkS_any (a : Option Addr) (len cap : Nat) (cs : List (Int × Int × ByteArray)) (w : World) (h : Chs w a len cap cs) (hz : ∀ c ∈ cs, c.2.2.size ≤ maxLen) :
    Calls Try.prog 47 #[.slice a len cap, .int .i64 1048576] w fun e w' => (∃ z : Int, e = .returned (.int .i64 z) ∧ (z = -1 ∨ (0 ≤ z ∧ len ≤ 1048576))) ∧ Below w.heap.size w w' := by
  have hl := h.length
  have hm := h.len_int
  have HG := Lib.hid h
  have HZ := Lib.hid hz
  clear h hz
  have e : IntKind.i64.wrap (1048576 - (len : Int)) = 1048576 - (len : Int) := IntWalk.i64_in _ (by omega)
  by_cases h0 : 1048576 - (len : Int) < 0
  · go_enter Try.func47, Try.ntmps47
    go_wp2
    go_ret
    exact ⟨⟨-1, rfl, .inl rfl⟩, Below.refl _ _⟩
  · have hle : len ≤ 1048576 := by omega
    go_enter Try.func47, Try.ntmps47
    go_wp2
    go_loopw [1, 5] (fun m i wr => ∃ (k : Nat) (z : Int), k ≤ len ∧ i = .int .i64 k ∧ m = .int .i64 z ∧ 0 ≤ z ∧ z ≤ 1048576 ∧ Hid (Below w.heap.size w wr)) (fun _ i _ => len - (intOf i).toNat)
    case atStart => exact ⟨0, 1048576 - (len : Int), Nat.zero_le _, rfl, rfl, by omega, by omega, Lib.hid (Below.refl _ _)⟩
    case round =>
      obtain ⟨k, z, hk, rfl, rfl, z0, z1, hbel⟩ := hrel
      by_cases hlt : k < len
      · obtain ⟨x, rfl⟩ := HG.out.some hlt
        obtain ⟨p0, p1, p2⟩ := HG.out.at hbel.out hlt
        have hzk := HZ.out _ (chAt_mem (show k < cs.length by omega))
        obtain ⟨c1, hc1⟩ : ∃ c1, (chAt cs k).1 = c1 := ⟨_, rfl⟩
        obtain ⟨c2, hc2⟩ : ∃ c2, (chAt cs k).2.1 = c2 := ⟨_, rfl⟩
        obtain ⟨c3, hc3⟩ : ∃ c3, (chAt cs k).2.2 = c3 := ⟨_, rfl⟩
        rw [hc1] at p0
        rw [hc2] at p1
        rw [hc3] at p2 hzk
        unfold maxLen at hzk
        clear hc1 hc2 hc3
        go_wp2_with fail
        refine (szCh_any c1 c2 c3 z _ z0 z1 (by omega)).mono ?_
        rintro e w2 ⟨⟨z2, rfl, hz2⟩, hb2⟩
        have HB := Lib.hid (hbel.out.trans (hb2.mono hbel.out.size))
        clear hb2
        rcases hz2 with rfl | ⟨y0, y1⟩
        · go_wp2
          go_ret
          exact ⟨⟨-1, rfl, .inl rfl⟩, HB.out⟩
        · have yn : ¬ z2 < 0 := by omega
          go_wp2
          go_roundw
          case rel => exact ⟨k + 1, z2, by omega, by go_num, rfl, y0, by omega, HB⟩
          case measure => simp [intOf]; omega
      · obtain rfl : k = len := by omega
        go_wp2
        go_ret
        exact ⟨⟨z, rfl, .inr ⟨z0, hle⟩⟩, hbel.out⟩

set_option maxHeartbeats 400000 in
theorem szPacket_any (f t g : Int) (a : Option Addr) (len cap : Nat) (cs : List (Int × Int × ByteArray)) (w : World) (h : Chs w a len cap cs) (hz : ∀ c ∈ cs, c.2.2.size ≤ maxLen) :
    Calls Try.prog 26 #[.agg #[.int .i64 f, .int .i64 t, .int .i64 g, .slice a len cap], .int .i64 1048576] w fun e w' => (∃ z : Int, e = .returned (.int .i64 z) ∧ (z = -1 ∨ (0 ≤ z ∧ len ≤ 1048576))) ∧ Below w.heap.size w w' := by
  have G1 := Lib.hid (h.below (below_box (.cells #[.int .i64 f, .int .i64 t, .int .i64 g, .slice a len cap] 38) (Nat.le_refl _)))
  clear h
  go_enter Try.func26, Try.ntmps26
  go_wp2_with fail
  refine (szChunkS_any a len cap cs _ G1.out hz).mono ?_
  rintro e w1 ⟨⟨z, rfl, hzz⟩, hb1⟩
  have HB := Lib.hid ((below_box (w := w) (.cells #[.int .i64 f, .int .i64 t, .int .i64 g, .slice a len cap] 38) (Nat.le_refl _)).trans (hb1.mono (by simp)))
  clear hb1
  rcases hzz with rfl | ⟨y0, y1⟩
  · go_wp2
    go_ret
    exact ⟨⟨-1, rfl, .inl rfl⟩, HB.out⟩
  · have yn : ¬ z < 0 := by omega
    go_wp2
    go_ret
    exact ⟨⟨z, rfl, .inr ⟨y0, y1⟩⟩, HB.out⟩

set_option maxHeartbeats 1000000 in
theorem toChunkS_any (a : Option Addr) (len cap : Nat) (cs : List (Int × Int × ByteArray)) (w : World) (h : Chs w a len cap cs) (hn : len ≤ 1048576) :
    Calls Try.prog 48 #[.slice a len cap] w fun e w' => (∃ d, e = .returned (.slice (some ⟨d, 0, none⟩) len len) ∧ w.heap.size ≤ d ∧ Fil d len len cs w' ∧ d < w'.heap.size) ∧ Below w.heap.size w w' := by
  have hl := h.length
  obtain ⟨i0, hi, hz0, hz1, hz2⟩ := info_parts info_cf
  obtain ⟨CS, hCS, hmk⟩ : ∃ CS : Array Value, CS.size = len * 3 ∧ ∀ w, (Instr.makeSlice 23 (.int .i64 len) (.int .i64 len)).run Try.prog w = .ok (.slice (some ⟨w.heap.size, 0, none⟩) len len) (w.alloc (.cells CS 32)) := by
    refine ⟨madeCells (Value.agg #[.int .i64 0, .int .i64 0, .string (ByteArray.mk #[])]).cells (len * 3), size_madeCells _ _, fun w => ?_⟩
    have r := run_make w 23 32 i0 _ Try.underlying23 hi hz0 .i64 .i64 len len (by omega) (Int.le_refl _) (by rw [hz2]; omega) (by omega)
    rw [hz1] at r
    exact r
  have HG := Lib.hid h
  have HF := Lib.hid (Fil.new w len CS 32 cs hCS)
  clear h hCS hi hz0 hz1 hz2
  go_enter Try.func48, Try.ntmps48
  go_wp2
  go_loopw [4] (fun i wr => ∃ k : Nat, k ≤ len ∧ i = .int .i64 k ∧ Hid (Fil w.heap.size len k cs wr ∧ Free w.heap.size wr) ∧ w.heap.size < wr.heap.size ∧ Hid (Below w.heap.size w wr)) (fun i _ => len - (intOf i).toNat)
  case atStart => exact ⟨0, Nat.zero_le _, rfl, HF, by simp, Lib.hid (below_box _ (Nat.le_refl _))⟩
  case round =>
    obtain ⟨k, hk, rfl, hfi, hsz, hbel⟩ := hrel
    clear HF
    by_cases hlt : k < len
    · obtain ⟨x, rfl⟩ := HG.out.some hlt
      obtain ⟨p0, p1, p2⟩ := HG.out.at hbel.out hlt
      obtain ⟨c1, hc1⟩ : ∃ c1, (chAt cs k).1 = c1 := ⟨_, rfl⟩
      obtain ⟨c2, hc2⟩ : ∃ c2, (chAt cs k).2.1 = c2 := ⟨_, rfl⟩
      obtain ⟨c3, hc3⟩ : ∃ c3, (chAt cs k).2.2 = c3 := ⟨_, rfl⟩
      rw [hc1] at p0
      rw [hc2] at p1
      rw [hc3] at p2
      have HFT := Lib.hid (And.intro hc1 (And.intro hc2 hc3))
      clear hc1 hc2 hc3
      go_wp2_with fail
      refine (toChunk_any c1 c2 c3 _).mono ?_
      rintro e w2 ⟨rfl, hb2⟩
      have F2 := hfi.out.1.below hb2
      have R2 := hfi.out.2.below hsz hb2
      have FP := Lib.hid (And.intro (F2.put hlt HFT.out.1 HFT.out.2.1 HFT.out.2.2) (((R2.set (e := w.heap.size) (i := k * 3) (.int .i64 c1)).set (e := w.heap.size) (i := k * 3 + 1) (.int .i64 c2)).set (e := w.heap.size) (i := k * 3 + 2) (.string c3)))
      obtain ⟨u, v, y, s0, s1, s2, _⟩ := F2 k hlt
      have t0 := R2 (k * 3)
      have t1 := R2 (k * 3 + 1)
      have t2 := R2 (k * 3 + 2)
      have BB := Lib.hid ((((hbel.out.trans (hb2.mono hbel.out.size)).setCell (p := ⟨w.heap.size, k * 3, none⟩) (Nat.le_refl _) (.int .i64 c1)).setCell (p := ⟨w.heap.size, k * 3 + 1, none⟩) (Nat.le_refl _) (.int .i64 c2)).setCell (p := ⟨w.heap.size, k * 3 + 2, none⟩) (Nat.le_refl _) (.string c3))
      have hsz2 : w.heap.size < w2.heap.size := Nat.lt_of_lt_of_le hsz hb2.size
      clear F2 R2 hb2 hfi hbel p0 p1 p2 hsz
      go_wp2
      go_roundw
      case rel => exact ⟨k + 1, by omega, by go_num, FP, by simpa using hsz2, BB⟩
      case measure => simp [intOf]; omega
    · obtain rfl : k = len := by omega
      go_wp2
      go_ret
      exact ⟨⟨w.heap.size, rfl, Nat.le_refl _, hfi.out.1, hsz⟩, hbel.out⟩

set_option maxHeartbeats 1000000 in
theorem toPacket_any (f t g : Int) (a : Option Addr) (len cap : Nat) (cs : List (Int × Int × ByteArray)) (w : World) (h : Chs w a len cap cs) (hn : len ≤ 1048576) :
    Calls Try.prog 27 #[.agg #[.int .i64 f, .int .i64 t, .int .i64 g, .slice a len cap]] w fun e w' => (∃ d, e = .returned (.agg #[.int .i64 f, .int .i64 t, .int .i64 g, .slice (some ⟨d, 0, none⟩) len len]) ∧ w.heap.size ≤ d ∧ Chs w' (some ⟨d, 0, none⟩) len len cs) ∧ Below w.heap.size w w' := by
  have hl := h.length
  have G1 := ((h.below (below_box (.cells #[.int .i64 f, .int .i64 t, .int .i64 g, .slice a len cap] 38) (Nat.le_refl _))).below (below_box (.cells #[.int .i64 0, .int .i64 0, .int .i64 0, .slice none 0 0] 25) (Nat.le_refl _))).below (below_box (.cells #[.int .i64 f, .int .i64 t, .int .i64 g, .slice none 0 0] 25) (Nat.le_refl _))
  have R0 := (VarN.new_at (w := w.alloc (.cells #[.int .i64 f, .int .i64 t, .int .i64 g, .slice a len cap] 38)) (d := w.heap.size + 1) (by simp) [.int .i64 0, .int .i64 0, .int .i64 0, .slice none 0 0] 25).alloc (.cells #[.int .i64 f, .int .i64 t, .int .i64 g, .slice none 0 0] 25) (by simp)
  have O0 := VarN.new_at (w := (w.alloc (.cells #[.int .i64 f, .int .i64 t, .int .i64 g, .slice a len cap] 38)).alloc (.cells #[.int .i64 0, .int .i64 0, .int .i64 0, .slice none 0 0] 25)) (d := w.heap.size + 1 + 1) (by simp) [.int .i64 f, .int .i64 t, .int .i64 g, .slice none 0 0] 25
  have B0 := ((below_box (.cells #[.int .i64 f, .int .i64 t, .int .i64 g, .slice a len cap] 38) (Nat.le_refl w.heap.size)).alloc (by simp) (.cells #[.int .i64 0, .int .i64 0, .int .i64 0, .slice none 0 0] 25)).alloc (by simp; omega) (.cells #[.int .i64 f, .int .i64 t, .int .i64 g, .slice none 0 0] 25)
  have G1 := Lib.hid G1
  have R0 := Lib.hid R0
  have O0 := Lib.hid O0
  have B0 := Lib.hid B0
  clear h
  go_enter Try.func27, Try.ntmps27
  go_wp2_with fail
  refine (toChunkS_any a len cap cs _ G1.out hn).mono ?_
  rintro e w1 ⟨⟨d, rfl, hd, hF, hdl⟩, hb1⟩
  have hd2 : w.heap.size + 1 + 1 < d := by simp at hd; omega
  have R1 := R0.out.below hb1 (by simp)
  have O1 := O0.out.below hb1 (by simp)
  have B1 := B0.out.trans (hb1.mono (by simp; omega))
  have C1 := hF.chs hl (Nat.le_refl _) (Nat.le_trans hn (by decide))
  have FF := Lib.hid (((((C1.far (d := w.heap.size + 1 + 1) (i := 3) (by omega) (.slice (some ⟨d, 0, none⟩) len len)).far (d := w.heap.size + 1) (i := 0) (by omega) (.int .i64 f)).far (d := w.heap.size + 1) (i := 1) (by omega) (.int .i64 t)).far (d := w.heap.size + 1) (i := 2) (by omega) (.int .i64 g)).far (d := w.heap.size + 1) (i := 3) (by omega) (.slice (some ⟨d, 0, none⟩) len len))
  have BB := Lib.hid (((((B1.setCell (p := ⟨w.heap.size + 1 + 1, 3, none⟩) (by show w.heap.size ≤ w.heap.size + 1 + 1; omega) (.slice (some ⟨d, 0, none⟩) len len)).setCell (p := ⟨w.heap.size + 1, 0, none⟩) (Nat.le_succ _) (.int .i64 f)).setCell (p := ⟨w.heap.size + 1, 1, none⟩) (Nat.le_succ _) (.int .i64 t)).setCell (p := ⟨w.heap.size + 1, 2, none⟩) (Nat.le_succ _) (.int .i64 g)).setCell (p := ⟨w.heap.size + 1, 3, none⟩) (Nat.le_succ _) (.slice (some ⟨d, 0, none⟩) len len))
  have r0 := (R1 0 _ rfl).1
  have r1 := (R1 1 _ rfl).1
  have r2 := (R1 2 _ rfl).1
  have r3 := (R1 3 _ rfl).1
  have g0 := (R1 0 _ rfl).2
  have g1 := (R1 1 _ rfl).2
  have g2 := (R1 2 _ rfl).2
  have g3 := (R1 3 _ rfl).2
  have o0 := (O1 0 _ rfl).1
  have o1 := (O1 1 _ rfl).1
  have o2 := (O1 2 _ rfl).1
  have o3 := (O1 3 _ rfl).1
  have og3 := (O1 3 _ rfl).2
  have HD := Lib.hid hd2
  clear hb1 hd hF hdl R1 O1 B1 C1 hd2 G1 R0 O0 B0
  go_wp2
  refine bodyPost_ret (v := .agg #[.int .i64 f, .int .i64 t, .int .i64 g, .slice (some ⟨d, 0, none⟩) len len]) ?_ rfl ?_
  · simp [results, Try.results27, go_sem, r0, r1, r2, r3]
  · exact ⟨⟨d, rfl, by have := HD.out; omega, FF.out⟩, BB.out⟩

end Go.Proofs.Ytcpdpamoddmpaaa
