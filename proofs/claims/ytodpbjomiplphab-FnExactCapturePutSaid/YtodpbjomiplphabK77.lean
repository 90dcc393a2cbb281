/- Records in a row that is being filled; the laws' helpers on records: size, copy, equality. -/
import Derived.Test.YtodpbjomiplphabK70
import Derived.Test.YtodpbjomiplphabK40
import Derived.Test.YtodpbjomiplphabK20v
import Derived.Laws.MakeOwn
import Derived.Deep.RegionHeldLaw
import Derived.Handy
namespace Go.Proofs.Ytodpbjomiplphab
open Go.RowKit Go.PlainAid

/-- A row of records that is being filled: k of 'len' records lie there. -/
def FilR (d len k : Nat) (cs : List (Int × ByteArray)) (w : World) : Prop :=
  ∀ i, i < len → ∃ u v, w.cell? ⟨d, i * 2, none⟩ = some u ∧ w.cell? ⟨d, i * 2 + 1, none⟩ = some v ∧ (i < k → u = .int .i64 (rcAt cs i).1 ∧ v = .string (rcAt cs i).2)
/-- The block's cells may be written. -/
def FreeR (d : Nat) (w : World) : Prop := ∀ j, w.frozen? ⟨d, j, none⟩ = false
theorem FilR.below {d len k : Nat} {cs : List (Int × ByteArray)} {w w' : World} (h : FilR d len k cs w) (hb : Below w.heap.size w w') : FilR d len k cs w' := fun i hi => by
  obtain ⟨u, v, h1, h2, h4⟩ := h i hi
  have hd := lt_of_cell h1
  exact ⟨u, v, kept_cell hb hd h1, kept_cell hb hd h2, h4⟩
theorem FreeR.below {d : Nat} {w w' : World} (h : FreeR d w) (hd : d < w.heap.size) (hb : Below w.heap.size w w') : FreeR d w' := fun j => (hb.frozen (p := ⟨d, j, none⟩) hd).trans (h j)
theorem FreeR.set {d e i : Nat} {w : World} (h : FreeR d w) (v : Value) : FreeR d (w.setCell ⟨e, i, none⟩ v) := fun j => by rw [World.frozen?_setCell]; exact h j
theorem FilR.far {d e len k i : Nat} {cs : List (Int × ByteArray)} {w : World} (h : FilR d len k cs w) (he : e ≠ d) (y : Value) : FilR d len k cs (w.setCell ⟨e, i, none⟩ y) := fun j hj => by
  obtain ⟨u, v, h1, h2, h4⟩ := h j hj
  exact ⟨u, v, cell_far he h1, cell_far he h2, h4⟩
/-- A cell of a place that is not filled yet is written. -/
theorem FilR.cell {d len k o i j : Nat} {cs : List (Int × ByteArray)} {w : World} (h : FilR d len k cs w) (hi : k ≤ i) (ho : o = i * 2 + j) (hj : j < 2) (y : Value) : FilR d len k cs (w.setCell ⟨d, o, none⟩ y) := fun i' hi' => by
  obtain ⟨u, v, h1, h2, h4⟩ := h i' hi'
  subst ho
  by_cases e : i' = i
  · subst e
    have nk : ¬ i' < k := by omega
    rcases (show j = 0 ∨ j = 1 by omega) with rfl | rfl
    · exact ⟨y, v, World.cell?_setCell_same _ _ _ h1, cell_other (by omega) h2, fun h => absurd h nk⟩
    · exact ⟨u, y, cell_other (by omega) h1, World.cell?_setCell_same _ _ _ h2, fun h => absurd h nk⟩
  · exact ⟨u, v, cell_other (by omega) h1, cell_other (by omega) h2, h4⟩
/-- A place is filled. -/
theorem FilR.step {d len k : Nat} {cs : List (Int × ByteArray)} {w : World} {c1 : Int} {c2 : ByteArray} (h : FilR d len k cs w) (e1 : (rcAt cs k).1 = c1) (e2 : (rcAt cs k).2 = c2)
    (p0 : w.cell? ⟨d, k * 2, none⟩ = some (.int .i64 c1)) (p1 : w.cell? ⟨d, k * 2 + 1, none⟩ = some (.string c2)) : FilR d len (k + 1) cs w := fun i hi => by
  by_cases e : i = k
  · subst e
    exact ⟨_, _, p0, p1, fun _ => ⟨by rw [e1], by rw [e2]⟩⟩
  · obtain ⟨u, v, h1, h2, h4⟩ := h i hi
    exact ⟨u, v, h1, h2, fun h => h4 (by omega)⟩
/-- Two cells are written and the place is filled. -/
theorem FilR.put {d len k : Nat} {cs : List (Int × ByteArray)} {w : World} {c1 : Int} {c2 : ByteArray} (h : FilR d len k cs w) (hk : k < len) (e1 : (rcAt cs k).1 = c1) (e2 : (rcAt cs k).2 = c2) :
    FilR d len (k + 1) cs ((w.setCell ⟨d, k * 2, none⟩ (.int .i64 c1)).setCell ⟨d, k * 2 + 1, none⟩ (.string c2)) := by
  obtain ⟨u, v, h1, h2, _⟩ := h k hk
  exact ((h.cell (i := k) (j := 0) (Nat.le_refl _) rfl (by omega) (.int .i64 c1)).cell (i := k) (j := 1) (Nat.le_refl _) rfl (by omega) (.string c2)).step e1 e2
    (cell_other (by omega) (World.cell?_setCell_same _ _ _ h1)) (World.cell?_setCell_same _ _ _ (cell_other (by omega) h2))
theorem FilR.rcs {d len cap : Nat} {cs : List (Int × ByteArray)} {w : World} (h : FilR d len len cs w) (hl : cs.length = len) (hc : len ≤ cap) (hm : cap ≤ maxLen) : Rcs w (some ⟨d, 0, none⟩) len cap cs := by
  refine .inr ⟨_, rfl, hc, hm, hl, fun i hi => ?_⟩
  obtain ⟨u, v, h1, h2, h4⟩ := h i hi
  obtain ⟨rfl, rfl⟩ := h4 hi
  rw [rc_add]
  exact ⟨h1, h2⟩
theorem FilR.new (w : World) (len : Nat) (vs : Array Value) (T : TypeId) (cs : List (Int × ByteArray)) (hs : vs.size = len * 2) : FilR w.heap.size len 0 cs (w.alloc (.cells vs T)) ∧ FreeR w.heap.size (w.alloc (.cells vs T)) := by
  refine ⟨fun i hi => ?_, fun j => by simp⟩
  have h1 : i * 2 < vs.size := by omega
  have h2 : i * 2 + 1 < vs.size := by omega
  exact ⟨vs[i * 2], vs[i * 2 + 1], by rw [World.cell?_alloc_at _ _ _ _ rfl]; exact Array.getElem?_eq_getElem h1, by rw [World.cell?_alloc_at _ _ _ _ rfl]; exact Array.getElem?_eq_getElem h2, fun h => absurd h (by omega)⟩

set_option maxHeartbeats 400000 in
theorem szRc_any (t : Int) (b : ByteArray) (n : Int) (w : World) (h0 : 0 ≤ n) (h1 : n ≤ 1048576) (hm : b.size ≤ 9223372036854775807) :
    Calls Try.prog 36 #[.agg #[.int .i64 t, .string b], .int .i64 n] w fun e w' => (∃ z : Int, e = .returned (.int .i64 z) ∧ (z = -1 ∨ (0 ≤ z ∧ z ≤ n))) ∧ Below w.heap.size w w' := by
  have e : IntKind.i64.wrap (n - (b.size : Int)) = n - (b.size : Int) := IntWalk.i64_in _ (by omega)
  by_cases h : n - (b.size : Int) < 0
  · go_enter Try.func36, Try.ntmps36
    go_wp2
    go_ret
    exact ⟨⟨-1, rfl, .inl rfl⟩, below_box _ (Nat.le_refl _)⟩
  · go_enter Try.func36, Try.ntmps36
    go_wp2
    go_ret
    exact ⟨⟨_, rfl, .inr ⟨by omega, by omega⟩⟩, below_box _ (Nat.le_refl _)⟩

set_option maxHeartbeats 1000000 in
theorem szRecordS_any (a : Option Addr) (len cap : Nat) (cs : List (Int × ByteArray)) (w : World) (h : Rcs w a len cap cs) (hz : ∀ c ∈ cs, c.2.size ≤ maxLen) :
    Calls Try.prog 17 #[.slice a len cap, .int .i64 1048576] w fun e w' => (∃ z : Int, e = .returned (.int .i64 z) ∧ (z = -1 ∨ (0 ≤ z ∧ len ≤ 1048576))) ∧ Below w.heap.size w w' := by
  have hl := h.length
  have hm := h.len_int
  have HG := Lib.hid h
  have HZ := Lib.hid hz
  clear h hz
  have e : IntKind.i64.wrap (1048576 - (len : Int)) = 1048576 - (len : Int) := IntWalk.i64_in _ (by omega)
  by_cases h0 : 1048576 - (len : Int) < 0
  · go_enter Try.func17, Try.ntmps17
    go_wp2
    go_ret
    exact ⟨⟨-1, rfl, .inl rfl⟩, Below.refl _ _⟩
  · have hle : len ≤ 1048576 := by omega
    go_enter Try.func17, Try.ntmps17
    go_wp2
    go_loopw [1, 5] (fun m i wr => ∃ (k : Nat) (z : Int), k ≤ len ∧ i = .int .i64 k ∧ m = .int .i64 z ∧ 0 ≤ z ∧ z ≤ 1048576 ∧ Hid (Below w.heap.size w wr)) (fun _ i _ => len - (intOf i).toNat)
    case atStart => exact ⟨0, 1048576 - (len : Int), Nat.zero_le _, rfl, rfl, by omega, by omega, Lib.hid (Below.refl _ _)⟩
    case round =>
      obtain ⟨k, z, hk, rfl, rfl, z0, z1, hbel⟩ := hrel
      by_cases hlt : k < len
      · obtain ⟨x, rfl⟩ := HG.out.addr hlt
        obtain ⟨p0, p1⟩ := HG.out.at hbel.out hlt
        have hzk := HZ.out _ (rcAt_mem (show k < cs.length by omega))
        obtain ⟨c1, hc1⟩ : ∃ c1, (rcAt cs k).1 = c1 := ⟨_, rfl⟩
        obtain ⟨c2, hc2⟩ : ∃ c2, (rcAt cs k).2 = c2 := ⟨_, rfl⟩
        rw [hc1] at p0
        rw [hc2] at p1 hzk
        unfold maxLen at hzk
        clear hc1 hc2
        go_wp2_with fail
        refine (szRc_any c1 c2 z _ z0 z1 (by omega)).mono ?_
        rintro e w2 ⟨⟨z2, rfl, hz2⟩, hb2⟩
        have HB := Lib.hid (hbel.out.trans (hb2.mono hbel.out.size))
        clear hb2
        rcases hz2 with rfl | ⟨y0, y1⟩
        · go_wp2
          go_ret
          exact ⟨⟨-1, rfl, .inl rfl⟩, HB.out⟩
        · have yn : ¬ z2 < 0 := by omega
          go_wp2
          go_roundw
          case rel => exact ⟨k + 1, z2, by omega, by go_num, rfl, y0, by omega, HB⟩
          case measure => simp [intOf]; omega
      · obtain rfl : k = len := by omega
        go_wp2
        go_ret
        exact ⟨⟨z, rfl, .inr ⟨z0, hle⟩⟩, hbel.out⟩

set_option maxHeartbeats 400000 in
theorem toRc_any (t : Int) (b : ByteArray) (w : World) :
    Calls Try.prog 37 #[.agg #[.int .i64 t, .string b]] w fun e w' => e = .returned (.agg #[.int .i64 t, .string b]) ∧ Below w.heap.size w w' := by
  go_enter Try.func37, Try.ntmps37
  go_wp2
  refine bodyPost_ret (v := .agg #[.int .i64 t, .string b]) ?_ rfl ?_
  · simp [results, Try.results37, go_sem]
  · exact ⟨rfl, ((below_box _ (Nat.le_refl _)).alloc (by simp) _).alloc (by simp; omega) _⟩

set_option maxHeartbeats 1000000 in
theorem toRecordS_any (a : Option Addr) (len cap : Nat) (cs : List (Int × ByteArray)) (w : World) (h : Rcs w a len cap cs) (hn : len ≤ 1048576) :
    Calls Try.prog 18 #[.slice a len cap] w fun e w' => (∃ d, e = .returned (.slice (some ⟨d, 0, none⟩) len len) ∧ w.heap.size ≤ d ∧ Rcs w' (some ⟨d, 0, none⟩) len len cs ∧ d < w'.heap.size) ∧ Below w.heap.size w w' := by
  have hl := h.length
  obtain ⟨i0, hi, hz0, hz1, hz2⟩ := info_parts info_rc
  obtain ⟨CS, hCS, hmk⟩ : ∃ CS : Array Value, CS.size = len * 2 ∧ ∀ w, (Instr.makeSlice 24 (.int .i64 len) (.int .i64 len)).run Try.prog w = .ok (.slice (some ⟨w.heap.size, 0, none⟩) len len) (w.alloc (.cells CS 33)) := by
    refine ⟨madeCells (Value.agg #[.int .i64 0, .string (ByteArray.mk #[])]).cells (len * 2), size_madeCells _ _, fun w => ?_⟩
    have r := run_make w 24 33 i0 _ Try.underlying24 hi hz0 .i64 .i64 len len (by omega) (Int.le_refl _) (by rw [hz2]; omega) (by omega)
    rw [hz1] at r
    exact r
  have HG := Lib.hid h
  have HF := Lib.hid (FilR.new w len CS 33 cs hCS)
  clear h hCS hi hz0 hz1 hz2
  go_enter Try.func18, Try.ntmps18
  go_wp2
  go_loopw [4] (fun i wr => ∃ k : Nat, k ≤ len ∧ i = .int .i64 k ∧ Hid (FilR w.heap.size len k cs wr ∧ FreeR w.heap.size wr) ∧ w.heap.size < wr.heap.size ∧ Hid (Below w.heap.size w wr)) (fun i _ => len - (intOf i).toNat)
  case atStart => exact ⟨0, Nat.zero_le _, rfl, HF, by simp, Lib.hid (below_box _ (Nat.le_refl _))⟩
  case round =>
    obtain ⟨k, hk, rfl, hfi, hsz, hbel⟩ := hrel
    clear HF
    by_cases hlt : k < len
    · obtain ⟨x, rfl⟩ := HG.out.addr hlt
      obtain ⟨p0, p1⟩ := HG.out.at hbel.out hlt
      obtain ⟨c1, hc1⟩ : ∃ c1, (rcAt cs k).1 = c1 := ⟨_, rfl⟩
      obtain ⟨c2, hc2⟩ : ∃ c2, (rcAt cs k).2 = c2 := ⟨_, rfl⟩
      rw [hc1] at p0
      rw [hc2] at p1
      have HFT := Lib.hid (And.intro hc1 hc2)
      clear hc1 hc2
      go_wp2_with fail
      refine (toRc_any c1 c2 _).mono ?_
      rintro e w2 ⟨rfl, hb2⟩
      have F2 := hfi.out.1.below hb2
      have R2 := hfi.out.2.below hsz hb2
      have FP := Lib.hid (And.intro (F2.put hlt HFT.out.1 HFT.out.2) ((R2.set (e := w.heap.size) (i := k * 2) (.int .i64 c1)).set (e := w.heap.size) (i := k * 2 + 1) (.string c2)))
      obtain ⟨u, v, s0, s1, _⟩ := F2 k hlt
      have t0 := R2 (k * 2)
      have t1 := R2 (k * 2 + 1)
      have BB := Lib.hid (((hbel.out.trans (hb2.mono hbel.out.size)).setCell (p := ⟨w.heap.size, k * 2, none⟩) (Nat.le_refl _) (.int .i64 c1)).setCell (p := ⟨w.heap.size, k * 2 + 1, none⟩) (Nat.le_refl _) (.string c2))
      have hsz2 : w.heap.size < w2.heap.size := Nat.lt_of_lt_of_le hsz hb2.size
      clear F2 R2 hb2 hfi hbel p0 p1 hsz
      go_wp2
      go_roundw
      case rel => exact ⟨k + 1, by omega, by go_num, FP, by simpa using hsz2, BB⟩
      case measure => simp [intOf]; omega
    · obtain rfl : k = len := by omega
      have FR := Lib.hid (hfi.out.1.rcs hl (Nat.le_refl _) (Nat.le_trans hn (by decide)))
      go_wp2
      go_ret
      exact ⟨⟨w.heap.size, rfl, Nat.le_refl _, FR.out, hsz⟩, hbel.out⟩

set_option maxHeartbeats 400000 in
theorem eqRc_same (t : Int) (b : ByteArray) (w : World) :
    Calls Try.prog 38 #[.agg #[.int .i64 t, .string b], .agg #[.int .i64 t, .string b]] w fun e w' => e = .returned (.bool true) ∧ Below w.heap.size w w' := by
  go_enter Try.func38, Try.ntmps38
  go_wp2
  go_ret
  exact ⟨rfl, (below_box _ (Nat.le_refl _)).alloc (by simp) _⟩
theorem kept4R {p1 p2 p3 p4 : Addr} {v1 v2 v3 v4 : Value} {w W W' : World} (h : W.cell? p1 = some v1 ∧ W.cell? p2 = some v2 ∧ W.cell? p3 = some v3 ∧ W.cell? p4 = some v4 ∧ Below w.heap.size w W) (hb : Below W.heap.size W W') :
    W'.cell? p1 = some v1 ∧ W'.cell? p2 = some v2 ∧ W'.cell? p3 = some v3 ∧ W'.cell? p4 = some v4 ∧ Below w.heap.size w W' := by
  obtain ⟨h1, h2, h3, h4, h7⟩ := h
  have go : ∀ (p : Addr) (v : Value), W.cell? p = some v → W'.cell? p = some v := fun p v e => (hb.cell (World.block_lt_of_cell? W _ e)).trans e
  exact ⟨go _ _ h1, go _ _ h2, go _ _ h3, go _ _ h4, h7.trans (hb.mono h7.size)⟩

set_option maxHeartbeats 1000000 in
theorem eqRecordS_same (a b : Option Addr) (len cap cap2 : Nat) (cs : List (Int × ByteArray)) (w : World) (h : Rcs w a len cap cs) (k : Rcs w b len cap2 cs) :
    Calls Try.prog 19 #[.slice a len cap, .slice b len cap2] w fun e w' => e = .returned (.bool true) ∧ Below w.heap.size w w' := by
  have hl := h.length
  have hm := h.len_int
  have HG := Lib.hid h
  have HK := Lib.hid k
  clear h k
  go_enter Try.func19, Try.ntmps19
  go_wp2
  go_loopw [5] (fun i wr => ∃ k : Nat, k ≤ len ∧ i = .int .i64 k ∧ Hid (Below w.heap.size w wr)) (fun i _ => len - (intOf i).toNat)
  case atStart => exact ⟨0, Nat.zero_le _, rfl, Lib.hid (Below.refl _ _)⟩
  case round =>
    obtain ⟨k, hk, rfl, hbel⟩ := hrel
    by_cases hlt : k < len
    · obtain ⟨x, rfl⟩ := HG.out.addr hlt
      obtain ⟨y, rfl⟩ := HK.out.addr hlt
      obtain ⟨p0, p1⟩ := HG.out.at hbel.out hlt
      obtain ⟨m0, m1⟩ := HK.out.at hbel.out hlt
      obtain ⟨c1, hc1⟩ : ∃ c1, (rcAt cs k).1 = c1 := ⟨_, rfl⟩
      obtain ⟨c2, hc2⟩ : ∃ c2, (rcAt cs k).2 = c2 := ⟨_, rfl⟩
      rw [hc1] at p0 m0
      rw [hc2] at p1 m1
      clear hc1 hc2
      have hS := Lib.hid (kept4R (w := w) ⟨p0, p1, m0, m1, hbel.out⟩ (Below.drew (Below.refl _ _)))
      clear p0 p1 m0 m1
      go_wp2_with fail
      go_region_held_law (fun W => W.cell? (x.add (k * 2)) = some (.int .i64 c1) ∧ W.cell? ⟨(x.add (k * 2)).block, (x.add (k * 2)).off + 1, none⟩ = some (.string c2) ∧ W.cell? (y.add (k * 2)) = some (.int .i64 c1) ∧ W.cell? ⟨(y.add (k * 2)).block, (y.add (k * 2)).off + 1, none⟩ = some (.string c2) ∧ Below w.heap.size w W)
        (first | with_reducible assumption | with_reducible exact hS.out | exact kept4R (by assumption) (by assumption))
        (first | (go_simp; go_at_call 38; refine (eqRc_same c1 c2 _).mono ?_; rintro e w' ⟨rfl, hbn⟩))
      all_goals
        go_wp2
        go_roundw
        case rel => exact ⟨k + 1, by omega, by go_num, by go_split_ands; exact Lib.hid (by assumption)⟩
        case measure => simp [intOf]; omega
    · obtain rfl : k = len := by omega
      go_wp2
      go_ret
      exact ⟨rfl, hbel.out⟩

end Go.Proofs.Ytodpbjomiplphab
