/- The laws' exact helpers on parts and assemblies: size, copy, equality. -/
import Derived.Test.YtncbgejggfkdmabK160
import Derived.Test.YtncbgejggfkdmabK96
import Derived.Laws.MakeOwn
namespace Go.Proofs.Ytncbgejggfkdmab
open Go.RowKit Go.PlainAid

/-- A row of parts that is being filled: k of 'len' parts lie there. -/
def FilP (d len k : Nat) (ps : List Part) (w : World) : Prop :=
  ∀ i, i < len → ∀ j, j < 7 → ∃ u, w.cell? ⟨d, i * 7 + j, none⟩ = some u ∧ (i < k → (cellsP (pAt ps i))[j]? = some u)
theorem FilP.below {d len k : Nat} {ps : List Part} {w w' : World} (h : FilP d len k ps w) (hb : Below w.heap.size w w') : FilP d len k ps w' := fun i hi j hj => by
  obtain ⟨u, h1, h2⟩ := h i hi j hj
  exact ⟨u, kept_cell hb (lt_of_cell h1) h1, h2⟩
theorem FilP.far {d e len k o : Nat} {ps : List Part} {w : World} (h : FilP d len k ps w) (he : e ≠ d) (y : Value) : FilP d len k ps (w.setCell ⟨e, o, none⟩ y) := fun i hi j hj => by
  obtain ⟨u, h1, h2⟩ := h i hi j hj
  exact ⟨u, cell_far he h1, h2⟩
theorem FilP.new (w : World) (len : Nat) (vs : Array Value) (T : TypeId) (ps : List Part) (hs : vs.size = len * 7) : FilP w.heap.size len 0 ps (w.alloc (.cells vs T)) ∧ FreeN w.heap.size (w.alloc (.cells vs T)) := by
  refine ⟨fun i hi j hj => ?_, fun j => by simp⟩
  have h1 : i * 7 + j < vs.size := by omega
  exact ⟨vs[i * 7 + j], by rw [World.cell?_alloc_at _ _ _ _ rfl]; exact Array.getElem?_eq_getElem h1, fun h => absurd h (by omega)⟩
theorem FilP.pts {d len cap : Nat} {ps : List Part} {w : World} (h : FilP d len len ps w) (hl : ps.length = len) (hc : len ≤ cap) (hm : cap ≤ maxLen) : Pts w (some ⟨d, 0, none⟩) len cap ps := by
  refine .inr ⟨_, rfl, hc, hm, hl, fun i hi j v hv => ?_⟩
  have hj : j < 7 := (List.getElem?_eq_some_iff.1 hv).1
  obtain ⟨u, h1, h2⟩ := h i hi j hj
  have h3 := h2 hi
  rw [hv] at h3
  rw [atP_zero, h1, h3]
theorem FilP.put {d len k : Nat} {ps : List Part} {w : World} {t s q : Int} {fi la lo : Bool} {tx : ByteArray} (h : FilP d len k ps w) (hk : k < len) (e : pAt ps k = ⟨t, s, q, fi, la, lo, tx⟩) :
    FilP d len (k + 1) ps (((((((w.setCell ⟨d, k * 7, none⟩ (.int .i64 t)).setCell ⟨d, k * 7 + 1, none⟩ (.int .i64 s)).setCell ⟨d, k * 7 + 2, none⟩ (.int .i64 q)).setCell ⟨d, k * 7 + 3, none⟩ (.bool fi)).setCell ⟨d, k * 7 + 4, none⟩ (.bool la)).setCell ⟨d, k * 7 + 5, none⟩ (.bool lo)).setCell ⟨d, k * 7 + 6, none⟩ (.string tx)) := fun i hi j hj => by
  obtain ⟨u, h1, h2⟩ := h i hi j hj
  by_cases hik : i = k
  · subst hik
    rw [e]
    rcases (show j = 0 ∨ j = 1 ∨ j = 2 ∨ j = 3 ∨ j = 4 ∨ j = 5 ∨ j = 6 by omega) with rfl | rfl | rfl | rfl | rfl | rfl | rfl
    · exact ⟨.int .i64 t, (cell_other (by omega) (cell_other (by omega) (cell_other (by omega) (cell_other (by omega) (cell_other (by omega) (cell_other (by omega) (World.cell?_setCell_same _ _ _ h1))))))), fun _ => rfl⟩
    · exact ⟨.int .i64 s, (cell_other (by omega) (cell_other (by omega) (cell_other (by omega) (cell_other (by omega) (cell_other (by omega) (World.cell?_setCell_same _ _ _ (cell_other (by omega) h1))))))), fun _ => rfl⟩
    · exact ⟨.int .i64 q, (cell_other (by omega) (cell_other (by omega) (cell_other (by omega) (cell_other (by omega) (World.cell?_setCell_same _ _ _ (cell_other (by omega) (cell_other (by omega) h1))))))), fun _ => rfl⟩
    · exact ⟨.bool fi, (cell_other (by omega) (cell_other (by omega) (cell_other (by omega) (World.cell?_setCell_same _ _ _ (cell_other (by omega) (cell_other (by omega) (cell_other (by omega) h1))))))), fun _ => rfl⟩
    · exact ⟨.bool la, (cell_other (by omega) (cell_other (by omega) (World.cell?_setCell_same _ _ _ (cell_other (by omega) (cell_other (by omega) (cell_other (by omega) (cell_other (by omega) h1))))))), fun _ => rfl⟩
    · exact ⟨.bool lo, (cell_other (by omega) (World.cell?_setCell_same _ _ _ (cell_other (by omega) (cell_other (by omega) (cell_other (by omega) (cell_other (by omega) (cell_other (by omega) h1))))))), fun _ => rfl⟩
    · exact ⟨.string tx, (World.cell?_setCell_same _ _ _ (cell_other (by omega) (cell_other (by omega) (cell_other (by omega) (cell_other (by omega) (cell_other (by omega) (cell_other (by omega) h1))))))), fun _ => rfl⟩
  · exact ⟨u, (cell_other (by omega) (cell_other (by omega) (cell_other (by omega) (cell_other (by omega) (cell_other (by omega) (cell_other (by omega) (cell_other (by omega) h1))))))), fun h3 => h2 (by omega)⟩
theorem info_pd : (Try.prog.info? 43).map (fun i => (i.zero, i.size, i.bytes)) = some (some (partV ⟨0, 0, 0, false, false, false, ByteArray.mk #[]⟩), 7, 48) := by kernel_rfl

set_option maxHeartbeats 400000 in
theorem szDa_any (t s q : Int) (fi la lo : Bool) (tx : ByteArray) (n : Int) (w : World) (h0 : 0 ≤ n) (h1 : n ≤ 1048576) (hm : tx.size ≤ 9223372036854775807) :
    Calls Try.prog 63 #[.agg #[.int .i64 t, .int .i64 s, .int .i64 q, .bool fi, .bool la, .bool lo, .string tx], .int .i64 n] w fun e w' => (∃ z : Int, e = .returned (.int .i64 z) ∧ (z = -1 ∨ (0 ≤ z ∧ z ≤ n))) ∧ Below w.heap.size w w' := by
  have e : IntKind.i64.wrap (n - (tx.size : Int)) = n - (tx.size : Int) := IntWalk.i64_in _ (by omega)
  by_cases h : n - (tx.size : Int) < 0
  · go_enter Try.func63, Try.ntmps63
    go_wp2
    go_ret
    exact ⟨⟨-1, rfl, .inl rfl⟩, below_box _ (Nat.le_refl _)⟩
  · go_enter Try.func63, Try.ntmps63
    go_wp2
    go_ret
    exact ⟨⟨_, rfl, .inr ⟨by omega, by omega⟩⟩, below_box _ (Nat.le_refl _)⟩

set_option maxHeartbeats 1000000 in
theorem toDa_any (t s q : Int) (fi la lo : Bool) (tx : ByteArray) (w : World) :
    Calls Try.prog 64 #[.agg #[.int .i64 t, .int .i64 s, .int .i64 q, .bool fi, .bool la, .bool lo, .string tx]] w fun e w' => e = .returned (.agg #[.int .i64 t, .int .i64 s, .int .i64 q, .bool fi, .bool la, .bool lo, .string tx]) ∧ Below w.heap.size w w' := by
  go_enter Try.func64, Try.ntmps64
  go_wp2
  refine bodyPost_ret (v := .agg #[.int .i64 t, .int .i64 s, .int .i64 q, .bool fi, .bool la, .bool lo, .string tx]) ?_ rfl ?_
  · simp [results, Try.results64, go_sem]
  · exact ⟨rfl, by go_grown⟩

set_option maxHeartbeats 1000000 in
theorem eqDa_same (p : Part) (w : World) :
    Calls Try.prog 66 #[partV p, partV p] w fun e w' => e = .returned (.bool true) ∧ Below w.heap.size w w' := by
  obtain ⟨t, s, q, fi, la, lo, tx⟩ := p
  unfold partV
  go_enter Try.func66, Try.ntmps66
  go_wp2
  go_ret
  exact ⟨rfl, (below_box _ (Nat.le_refl _)).alloc (by simp) _⟩

set_option maxHeartbeats 1000000 in
theorem szDataS_any (a : Option Addr) (len cap : Nat) (ps : List Part) (n : Int) (w : World) (n0 : 0 ≤ n) (n1 : n ≤ 1048576) (h : Pts w a len cap ps) (hz : ∀ p ∈ ps, p.text.size ≤ maxLen) :
    Calls Try.prog 30 #[.slice a len cap, .int .i64 n] w fun e w' => (∃ z : Int, e = .returned (.int .i64 z) ∧ (z = -1 ∨ (0 ≤ z ∧ len ≤ 1048576))) ∧ Below w.heap.size w w' := by
  have hl := h.length
  have hm := h.len_int
  have HG := Lib.hid h
  have HZ := Lib.hid hz
  clear h hz
  have e : IntKind.i64.wrap (n - (len : Int)) = n - (len : Int) := IntWalk.i64_in _ (by omega)
  by_cases h0 : n - (len : Int) < 0
  · go_enter Try.func30, Try.ntmps30
    go_wp2
    go_ret
    exact ⟨⟨-1, rfl, .inl rfl⟩, Below.refl _ _⟩
  · have hle : len ≤ 1048576 := by omega
    go_enter Try.func30, Try.ntmps30
    go_wp2
    go_loopw [1, 5] (fun m i wr => ∃ (k : Nat) (z : Int), k ≤ len ∧ i = .int .i64 k ∧ m = .int .i64 z ∧ 0 ≤ z ∧ z ≤ 1048576 ∧ Hid (Below w.heap.size w wr)) (fun _ i _ => len - (intOf i).toNat)
    case atStart => exact ⟨0, n - (len : Int), Nat.zero_le _, rfl, rfl, by omega, by omega, Lib.hid (Below.refl _ _)⟩
    case round =>
      obtain ⟨k, z, hk, rfl, rfl, z0, z1, hbel⟩ := hrel
      by_cases hlt : k < len
      · obtain ⟨x, rfl⟩ := HG.out.addr hlt
        obtain ⟨p0, p1, p2, p3, p4, p5, p6⟩ := HG.out.at hbel.out hlt
        have hzk := HZ.out _ (pAt_mem (show k < ps.length by omega))
        obtain ⟨⟨t, s, q, fi, la, lo, tx⟩, hc1⟩ : ∃ c1, pAt ps k = c1 := ⟨_, rfl⟩
        rw [hc1] at p0 p1 p2 p3 p4 p5 p6 hzk
        dsimp only at p0 p1 p2 p3 p4 p5 p6 hzk
        unfold maxLen at hzk
        clear hc1
        go_wp2_with fail
        refine (szDa_any t s q fi la lo tx z _ z0 z1 (by omega)).mono ?_
        rintro e w2 ⟨⟨z2, rfl, hz2⟩, hb2⟩
        have HB := Lib.hid (hbel.out.trans (hb2.mono hbel.out.size))
        clear hb2
        rcases hz2 with rfl | ⟨y0, y1⟩
        · go_wp2
          go_ret
          exact ⟨⟨-1, rfl, .inl rfl⟩, HB.out⟩
        · have yn : ¬ z2 < 0 := by omega
          go_wp2
          go_roundw
          case rel => exact ⟨k + 1, z2, by omega, by go_num, rfl, y0, by omega, HB⟩
          case measure => simp [intOf]; omega
      · obtain rfl : k = len := by omega
        go_wp2
        go_ret
        exact ⟨⟨z, rfl, .inr ⟨z0, hle⟩⟩, hbel.out⟩

set_option maxHeartbeats 1000000 in
theorem toDataS_any (a : Option Addr) (len cap : Nat) (ps : List Part) (w : World) (h : Pts w a len cap ps) (hn : len ≤ 1048576) :
    Calls Try.prog 31 #[.slice a len cap] w fun e w' => (∃ d, e = .returned (.slice (some ⟨d, 0, none⟩) len len) ∧ w.heap.size ≤ d ∧ FilP d len len ps w' ∧ FreeN d w' ∧ d < w'.heap.size) ∧ Below w.heap.size w w' := by
  have hl := h.length
  obtain ⟨i0, hi, hz0, hz1, hz2⟩ := info_parts info_pd
  obtain ⟨CS, hCS, hmk⟩ : ∃ CS : Array Value, CS.size = len * 7 ∧ ∀ w, (Instr.makeSlice 25 (.int .i64 len) (.int .i64 len)).run Try.prog w = .ok (.slice (some ⟨w.heap.size, 0, none⟩) len len) (w.alloc (.cells CS 43)) := by
    refine ⟨madeCells (partV ⟨0, 0, 0, false, false, false, ByteArray.mk #[]⟩).cells (len * 7), size_madeCells _ _, fun w => ?_⟩
    have r := run_make w 25 43 i0 _ Try.underlying25 hi hz0 .i64 .i64 len len (by omega) (Int.le_refl _) (by rw [hz2]; omega) (by omega)
    rw [hz1] at r
    exact r
  have HG := Lib.hid h
  have HF := Lib.hid (FilP.new w len CS 43 ps hCS)
  clear h hCS hi hz0 hz1 hz2
  go_enter Try.func31, Try.ntmps31
  go_wp2
  go_loopw [4] (fun i wr => ∃ k : Nat, k ≤ len ∧ i = .int .i64 k ∧ Hid (FilP w.heap.size len k ps wr ∧ FreeN w.heap.size wr) ∧ w.heap.size < wr.heap.size ∧ Hid (Below w.heap.size w wr)) (fun i _ => len - (intOf i).toNat)
  case atStart => exact ⟨0, Nat.zero_le _, rfl, HF, by simp, Lib.hid (below_box _ (Nat.le_refl _))⟩
  case round =>
    obtain ⟨k, hk, rfl, hfi, hsz, hbel⟩ := hrel
    clear HF
    by_cases hlt : k < len
    · obtain ⟨x, rfl⟩ := HG.out.addr hlt
      obtain ⟨p0, p1, p2, p3, p4, p5, p6⟩ := HG.out.at hbel.out hlt
      obtain ⟨⟨t, s, q, fi, la, lo, tx⟩, hc1⟩ : ∃ c1, pAt ps k = c1 := ⟨_, rfl⟩
      rw [hc1] at p0 p1 p2 p3 p4 p5 p6
      dsimp only at p0 p1 p2 p3 p4 p5 p6
      have HC := Lib.hid hc1
      clear hc1
      go_wp2_with fail
      refine (toDa_any t s q fi la lo tx _).mono ?_
      rintro e w2 ⟨rfl, hb2⟩
      have F2 := hfi.out.1.below hb2
      have R2 : FreeN w.heap.size w2 := fun j => (hb2.frozen (p := ⟨w.heap.size, j, none⟩) hsz).trans (hfi.out.2 j)
      have FP := Lib.hid (And.intro (F2.put hlt HC.out) (FreeN.set (FreeN.set (FreeN.set (FreeN.set (FreeN.set (FreeN.set (FreeN.set R2 (e := w.heap.size) (i := k * 7) (.int .i64 t)) (e := w.heap.size) (i := k * 7 + 1) (.int .i64 s)) (e := w.heap.size) (i := k * 7 + 2) (.int .i64 q)) (e := w.heap.size) (i := k * 7 + 3) (.bool fi)) (e := w.heap.size) (i := k * 7 + 4) (.bool la)) (e := w.heap.size) (i := k * 7 + 5) (.bool lo)) (e := w.heap.size) (i := k * 7 + 6) (.string tx)))
      obtain ⟨u0, s0, _⟩ := F2 k hlt 0 (by omega)
      have t0 := R2 (k * 7)
      obtain ⟨u1, s1, _⟩ := F2 k hlt 1 (by omega)
      have t1 := R2 (k * 7 + 1)
      obtain ⟨u2, s2, _⟩ := F2 k hlt 2 (by omega)
      have t2 := R2 (k * 7 + 2)
      obtain ⟨u3, s3, _⟩ := F2 k hlt 3 (by omega)
      have t3 := R2 (k * 7 + 3)
      obtain ⟨u4, s4, _⟩ := F2 k hlt 4 (by omega)
      have t4 := R2 (k * 7 + 4)
      obtain ⟨u5, s5, _⟩ := F2 k hlt 5 (by omega)
      have t5 := R2 (k * 7 + 5)
      obtain ⟨u6, s6, _⟩ := F2 k hlt 6 (by omega)
      have t6 := R2 (k * 7 + 6)
      have BB := Lib.hid ((((((((hbel.out.trans (hb2.mono hbel.out.size)).setCell (p := ⟨w.heap.size, k * 7, none⟩) (Nat.le_refl _) (.int .i64 t)).setCell (p := ⟨w.heap.size, k * 7 + 1, none⟩) (Nat.le_refl _) (.int .i64 s)).setCell (p := ⟨w.heap.size, k * 7 + 2, none⟩) (Nat.le_refl _) (.int .i64 q)).setCell (p := ⟨w.heap.size, k * 7 + 3, none⟩) (Nat.le_refl _) (.bool fi)).setCell (p := ⟨w.heap.size, k * 7 + 4, none⟩) (Nat.le_refl _) (.bool la)).setCell (p := ⟨w.heap.size, k * 7 + 5, none⟩) (Nat.le_refl _) (.bool lo)).setCell (p := ⟨w.heap.size, k * 7 + 6, none⟩) (Nat.le_refl _) (.string tx))
      have hsz2 : w.heap.size < w2.heap.size := Nat.lt_of_lt_of_le hsz hb2.size
      simp only [Nat.add_zero] at s0
      clear F2 R2 hb2 hfi hbel p0 p1 p2 p3 p4 p5 p6 hsz
      go_wp2
      go_roundw
      case rel => exact ⟨k + 1, by omega, by go_num, FP, by simpa using hsz2, BB⟩
      case measure => simp [intOf]; omega
    · obtain rfl : k = len := by omega
      go_wp2
      go_ret
      exact ⟨⟨w.heap.size, rfl, Nat.le_refl _, hfi.out.1, hfi.out.2, hsz⟩, hbel.out⟩

set_option maxHeartbeats 1000000 in
theorem eqDataS_same (a b : Option Addr) (len cap cap2 : Nat) (ps : List Part) (w : World) (h : Pts w a len cap ps) (k : Pts w b len cap2 ps) :
    Calls Try.prog 33 #[.slice a len cap, .slice b len cap2] w fun e w' => e = .returned (.bool true) ∧ Below w.heap.size w w' := by
  have hl := h.length
  have hm := h.len_int
  have HG := Lib.hid h
  have HK := Lib.hid k
  clear h k
  go_enter Try.func33, Try.ntmps33
  go_wp2
  go_loopw [5] (fun i wr => ∃ k : Nat, k ≤ len ∧ i = .int .i64 k ∧ Hid (Below w.heap.size w wr)) (fun i _ => len - (intOf i).toNat)
  case atStart => exact ⟨0, Nat.zero_le _, rfl, Lib.hid (Below.refl _ _)⟩
  case round =>
    obtain ⟨k, hk, rfl, hbel⟩ := hrel
    by_cases hlt : k < len
    · obtain ⟨x, rfl⟩ := HG.out.addr hlt
      obtain ⟨y, rfl⟩ := HK.out.addr hlt
      have hsz2 := hbel.out.size
      have LK : ∀ W, Below wr.heap.size wr W → (Instr.loadAt 43 (.pointer (some (x.add (k * 7))))).run Try.prog W = .ok (partV (pAt ps k)) W := fun W hW => load_parts ((HG.out.below hbel.out).below hW) hlt
      have LJ : ∀ W, Below wr.heap.size wr W → (Instr.loadAt 43 (.pointer (some (y.add (k * 7))))).run Try.prog W = .ok (partV (pAt ps k)) W := fun W hW => load_parts ((HK.out.below hbel.out).below hW) hlt
      have SMH := Lib.hid (fun w => eqDa_same (pAt ps k) w)
      go_wp2_with fail
      refine region_class (C := fun W => Below wr.heap.size wr W) (by kernel_rfl) (by kernel_rfl) (Below.drew (Below.refl _ _)) ?_
      repeat (first
        | go_big_quiet_skip
        | (go_big_quiet_want; go_big_quiet_op; go_big_quiet_on)
        | (refine BigFrame.wpQuiet_want (by rfl) (fun K hK => ?_)
           first
             | (refine quiet_loadQ (x := .tmp 19) (by with_reducible rfl) (by rfl) LK (hK _ ?_))
             | (refine quiet_loadQ (x := .tmp 23) (by with_reducible rfl) (by rfl) LJ (hK _ ?_))
             | (apply Exists.intro
                refine ⟨fun W hW => ?_, hK _ ?_⟩
                next =>
                  go_simp
                  first
                    | with_reducible exact rfl
                    | (refine (SMH.out _).mono ?_; rintro e w3 ⟨rfl, hb3⟩; exact ⟨rfl, hW.trans (hb3.mono hW.size)⟩))
           conv => arg 6; simp only [Act.put, List.setIfInBounds_toArray, List.set_cons_zero, List.set_cons_succ]
           clear hK K))
      refine wpQuiet_nil ?_
      intro W hW
      clear LK LJ
      have hb := Lib.hid (hbel.out.trans (hW.mono hsz2))
      clear hW
      go_wp2
      go_roundw
      case rel => exact ⟨k + 1, by omega, by go_num, hb⟩
      case measure => simp [intOf]; omega
    · obtain rfl : k = len := by omega
      go_wp2
      go_ret
      exact ⟨rfl, hbel.out⟩

end Go.Proofs.Ytncbgejggfkdmab
