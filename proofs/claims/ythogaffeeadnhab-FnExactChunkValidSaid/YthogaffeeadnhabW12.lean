/- The walks of the laws on chunks that are written, on valid chunks and on names: each call returns true and touches nothing that was there. -/
import Derived.Test.YthogaffeeadnhabK16
import Derived.Test.YthogaffeeadnhabK17
import Derived.Test.YthogaffeeadnhabK18b
import Derived.Deep.QuietTactic
import Derived.BigQuiet
namespace Go.Proofs.Ythogaffeeadnhab
open Go.RowKit Go.PlainAid

set_option maxHeartbeats 1000000 in
theorem walk_fnChunkPut (a0 : Option Addr) (len0 cap0 : Nat) (z0 : List Int) (w : World) (w0 : IsRow .u8 w a0 len0 cap0 z0) :
    Calls Try.prog 3 #[.slice a0 len0 cap0] w fun e w' => e = .returned (.bool true) ∧ Below w.heap.size w w' := by
  have H := Lib.hid w0
  clear w0
  by_cases hl : (1048576 : Int) < len0
  · go_enter Try.func3, Try.ntmps3
    go_wp2
    go_ret
    exact ⟨rfl, Below.refl _ _⟩
  · go_enter Try.func3, Try.ntmps3
    go_wp2_with fail
    refine (drawChunkPut_any a0 len0 cap0 z0 _ H.out).mono ?_
    rintro e w1 ⟨k, f, b, rfl, ⟨⟨k0, k1⟩, ⟨f0, f1⟩, hbz⟩, hb1⟩
    by_cases h : Chk k f b
    · have HC := Lib.hid h
      obtain ⟨_, _, hb60⟩ := h
      have HT := Lib.hid (text_some (s := chunkS k f b) (by rw [chunkS_size]; omega))
      have ne1 := HT.out
      have ne2 : (chunkS k f b).toList.isEmpty = false := by simpa using HT.out
      go_wp2_with fail
      refine (chunkPut_yes k f b _ HC.out).mono ?_
      rintro e w2 ⟨rfl, hb2⟩
      have hB2 : Below w.heap.size w w2 := (hb1.alloc hb1.size _).trans (hb2.mono (Nat.le_trans hb1.size (by simp)))
      have V2 := (Var3.new w1 k f b _).aside (below_aside (r := w1.heap.size + 1) hb2 (Nat.le_refl _)) (by simp) (by omega)
      have HV2 := Lib.hid V2
      obtain ⟨⟨c0, c1, c2⟩, d0, d1, d2⟩ := V2
      have hlt2 : w1.heap.size < w2.heap.size := by have := hb2.size; simp at this; omega
      clear hb2
      go_wp2_with fail
      refine (sChunkPut_yes k f b _ HC.out).mono ?_
      rintro e w3 ⟨rfl, hb3⟩
      have hB3 : Below w.heap.size w w3 := hB2.trans (hb3.mono hB2.size)
      have hlt3 : w1.heap.size < w3.heap.size := Nat.lt_of_lt_of_le hlt2 hb3.size
      have V3 := HV2.out.aside (below_aside (r := w2.heap.size) hb3 (Nat.le_refl _)) hlt2 (by omega)
      clear c0 c1 c2 d0 d1 d2
      have HV3 := Lib.hid V3
      obtain ⟨⟨c0, c1, c2⟩, d0, d1, d2⟩ := V3
      clear hb3 hB2 HV2
      have hz := chunkS_size k f b
      have HP := Lib.hid (pad_lt b.size)
      have hz4 : 4 + b.size ≤ (chunkS k f b).size := by omega
      have hz8 : (chunkS k f b).size < 4 + b.size + 4 := by have := HP.out; omega
      have hm : (chunkS k f b).size ≤ maxLen := Nat.le_trans (chunkS_le k f b HC.out.2.2) (by decide)
      have hmod := chunkS_mod k f b
      have HM := Lib.hid hmod
      have HZ := Lib.hid hz
      clear hz hmod
      have E := Lib.hid (show be (chunkS k f b) 2 2 = 4 + (b.size : Int) by have h1 := lenAt_be (chunkS k f b) 0; rw [lenAt_chunkS k f b HC.out.2.2] at h1; exact h1.trans (by omega))
      go_wp2_with fail
      refine (wordGet_yes (chunkS k f b) 2 _ hm (by omega)).mono ?_
      rintro e w4 ⟨rfl, hb4⟩
      rw [E.out]
      have hB4 : Below w.heap.size w w4 := hB3.trans (hb4.mono hB3.size)
      have V4 := HV3.out.aside (below_aside (r := w3.heap.size) hb4 (Nat.le_refl _)) hlt3 (by omega)
      clear c0 c1 c2 d0 d1 d2
      obtain ⟨⟨c0, c1, c2⟩, d0, d1, d2⟩ := V4
      clear hb4 hm ne1 ne2
      have B0 := bt_first k f b HC.out
      have B1 := bt_second k f b HC.out
      have B2 : (chunkS k f b).extract 4 (4 + b.size) = b := by have g := bodyAt_chunkS k f b HC.out.2.2; unfold bodyAt at g; rw [lenAt_chunkS k f b HC.out.2.2, Nat.zero_add, Nat.zero_add] at g; exact g
      obtain ⟨T, hT⟩ : ∃ T, chunkS k f b = T := ⟨_, rfl⟩
      rw [hT] at B0 B1 B2 hz4 hz8 HM
      rw [hT]
      clear hT HT HP E HZ
      have q0 : ((T.size : Int) % 4 == 0) = true := by have := HM.out; simp; omega
      have hbt := get_bt T
      have t4 : ((4 : Int) + (b.size : Int)).toNat = 4 + b.size := by omega
      have q1 : (0 : Int) < T.size := by omega
      have q2 : (1 : Int) < T.size := by omega
      have q3 : (4 : Int) + (b.size : Int) ≤ T.size := by omega
      have q4 : (4 : Int) ≤ 4 + (b.size : Int) := by omega
      have q5 : (T.size : Int) < 4 + (b.size : Int) + 4 := by omega
      have u0 : bt T (0 : Int).toNat = k := B0
      have u1 : bt T (1 : Int).toNat = f := B1
      have p0 : 0 < T.size := by omega
      have p1 : 1 < T.size := by omega
      have B2' : T.extract (4 : Int).toNat (4 + b.size) = b := B2
      go_wp2_with fail
      go_quiet (fail)
      go_wp2
      go_ret
      exact ⟨rfl, below_drewN hB4 _⟩
    · have HC := Lib.hid h
      clear h
      go_wp2_with fail
      refine (chunkPut_no k f b _ HC.out).mono ?_
      rintro e w2 ⟨rfl, hb2⟩
      have hB2 : Below w.heap.size w w2 := (hb1.alloc hb1.size _).trans (hb2.mono (Nat.le_trans hb1.size (by simp)))
      have V2 := (Var3.new w1 k f b _).aside (below_aside (r := w1.heap.size + 1) hb2 (Nat.le_refl _)) (by simp) (by omega)
      have HV2 := Lib.hid V2
      obtain ⟨⟨c0, c1, c2⟩, d0, d1, d2⟩ := V2
      have hlt2 : w1.heap.size < w2.heap.size := by have := hb2.size; simp at this; omega
      clear hb2
      go_wp2_with fail
      refine (sChunkPut_no k f b _ HC.out).mono ?_
      rintro e w3 ⟨rfl, hb3⟩
      have hB3 : Below w.heap.size w w3 := hB2.trans (hb3.mono hB2.size)
      have hlt3 : w1.heap.size < w3.heap.size := Nat.lt_of_lt_of_le hlt2 hb3.size
      have V3 := HV2.out.aside (below_aside (r := w2.heap.size) hb3 (Nat.le_refl _)) hlt2 (by omega)
      clear c0 c1 c2 d0 d1 d2
      have HV3 := Lib.hid V3
      obtain ⟨⟨c0, c1, c2⟩, d0, d1, d2⟩ := V3
      clear hb3 hB2 HV2
      go_wp2
      go_ret
      exact ⟨rfl, hB3⟩

set_option maxHeartbeats 1000000 in
theorem walk_fnChunkPutBad (a0 : Option Addr) (len0 cap0 : Nat) (z0 : List Int) (w : World) (w0 : IsRow .u8 w a0 len0 cap0 z0) :
    Calls Try.prog 4 #[.slice a0 len0 cap0] w fun e w' => e = .returned (.bool true) ∧ Below w.heap.size w w' := by
  have H := Lib.hid w0
  clear w0
  by_cases hl : (1048576 : Int) < len0
  · go_enter Try.func4, Try.ntmps4
    go_wp2
    go_ret
    exact ⟨rfl, Below.refl _ _⟩
  · go_enter Try.func4, Try.ntmps4
    go_wp2_with fail
    refine (drawChunkPut_any a0 len0 cap0 z0 _ H.out).mono ?_
    rintro e w1 ⟨k, f, b, rfl, ⟨⟨k0, k1⟩, ⟨f0, f1⟩, hbz⟩, hb1⟩
    by_cases h : Chk k f b
    · have HC := Lib.hid h
      clear h
      have HT := Lib.hid (text_some (s := chunkS k f b) (by rw [chunkS_size]; omega))
      have ne1 := HT.out
      have ne2 : (chunkS k f b).toList.isEmpty = false := by simpa using HT.out
      go_wp2_with fail
      refine (chunkPut_yes k f b _ HC.out).mono ?_
      rintro e w2 ⟨rfl, hb2⟩
      have hB2 : Below w.heap.size w w2 := (hb1.alloc hb1.size _).trans (hb2.mono (Nat.le_trans hb1.size (by simp)))
      have V2 := (Var3.new w1 k f b _).aside (below_aside (r := w1.heap.size + 1) hb2 (Nat.le_refl _)) (by simp) (by omega)
      have HV2 := Lib.hid V2
      obtain ⟨⟨c0, c1, c2⟩, d0, d1, d2⟩ := V2
      have hlt2 : w1.heap.size < w2.heap.size := by have := hb2.size; simp at this; omega
      clear hb2
      go_wp2_with fail
      refine (sChunkPut_yes k f b _ HC.out).mono ?_
      rintro e w3 ⟨rfl, hb3⟩
      have hB3 : Below w.heap.size w w3 := hB2.trans (hb3.mono hB2.size)
      have hlt3 : w1.heap.size < w3.heap.size := Nat.lt_of_lt_of_le hlt2 hb3.size
      have V3 := HV2.out.aside (below_aside (r := w2.heap.size) hb3 (Nat.le_refl _)) hlt2 (by omega)
      clear c0 c1 c2 d0 d1 d2
      have HV3 := Lib.hid V3
      obtain ⟨⟨c0, c1, c2⟩, d0, d1, d2⟩ := V3
      clear hb3 hB2 HV2
      have E := Lib.hid (chkV_yes HC.out)
      go_wp2_with fail
      refine (chunkValid_any k f b _).mono ?_
      rintro e w4 ⟨rfl, hb4⟩
      rw [E.out]
      have hB4 : Below w.heap.size w w4 := hB3.trans (hb4.mono hB3.size)
      go_wp2
      go_ret
      exact ⟨rfl, hB4⟩
    · have HC := Lib.hid h
      clear h
      go_wp2_with fail
      refine (chunkPut_no k f b _ HC.out).mono ?_
      rintro e w2 ⟨rfl, hb2⟩
      have hB2 : Below w.heap.size w w2 := (hb1.alloc hb1.size _).trans (hb2.mono (Nat.le_trans hb1.size (by simp)))
      have V2 := (Var3.new w1 k f b _).aside (below_aside (r := w1.heap.size + 1) hb2 (Nat.le_refl _)) (by simp) (by omega)
      have HV2 := Lib.hid V2
      obtain ⟨⟨c0, c1, c2⟩, d0, d1, d2⟩ := V2
      have hlt2 : w1.heap.size < w2.heap.size := by have := hb2.size; simp at this; omega
      clear hb2
      go_wp2_with fail
      refine (sChunkPut_no k f b _ HC.out).mono ?_
      rintro e w3 ⟨rfl, hb3⟩
      have hB3 : Below w.heap.size w w3 := hB2.trans (hb3.mono hB2.size)
      have hlt3 : w1.heap.size < w3.heap.size := Nat.lt_of_lt_of_le hlt2 hb3.size
      have V3 := HV2.out.aside (below_aside (r := w2.heap.size) hb3 (Nat.le_refl _)) hlt2 (by omega)
      clear c0 c1 c2 d0 d1 d2
      have HV3 := Lib.hid V3
      obtain ⟨⟨c0, c1, c2⟩, d0, d1, d2⟩ := V3
      clear hb3 hB2 HV2
      have E := Lib.hid (chkV_no HC.out)
      go_wp2_with fail
      refine (chunkValid_any k f b _).mono ?_
      rintro e w4 ⟨rfl, hb4⟩
      rw [E.out]
      have hB4 : Below w.heap.size w w4 := hB3.trans (hb4.mono hB3.size)
      go_wp2
      go_ret
      exact ⟨rfl, hB4⟩

theorem Var3.setBody {c : Nat} {k f : Int} {b b' : ByteArray} {w : World} (h : Var3 c k f b w) : Var3 c k f b' (w.setCell ⟨c, 2, none⟩ (.string b')) :=
  ⟨⟨cell_other (by decide) h.1.1, cell_other (by decide) h.1.2.1, World.cell?_setCell_same _ _ _ h.1.2.2⟩, by rw [World.frozen?_setCell]; exact h.2.1, by rw [World.frozen?_setCell]; exact h.2.2.1, by rw [World.frozen?_setCell]; exact h.2.2.2⟩
theorem Var3.setFar {c d : Nat} {k f : Int} {b : ByteArray} {w : World} {v : Value} (h : Var3 c k f b w) (hd : d ≠ c) : Var3 c k f b (w.setCell ⟨d, 2, none⟩ v) :=
  ⟨⟨cell_far hd h.1.1, cell_far hd h.1.2.1, cell_far hd h.1.2.2⟩, by rw [World.frozen?_setCell]; exact h.2.1, by rw [World.frozen?_setCell]; exact h.2.2.1, by rw [World.frozen?_setCell]; exact h.2.2.2⟩

set_option maxHeartbeats 1000000 in
theorem walk_fnChunkBody (a0 : Option Addr) (len0 cap0 : Nat) (z0 : List Int) (w : World) (w0 : IsRow .u8 w a0 len0 cap0 z0) :
    Calls Try.prog 5 #[.slice a0 len0 cap0] w fun e w' => e = .returned (.bool true) ∧ Below w.heap.size w w' := by
  have H := Lib.hid w0
  clear w0
  by_cases hl : (1048576 : Int) < len0
  · go_enter Try.func5, Try.ntmps5
    go_wp2
    go_ret
    exact ⟨rfl, Below.refl _ _⟩
  · go_enter Try.func5, Try.ntmps5
    go_wp2_with fail
    refine (drawChunkValid_any a0 len0 cap0 z0 _ H.out).mono ?_
    rintro e w1 ⟨k, f, b, rfl, ⟨⟨k0, k1⟩, ⟨f0, f1⟩, hbz⟩, hb1⟩
    by_cases h : Chk k f b
    · have HC := Lib.hid h
      clear h
      have E := Lib.hid (chkV_yes HC.out)
      go_wp2_with fail
      refine (chunkValid_any k f b _).mono ?_
      rintro e w2 ⟨rfl, hb2⟩
      rw [E.out]
      have hB2 : Below w.heap.size w w2 := (hb1.alloc hb1.size _).trans (hb2.mono (Nat.le_trans hb1.size (by simp)))
      have V2 := (Var3.new w1 k f b _).aside (below_aside (r := w1.heap.size + 1) hb2 (Nat.le_refl _)) (by simp) (by omega)
      have HV2 := Lib.hid V2
      obtain ⟨⟨c0, c1, c2⟩, d0, d1, d2⟩ := V2
      have hlt2 : w1.heap.size < w2.heap.size := by have := hb2.size; simp at this; omega
      clear hb2
      go_wp2_with fail
      refine (sChunkValid_any k f b _).mono ?_
      rintro e w3 ⟨rfl, hb3⟩
      rw [E.out]
      have hB3 : Below w.heap.size w w3 := hB2.trans (hb3.mono hB2.size)
      have hlt3 : w1.heap.size < w3.heap.size := Nat.lt_of_lt_of_le hlt2 hb3.size
      have V3 := HV2.out.aside (below_aside (r := w2.heap.size) hb3 (Nat.le_refl _)) hlt2 (by omega)
      clear c0 c1 c2 d0 d1 d2
      obtain ⟨⟨c0, c1, c2⟩, d0, d1, d2⟩ := V3
      clear hb3 hB2 HV2
      have hs60 := HC.out.2.2
      have hne : ¬ w1.heap.size = w3.heap.size := by omega
      have hzw := hB3.size
      have th : ((b.size : Int) / 2).toNat = b.size / 2 := by omega
      have th0 : (0 : Int) ≤ (b.size : Int) / 2 := by omega
      have th1 : (b.size : Int) / 2 ≤ b.size := by omega
      go_wp2
      go_loopw [] (fun wr => ∃ Y : ByteArray, Y.size ≤ 61 ∧ Var3 w3.heap.size k f (b.extract 0 (b.size / 2)) wr ∧ Var3 (w3.heap.size + 1) k f Y wr ∧ Below w.heap.size w wr ∧ w3.heap.size + 1 < wr.heap.size) (fun wr => 100 - szOf ((wr.cell? ⟨w3.heap.size + 1, 2, none⟩).getD undef))
      case atStart =>
        refine ⟨b, by omega, (Var3.new w3 k f (b.extract 0 (b.size / 2)) _).aside (aside_alloc (C := w3.heap.size + 1) (r := w3.heap.size + 1) _ _ (by simp)) (by omega) (by omega), ?_, (hB3.alloc hB3.size _).alloc (Nat.le_trans hB3.size (by simp)) _, by simp⟩
        have g := Var3.new (w3.alloc (.cells #[.int .i64 (k), .int .i64 (f), .string (b.extract 0 (b.size / 2))] 24)) k f b 24
        rw [show (w3.alloc (.cells #[.int .i64 (k), .int .i64 (f), .string (b.extract 0 (b.size / 2))] 24)).heap.size = w3.heap.size + 1 by simp] at g
        exact g
      case round =>
        obtain ⟨Y, hY, X1, Y1, hbr, hsz⟩ := hrel
        have HX := Lib.hid X1
        have HY := Lib.hid Y1
        obtain ⟨⟨y0, y1, y2⟩, g0, g1, g2⟩ := Y1
        clear X1
        by_cases hle : Y.size ≤ 60
        · go_wp2
          go_roundw
          case rel => exact ⟨_, by rw [ByteArray.size_append]; show Y.size + 1 ≤ 61; omega, HX.out.setFar (by omega), HY.out.setBody, hbr.setCell (by show w.heap.size ≤ w3.heap.size + 1; omega) _, by simpa using hsz⟩
          case measure => rw [World.cell?_setCell_same _ _ _ y2, y2]; show 100 - (Y ++ ByteArray.mk #[98]).size < 100 - Y.size; rw [ByteArray.size_append, show (ByteArray.mk #[98]).size = 1 from rfl]; omega
        · obtain ⟨⟨x0, x1, x2⟩, _, _, _⟩ := HX.out
          have E1 := Lib.hid (chkV_yes (show Chk k f (b.extract 0 (b.size / 2)) from ⟨HC.out.1, HC.out.2.1, by rw [ByteArray.size_extract]; omega⟩))
          have E2 := Lib.hid (chkV_no (show ¬ Chk k f Y from fun g => hle g.2.2))
          go_wp2_with fail
          refine (chunkValid_any k f (b.extract 0 (b.size / 2)) _).mono ?_
          rintro e w4 ⟨rfl, hb4⟩
          rw [E1.out]
          have V4 := HY.out.aside (below_aside (r := wr.heap.size) hb4 (Nat.le_refl _)) (by omega) (by omega)
          clear y0 y1 y2 g0 g1 g2
          obtain ⟨⟨y0, y1, y2⟩, _, _, _⟩ := V4
          have hB4 : Below w.heap.size w w4 := hbr.trans (hb4.mono hbr.size)
          clear hb4
          go_wp2_with fail
          refine (chunkValid_any k f Y _).mono ?_
          rintro e w5 ⟨rfl, hb5⟩
          rw [E2.out]
          go_wp2
          go_ret
          exact ⟨rfl, hB4.trans (hb5.mono hB4.size)⟩
    · have HC := Lib.hid h
      clear h
      have E := Lib.hid (chkV_no HC.out)
      go_wp2_with fail
      refine (chunkValid_any k f b _).mono ?_
      rintro e w2 ⟨rfl, hb2⟩
      rw [E.out]
      have hB2 : Below w.heap.size w w2 := (hb1.alloc hb1.size _).trans (hb2.mono (Nat.le_trans hb1.size (by simp)))
      have V2 := (Var3.new w1 k f b _).aside (below_aside (r := w1.heap.size + 1) hb2 (Nat.le_refl _)) (by simp) (by omega)
      have HV2 := Lib.hid V2
      obtain ⟨⟨c0, c1, c2⟩, d0, d1, d2⟩ := V2
      have hlt2 : w1.heap.size < w2.heap.size := by have := hb2.size; simp at this; omega
      clear hb2
      go_wp2_with fail
      refine (sChunkValid_any k f b _).mono ?_
      rintro e w3 ⟨rfl, hb3⟩
      rw [E.out]
      have hB3 : Below w.heap.size w w3 := hB2.trans (hb3.mono hB2.size)
      have hlt3 : w1.heap.size < w3.heap.size := Nat.lt_of_lt_of_le hlt2 hb3.size
      have V3 := HV2.out.aside (below_aside (r := w2.heap.size) hb3 (Nat.le_refl _)) hlt2 (by omega)
      clear c0 c1 c2 d0 d1 d2
      obtain ⟨⟨c0, c1, c2⟩, d0, d1, d2⟩ := V3
      clear hb3 hB2 HV2
      go_wp2
      go_ret
      exact ⟨rfl, hB3⟩

set_option maxHeartbeats 1000000 in
theorem walk_fnExactChunkValid (k f : Int) (b : ByteArray) (_w0 : (Lit.int .i64 k).wf = true) (_w1 : (Lit.int .i64 f).wf = true) (w2 : b.size ≤ maxLen) (w : World) :
    Calls Try.prog 6 #[.agg #[.int .i64 k, .int .i64 f, .string b]] w fun e w' => e = .returned (.bool true) ∧ Below w.heap.size w w' := by
  by_cases hz : b.size ≤ 1048576
  · go_enter Try.func6, Try.ntmps6
    go_wp2_with fail
    refine (szChunk_yes k f b _ hz).mono ?_
    rintro e w1 ⟨rfl, hb1⟩
    have V1 := (Var3.new w k f b _).aside (below_aside (r := w.heap.size + 1) hb1 (Nat.le_refl _)) (by simp) (by omega)
    have HV1 := Lib.hid V1
    obtain ⟨⟨c0, c1, c2⟩, _, _, _⟩ := V1
    have hB1 : Below w.heap.size w w1 := (below_box _ (Nat.le_refl _)).trans (hb1.mono (by simp))
    have hlt1 : w.heap.size < w1.heap.size := by have := hb1.size; simp at this; omega
    clear hb1
    go_wp2_with fail
    refine (toChunk_any k f b _).mono ?_
    rintro e w2 ⟨rfl, hb2⟩
    have hB2 : Below w.heap.size w w2 := hB1.trans (hb2.mono hB1.size)
    clear c0 c1 c2
    have V2 := HV1.out.aside (below_aside (r := w1.heap.size) hb2 (Nat.le_refl _)) hlt1 (by omega)
    have HV2 := Lib.hid V2
    obtain ⟨⟨c0, c1, c2⟩, _, _, _⟩ := V2
    have hlt2 : w.heap.size < w2.heap.size := Nat.lt_of_lt_of_le hlt1 hb2.size
    clear hb2
    go_wp2_with fail
    refine (sChunkValid_any k f b _).mono ?_
    rintro e w3 ⟨rfl, hb3⟩
    have hB3 : Below w.heap.size w w3 := hB2.trans (hb3.mono hB2.size)
    clear c0 c1 c2
    have V3 := HV2.out.aside (below_aside (r := w2.heap.size) hb3 (Nat.le_refl _)) hlt2 (by omega)
    have HV3 := Lib.hid V3
    obtain ⟨⟨c0, c1, c2⟩, _, _, _⟩ := V3
    have hlt3 : w.heap.size < w3.heap.size := Nat.lt_of_lt_of_le hlt2 hb3.size
    clear hb3
    go_wp2_with fail
    refine (toChunk_any k f b _).mono ?_
    rintro e w4 ⟨rfl, hb4⟩
    have hB4 : Below w.heap.size w w4 := hB3.trans (hb4.mono hB3.size)
    clear c0 c1 c2
    have V4 := HV3.out.aside (below_aside (r := w3.heap.size) hb4 (Nat.le_refl _)) hlt3 (by omega)
    have HV4 := Lib.hid V4
    obtain ⟨⟨c0, c1, c2⟩, _, _, _⟩ := V4
    have hlt4 : w.heap.size < w4.heap.size := Nat.lt_of_lt_of_le hlt3 hb4.size
    clear hb4
    go_wp2_with fail
    refine (chunkValid_any k f b _).mono ?_
    rintro e w5 ⟨rfl, hb5⟩
    have hB5 : Below w.heap.size w w5 := hB4.trans (hb5.mono hB4.size)
    clear hb5
    go_wp2
    go_ret
    exact ⟨rfl, hB5⟩
  · have hz' : 1048576 < b.size := by omega
    go_enter Try.func6, Try.ntmps6
    go_wp2_with fail
    refine (szChunk_no k f b _ hz' w2).mono ?_
    rintro e w1 ⟨rfl, hb1⟩
    go_wp2
    go_ret
    exact ⟨rfl, (below_box _ (Nat.le_refl _)).trans (hb1.mono (by simp))⟩

set_option maxHeartbeats 1000000 in
theorem walk_fnExactChunkPut (k f : Int) (b : ByteArray) (_w0 : (Lit.int .i64 k).wf = true) (_w1 : (Lit.int .i64 f).wf = true) (w2 : b.size ≤ maxLen) (w : World) :
    Calls Try.prog 7 #[.agg #[.int .i64 k, .int .i64 f, .string b]] w fun e w' => e = .returned (.bool true) ∧ Below w.heap.size w w' := by
  by_cases hz : b.size ≤ 1048576
  · go_enter Try.func7, Try.ntmps7
    go_wp2_with fail
    refine (szChunk_yes k f b _ hz).mono ?_
    rintro e w1 ⟨rfl, hb1⟩
    have V1 := (Var3.new w k f b _).aside (below_aside (r := w.heap.size + 1) hb1 (Nat.le_refl _)) (by simp) (by omega)
    have HV1 := Lib.hid V1
    obtain ⟨⟨c0, c1, c2⟩, _, _, _⟩ := V1
    have hB1 : Below w.heap.size w w1 := (below_box _ (Nat.le_refl _)).trans (hb1.mono (by simp))
    have hlt1 : w.heap.size < w1.heap.size := by have := hb1.size; simp at this; omega
    clear hb1
    by_cases h : Chk k f b
    · have HC := Lib.hid h
      clear h
      go_wp2_with fail
      refine (toChunk_any k f b _).mono ?_
      rintro e w2 ⟨rfl, hb2⟩
      have hB2 : Below w.heap.size w w2 := hB1.trans (hb2.mono hB1.size)
      clear c0 c1 c2
      have V2 := HV1.out.aside (below_aside (r := w1.heap.size) hb2 (Nat.le_refl _)) hlt1 (by omega)
      have HV2 := Lib.hid V2
      obtain ⟨⟨c0, c1, c2⟩, _, _, _⟩ := V2
      have hlt2 : w.heap.size < w2.heap.size := Nat.lt_of_lt_of_le hlt1 hb2.size
      clear hb2
      go_wp2_with fail
      refine (sChunkPut_yes k f b _ HC.out).mono ?_
      rintro e w3 ⟨rfl, hb3⟩
      have hB3 : Below w.heap.size w w3 := hB2.trans (hb3.mono hB2.size)
      clear c0 c1 c2
      have V3 := HV2.out.aside (below_aside (r := w2.heap.size) hb3 (Nat.le_refl _)) hlt2 (by omega)
      have HV3 := Lib.hid V3
      obtain ⟨⟨c0, c1, c2⟩, _, _, _⟩ := V3
      have hlt3 : w.heap.size < w3.heap.size := Nat.lt_of_lt_of_le hlt2 hb3.size
      clear hb3
      go_wp2_with fail
      refine (toChunk_any k f b _).mono ?_
      rintro e w4 ⟨rfl, hb4⟩
      have hB4 : Below w.heap.size w w4 := hB3.trans (hb4.mono hB3.size)
      clear c0 c1 c2
      have V4 := HV3.out.aside (below_aside (r := w3.heap.size) hb4 (Nat.le_refl _)) hlt3 (by omega)
      have HV4 := Lib.hid V4
      obtain ⟨⟨c0, c1, c2⟩, _, _, _⟩ := V4
      have hlt4 : w.heap.size < w4.heap.size := Nat.lt_of_lt_of_le hlt3 hb4.size
      clear hb4
      go_wp2_with fail
      refine (chunkPut_yes k f b _ HC.out).mono ?_
      rintro e w5 ⟨rfl, hb5⟩
      have hB5 : Below w.heap.size w w5 := hB4.trans (hb5.mono hB4.size)
      clear hb5
      go_wp2
      go_ret
      exact ⟨rfl, hB5⟩
    · have HC := Lib.hid h
      clear h
      go_wp2_with fail
      refine (toChunk_any k f b _).mono ?_
      rintro e w2 ⟨rfl, hb2⟩
      have hB2 : Below w.heap.size w w2 := hB1.trans (hb2.mono hB1.size)
      clear c0 c1 c2
      have V2 := HV1.out.aside (below_aside (r := w1.heap.size) hb2 (Nat.le_refl _)) hlt1 (by omega)
      have HV2 := Lib.hid V2
      obtain ⟨⟨c0, c1, c2⟩, _, _, _⟩ := V2
      have hlt2 : w.heap.size < w2.heap.size := Nat.lt_of_lt_of_le hlt1 hb2.size
      clear hb2
      go_wp2_with fail
      refine (sChunkPut_no k f b _ HC.out).mono ?_
      rintro e w3 ⟨rfl, hb3⟩
      have hB3 : Below w.heap.size w w3 := hB2.trans (hb3.mono hB2.size)
      clear c0 c1 c2
      have V3 := HV2.out.aside (below_aside (r := w2.heap.size) hb3 (Nat.le_refl _)) hlt2 (by omega)
      have HV3 := Lib.hid V3
      obtain ⟨⟨c0, c1, c2⟩, _, _, _⟩ := V3
      have hlt3 : w.heap.size < w3.heap.size := Nat.lt_of_lt_of_le hlt2 hb3.size
      clear hb3
      go_wp2_with fail
      refine (toChunk_any k f b _).mono ?_
      rintro e w4 ⟨rfl, hb4⟩
      have hB4 : Below w.heap.size w w4 := hB3.trans (hb4.mono hB3.size)
      clear c0 c1 c2
      have V4 := HV3.out.aside (below_aside (r := w3.heap.size) hb4 (Nat.le_refl _)) hlt3 (by omega)
      have HV4 := Lib.hid V4
      obtain ⟨⟨c0, c1, c2⟩, _, _, _⟩ := V4
      have hlt4 : w.heap.size < w4.heap.size := Nat.lt_of_lt_of_le hlt3 hb4.size
      clear hb4
      go_wp2_with fail
      refine (chunkPut_no k f b _ HC.out).mono ?_
      rintro e w5 ⟨rfl, hb5⟩
      have hB5 : Below w.heap.size w w5 := hB4.trans (hb5.mono hB4.size)
      clear hb5
      go_wp2
      go_ret
      exact ⟨rfl, hB5⟩
  · have hz' : 1048576 < b.size := by omega
    go_enter Try.func7, Try.ntmps7
    go_wp2_with fail
    refine (szChunk_no k f b _ hz' w2).mono ?_
    rintro e w1 ⟨rfl, hb1⟩
    go_wp2
    go_ret
    exact ⟨rfl, (below_box _ (Nat.le_refl _)).trans (hb1.mono (by simp))⟩

end Go.Proofs.Ythogaffeeadnhab
