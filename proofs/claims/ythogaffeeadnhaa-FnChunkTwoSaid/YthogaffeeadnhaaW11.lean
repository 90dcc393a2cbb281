/- The walks of the laws on chunks that are read: each call returns true and touches nothing that was there. -/
import Derived.Test.YthogaffeeadnhaaK16
import Derived.Test.YthogaffeeadnhaaK18
import Derived.Deep.RegionWith
namespace Go.Proofs.Ythogaffeeadnhaa
open Go.RowKit Go.PlainAid

theorem got_same {s t : ByteArray} {p q : Nat} (h : lenAt t q = lenAt s p ∧ bodyAt t q = bodyAt s p ∧ bt t q = bt s p ∧ bt t (q + 1) = bt s (p + 1)) {n : Int} (hn : (chunkEnd t q : Int) = n) :
    gotV (bt t q) (bt t (q + 1)) (bodyAt t q) (chunkEnd t q) = gotV (bt s p) (bt s (p + 1)) (bodyAt s p) n := by
  rw [h.2.1, h.2.2.1, h.2.2.2, hn]

set_option maxHeartbeats 1000000 in
theorem walk_fnChunkGet (a0 : Option Addr) (len0 cap0 : Nat) (z0 : List Int) (w : World) (w0 : IsRow .u8 w a0 len0 cap0 z0) :
    Calls Try.prog 3 #[.slice a0 len0 cap0] w fun e w' => e = .returned (.bool true) ∧ Below w.heap.size w w' := by
  have H := Lib.hid w0
  clear w0
  by_cases hl : (1048576 : Int) < len0
  · go_enter Try.func3, Try.ntmps3
    go_wp2
    go_ret
    exact ⟨rfl, Below.refl _ _⟩
  · go_enter Try.func3, Try.ntmps3
    go_wp2_with fail
    refine (drawChunkGet_any a0 len0 cap0 z0 _ H.out).mono ?_
    rintro e w1 ⟨s, z, rfl, ⟨hs, zl, zh⟩, hb1⟩
    have hm : s.size ≤ 100000000 := by omega
    by_cases hh : ∃ p : Nat, z = p ∧ Has s p
    · obtain ⟨p, rfl, h⟩ := hh
      have HH := Lib.hid h
      clear h
      go_wp2_with fail
      refine (chunkGet_yes s p _ hm HH.out).mono ?_
      rintro e w2 ⟨rfl, hb2⟩
      unfold gotV
      have hB2 : Below w.heap.size w w2 := hb1.trans (hb2.mono hb1.size)
      go_wp2_with fail
      refine (sChunkGet_yes s p _ hm HH.out).mono ?_
      rintro e w3 ⟨rfl, hb3⟩
      unfold gotV
      have V3 := (Var3.new w2 (bt s p) (bt s (p + 1)) (bodyAt s p) _).aside (below_aside (r := w2.heap.size + 1) hb3 (Nat.le_refl _)) (by simp) (by omega)
      have HV3 := Lib.hid V3
      obtain ⟨⟨c0, c1, c2⟩, d0, d1, d2⟩ := V3
      have hlt : w2.heap.size < w3.heap.size := by have := hb3.size; simp at this; omega
      have hB3 : Below w.heap.size w w3 := (hB2.alloc hB2.size _).trans (hb3.mono (Nat.le_trans hB2.size (by simp)))
      clear hb2 hb3 hB2
      have e0 : p + 4 ≤ chunkEnd s p := by have := HH.out.2.1; unfold chunkEnd; omega
      have e1 : chunkEnd s p ≤ s.size := HH.out.2.2.2.1
      have e2 : (p : Int) ≤ chunkEnd s p := by omega
      have e3 : (chunkEnd s p : Int) ≤ s.size := by omega
      have X := has_text HH.out
      have HC := Lib.hid (has_chk HH.out)
      have tn : ((chunkEnd s p : Nat) : Int).toNat = chunkEnd s p := rfl
      have hBW : Below w.heap.size w (w3.alloc (.cells #[.int .i64 (bt s p), .int .i64 (bt s (p + 1)), .string (bodyAt s p)] 26)).drew := (hB3.alloc hB3.size _).drew
      have HS := Lib.hid hBW.size
      go_wp2_with fail
      go_region_with (go_at_call 14; refine (chunkPut_yes (bt s p) (bt s (p + 1)) (bodyAt s p) _ HC.out).mono ?_; rintro e w4 ⟨rfl, hb4⟩; have hB4 := hBW.trans (hb4.mono HS.out))
      all_goals (go_wp2; go_ret; exact ⟨rfl, hB4⟩)
    · have HN := Lib.hid (show ∀ p : Nat, z = p → ¬ Has s p from fun p e h => hh ⟨p, e, h⟩)
      clear hh
      go_wp2_with fail
      refine (chunkGet_no s z _ hm HN.out).mono ?_
      rintro e w2 ⟨rfl, hb2⟩
      unfold noneV
      have hB2 : Below w.heap.size w w2 := hb1.trans (hb2.mono hb1.size)
      go_wp2_with fail
      refine (sChunkGet_no s z _ hm HN.out).mono ?_
      rintro e w3 ⟨rfl, hb3⟩
      unfold noneV
      obtain ⟨⟨c0, c1, c2⟩, d0, d1, d2⟩ := (Var3.new w2 0 0 (ByteArray.mk #[]) _).aside (below_aside (r := w2.heap.size + 1) hb3 (Nat.le_refl _)) (by simp) (by omega)
      have hlt : w2.heap.size < w3.heap.size := by have := hb3.size; simp at this; omega
      have hB3 : Below w.heap.size w w3 := (hB2.alloc hB2.size _).trans (hb3.mono (Nat.le_trans hB2.size (by simp)))
      clear hb2 hb3 hB2
      go_wp2
      go_ret
      exact ⟨rfl, hB3.alloc hB3.size _⟩

set_option maxHeartbeats 1000000 in
theorem walk_fnChunkGetCut (a0 : Option Addr) (len0 cap0 : Nat) (z0 : List Int) (w : World) (w0 : IsRow .u8 w a0 len0 cap0 z0) :
    Calls Try.prog 4 #[.slice a0 len0 cap0] w fun e w' => e = .returned (.bool true) ∧ Below w.heap.size w w' := by
  have H := Lib.hid w0
  clear w0
  by_cases hl : (1048576 : Int) < len0
  · go_enter Try.func4, Try.ntmps4
    go_wp2
    go_ret
    exact ⟨rfl, Below.refl _ _⟩
  · go_enter Try.func4, Try.ntmps4
    go_wp2_with fail
    refine (drawChunkGet_any a0 len0 cap0 z0 _ H.out).mono ?_
    rintro e w1 ⟨s, z, rfl, ⟨hs, zl, zh⟩, hb1⟩
    have hm : s.size ≤ 100000000 := by omega
    by_cases hh : ∃ p : Nat, z = p ∧ Has s p
    · obtain ⟨p, rfl, h⟩ := hh
      have HH := Lib.hid h
      clear h
      go_wp2_with fail
      refine (chunkGet_yes s p _ hm HH.out).mono ?_
      rintro e w2 ⟨rfl, hb2⟩
      unfold gotV
      have hB2 : Below w.heap.size w w2 := hb1.trans (hb2.mono hb1.size)
      go_wp2_with fail
      refine (sChunkGet_yes s p _ hm HH.out).mono ?_
      rintro e w3 ⟨rfl, hb3⟩
      unfold gotV
      have V3 := (Var3.new w2 (bt s p) (bt s (p + 1)) (bodyAt s p) _).aside (below_aside (r := w2.heap.size + 1) hb3 (Nat.le_refl _)) (by simp) (by omega)
      have HV3 := Lib.hid V3
      obtain ⟨⟨c0, c1, c2⟩, d0, d1, d2⟩ := V3
      have hlt : w2.heap.size < w3.heap.size := by have := hb3.size; simp at this; omega
      have hB3 : Below w.heap.size w w3 := (hB2.alloc hB2.size _).trans (hb3.mono (Nat.le_trans hB2.size (by simp)))
      clear hb2 hb3 hB2
      have e0 : p + 4 ≤ chunkEnd s p := by have := HH.out.2.1; unfold chunkEnd; omega
      have e1 : chunkEnd s p ≤ s.size := HH.out.2.2.2.1
      have e2 : (p : Int) ≤ chunkEnd s p := by omega
      have e3 : (chunkEnd s p : Int) ≤ s.size := by omega
      have tn : ((chunkEnd s p : Int) - 1).toNat = chunkEnd s p - 1 := by omega
      have HM := Lib.hid (show ∀ q : Nat, (p : Int) = q → ¬ Has (s.extract 0 (chunkEnd s p - 1)) q from fun q e => by obtain rfl : p = q := (by omega); exact has_cut HH.out)
      have hz : (s.extract 0 (chunkEnd s p - 1)).size ≤ 100000000 := by rw [ByteArray.size_extract]; omega
      go_wp2_with fail
      refine (chunkGet_no (s.extract 0 (chunkEnd s p - 1)) p _ hz HM.out).mono ?_
      rintro e w4 ⟨rfl, hb4⟩
      unfold noneV
      have hB4 : Below w.heap.size w w4 := (hB3.alloc hB3.size _).trans (hb4.mono (Nat.le_trans hB3.size (by simp)))
      go_wp2
      go_ret
      exact ⟨rfl, hB4.alloc hB4.size _⟩
    · have HN := Lib.hid (show ∀ p : Nat, z = p → ¬ Has s p from fun p e h => hh ⟨p, e, h⟩)
      clear hh
      go_wp2_with fail
      refine (chunkGet_no s z _ hm HN.out).mono ?_
      rintro e w2 ⟨rfl, hb2⟩
      unfold noneV
      have hB2 : Below w.heap.size w w2 := hb1.trans (hb2.mono hb1.size)
      go_wp2_with fail
      refine (sChunkGet_no s z _ hm HN.out).mono ?_
      rintro e w3 ⟨rfl, hb3⟩
      unfold noneV
      obtain ⟨⟨c0, c1, c2⟩, d0, d1, d2⟩ := (Var3.new w2 0 0 (ByteArray.mk #[]) _).aside (below_aside (r := w2.heap.size + 1) hb3 (Nat.le_refl _)) (by simp) (by omega)
      have hlt : w2.heap.size < w3.heap.size := by have := hb3.size; simp at this; omega
      have hB3 : Below w.heap.size w w3 := (hB2.alloc hB2.size _).trans (hb3.mono (Nat.le_trans hB2.size (by simp)))
      clear hb2 hb3 hB2
      go_wp2
      go_ret
      exact ⟨rfl, hB3.alloc hB3.size _⟩

set_option maxHeartbeats 1000000 in
theorem walk_fnChunkGetMore (a0 : Option Addr) (len0 cap0 : Nat) (z0 : List Int) (w : World) (w0 : IsRow .u8 w a0 len0 cap0 z0) :
    Calls Try.prog 5 #[.slice a0 len0 cap0] w fun e w' => e = .returned (.bool true) ∧ Below w.heap.size w w' := by
  have H := Lib.hid w0
  clear w0
  by_cases hl : (1048576 : Int) < len0
  · go_enter Try.func5, Try.ntmps5
    go_wp2
    go_ret
    exact ⟨rfl, Below.refl _ _⟩
  · go_enter Try.func5, Try.ntmps5
    go_wp2_with fail
    refine (drawChunkGet_any a0 len0 cap0 z0 _ H.out).mono ?_
    rintro e w1 ⟨s, z, rfl, ⟨hs, zl, zh⟩, hb1⟩
    have hm : s.size ≤ 100000000 := by omega
    by_cases hh : ∃ p : Nat, z = p ∧ Has s p
    · obtain ⟨p, rfl, h⟩ := hh
      have HH := Lib.hid h
      clear h
      go_wp2_with fail
      refine (chunkGet_yes s p _ hm HH.out).mono ?_
      rintro e w2 ⟨rfl, hb2⟩
      unfold gotV
      have hB2 : Below w.heap.size w w2 := hb1.trans (hb2.mono hb1.size)
      go_wp2_with fail
      refine (sChunkGet_yes s p _ hm HH.out).mono ?_
      rintro e w3 ⟨rfl, hb3⟩
      unfold gotV
      have V3 := (Var3.new w2 (bt s p) (bt s (p + 1)) (bodyAt s p) _).aside (below_aside (r := w2.heap.size + 1) hb3 (Nat.le_refl _)) (by simp) (by omega)
      have HV3 := Lib.hid V3
      obtain ⟨⟨c0, c1, c2⟩, d0, d1, d2⟩ := V3
      have hlt : w2.heap.size < w3.heap.size := by have := hb3.size; simp at this; omega
      have hB3 : Below w.heap.size w w3 := (hB2.alloc hB2.size _).trans (hb3.mono (Nat.le_trans hB2.size (by simp)))
      clear hb2 hb3 hB2
      have e0 : p + 4 ≤ chunkEnd s p := by have := HH.out.2.1; unfold chunkEnd; omega
      have e1 : chunkEnd s p ≤ s.size := HH.out.2.2.2.1
      have e2 : (p : Int) ≤ chunkEnd s p := by omega
      have e3 : (chunkEnd s p : Int) ≤ s.size := by omega
      have g := has_more HH.out (ByteArray.mk #[120, 121, 122])
      have hg := got_same g.2 (n := (chunkEnd s p : Int)) (by have := end_eq g.2.1; omega)
      have HG := Lib.hid hg
      have G1 := Lib.hid g.1
      clear g hg
      have tz : (ByteArray.mk #[120, 121, 122]).size = 3 := rfl
      have hz : (s.extract 0 (chunkEnd s p) ++ ByteArray.mk #[120, 121, 122]).size ≤ 100000000 := by rw [ByteArray.size_append, ByteArray.size_extract]; omega
      clear tz
      go_wp2_with fail
      refine (chunkGet_yes (s.extract 0 (chunkEnd s p) ++ ByteArray.mk #[120, 121, 122]) p _ hz G1.out).mono ?_
      rintro e w4 ⟨rfl, hb4⟩
      rw [HG.out]
      unfold gotV
      have V4 := ((HV3.out.aside (aside_alloc (C := w2.heap.size + 1) (r := w2.heap.size + 1) w3 (.cells #[.int .i64 (bt s p), .int .i64 (bt s (p + 1)), .string (bodyAt s p)] 26) hlt) (by omega) (by omega)).aside (below_aside (C := w2.heap.size + 1) (r := w2.heap.size + 1) hb4 (by simp; omega)) (by omega) (by omega))
      obtain ⟨⟨k0, k1, k2⟩, l0, l1, l2⟩ := V4
      have hB4 : Below w.heap.size w w4 := (hB3.alloc hB3.size _).trans (hb4.mono (Nat.le_trans hB3.size (by simp)))
      have hlt4 : w2.heap.size < w4.heap.size := by have := hb4.size; simp at this; omega
      go_wp2
      go_ret
      exact ⟨rfl, hB4.alloc hB4.size _⟩
    · have HN := Lib.hid (show ∀ p : Nat, z = p → ¬ Has s p from fun p e h => hh ⟨p, e, h⟩)
      clear hh
      go_wp2_with fail
      refine (chunkGet_no s z _ hm HN.out).mono ?_
      rintro e w2 ⟨rfl, hb2⟩
      unfold noneV
      have hB2 : Below w.heap.size w w2 := hb1.trans (hb2.mono hb1.size)
      go_wp2_with fail
      refine (sChunkGet_no s z _ hm HN.out).mono ?_
      rintro e w3 ⟨rfl, hb3⟩
      unfold noneV
      obtain ⟨⟨c0, c1, c2⟩, d0, d1, d2⟩ := (Var3.new w2 0 0 (ByteArray.mk #[]) _).aside (below_aside (r := w2.heap.size + 1) hb3 (Nat.le_refl _)) (by simp) (by omega)
      have hlt : w2.heap.size < w3.heap.size := by have := hb3.size; simp at this; omega
      have hB3 : Below w.heap.size w w3 := (hB2.alloc hB2.size _).trans (hb3.mono (Nat.le_trans hB2.size (by simp)))
      clear hb2 hb3 hB2
      go_wp2
      go_ret
      exact ⟨rfl, hB3.alloc hB3.size _⟩

set_option maxHeartbeats 1000000 in
theorem walk_fnChunkGetMove (a0 : Option Addr) (len0 cap0 : Nat) (z0 : List Int) (w : World) (w0 : IsRow .u8 w a0 len0 cap0 z0) :
    Calls Try.prog 6 #[.slice a0 len0 cap0] w fun e w' => e = .returned (.bool true) ∧ Below w.heap.size w w' := by
  have H := Lib.hid w0
  clear w0
  by_cases hl : (1048576 : Int) < len0
  · go_enter Try.func6, Try.ntmps6
    go_wp2
    go_ret
    exact ⟨rfl, Below.refl _ _⟩
  · go_enter Try.func6, Try.ntmps6
    go_wp2_with fail
    refine (drawChunkGet_any a0 len0 cap0 z0 _ H.out).mono ?_
    rintro e w1 ⟨s, z, rfl, ⟨hs, zl, zh⟩, hb1⟩
    have hm : s.size ≤ 100000000 := by omega
    by_cases hh : ∃ p : Nat, z = p ∧ Has s p
    · obtain ⟨p, rfl, h⟩ := hh
      have HH := Lib.hid h
      clear h
      go_wp2_with fail
      refine (chunkGet_yes s p _ hm HH.out).mono ?_
      rintro e w2 ⟨rfl, hb2⟩
      unfold gotV
      have hB2 : Below w.heap.size w w2 := hb1.trans (hb2.mono hb1.size)
      go_wp2_with fail
      refine (sChunkGet_yes s p _ hm HH.out).mono ?_
      rintro e w3 ⟨rfl, hb3⟩
      unfold gotV
      have V3 := (Var3.new w2 (bt s p) (bt s (p + 1)) (bodyAt s p) _).aside (below_aside (r := w2.heap.size + 1) hb3 (Nat.le_refl _)) (by simp) (by omega)
      have HV3 := Lib.hid V3
      obtain ⟨⟨c0, c1, c2⟩, d0, d1, d2⟩ := V3
      have hlt : w2.heap.size < w3.heap.size := by have := hb3.size; simp at this; omega
      have hB3 : Below w.heap.size w w3 := (hB2.alloc hB2.size _).trans (hb3.mono (Nat.le_trans hB2.size (by simp)))
      clear hb2 hb3 hB2
      have e0 : p + 4 ≤ chunkEnd s p := by have := HH.out.2.1; unfold chunkEnd; omega
      have e1 : chunkEnd s p ≤ s.size := HH.out.2.2.2.1
      have e2 : (p : Int) ≤ chunkEnd s p := by omega
      have e3 : (chunkEnd s p : Int) ≤ s.size := by omega
      have g := has_move HH.out (ByteArray.mk #[97, 98, 99])
      rw [show (ByteArray.mk #[97, 98, 99]).size = 3 from rfl] at g
      have hg := got_same g.2 (n := (chunkEnd s p : Int) + 3) (by have := end_eq g.2.1; omega)
      have HG := Lib.hid hg
      have G1 := Lib.hid g.1
      clear g hg
      have tz : (ByteArray.mk #[97, 98, 99]).size = 3 := rfl
      have hz : (ByteArray.mk #[97, 98, 99] ++ s).size ≤ 100000000 := by rw [ByteArray.size_append]; omega
      clear tz
      go_wp2_with fail
      rw [show (p : Int) + 3 = ((p + 3 : Nat) : Int) by omega]
      refine (chunkGet_yes (ByteArray.mk #[97, 98, 99] ++ s) (p + 3) _ hz G1.out).mono ?_
      rintro e w4 ⟨rfl, hb4⟩
      rw [HG.out]
      unfold gotV
      have V4 := ((HV3.out.aside (aside_alloc (C := w2.heap.size + 1) (r := w2.heap.size + 1) w3 (.cells #[.int .i64 (bt s p), .int .i64 (bt s (p + 1)), .string (bodyAt s p)] 26) hlt) (by omega) (by omega)).aside (below_aside (C := w2.heap.size + 1) (r := w2.heap.size + 1) hb4 (by simp; omega)) (by omega) (by omega))
      obtain ⟨⟨k0, k1, k2⟩, l0, l1, l2⟩ := V4
      have hB4 : Below w.heap.size w w4 := (hB3.alloc hB3.size _).trans (hb4.mono (Nat.le_trans hB3.size (by simp)))
      have hlt4 : w2.heap.size < w4.heap.size := by have := hb4.size; simp at this; omega
      go_wp2
      go_ret
      exact ⟨rfl, hB4.alloc hB4.size _⟩
    · have HN := Lib.hid (show ∀ p : Nat, z = p → ¬ Has s p from fun p e h => hh ⟨p, e, h⟩)
      clear hh
      go_wp2_with fail
      refine (chunkGet_no s z _ hm HN.out).mono ?_
      rintro e w2 ⟨rfl, hb2⟩
      unfold noneV
      have hB2 : Below w.heap.size w w2 := hb1.trans (hb2.mono hb1.size)
      go_wp2_with fail
      refine (sChunkGet_no s z _ hm HN.out).mono ?_
      rintro e w3 ⟨rfl, hb3⟩
      unfold noneV
      obtain ⟨⟨c0, c1, c2⟩, d0, d1, d2⟩ := (Var3.new w2 0 0 (ByteArray.mk #[]) _).aside (below_aside (r := w2.heap.size + 1) hb3 (Nat.le_refl _)) (by simp) (by omega)
      have hlt : w2.heap.size < w3.heap.size := by have := hb3.size; simp at this; omega
      have hB3 : Below w.heap.size w w3 := (hB2.alloc hB2.size _).trans (hb3.mono (Nat.le_trans hB2.size (by simp)))
      clear hb2 hb3 hB2
      go_wp2
      go_ret
      exact ⟨rfl, hB3.alloc hB3.size _⟩

set_option maxHeartbeats 1000000 in
theorem walk_fnChunkPad (a0 : Option Addr) (len0 cap0 : Nat) (z0 : List Int) (w : World) (w0 : IsRow .u8 w a0 len0 cap0 z0) :
    Calls Try.prog 7 #[.slice a0 len0 cap0] w fun e w' => e = .returned (.bool true) ∧ Below w.heap.size w w' := by
  have H := Lib.hid w0
  clear w0
  by_cases hl : (1048576 : Int) < len0
  · go_enter Try.func7, Try.ntmps7
    go_wp2
    go_ret
    exact ⟨rfl, Below.refl _ _⟩
  · go_enter Try.func7, Try.ntmps7
    go_wp2_with fail
    refine (drawChunkGet_any a0 len0 cap0 z0 _ H.out).mono ?_
    rintro e w1 ⟨s, z, rfl, ⟨hs, zl, zh⟩, hb1⟩
    have hm : s.size ≤ 100000000 := by omega
    by_cases hh : ∃ p : Nat, z = p ∧ Has s p
    · obtain ⟨p, rfl, h⟩ := hh
      have HH := Lib.hid h
      clear h
      go_wp2_with fail
      refine (chunkGet_yes s p _ hm HH.out).mono ?_
      rintro e w2 ⟨rfl, hb2⟩
      unfold gotV
      have hB2 : Below w.heap.size w w2 := hb1.trans (hb2.mono hb1.size)
      go_wp2_with fail
      refine (sChunkGet_yes s p _ hm HH.out).mono ?_
      rintro e w3 ⟨rfl, hb3⟩
      unfold gotV
      have V3 := (Var3.new w2 (bt s p) (bt s (p + 1)) (bodyAt s p) _).aside (below_aside (r := w2.heap.size + 1) hb3 (Nat.le_refl _)) (by simp) (by omega)
      have HV3 := Lib.hid V3
      obtain ⟨⟨c0, c1, c2⟩, d0, d1, d2⟩ := V3
      have hlt : w2.heap.size < w3.heap.size := by have := hb3.size; simp at this; omega
      have hB3 : Below w.heap.size w w3 := (hB2.alloc hB2.size _).trans (hb3.mono (Nat.le_trans hB2.size (by simp)))
      clear hb2 hb3 hB2
      have e0 : p + 4 ≤ chunkEnd s p := by have := HH.out.2.1; unfold chunkEnd; omega
      have e1 : chunkEnd s p ≤ s.size := HH.out.2.2.2.1
      have e2 : (p : Int) ≤ chunkEnd s p := by omega
      have e3 : (chunkEnd s p : Int) ≤ s.size := by omega
      have hbs : (bodyAt s p).size ≤ 100 := by have := bodyAt_size HH.out; have := HH.out.2.2.1; omega
      have hbz : (bodyAt s p).size + 4 = lenAt s p := by have := bodyAt_size HH.out; have := HH.out.2.1; omega
      by_cases hp : chunkEnd s p = p + lenAt s p
      · have d0 : ((chunkEnd s p : Int) - p == 4 + ((bodyAt s p).size : Int)) = true := by simp; omega
        clear hp hbz
        go_wp2
        go_ret
        exact ⟨rfl, hB3.alloc hB3.size _⟩
      · have d0 : ((chunkEnd s p : Int) - p == 4 + ((bodyAt s p).size : Int)) = false := by simp; omega
        have tn : ((chunkEnd s p : Int) - 1).toNat = chunkEnd s p - 1 := by omega
        have hx : bt (ByteArray.mk #[1]) 0 ≠ 0 := by decide
        have HM := Lib.hid (show ∀ q : Nat, (p : Int) = q → ¬ Has (s.extract 0 (chunkEnd s p - 1) ++ ByteArray.mk #[1]) q from fun q e => by obtain rfl : p = q := (by omega); exact has_pad HH.out hp _ hx)
        have tz : (ByteArray.mk #[1]).size = 1 := rfl
        have hz : (s.extract 0 (chunkEnd s p - 1) ++ ByteArray.mk #[1]).size ≤ 100000000 := by rw [ByteArray.size_append, ByteArray.size_extract]; omega
        have HL := Lib.hid (has_last HH.out hp)
        clear tz hx hp hbz
        go_wp2_with fail
        refine (chunkGet_no (s.extract 0 (chunkEnd s p - 1) ++ ByteArray.mk #[1]) p _ hz HM.out).mono ?_
        rintro e w4 ⟨rfl, hb4⟩
        unfold noneV
        have hB4 : Below w.heap.size w w4 := (hB3.alloc hB3.size _).trans (hb4.mono (Nat.le_trans hB3.size (by simp)))
        have hbt := get_bt s
        have q0 : (0 : Int) ≤ (chunkEnd s p : Int) - 1 := by omega
        have q1 : (chunkEnd s p : Int) - 1 < s.size := by omega
        have q2 := HL.out
        go_wp2
        go_ret
        exact ⟨rfl, hB4.alloc hB4.size _⟩
    · have HN := Lib.hid (show ∀ p : Nat, z = p → ¬ Has s p from fun p e h => hh ⟨p, e, h⟩)
      clear hh
      go_wp2_with fail
      refine (chunkGet_no s z _ hm HN.out).mono ?_
      rintro e w2 ⟨rfl, hb2⟩
      unfold noneV
      have hB2 : Below w.heap.size w w2 := hb1.trans (hb2.mono hb1.size)
      go_wp2_with fail
      refine (sChunkGet_no s z _ hm HN.out).mono ?_
      rintro e w3 ⟨rfl, hb3⟩
      unfold noneV
      obtain ⟨⟨c0, c1, c2⟩, d0, d1, d2⟩ := (Var3.new w2 0 0 (ByteArray.mk #[]) _).aside (below_aside (r := w2.heap.size + 1) hb3 (Nat.le_refl _)) (by simp) (by omega)
      have hlt : w2.heap.size < w3.heap.size := by have := hb3.size; simp at this; omega
      have hB3 : Below w.heap.size w w3 := (hB2.alloc hB2.size _).trans (hb3.mono (Nat.le_trans hB2.size (by simp)))
      clear hb2 hb3 hB2
      go_wp2
      go_ret
      exact ⟨rfl, hB3.alloc hB3.size _⟩

set_option maxHeartbeats 1000000 in
theorem eqChunk_same (k f : Int) (b : ByteArray) (w : World) :
    Calls Try.prog 16 #[.agg #[.int .i64 k, .int .i64 f, .string b], .agg #[.int .i64 k, .int .i64 f, .string b]] w fun e w' => e = .returned (.bool true) ∧ Below w.heap.size w w' := by
  go_enter Try.func16, Try.ntmps16
  go_wp2
  go_ret
  exact ⟨rfl, (below_box _ (Nat.le_refl _)).alloc (by simp) _⟩

set_option maxHeartbeats 1000000 in
theorem walk_fnExactChunkGet (s : ByteArray) (z : Int) (_w0 : s.size ≤ maxLen) (_w1 : (Lit.int .i64 z).wf = true) (w : World) :
    Calls Try.prog 9 #[.string s, .int .i64 z] w fun e w' => e = .returned (.bool true) ∧ Below w.heap.size w w' := by
  by_cases hl : (1048576 : Int) < s.size
  · go_enter Try.func9, Try.ntmps9
    go_wp2
    go_ret
    exact ⟨rfl, Below.refl _ _⟩
  · have hm : s.size ≤ 100000000 := by omega
    by_cases hh : ∃ p : Nat, z = p ∧ Has s p
    · obtain ⟨p, rfl, h⟩ := hh
      have HH := Lib.hid h
      clear h
      go_enter Try.func9, Try.ntmps9
      go_wp2_with fail
      refine (sChunkGet_yes s p _ hm HH.out).mono ?_
      rintro e w2 ⟨rfl, hb2⟩
      unfold gotV
      go_wp2_with fail
      refine (chunkGet_yes s p _ hm HH.out).mono ?_
      rintro e w3 ⟨rfl, hb3⟩
      unfold gotV
      obtain ⟨⟨c0, c1, c2⟩, d0, d1, d2⟩ := (Var3.new w2 (bt s p) (bt s (p + 1)) (bodyAt s p) _).aside (below_aside (r := w2.heap.size + 1) hb3 (Nat.le_refl _)) (by simp) (by omega)
      have hlt : w2.heap.size < w3.heap.size := by have := hb3.size; simp at this; omega
      have hB2 := hb2
      have hB3 : Below w.heap.size w w3 := (hB2.alloc hB2.size _).trans (hb3.mono (Nat.le_trans hB2.size (by simp)))
      clear hb2 hb3 hB2
      go_wp2_with fail
      refine (eqChunk_same (bt s p) (bt s (p + 1)) (bodyAt s p) _).mono ?_
      rintro e w4 ⟨rfl, hb4⟩
      have hB4 : Below w.heap.size w w4 := (hB3.alloc hB3.size _).trans (hb4.mono (Nat.le_trans hB3.size (by simp)))
      go_wp2
      go_ret
      exact ⟨rfl, hB4⟩
    · have HN := Lib.hid (show ∀ p : Nat, z = p → ¬ Has s p from fun p e h => hh ⟨p, e, h⟩)
      clear hh
      go_enter Try.func9, Try.ntmps9
      go_wp2_with fail
      refine (sChunkGet_no s z _ hm HN.out).mono ?_
      rintro e w2 ⟨rfl, hb2⟩
      unfold noneV
      go_wp2_with fail
      refine (chunkGet_no s z _ hm HN.out).mono ?_
      rintro e w3 ⟨rfl, hb3⟩
      unfold noneV
      obtain ⟨⟨c0, c1, c2⟩, d0, d1, d2⟩ := (Var3.new w2 0 0 (ByteArray.mk #[]) _).aside (below_aside (r := w2.heap.size + 1) hb3 (Nat.le_refl _)) (by simp) (by omega)
      have hlt : w2.heap.size < w3.heap.size := by have := hb3.size; simp at this; omega
      have hB2 := hb2
      have hB3 : Below w.heap.size w w3 := (hB2.alloc hB2.size _).trans (hb3.mono (Nat.le_trans hB2.size (by simp)))
      clear hb2 hb3 hB2
      go_wp2_with fail
      refine (eqChunk_same 0 0 (ByteArray.mk #[]) _).mono ?_
      rintro e w4 ⟨rfl, hb4⟩
      have hB4 : Below w.heap.size w w4 := (hB3.alloc hB3.size _).trans (hb4.mono (Nat.le_trans hB3.size (by simp)))
      go_wp2
      go_ret
      exact ⟨rfl, hB4⟩

set_option maxHeartbeats 1000000 in
theorem walk_fnChunkPutGet (a0 : Option Addr) (len0 cap0 : Nat) (z0 : List Int) (w : World) (w0 : IsRow .u8 w a0 len0 cap0 z0) :
    Calls Try.prog 10 #[.slice a0 len0 cap0] w fun e w' => e = .returned (.bool true) ∧ Below w.heap.size w w' := by
  have H := Lib.hid w0
  clear w0
  by_cases hl : (1048576 : Int) < len0
  · go_enter Try.func10, Try.ntmps10
    go_wp2
    go_ret
    exact ⟨rfl, Below.refl _ _⟩
  · go_enter Try.func10, Try.ntmps10
    go_wp2_with fail
    refine (drawChunkPut_any a0 len0 cap0 z0 _ H.out).mono ?_
    rintro e w1 ⟨k, f, b, rfl, ⟨⟨k0, k1⟩, ⟨f0, f1⟩, hbz⟩, hb1⟩
    by_cases h : Chk k f b
    · have HC := Lib.hid h
      clear h
      have HT := Lib.hid (text_some (s := chunkS k f b) (by rw [chunkS_size]; omega))
      have ne1 := HT.out
      have ne2 : (chunkS k f b).toList.isEmpty = false := by simpa using HT.out
      go_wp2_with fail
      refine (chunkPut_yes k f b _ HC.out).mono ?_
      rintro e w2 ⟨rfl, hb2⟩
      have hB2 : Below w.heap.size w w2 := (hb1.alloc hb1.size _).trans (hb2.mono (Nat.le_trans hb1.size (by simp)))
      have V2 := (Var3.new w1 k f b _).aside (below_aside (r := w1.heap.size + 1) hb2 (Nat.le_refl _)) (by simp) (by omega)
      have HV2 := Lib.hid V2
      obtain ⟨⟨c0, c1, c2⟩, d0, d1, d2⟩ := V2
      have hlt2 : w1.heap.size < w2.heap.size := by have := hb2.size; simp at this; omega
      clear hb2
      go_wp2_with fail
      refine (sChunkPut_yes k f b _ HC.out).mono ?_
      rintro e w3 ⟨rfl, hb3⟩
      have hB3 : Below w.heap.size w w3 := hB2.trans (hb3.mono hB2.size)
      have hlt3 : w1.heap.size < w3.heap.size := Nat.lt_of_lt_of_le hlt2 hb3.size
      have V3 := HV2.out.aside (below_aside (r := w2.heap.size) hb3 (Nat.le_refl _)) hlt2 (by omega)
      clear c0 c1 c2 d0 d1 d2
      have HV3 := Lib.hid V3
      obtain ⟨⟨c0, c1, c2⟩, d0, d1, d2⟩ := V3
      clear hb3 hB2 HV2
      have hz : (chunkS k f b).size ≤ 100000000 := by have := chunkS_le k f b HC.out.2.2; omega
      have G := Lib.hid (show gotV (bt (chunkS k f b) 0) (bt (chunkS k f b) (0 + 1)) (bodyAt (chunkS k f b) 0) (chunkEnd (chunkS k f b) 0) = gotV k f b (chunkS k f b).size by rw [bt_first k f b HC.out, bt_second k f b HC.out, bodyAt_chunkS k f b HC.out.2.2, chunkEnd_chunkS k f b HC.out.2.2])
      go_wp2_with fail
      refine (chunkGet_yes (chunkS k f b) 0 _ hz (has_chunkS k f b HC.out.2.2)).mono ?_
      rintro e w4 ⟨rfl, hb4⟩
      rw [G.out]
      unfold gotV
      have hB4 : Below w.heap.size w w4 := hB3.trans (hb4.mono hB3.size)
      have hlt4 : w1.heap.size < w4.heap.size := Nat.lt_of_lt_of_le hlt3 hb4.size
      have V4 := HV3.out.aside (below_aside (r := w3.heap.size) hb4 (Nat.le_refl _)) hlt3 (by omega)
      clear c0 c1 c2 d0 d1 d2
      obtain ⟨⟨c0, c1, c2⟩, d0, d1, d2⟩ := V4
      clear hb4
      go_wp2
      go_ret
      exact ⟨rfl, hB4.alloc hB4.size _⟩
    · have HC := Lib.hid h
      clear h
      go_wp2_with fail
      refine (chunkPut_no k f b _ HC.out).mono ?_
      rintro e w2 ⟨rfl, hb2⟩
      have hB2 : Below w.heap.size w w2 := (hb1.alloc hb1.size _).trans (hb2.mono (Nat.le_trans hb1.size (by simp)))
      have V2 := (Var3.new w1 k f b _).aside (below_aside (r := w1.heap.size + 1) hb2 (Nat.le_refl _)) (by simp) (by omega)
      have HV2 := Lib.hid V2
      obtain ⟨⟨c0, c1, c2⟩, d0, d1, d2⟩ := V2
      have hlt2 : w1.heap.size < w2.heap.size := by have := hb2.size; simp at this; omega
      clear hb2
      go_wp2_with fail
      refine (sChunkPut_no k f b _ HC.out).mono ?_
      rintro e w3 ⟨rfl, hb3⟩
      have hB3 : Below w.heap.size w w3 := hB2.trans (hb3.mono hB2.size)
      have hlt3 : w1.heap.size < w3.heap.size := Nat.lt_of_lt_of_le hlt2 hb3.size
      have V3 := HV2.out.aside (below_aside (r := w2.heap.size) hb3 (Nat.le_refl _)) hlt2 (by omega)
      clear c0 c1 c2 d0 d1 d2
      have HV3 := Lib.hid V3
      obtain ⟨⟨c0, c1, c2⟩, d0, d1, d2⟩ := V3
      clear hb3 hB2 HV2
      go_wp2
      go_ret
      exact ⟨rfl, hB3⟩

set_option maxHeartbeats 1000000 in
theorem walk_fnChunkTwo (a0 : Option Addr) (len0 cap0 : Nat) (z0 : List Int) (a1 : Option Addr) (len1 cap1 : Nat) (z1 : List Int) (w : World) (w0 : IsRow .u8 w a0 len0 cap0 z0) (w1 : IsRow .u8 w a1 len1 cap1 z1) :
    Calls Try.prog 8 #[.slice a0 len0 cap0, .slice a1 len1 cap1] w fun e w' => e = .returned (.bool true) ∧ Below w.heap.size w w' := by
  have H := Lib.hid w0
  have H1 := Lib.hid w1
  clear w0 w1
  by_cases hl : (1048576 : Int) < len0
  · go_enter Try.func8, Try.ntmps8
    go_wp2
    go_ret
    exact ⟨rfl, Below.refl _ _⟩
  by_cases hl1 : (1048576 : Int) < len1
  · go_enter Try.func8, Try.ntmps8
    go_wp2
    go_ret
    exact ⟨rfl, Below.refl _ _⟩
  · go_enter Try.func8, Try.ntmps8
    go_wp2_with fail
    refine (drawChunkGet_any a0 len0 cap0 z0 _ H.out).mono ?_
    rintro e w1 ⟨s, z, rfl, ⟨hs, zl, zh⟩, hb1⟩
    have hm : s.size ≤ 100000000 := by omega
    by_cases hh : ∃ p : Nat, z = p ∧ Has s p
    · obtain ⟨p, rfl, h⟩ := hh
      have HH := Lib.hid h
      clear h
      go_wp2_with fail
      refine (chunkGet_yes s p _ hm HH.out).mono ?_
      rintro e w2 ⟨rfl, hb2⟩
      unfold gotV
      have hB2 : Below w.heap.size w w2 := hb1.trans (hb2.mono hb1.size)
      go_wp2_with fail
      refine (sChunkGet_yes s p _ hm HH.out).mono ?_
      rintro e w3 ⟨rfl, hb3⟩
      unfold gotV
      have V3 := (Var3.new w2 (bt s p) (bt s (p + 1)) (bodyAt s p) _).aside (below_aside (r := w2.heap.size + 1) hb3 (Nat.le_refl _)) (by simp) (by omega)
      have HV3 := Lib.hid V3
      obtain ⟨⟨c0, c1, c2⟩, d0, d1, d2⟩ := V3
      have hlt : w2.heap.size < w3.heap.size := by have := hb3.size; simp at this; omega
      have hB3 : Below w.heap.size w w3 := (hB2.alloc hB2.size _).trans (hb3.mono (Nat.le_trans hB2.size (by simp)))
      clear hb2 hb3 hB2
      have e0 : p + 4 ≤ chunkEnd s p := by have := HH.out.2.1; unfold chunkEnd; omega
      have e1 : chunkEnd s p ≤ s.size := HH.out.2.2.2.1
      have e2 : (p : Int) ≤ chunkEnd s p := by omega
      have e3 : (chunkEnd s p : Int) ≤ s.size := by omega
      have hBA : Below w.heap.size w (w3.alloc (.cells #[.int .i64 (bt s p), .int .i64 (bt s (p + 1)), .string (bodyAt s p)] 26)) := hB3.alloc hB3.size _
      have HI := Lib.hid (H1.out.keep hBA)
      clear hBA
      go_wp2_with fail
      clear c0 c1 c2 d0 d1 d2
      refine (drawChunkPut_any a1 len1 cap1 z1 _ HI.out).mono ?_
      rintro e w4 ⟨k, f, b, rfl, ⟨⟨k0, k1⟩, ⟨f0, f1⟩, hbz⟩, hb4⟩
      have hB4 : Below w.heap.size w w4 := (hB3.alloc hB3.size _).trans (hb4.mono (Nat.le_trans hB3.size (by simp)))
      clear hb4 HI
      have tn : ((chunkEnd s p : Nat) : Int).toNat = chunkEnd s p := rfl
      have hzc := size_cut s 0 (chunkEnd s p) e1
      by_cases h : Chk k f b
      · have HC := Lib.hid h
        clear h
        have HT := Lib.hid (text_some (s := chunkS k f b) (by rw [chunkS_size]; omega))
        have ne1 := HT.out
        have ne2 : (chunkS k f b).toList.isEmpty = false := by simpa using HT.out
        have ht := chunkS_le k f b HC.out.2.2
        have g := has_next (s.extract 0 (chunkEnd s p)) k f b HC.out
        rw [hzc, Nat.sub_zero] at g
        have hee : chunkEnd (s.extract 0 (chunkEnd s p) ++ chunkS k f b) (chunkEnd s p) = chunkEnd s p + (chunkS k f b).size := by
          have h1 := g.2.1
          have h2 := chunkS_size k f b
          have h3 := pad_four b.size
          show chunkEnd s p + lenAt (s.extract 0 (chunkEnd s p) ++ chunkS k f b) (chunkEnd s p) + pad (lenAt (s.extract 0 (chunkEnd s p) ++ chunkS k f b) (chunkEnd s p)) = chunkEnd s p + (chunkS k f b).size
          rw [h1]
          omega
        have G := Lib.hid (show gotV (bt (s.extract 0 (chunkEnd s p) ++ chunkS k f b) (chunkEnd s p)) (bt (s.extract 0 (chunkEnd s p) ++ chunkS k f b) (chunkEnd s p + 1)) (bodyAt (s.extract 0 (chunkEnd s p) ++ chunkS k f b) (chunkEnd s p)) (chunkEnd (s.extract 0 (chunkEnd s p) ++ chunkS k f b) (chunkEnd s p)) = gotV k f b (chunkEnd s p + (chunkS k f b).size) by
          rw [g.2.2.1, g.2.2.2.1, g.2.2.2.2, hee]
          rfl)
        have G1 := Lib.hid g.1
        have hz : (s.extract 0 (chunkEnd s p) ++ chunkS k f b).size ≤ 100000000 := by rw [ByteArray.size_append, hzc]; omega
        clear g hee hzc
        go_wp2_with fail
        refine (chunkPut_yes k f b _ HC.out).mono ?_
        rintro e w5 ⟨rfl, hb5⟩
        have V5 := (Var3.new w4 k f b _).aside (below_aside (r := w4.heap.size + 1) hb5 (Nat.le_refl _)) (by simp) (by omega)
        have HV5 := Lib.hid V5
        clear V5
        have hlt5 : w4.heap.size < w5.heap.size := by have := hb5.size; simp at this; omega
        have hB5 : Below w.heap.size w w5 := (hB4.alloc hB4.size _).trans (hb5.mono (Nat.le_trans hB4.size (by simp)))
        clear hb5
        obtain ⟨⟨c0, c1, c2⟩, d0, d1, d2⟩ := HV5.out
        go_wp2_with fail
        refine (chunkGet_yes (s.extract 0 (chunkEnd s p) ++ chunkS k f b) (chunkEnd s p) _ hz G1.out).mono ?_
        rintro e w6 ⟨rfl, hb6⟩
        rw [G.out]
        unfold gotV
        have hB6 : Below w.heap.size w w6 := hB5.trans (hb6.mono hB5.size)
        have hlt6 : w4.heap.size < w6.heap.size := Nat.lt_of_lt_of_le hlt5 hb6.size
        have V6 := HV5.out.aside (below_aside (r := w5.heap.size) hb6 (Nat.le_refl _)) hlt5 (by omega)
        clear c0 c1 c2 d0 d1 d2
        obtain ⟨⟨c0, c1, c2⟩, d0, d1, d2⟩ := V6
        clear hb6
        go_wp2
        go_ret
        exact ⟨rfl, hB6.alloc hB6.size _⟩
      · have HC := Lib.hid h
        clear h
        have hz : (s.extract 0 (chunkEnd s p) ++ ByteArray.mk #[]).size ≤ 100000000 := by rw [ByteArray.size_append, hzc]; show chunkEnd s p - 0 + 0 ≤ 100000000; omega
        have HM := Lib.hid (show ∀ q : Nat, (chunkEnd s p : Int) = q → ¬ Has (s.extract 0 (chunkEnd s p) ++ ByteArray.mk #[]) q from fun q e g => by
          have h1 := g.1
          rw [ByteArray.size_append, hzc, show (ByteArray.mk #[]).size = 0 from rfl] at h1
          omega)
        clear hzc
        go_wp2_with fail
        refine (chunkPut_no k f b _ HC.out).mono ?_
        rintro e w5 ⟨rfl, hb5⟩
        have V5 := (Var3.new w4 k f b _).aside (below_aside (r := w4.heap.size + 1) hb5 (Nat.le_refl _)) (by simp) (by omega)
        have HV5 := Lib.hid V5
        clear V5
        have hlt5 : w4.heap.size < w5.heap.size := by have := hb5.size; simp at this; omega
        have hB5 : Below w.heap.size w w5 := (hB4.alloc hB4.size _).trans (hb5.mono (Nat.le_trans hB4.size (by simp)))
        clear hb5
        go_wp2_with fail
        refine (chunkGet_no (s.extract 0 (chunkEnd s p) ++ ByteArray.mk #[]) (chunkEnd s p) _ hz HM.out).mono ?_
        rintro e w6 ⟨rfl, hb6⟩
        unfold noneV
        have hB6 : Below w.heap.size w w6 := hB5.trans (hb6.mono hB5.size)
        clear hb6
        go_wp2
        go_ret
        exact ⟨rfl, hB6.alloc hB6.size _⟩
    · have HN := Lib.hid (show ∀ p : Nat, z = p → ¬ Has s p from fun p e h => hh ⟨p, e, h⟩)
      clear hh
      go_wp2_with fail
      refine (chunkGet_no s z _ hm HN.out).mono ?_
      rintro e w2 ⟨rfl, hb2⟩
      unfold noneV
      have hB2 : Below w.heap.size w w2 := hb1.trans (hb2.mono hb1.size)
      go_wp2_with fail
      refine (sChunkGet_no s z _ hm HN.out).mono ?_
      rintro e w3 ⟨rfl, hb3⟩
      unfold noneV
      obtain ⟨⟨c0, c1, c2⟩, d0, d1, d2⟩ := (Var3.new w2 0 0 (ByteArray.mk #[]) _).aside (below_aside (r := w2.heap.size + 1) hb3 (Nat.le_refl _)) (by simp) (by omega)
      have hlt : w2.heap.size < w3.heap.size := by have := hb3.size; simp at this; omega
      have hB3 : Below w.heap.size w w3 := (hB2.alloc hB2.size _).trans (hb3.mono (Nat.le_trans hB2.size (by simp)))
      clear hb2 hb3 hB2
      go_wp2
      go_ret
      exact ⟨rfl, hB3.alloc hB3.size _⟩

end Go.Proofs.Ythogaffeeadnhaa
