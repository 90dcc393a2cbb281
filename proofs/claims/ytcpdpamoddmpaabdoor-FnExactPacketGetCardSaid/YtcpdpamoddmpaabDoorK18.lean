/- The contracts of the program's chapter 11: the chunk at a place. -/
import Derived.Test.YtcpdpamoddmpaabDoorK18e
namespace Go.Proofs.YtcpdpamoddmpaabDoor
open Go.RowKit Go.PlainAid

theorem pad_zeros {s : ByteArray} {p : Nat} (h : Has s p) : s.extract (p + lenAt s p) (p + lenAt s p + pad (lenAt s p)) = strOfNums (List.replicate (pad (lenAt s p)) 0) := by
  obtain ⟨h1, h2, h3, h4, h5⟩ := h
  unfold chunkEnd at h4 h5
  unfold bodyEnd at h5
  refine same_bt ?_ fun i hi => ?_
  · rw [size_cut _ _ _ (by omega), strOfNums_size, List.length_replicate]
    omega
  · rw [size_cut _ _ _ (by omega)] at hi
    rw [bt_cut _ _ _ _ (by omega), bt_zeros]
    exact h5 _ (by omega) (by omega)
theorem zeros_pad {s : ByteArray} {p : Nat} (h1 : p + 4 ≤ s.size) (h2 : 4 ≤ lenAt s p) (h3 : lenAt s p ≤ 64) (h4 : p + lenAt s p + pad (lenAt s p) ≤ s.size)
    (h : s.extract (p + lenAt s p) (p + lenAt s p + pad (lenAt s p)) = strOfNums (List.replicate (pad (lenAt s p)) 0)) : Has s p := by
  refine ⟨h1, h2, h3, h4, fun i hi hi2 => ?_⟩
  unfold bodyEnd at hi
  unfold chunkEnd at hi2
  have e := bt_cut s (p + lenAt s p) (p + lenAt s p + pad (lenAt s p)) (i - (p + lenAt s p)) (by omega)
  rw [h, bt_zeros, show p + lenAt s p + (i - (p + lenAt s p)) = i by omega] at e
  exact e.symm
/-- Two variables are made ahead of the walk: the result's and the cursor's. -/
theorem get_start (s : ByteArray) (z : Int) (w : World) (T U : TypeId) :
    Cur (w.heap.size + 1) s z ((w.alloc (.cells #[.int .i64 0, .int .i64 0, .string (ByteArray.mk #[])] T)).alloc (.cells #[.string s, .int .i64 z] U)) ∧
    Var3 w.heap.size 0 0 (ByteArray.mk #[]) ((w.alloc (.cells #[.int .i64 0, .int .i64 0, .string (ByteArray.mk #[])] T)).alloc (.cells #[.string s, .int .i64 z] U)) ∧
    Fr w.heap.size (w.heap.size + 1) w ((w.alloc (.cells #[.int .i64 0, .int .i64 0, .string (ByteArray.mk #[])] T)).alloc (.cells #[.string s, .int .i64 z] U)) := by
  refine ⟨⟨by simp, by simp [go_sem], by simp [go_sem], by simp [go_sem]⟩, ?_, ((Fr.refl _ _ w).alloc (Nat.le_refl _) _).alloc (Nat.le_refl _) _⟩
  exact (Var3.new w 0 0 (ByteArray.mk #[]) T).aside (aside_alloc (C := w.heap.size + 1) (r := w.heap.size + 1) _ _ (by simp)) (by omega) (by omega)

set_option maxHeartbeats 2000000 in
theorem chunkGet_yes (s : ByteArray) (p : Nat) (w : World) (hs : s.size ≤ 100000000) (h : Has s p) :
    Calls Tryd.prog 70 #[.string s, .int .i64 p] w fun e w' => e = .returned (gotV (bt s p) (bt s (p + 1)) (bodyAt s p) (chunkEnd s p)) ∧ Below w.heap.size w w' := by
  have hz := bodyAt_size h
  have HZ := Lib.hid (pad_zeros h)
  obtain ⟨h1, h2, h3, h4, _⟩ := h
  have he : chunkEnd s p = p + lenAt s p + pad (lenAt s p) := rfl
  have hb60 : (bodyAt s p).size ≤ 60 := by omega
  have hp4 : pad (bodyAt s p).size = pad (lenAt s p) := by rw [hz]; exact pad_sub h2
  have hp3 := pad_lt (lenAt s p)
  obtain ⟨C0, V0, F0⟩ := get_start s p w 43 76
  have HC0 := Lib.hid C0
  have HV0 := Lib.hid V0
  have HF0 := Lib.hid F0
  clear C0 V0 F0
  go_enter Tryd.func70, Tryd.ntmps70
  go_wp2_with fail
  refine (chunk_yes (w.heap.size + 1) s p _ hs HC0.out h1 h2 h3 (by omega) w.heap.size (by omega)).mono ?_
  rintro e w1 ⟨rfl, hc1, hf1⟩
  unfold cutV
  have V1 := Lib.hid (HV0.out.aside hf1.aside (by simp; omega) (by omega))
  have F1 := Lib.hid (HF0.out.trans hf1)
  have C1 := Lib.hid hc1
  clear HC0 HV0 HF0 hc1 hf1
  have hd : w.heap.size + 1 < w1.heap.size := C1.out.1
  have X2 := Lib.hid (Var3.new w1 (bt s p) (bt s (p + 1)) (bodyAt s p) 43)
  have C2 := Lib.hid (C1.out.alloc (.cells #[.int .i64 (bt s p), .int .i64 (bt s (p + 1)), .string (bodyAt s p)] 43))
  have V2 := Lib.hid (V1.out.aside (aside_alloc (C := w1.heap.size) (r := w.heap.size + 1) w1 (.cells #[.int .i64 (bt s p), .int .i64 (bt s (p + 1)), .string (bodyAt s p)] 43) (Nat.le_refl _)) (by omega) (by omega))
  have F2 := Lib.hid (F1.out.alloc (Nat.le_refl _) (.cells #[.int .i64 (bt s p), .int .i64 (bt s (p + 1)), .string (bodyAt s p)] 43))
  clear C1 V1 F1
  go_wp2_with fail
  by_cases hm : (bodyAt s p).size % 4 = 0
  · have EN := Lib.hid (show ((p : Int) + lenAt s p) = (chunkEnd s p : Int) by unfold pad at he; omega)
    clear he
    refine (formOf_whole _ _ _ _ hb60 hm).mono ?_
    rintro e w3 ⟨rfl, hb3⟩
    have C3 := Lib.hid (C2.out.grow hb3)
    have V3 := Lib.hid (V2.out.aside (below_aside (r := w.heap.size + 1) hb3 (Nat.le_refl _)) (by simp; omega) (by omega))
    have X3 := Lib.hid (X2.out.aside (below_aside (r := w.heap.size + 1) hb3 (Nat.le_refl _)) (by simp) (by omega))
    have F3 := Lib.hid (F2.out.grow (Nat.le_refl _) hb3)
    clear C2 V2 X2 F2 hb3 hm
    go_wp2_with fail
    refine (filling_whole _ _ _ _ _).mono ?_
    rintro e w4 ⟨rfl, hb4⟩
    have h34 : w1.heap.size < w3.heap.size := World.block_lt_of_cell? _ _ X3.out.1.1
    have C4 := C3.out.grow hb4
    rw [EN.out] at C4
    have V4 := V3.out.aside (below_aside (r := w.heap.size + 1) hb4 (Nat.le_refl _)) (by omega) (by omega)
    have X4 := X3.out.aside (below_aside (r := w.heap.size + 1) hb4 (Nat.le_refl _)) (by omega) (by omega)
    have F4 := Lib.hid (F3.out.grow (Nat.le_refl _) hb4)
    clear C3 V3 X3 F3 hb4
    obtain ⟨_, _, c1, _⟩ := C4
    obtain ⟨⟨r0, r1, r2⟩, f0, f1, f2⟩ := V4
    obtain ⟨⟨x0, x1, x2⟩, y0, y1, y2⟩ := X4
    go_wp2
    go_region
    all_goals
      go_wp2
      refine bodyPost_ret (v := gotV (bt s p) (bt s (p + 1)) (bodyAt s p) (chunkEnd s p)) ?_ rfl ?_
      · simp [results, Tryd.results70, go_sem, gotV, r0, r1, r2]
      · exact ⟨rfl, by go_grown; exact F4.out.below⟩
  · obtain ⟨n, hn⟩ : ∃ n, pad (lenAt s p) = n := ⟨_, rfl⟩
    rw [hn] at he hp4 hp3 HZ
    have EN := Lib.hid (show (((p + lenAt s p : Nat) : Int) + (n : Int)) = (chunkEnd s p : Int) by omega)
    have hle : p + lenAt s p + n ≤ s.size := by omega
    clear he hn
    refine (formOf_filled _ _ _ _ hb60 hm).mono ?_
    rw [hp4]
    rintro e w3 ⟨rfl, hb3⟩
    have C3 := Lib.hid ((C2.out.grow hb3).at (q := ((p + lenAt s p : Nat) : Int)) (by omega))
    have V3 := Lib.hid (V2.out.aside (below_aside (r := w.heap.size + 1) hb3 (Nat.le_refl _)) (by simp; omega) (by omega))
    have X3 := Lib.hid (X2.out.aside (below_aside (r := w.heap.size + 1) hb3 (Nat.le_refl _)) (by simp) (by omega))
    have F3 := Lib.hid (F2.out.grow (Nat.le_refl _) hb3)
    clear C2 V2 X2 F2 hb3 hm hp4
    go_wp2_with fail
    refine (filling_yes _ _ _ _ s (p + lenAt s p) n _ hs (by omega) C3.out hle HZ.out w.heap.size (by omega)).mono ?_
    rintro e w4 ⟨rfl, hc4, hf4⟩
    have h34 : w1.heap.size < w3.heap.size := World.block_lt_of_cell? _ _ X3.out.1.1
    have C4 := hc4.at EN.out
    have V4 := V3.out.aside (hf4.aside) (by omega) (by omega)
    have X4 := X3.out.aside (hf4.aside) (by omega) (by omega)
    have F4 := Lib.hid (F3.out.trans hf4)
    clear C3 V3 X3 F3 hc4 hf4
    obtain ⟨_, _, c1, _⟩ := C4
    obtain ⟨⟨r0, r1, r2⟩, f0, f1, f2⟩ := V4
    obtain ⟨⟨x0, x1, x2⟩, y0, y1, y2⟩ := X4
    go_wp2
    go_region
    all_goals
      go_wp2
      refine bodyPost_ret (v := gotV (bt s p) (bt s (p + 1)) (bodyAt s p) (chunkEnd s p)) ?_ rfl ?_
      · simp [results, Tryd.results70, go_sem, gotV, r0, r1, r2]
      · exact ⟨rfl, by go_grown; exact F4.out.below⟩

set_option maxHeartbeats 1000000 in
theorem chunkGet_none (s : ByteArray) (z : Int) (w : World) (hs : s.size ≤ 100000000) (h : z < 0 ∨ s.size - 4 < z) :
    Calls Tryd.prog 70 #[.string s, .int .i64 z] w fun e w' => e = .returned noneV ∧ Below w.heap.size w w' := by
  obtain ⟨C0, V0, F0⟩ := get_start s z w 43 76
  have HC0 := Lib.hid C0
  have HV0 := Lib.hid V0
  have HF0 := Lib.hid F0
  clear C0 V0 F0
  go_enter Tryd.func70, Tryd.ntmps70
  go_wp2_with fail
  refine (chunk_none (w.heap.size + 1) s z _ hs HC0.out h w.heap.size (by omega)).mono ?_
  rintro e w1 ⟨rfl, hf1⟩
  unfold nocutV
  have V1 := Lib.hid (HV0.out.aside hf1.aside (by simp; omega) (by omega))
  have F1 := Lib.hid (HF0.out.trans hf1)
  have hl1 : w.heap.size < w1.heap.size := World.block_lt_of_cell? _ _ V1.out.1.1
  clear HC0 HV0 HF0 hf1
  have V2 := V1.out
  clear V1
  obtain ⟨⟨r0, r1, r2⟩, f0, f1, f2⟩ := V2
  have hne : ¬ w.heap.size = w1.heap.size := by omega
  go_wp2
  refine bodyPost_ret (v := noneV) ?_ rfl ?_
  · simp [results, Tryd.results70, go_sem, noneV, r0, r1, r2, hl1, World.cell?_alloc_lt]
  · exact ⟨rfl, by go_grown; exact F1.out.below⟩

set_option maxHeartbeats 1000000 in
theorem chunkGet_short (s : ByteArray) (p : Nat) (w : World) (hs : s.size ≤ 100000000) (h1 : p + 4 ≤ s.size) (h2 : ¬ (4 ≤ lenAt s p ∧ lenAt s p ≤ 64 ∧ p + lenAt s p ≤ s.size)) :
    Calls Tryd.prog 70 #[.string s, .int .i64 p] w fun e w' => e = .returned noneV ∧ Below w.heap.size w w' := by
  obtain ⟨C0, V0, F0⟩ := get_start s p w 43 76
  have HC0 := Lib.hid C0
  have HV0 := Lib.hid V0
  have HF0 := Lib.hid F0
  clear C0 V0 F0
  go_enter Tryd.func70, Tryd.ntmps70
  go_wp2_with fail
  refine (chunk_no (w.heap.size + 1) s p _ hs HC0.out h1 h2 w.heap.size (by omega)).mono ?_
  rintro e w1 ⟨rfl, hf1⟩
  unfold nocutV
  have V1 := Lib.hid (HV0.out.aside hf1.aside (by simp; omega) (by omega))
  have F1 := Lib.hid (HF0.out.trans hf1)
  have hl1 : w.heap.size < w1.heap.size := World.block_lt_of_cell? _ _ V1.out.1.1
  clear HC0 HV0 HF0 hf1
  have V2 := V1.out
  clear V1
  obtain ⟨⟨r0, r1, r2⟩, f0, f1, f2⟩ := V2
  have hne : ¬ w.heap.size = w1.heap.size := by omega
  go_wp2
  refine bodyPost_ret (v := noneV) ?_ rfl ?_
  · simp [results, Tryd.results70, go_sem, noneV, r0, r1, r2, hl1, World.cell?_alloc_lt]
  · exact ⟨rfl, by go_grown; exact F1.out.below⟩

set_option maxHeartbeats 2000000 in
theorem chunkGet_spoilt (s : ByteArray) (p : Nat) (w : World) (hs : s.size ≤ 100000000) (h1 : p + 4 ≤ s.size) (h2 : 4 ≤ lenAt s p) (h3 : lenAt s p ≤ 64) (h4 : p + lenAt s p ≤ s.size) (h : ¬ Has s p) :
    Calls Tryd.prog 70 #[.string s, .int .i64 p] w fun e w' => e = .returned noneV ∧ Below w.heap.size w w' := by
  have hz : (bodyAt s p).size = lenAt s p - 4 := by
    unfold bodyAt
    rw [size_cut _ _ _ h4]
    omega
  have hb60 : (bodyAt s p).size ≤ 60 := by omega
  have hp4 : pad (bodyAt s p).size = pad (lenAt s p) := by rw [hz]; exact pad_sub h2
  have hp3 := pad_lt (lenAt s p)
  have hm : (bodyAt s p).size % 4 ≠ 0 := fun hm => h (by
    have hp0 : pad (lenAt s p) = 0 := by unfold pad; omega
    refine zeros_pad h1 h2 h3 (by omega) ?_
    rw [hp0]
    refine same_bt ?_ fun i hi => ?_
    · rw [size_cut _ _ _ (by omega), strOfNums_size]
      simp
    · rw [size_cut _ _ _ (by omega)] at hi
      omega)
  have HN := Lib.hid (show ¬ (p + lenAt s p + pad (lenAt s p) ≤ s.size ∧ s.extract (p + lenAt s p) (p + lenAt s p + pad (lenAt s p)) = strOfNums (List.replicate (pad (lenAt s p)) 0)) from fun k => h (zeros_pad h1 h2 h3 k.1 k.2))
  clear h
  obtain ⟨C0, V0, F0⟩ := get_start s p w 43 76
  have HC0 := Lib.hid C0
  have HV0 := Lib.hid V0
  have HF0 := Lib.hid F0
  clear C0 V0 F0
  go_enter Tryd.func70, Tryd.ntmps70
  go_wp2_with fail
  refine (chunk_yes (w.heap.size + 1) s p _ hs HC0.out h1 h2 h3 h4 w.heap.size (by omega)).mono ?_
  rintro e w1 ⟨rfl, hc1, hf1⟩
  unfold cutV
  have V1 := Lib.hid (HV0.out.aside hf1.aside (by simp; omega) (by omega))
  have F1 := Lib.hid (HF0.out.trans hf1)
  have C1 := Lib.hid hc1
  clear HC0 HV0 HF0 hc1 hf1
  have hd : w.heap.size + 1 < w1.heap.size := C1.out.1
  have X2 := Lib.hid (Var3.new w1 (bt s p) (bt s (p + 1)) (bodyAt s p) 43)
  have C2 := Lib.hid (C1.out.alloc (.cells #[.int .i64 (bt s p), .int .i64 (bt s (p + 1)), .string (bodyAt s p)] 43))
  have V2 := Lib.hid (V1.out.aside (aside_alloc (C := w1.heap.size) (r := w.heap.size + 1) w1 (.cells #[.int .i64 (bt s p), .int .i64 (bt s (p + 1)), .string (bodyAt s p)] 43) (Nat.le_refl _)) (by omega) (by omega))
  have F2 := Lib.hid (F1.out.alloc (Nat.le_refl _) (.cells #[.int .i64 (bt s p), .int .i64 (bt s (p + 1)), .string (bodyAt s p)] 43))
  clear C1 V1 F1
  go_wp2_with fail
  obtain ⟨n, hn⟩ : ∃ n, pad (lenAt s p) = n := ⟨_, rfl⟩
  rw [hn] at hp4 hp3 HN
  clear hn
  refine (formOf_filled _ _ _ _ hb60 hm).mono ?_
  rw [hp4]
  rintro e w3 ⟨rfl, hb3⟩
  have C3 := Lib.hid ((C2.out.grow hb3).at (q := ((p + lenAt s p : Nat) : Int)) (by omega))
  have V3 := Lib.hid (V2.out.aside (below_aside (r := w.heap.size + 1) hb3 (Nat.le_refl _)) (by simp; omega) (by omega))
  have X3 := Lib.hid (X2.out.aside (below_aside (r := w.heap.size + 1) hb3 (Nat.le_refl _)) (by simp) (by omega))
  have F3 := Lib.hid (F2.out.grow (Nat.le_refl _) hb3)
  clear C2 V2 X2 F2 hb3 hm hp4
  go_wp2_with fail
  refine (filling_no _ _ _ _ s (p + lenAt s p) n _ hs (by omega) C3.out HN.out w.heap.size (by omega)).mono ?_
  rintro e w4 ⟨rfl, hf4⟩
  have h34 : w1.heap.size < w3.heap.size := World.block_lt_of_cell? _ _ X3.out.1.1
  have V4 := V3.out.aside hf4.aside (by omega) (by omega)
  have F4 := Lib.hid (F3.out.trans hf4)
  clear C3 V3 X3 F3 hf4
  obtain ⟨⟨r0, r1, r2⟩, f0, f1, f2⟩ := V4
  go_wp2
  refine bodyPost_ret (v := noneV) ?_ rfl ?_
  · simp [results, Tryd.results70, go_sem, noneV, r0, r1, r2]
  · exact ⟨rfl, by go_grown; exact F4.out.below⟩

theorem chunkGet_no (s : ByteArray) (z : Int) (w : World) (hs : s.size ≤ 100000000) (h : ∀ p : Nat, z = p → ¬ Has s p) :
    Calls Tryd.prog 70 #[.string s, .int .i64 z] w fun e w' => e = .returned noneV ∧ Below w.heap.size w w' := by
  by_cases hz : z < 0 ∨ s.size - 4 < z
  · exact chunkGet_none s z w hs hz
  · obtain ⟨p, rfl⟩ := Int.eq_ofNat_of_zero_le (show 0 ≤ z by omega)
    by_cases h2 : 4 ≤ lenAt s p ∧ lenAt s p ≤ 64 ∧ p + lenAt s p ≤ s.size
    · exact chunkGet_spoilt s p w hs (by omega) h2.1 h2.2.1 h2.2.2 (h p rfl)
    · exact chunkGet_short s p w hs (by omega) h2

end Go.Proofs.YtcpdpamoddmpaabDoor
