/- The contracts of the program's cursor, further: bytes 0, the head and the body of a chunk. -/
import Derived.Test.YtcpdpamoddmpaabDoorK18a
import Derived.Test.YtcpdpamoddmpaabDoorK18r
import Derived.Test.YtcpdpamoddmpaabDoorG10
import Derived.Test.YtcpdpamoddmpaabDoorK15
namespace Go.Proofs.YtcpdpamoddmpaabDoor
open Go.RowKit Go.PlainAid

set_option maxHeartbeats 400000 in
theorem zeros_yes (c : Nat) (s : ByteArray) (p n : Nat) (w : World) (hs : s.size ≤ 100000000) (hn : n ≤ 3)
    (hc : Cur c s p w) (h : p + n ≤ s.size) (hx : s.extract p (p + n) = strOfNums (List.replicate n 0)) (B : Nat) (hB : B ≤ c) :
    Calls Tryd.prog 76 #[.pointer (some ⟨c, 0, none⟩), .int .i64 n] w fun e w' => e = .returned (.bool true) ∧ Cur c s ((p : Int) + n) w' ∧ Fr B c w w' := by
  have HX := Lib.hid hx
  have hBw : B ≤ w.heap.size := Nat.le_trans hB (Nat.le_of_lt hc.1)
  clear hx
  go_enter Tryd.func76, Tryd.ntmps76
  go_wp2_with fail
  refine (piece_yes c s p n _ hs (by omega) hc h B hB).mono ?_
  rw [HX.out]
  rintro e w1 ⟨rfl, hc1, hf1⟩
  go_wp2_with fail
  refine (repeat_any n _ (by omega)).mono ?_
  rintro e w2 ⟨rfl, hb2⟩
  go_wp2
  go_ret
  exact ⟨rfl, hc1.grow hb2, hf1.grow hBw hb2⟩

set_option maxHeartbeats 400000 in
theorem zeros_no (c : Nat) (s : ByteArray) (p n : Nat) (w : World) (hs : s.size ≤ 100000000) (hn : n ≤ 3)
    (hc : Cur c s p w) (h : ¬ (p + n ≤ s.size ∧ s.extract p (p + n) = strOfNums (List.replicate n 0))) (B : Nat) (hB : B ≤ c) :
    Calls Tryd.prog 76 #[.pointer (some ⟨c, 0, none⟩), .int .i64 n] w fun e w' => e = .returned (.bool false) ∧ Fr B c w w' := by
  have hs' : s.size ≤ maxLen := Nat.le_trans hs (by decide)
  have hBw : B ≤ w.heap.size := Nat.le_trans hB (Nat.le_of_lt hc.1)
  by_cases hl : p + n ≤ s.size
  · have HX := Lib.hid (text_ne fun hx => h ⟨hl, hx⟩)
    clear h
    go_enter Tryd.func76, Tryd.ntmps76
    go_wp2_with fail
    refine (piece_yes c s p n _ hs (by omega) hc hl B hB).mono ?_
    rintro e w1 ⟨rfl, hc1, hf1⟩
    go_wp2_with fail
    refine (repeat_any n _ (by omega)).mono ?_
    rintro e w2 ⟨rfl, hb2⟩
    have hx := HX.out
    go_wp2
    go_ret
    exact ⟨rfl, hf1.grow hBw hb2⟩
  · clear h
    go_enter Tryd.func76, Tryd.ntmps76
    go_wp2_with fail
    refine (piece_no c s p n _ hs' (by omega) (by omega) hc (by omega)).mono ?_
    rintro e w1 ⟨rfl, k, rfl⟩
    go_wp2
    go_ret
    exact ⟨rfl, (Fr.refl B c w).drewN k⟩

/-- The head and the body of a chunk, read; or none. -/
def cutV (k f : Int) (b : ByteArray) : Value := .tuple #[.agg #[.int .i64 k, .int .i64 f, .string b], .bool true]
def nocutV : Value := .tuple #[.agg #[.int .i64 0, .int .i64 0, .string (ByteArray.mk #[])], .bool false]
theorem be_one (s : ByteArray) (p : Nat) : be s p 1 = bt s p := by simp [be]
theorem Cur.at {c : Nat} {s : ByteArray} {p q : Int} {w : World} (h : Cur c s p w) (e : p = q) : Cur c s q w := e ▸ h
theorem Cur.alloc {c : Nat} {s : ByteArray} {p : Int} {w : World} (h : Cur c s p w) (o : Obj) : Cur c s p (w.alloc o) := h.grow ((Below.refl _ _).alloc (Nat.le_refl _) o)
/-- Storing a chunk where the result lies. -/
theorem Fr.put3 {B r d : Nat} {w a : World} (h : Fr B r w a) (hd : w.heap.size ≤ d) (hB : B ≤ w.heap.size) (x y z : Value) : Fr B r w (((a.setCell ⟨d, 0, none⟩ x).setCell ⟨d, 1, none⟩ y).setCell ⟨d, 2, none⟩ z) :=
  ((h.set hd hB x).set hd hB y).set hd hB z

set_option maxHeartbeats 2000000 in
theorem chunk_yes (c : Nat) (s : ByteArray) (p : Nat) (w : World) (hs : s.size ≤ 100000000)
    (hc : Cur c s p w) (h1 : p + 4 ≤ s.size) (h2 : 4 ≤ lenAt s p) (h3 : lenAt s p ≤ 64) (h4 : p + lenAt s p ≤ s.size) (B : Nat) (hB : B ≤ c) :
    Calls Tryd.prog 73 #[.pointer (some ⟨c, 0, none⟩)] w fun e w' => e = .returned (cutV (bt s p) (bt s (p + 1)) (bodyAt s p)) ∧ Cur c s ((p : Int) + lenAt s p) w' ∧ Fr B c w w' := by
  have hs' : s.size ≤ maxLen := Nat.le_trans hs (by decide)
  have hBw : B ≤ w.heap.size := Nat.le_trans hB (Nat.le_of_lt hc.1)
  have hlt := hc.1
  have C0 := hc.alloc (.cells #[.int .i64 0, .int .i64 0, .string (ByteArray.mk #[])] 43)
  have F0 := (Fr.refl B c w).alloc hBw (.cells #[.int .i64 0, .int .i64 0, .string (ByteArray.mk #[])] 43)
  have V0 := Lib.hid (Var3.new w 0 0 (ByteArray.mk #[]) 43)
  have HC0 := Lib.hid C0
  have E1 := Lib.hid (be_one s p)
  have E2 := Lib.hid (be_one s (p + 1))
  have E3 := Lib.hid (lenAt_be s p)
  have hn : ((lenAt s p : Int) - 4) = ((lenAt s p - 4 : Nat) : Int) := by omega
  clear hc C0
  go_enter Tryd.func73, Tryd.ntmps73
  go_wp2_with fail
  refine (has_yes c s p 4 _ hs' (by omega) (by omega) HC0.out.2.1 HC0.out.2.2.1 (by omega) (by omega)).mono ?_
  rintro e w1 ⟨rfl, q, rfl⟩
  have V1 := Lib.hid (V0.out.aside (below_aside (C := w.heap.size + 1) (r := c) (below_drewN (Below.refl (w.heap.size + 1) _) q) (Nat.le_refl _)) (by omega) (by omega))
  have C1 := Lib.hid (HC0.out.drewN q)
  have F1 := Lib.hid (F0.drewN q)
  clear V0 HC0 F0
  generalize hW : World.drewN _ q = W1 at V1 C1 F1 ⊢
  clear hW
  go_wp2_with fail
  refine (number_cur c s p 1 _ hs' (by decide) C1.out (by omega) B hB).mono ?_
  rintro e w2 ⟨rfl, hc2, hf2⟩
  rw [E1.out]
  have V2 := Lib.hid (V1.out.aside hf2.aside (by have := F1.out.size; have := World.block_lt_of_cell? _ _ V1.out.1.1; simpa using this) (by omega))
  have C2 := Lib.hid (hc2.at (q := ((p + 1 : Nat) : Int)) (by omega))
  have F2 := Lib.hid (F1.out.trans hf2)
  clear V1 C1 F1 hc2 hf2
  go_wp2_with fail
  refine (number_cur c s (p + 1) 1 _ hs' (by decide) C2.out (by omega) B hB).mono ?_
  rintro e w3 ⟨rfl, hc3, hf3⟩
  rw [E2.out]
  have V3 := Lib.hid (V2.out.aside hf3.aside (by have := World.block_lt_of_cell? _ _ V2.out.1.1; simpa using this) (by omega))
  have C3 := Lib.hid (hc3.at (q := ((p + 2 : Nat) : Int)) (by omega))
  have F3 := Lib.hid (F2.out.trans hf3)
  clear V2 C2 F2 hc3 hf3
  go_wp2_with fail
  refine (number_cur c s (p + 2) 2 _ hs' (by decide) C3.out (by omega) B hB).mono ?_
  rintro e w4 ⟨rfl, hc4, hf4⟩
  rw [E3.out]
  have V4 := Lib.hid (V3.out.aside hf4.aside (by have := World.block_lt_of_cell? _ _ V3.out.1.1; simpa using this) (by omega))
  have C4 := Lib.hid (hc4.at (q := ((p + 4 : Nat) : Int)) (by omega))
  have F4 := Lib.hid (F3.out.trans hf4)
  clear V3 C3 F3 hc4 hf4
  have w4e : IntKind.i64.wrap ((lenAt s p : Int) - 4) = (lenAt s p : Int) - 4 := IntWalk.i64_in _ (by omega)
  go_wp2_with fail
  refine (piece_yes c s (p + 4) (lenAt s p - 4) _ hs (by omega) C4.out (by omega) B hB).mono ?_
  rintro e w5 ⟨rfl, hc5, hf5⟩
  rw [show s.extract (p + 4) (p + 4 + (lenAt s p - 4)) = bodyAt s p by unfold bodyAt; congr 1; omega]
  have V5 := V4.out.aside hf5.aside (by have := World.block_lt_of_cell? _ _ V4.out.1.1; simpa using this) (by omega)
  have C5 := Lib.hid (hc5.at (q := (p : Int) + lenAt s p) (by omega))
  have F5 := Lib.hid (F4.out.trans hf5)
  clear V4 C4 F4 hc5 hf5
  obtain ⟨⟨r0, r1, r2⟩, f0, f1, f2⟩ := V5
  go_wp2
  refine bodyPost_ret (v := cutV (bt s p) (bt s (p + 1)) (bodyAt s p)) ?_ rfl ?_
  · simp [results, Tryd.results73, go_sem, cutV, r0, r1, r2]
  · exact ⟨rfl, ⟨by have := C5.out.1; simpa using this, cell_far (by omega) (cell_far (by omega) (cell_far (by omega) C5.out.2.1)), cell_far (by omega) (cell_far (by omega) (cell_far (by omega) C5.out.2.2.1)), by rw [World.frozen?_setCell, World.frozen?_setCell, World.frozen?_setCell]; exact C5.out.2.2.2⟩, F5.out.put3 (Nat.le_refl _) hBw _ _ _⟩

set_option maxHeartbeats 400000 in
theorem chunk_none (c : Nat) (s : ByteArray) (z : Int) (w : World) (hs : s.size ≤ 100000000)
    (hc : Cur c s z w) (h : z < 0 ∨ s.size - 4 < z) (B : Nat) (hB : B ≤ c) :
    Calls Tryd.prog 73 #[.pointer (some ⟨c, 0, none⟩)] w fun e w' => e = .returned nocutV ∧ Fr B c w w' := by
  have hs' : s.size ≤ maxLen := Nat.le_trans hs (by decide)
  have hBw : B ≤ w.heap.size := Nat.le_trans hB (Nat.le_of_lt hc.1)
  have F0 := Lib.hid ((Fr.refl B c w).alloc hBw (.cells #[.int .i64 0, .int .i64 0, .string (ByteArray.mk #[])] 43))
  have HC0 := Lib.hid (hc.alloc (.cells #[.int .i64 0, .int .i64 0, .string (ByteArray.mk #[])] 43))
  clear hc
  go_enter Tryd.func73, Tryd.ntmps73
  go_wp2_with fail
  refine (has_no c s z 4 _ hs' (by omega) (by omega) HC0.out.2.1 HC0.out.2.2.1 h).mono ?_
  rintro e w1 ⟨rfl, q, rfl⟩
  go_wp2
  refine bodyPost_ret (v := nocutV) ?_ rfl ?_
  · simp [results, Tryd.results73, go_sem, nocutV]
  · exact ⟨rfl, (F0.out.drewN q).put3 (Nat.le_refl _) hBw _ _ _⟩

set_option maxHeartbeats 2000000 in
theorem chunk_no (c : Nat) (s : ByteArray) (p : Nat) (w : World) (hs : s.size ≤ 100000000)
    (hc : Cur c s p w) (h1 : p + 4 ≤ s.size) (h2 : ¬ (4 ≤ lenAt s p ∧ lenAt s p ≤ 64 ∧ p + lenAt s p ≤ s.size)) (B : Nat) (hB : B ≤ c) :
    Calls Tryd.prog 73 #[.pointer (some ⟨c, 0, none⟩)] w fun e w' => e = .returned nocutV ∧ Fr B c w w' := by
  have hs' : s.size ≤ maxLen := Nat.le_trans hs (by decide)
  have hBw : B ≤ w.heap.size := Nat.le_trans hB (Nat.le_of_lt hc.1)
  have hlt := hc.1
  have C0 := hc.alloc (.cells #[.int .i64 0, .int .i64 0, .string (ByteArray.mk #[])] 43)
  have F0 := (Fr.refl B c w).alloc hBw (.cells #[.int .i64 0, .int .i64 0, .string (ByteArray.mk #[])] 43)
  have V0 := Lib.hid (Var3.new w 0 0 (ByteArray.mk #[]) 43)
  have HC0 := Lib.hid C0
  have E1 := Lib.hid (be_one s p)
  have E2 := Lib.hid (be_one s (p + 1))
  have E3 := Lib.hid (lenAt_be s p)
  clear hc C0
  go_enter Tryd.func73, Tryd.ntmps73
  go_wp2_with fail
  refine (has_yes c s p 4 _ hs' (by omega) (by omega) HC0.out.2.1 HC0.out.2.2.1 (by omega) (by omega)).mono ?_
  rintro e w1 ⟨rfl, q, rfl⟩
  have V1 := Lib.hid (V0.out.aside (below_aside (C := w.heap.size + 1) (r := c) (below_drewN (Below.refl (w.heap.size + 1) _) q) (Nat.le_refl _)) (by omega) (by omega))
  have C1 := Lib.hid (HC0.out.drewN q)
  have F1 := Lib.hid (F0.drewN q)
  clear V0 HC0 F0
  generalize hW : World.drewN _ q = W1 at V1 C1 F1 ⊢
  clear hW
  go_wp2_with fail
  refine (number_cur c s p 1 _ hs' (by decide) C1.out (by omega) B hB).mono ?_
  rintro e w2 ⟨rfl, hc2, hf2⟩
  rw [E1.out]
  have V2 := Lib.hid (V1.out.aside hf2.aside (by have := F1.out.size; have := World.block_lt_of_cell? _ _ V1.out.1.1; simpa using this) (by omega))
  have C2 := Lib.hid (hc2.at (q := ((p + 1 : Nat) : Int)) (by omega))
  have F2 := Lib.hid (F1.out.trans hf2)
  clear V1 C1 F1 hc2 hf2
  go_wp2_with fail
  refine (number_cur c s (p + 1) 1 _ hs' (by decide) C2.out (by omega) B hB).mono ?_
  rintro e w3 ⟨rfl, hc3, hf3⟩
  rw [E2.out]
  have V3 := Lib.hid (V2.out.aside hf3.aside (by have := World.block_lt_of_cell? _ _ V2.out.1.1; simpa using this) (by omega))
  have C3 := Lib.hid (hc3.at (q := ((p + 2 : Nat) : Int)) (by omega))
  have F3 := Lib.hid (F2.out.trans hf3)
  clear V2 C2 F2 hc3 hf3
  go_wp2_with fail
  refine (number_cur c s (p + 2) 2 _ hs' (by decide) C3.out (by omega) B hB).mono ?_
  rintro e w4 ⟨rfl, hc4, hf4⟩
  rw [E3.out]
  have V4 := Lib.hid (V3.out.aside hf4.aside (by have := World.block_lt_of_cell? _ _ V3.out.1.1; simpa using this) (by omega))
  have C4 := Lib.hid (hc4.at (q := ((p + 4 : Nat) : Int)) (by omega))
  have F4 := Lib.hid (F3.out.trans hf4)
  clear V3 C3 F3 hc4 hf4
  by_cases h3 : 4 ≤ lenAt s p
  · by_cases h4 : lenAt s p ≤ 64
    · have h5 : ¬ p + lenAt s p ≤ s.size := fun h => h2 ⟨h3, h4, h⟩
      have hn : ((lenAt s p : Int) - 4) = ((lenAt s p - 4 : Nat) : Int) := by omega
      have w4e : IntKind.i64.wrap ((lenAt s p : Int) - 4) = (lenAt s p : Int) - 4 := IntWalk.i64_in _ (by omega)
      clear h2
      go_wp2_with fail
      refine (piece_no c s ((p + 4 : Nat) : Int) (lenAt s p - 4 : Nat) _ hs' (by omega) (by omega) C4.out (by omega)).mono ?_
      rintro e w5 ⟨rfl, k, rfl⟩
      have V5 := Lib.hid (V4.out.aside (below_aside (r := c) (below_drewN (Below.refl w4.heap.size _) k) (Nat.le_refl _)) (by have := World.block_lt_of_cell? _ _ V4.out.1.1; simpa using this) (by omega))
      have F5 := Lib.hid (F4.out.drewN k)
      clear V4 F4
      obtain ⟨⟨r0, r1, r2⟩, f0, f1, f2⟩ := V5.out
      go_wp2
      refine bodyPost_ret (v := nocutV) ?_ rfl ?_
      · simp [results, Tryd.results73, go_sem, nocutV, r0, r1, r2]
      · exact ⟨rfl, F5.out.put3 (Nat.le_refl _) hBw _ _ _⟩
    · clear h2
      obtain ⟨⟨r0, r1, r2⟩, f0, f1, f2⟩ := V4.out
      go_wp2
      refine bodyPost_ret (v := nocutV) ?_ rfl ?_
      · simp [results, Tryd.results73, go_sem, nocutV, r0, r1, r2]
      · exact ⟨rfl, F4.out.put3 (Nat.le_refl _) hBw _ _ _⟩
  · clear h2
    obtain ⟨⟨r0, r1, r2⟩, f0, f1, f2⟩ := V4.out
    go_wp2
    refine bodyPost_ret (v := nocutV) ?_ rfl ?_
    · simp [results, Tryd.results73, go_sem, nocutV, r0, r1, r2]
    · exact ⟨rfl, F4.out.put3 (Nat.le_refl _) hBw _ _ _⟩

end Go.Proofs.YtcpdpamoddmpaabDoor
