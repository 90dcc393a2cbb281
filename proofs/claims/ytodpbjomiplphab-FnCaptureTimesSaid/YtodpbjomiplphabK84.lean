/- The program's chapter 14: a record of a capture's bytes. -/
import Derived.Test.YtodpbjomiplphabG16
import Derived.Test.YtodpbjomiplphabK70
import Derived.Test.YtodpbjomiplphabK26c
namespace Go.Proofs.Ytodpbjomiplphab
open Go.RowKit Go.PlainAid

set_option maxHeartbeats 400000 in
theorem has_not (c : Nat) (s : ByteArray) (p n : Int) (w : World) (hs : s.size ≤ 100000000) (hn0 : 0 ≤ n) (hn : n ≤ 100000000)
    (hc0 : w.cell? ⟨c, 0, none⟩ = some (.string s)) (hc1 : w.cell? ⟨c, 1, none⟩ = some (.int .i64 p)) (h0 : 0 ≤ p) (h1 : ¬ p ≤ s.size - n) :
    Calls Try.prog 44 #[.pointer (some ⟨c, 0, none⟩), .int .i64 n] w fun e w' => e = .returned (.bool false) ∧ ∃ k, w' = w.drewN k := by
  have V := Lib.hid (decide_eq_false h1)
  clear h1
  go_enter Try.func44, Try.ntmps44
  go_wp2
  go_quiet (fail)
  go_wp2
  go_ret
  exact ⟨ret_b V.out, _, rfl⟩

set_option maxHeartbeats 400000 in
theorem piece_not (c : Nat) (s : ByteArray) (p n : Int) (w : World) (hs : s.size ≤ 100000000) (hn0 : 0 ≤ n) (hn : n ≤ 100000000)
    (hc : Cur c s p w) (h0 : 0 ≤ p) (h : ¬ p ≤ s.size - n) :
    Calls Try.prog 46 #[.pointer (some ⟨c, 0, none⟩), .int .i64 n] w fun e w' => e = .returned (.tuple #[.string (ByteArray.mk #[]), .bool false]) ∧ ∃ k, w' = w.drewN k := by
  obtain ⟨hcl, hc0, hc1, hf1⟩ := hc
  go_enter Try.func46, Try.ntmps46
  go_wp2_with (go_at_call 44; refine (has_not c s p n _ hs hn0 hn (by exact hc0) (by exact hc1) h0 h).mono ?_; rintro e w' ⟨rfl, k, rfl⟩)
  go_ret2
  exact ⟨rfl, _, rfl⟩

set_option maxHeartbeats 1000000 in
theorem record_yes (c : Nat) (s : ByteArray) (p : Nat) (w : World) (hs : s.size ≤ 100000000) (hc : Cur c s p w) (h : recEnd s p ≤ s.size) (B : Nat) (hB : B ≤ c) (t : Int) (y : ByteArray) (q : Nat) (hr : recAt s p = (t, y)) (hq : recEnd s p = q) :
    Calls Try.prog 28 #[.pointer (some ⟨c, 0, none⟩)] w fun e w' => e = .returned (.tuple #[.agg #[.int .i64 t, .string y], .bool true]) ∧ Cur c s q w' ∧ Fr B c w w' := by
  have hm : s.size ≤ maxLen := Nat.le_trans hs (by decide)
  obtain ⟨m, hmm⟩ : ∃ m, lenR s p = m := ⟨_, rfl⟩
  have e1 : be s p 4 = t := congrArg Prod.fst hr
  have e2 : s.extract (p + 6) (p + 6 + m) = y := by rw [← hmm]; exact congrArg Prod.snd hr
  have e3 : p + 6 + m = q := by rw [← hmm]; exact hq
  have e4 : be s (p + 4) 2 = (m : Int) := by rw [← hmm, lenR_int]
  have hle : p + 6 + m ≤ s.size := by rw [e3, ← hq]; exact h
  have hBw : B ≤ w.heap.size := Nat.le_trans hB (Nat.le_of_lt hc.1)
  have hcl := hc.1
  have HC := Lib.hid (hc.grow (below_box (.cells #[.int .i64 0, .string (ByteArray.mk #[])] 33) (Nat.le_refl _)))
  have F0 := Lib.hid ((Fr.refl B c w).alloc hBw (.cells #[.int .i64 0, .string (ByteArray.mk #[])] 33))
  have V0 := Lib.hid (VarN.new_at (w := w) (d := w.heap.size) rfl [.int .i64 0, .string (ByteArray.mk #[])] 33)
  have N4 := fun w (hc : Cur c s p w) => number_cur c s p 4 w hm (by decide) hc (by omega) B hB
  have N2 := fun w (hc : Cur c s ((p + 4 : Nat) : Int) w) => number_cur c s (p + 4) 2 w hm (by decide) hc (by omega) B hB
  have PB := fun w (hc : Cur c s ((p + 6 : Nat) : Int) w) => piece_big c s (p + 6) m w hs hc (by omega) B hB
  rw [e1] at N4
  rw [e4] at N2
  rw [e2] at PB
  clear hc h hr hq hmm e1 e2 e4
  go_enter Try.func28, Try.ntmps28
  go_wp2_with fail
  refine (has_yes c s p 6 _ hm (by omega) (by omega) HC.out.2.1 HC.out.2.2.1 (by omega) (by omega)).mono ?_
  rintro e w1 ⟨rfl, k, rfl⟩
  have V1 := Lib.hid (V0.out.drewN k)
  go_wp2_with fail
  refine (N4 _ (HC.out.drewN k)).mono ?_
  rintro e w2 ⟨rfl, hc2, hf2⟩
  have C2 := Lib.hid (hc2.go (q := ((p + 4 : Nat) : Int)) (by omega))
  have F2 := Lib.hid ((F0.out.drewN k).trans hf2)
  have V2 := Lib.hid (V1.out.aside hf2.aside (by simp) (by omega))
  clear hc2 hf2
  go_wp2_with fail
  refine (N2 _ C2.out).mono ?_
  rintro e w3 ⟨rfl, hc3, hf3⟩
  have C3 := Lib.hid (hc3.go (q := ((p + 6 : Nat) : Int)) (by omega))
  have F3 := Lib.hid (F2.out.trans hf3)
  have V3 := Lib.hid (V2.out.aside hf3.aside (lt_of_cell (V2.out 0 _ rfl).1) (by omega))
  clear hc3 hf3 C2 F2
  go_wp2_with fail
  refine (PB _ C3.out).mono ?_
  rintro e w4 ⟨rfl, hc4, hf4⟩
  have C4 := Lib.hid (hc4.go (q := ((q : Nat) : Int)) (by omega))
  have F4 := Lib.hid (F3.out.trans hf4)
  have V4 := Lib.hid (V3.out.aside hf4.aside (lt_of_cell (V3.out 0 _ rfl).1) (by omega))
  have CC := Lib.hid ((C4.out.put (d := w.heap.size) (i := 0) (by omega) (.int .i64 t)).put (d := w.heap.size) (i := 1) (by omega) (.string y))
  have FF := Lib.hid ((F4.out.set (d := w.heap.size) (i := 0) (Nat.le_refl _) hBw (.int .i64 t)).set (d := w.heap.size) (i := 1) (Nat.le_refl _) hBw (.string y))
  have v0 := (V4.out 0 _ rfl).1
  have v1 := (V4.out 1 _ rfl).1
  have g0 := (V4.out 0 _ rfl).2
  have g1 := (V4.out 1 _ rfl).2
  clear hc4 hf4 C3 F3 C4 F4 V0 V1 V2 V3 V4 HC F0
  go_wp2
  refine bodyPost_ret (v := .tuple #[.agg #[.int .i64 t, .string y], .bool true]) ?_ rfl ?_
  · simp [results, Try.results28, go_sem, v0, v1]
  · exact ⟨rfl, CC.out, FF.out⟩

set_option maxHeartbeats 1000000 in
theorem record_no (c : Nat) (s : ByteArray) (p : Nat) (w : World) (hs : s.size ≤ 100000000) (hc : Cur c s p w) (h : ¬ recEnd s p ≤ s.size) (B : Nat) (hB : B ≤ c) :
    Calls Try.prog 28 #[.pointer (some ⟨c, 0, none⟩)] w fun e w' => e = .returned (.tuple #[.agg #[.int .i64 0, .string (ByteArray.mk #[])], .bool false]) ∧ Fr B c w w' := by
  have hm : s.size ≤ maxLen := Nat.le_trans hs (by decide)
  obtain ⟨m, hmm⟩ : ∃ m, lenR s p = m := ⟨_, rfl⟩
  have e4 : be s (p + 4) 2 = (m : Int) := by rw [← hmm, lenR_int]
  have hb := be_two_bound s (p + 4)
  have hle : ¬ p + 6 + m ≤ s.size := by rw [← hmm]; exact h
  have hBw : B ≤ w.heap.size := Nat.le_trans hB (Nat.le_of_lt hc.1)
  have hcl := hc.1
  have HC := Lib.hid (hc.grow (below_box (.cells #[.int .i64 0, .string (ByteArray.mk #[])] 33) (Nat.le_refl _)))
  have F0 := Lib.hid ((Fr.refl B c w).alloc hBw (.cells #[.int .i64 0, .string (ByteArray.mk #[])] 33))
  have V0 := Lib.hid (VarN.new_at (w := w) (d := w.heap.size) rfl [.int .i64 0, .string (ByteArray.mk #[])] 33)
  by_cases h6 : p + 6 ≤ s.size
  · have N4 := fun w (hc : Cur c s p w) => number_cur c s p 4 w hm (by decide) hc (by omega) B hB
    have N2 := fun w (hc : Cur c s ((p + 4 : Nat) : Int) w) => number_cur c s (p + 4) 2 w hm (by decide) hc (by omega) B hB
    obtain ⟨t, ht⟩ : ∃ t, be s p 4 = t := ⟨_, rfl⟩
    rw [ht] at N4
    rw [e4] at N2 hb
    clear hc h hmm e4 ht
    go_enter Try.func28, Try.ntmps28
    go_wp2_with fail
    refine (has_yes c s p 6 _ hm (by omega) (by omega) HC.out.2.1 HC.out.2.2.1 (by omega) (by omega)).mono ?_
    rintro e w1 ⟨rfl, k, rfl⟩
    have V1 := Lib.hid (V0.out.drewN k)
    go_wp2_with fail
    refine (N4 _ (HC.out.drewN k)).mono ?_
    rintro e w2 ⟨rfl, hc2, hf2⟩
    have C2 := Lib.hid (hc2.go (q := ((p + 4 : Nat) : Int)) (by omega))
    have F2 := Lib.hid ((F0.out.drewN k).trans hf2)
    have V2 := Lib.hid (V1.out.aside hf2.aside (by simp) (by omega))
    clear hc2 hf2
    go_wp2_with fail
    refine (N2 _ C2.out).mono ?_
    rintro e w3 ⟨rfl, hc3, hf3⟩
    have C3 := Lib.hid (hc3.go (q := ((p + 6 : Nat) : Int)) (by omega))
    have F3 := Lib.hid (F2.out.trans hf3)
    have V3 := Lib.hid (V2.out.aside hf3.aside (lt_of_cell (V2.out 0 _ rfl).1) (by omega))
    clear hc3 hf3 C2 F2
    go_wp2_with fail
    refine (piece_not c s _ m _ hs (by omega) (by omega) C3.out (by omega) (by omega)).mono ?_
    rintro e w4 ⟨rfl, k4, rfl⟩
    have F4 := Lib.hid (F3.out.drewN k4)
    have V4 := Lib.hid (V3.out.drewN k4)
    have FF := Lib.hid ((F4.out.set (d := w.heap.size) (i := 0) (Nat.le_refl _) hBw (.int .i64 0)).set (d := w.heap.size) (i := 1) (Nat.le_refl _) hBw (.string (ByteArray.mk #[])))
    have v0 := (V4.out 0 _ rfl).1
    have v1 := (V4.out 1 _ rfl).1
    have g0 := (V4.out 0 _ rfl).2
    have g1 := (V4.out 1 _ rfl).2
    clear F3 F4 V0 V1 V2 V3 V4 HC F0
    go_wp2
    refine bodyPost_ret (v := .tuple #[.agg #[.int .i64 0, .string (ByteArray.mk #[])], .bool false]) ?_ rfl ?_
    · simp [results, Try.results28, go_sem, v0, v1]
    · exact ⟨rfl, FF.out⟩
  · clear hc h hmm e4
    go_enter Try.func28, Try.ntmps28
    go_wp2_with fail
    refine (has_no c s p 6 _ hm (by omega) (by omega) HC.out.2.1 HC.out.2.2.1 (.inr (by omega))).mono ?_
    rintro e w1 ⟨rfl, k, rfl⟩
    have V1 := Lib.hid (V0.out.drewN k)
    have F4 := F0.out.drewN k
    have FF := Lib.hid ((F4.set (d := w.heap.size) (i := 0) (Nat.le_refl _) hBw (.int .i64 0)).set (d := w.heap.size) (i := 1) (Nat.le_refl _) hBw (.string (ByteArray.mk #[])))
    have v0 := (V1.out 0 _ rfl).1
    have v1 := (V1.out 1 _ rfl).1
    have g0 := (V1.out 0 _ rfl).2
    have g1 := (V1.out 1 _ rfl).2
    clear F4 V0 V1 HC F0
    generalize ((w.alloc (.cells #[.int .i64 0, .string (ByteArray.mk #[])] 33)).drewN k) = W1 at v0 v1 g0 g1 FF ⊢
    go_wp2
    refine bodyPost_ret (v := .tuple #[.agg #[.int .i64 0, .string (ByteArray.mk #[])], .bool false]) ?_ rfl ?_
    · simp [results, Try.results28, go_sem, v0, v1]
    · exact ⟨rfl, FF.out⟩

end Go.Proofs.Ytodpbjomiplphab
