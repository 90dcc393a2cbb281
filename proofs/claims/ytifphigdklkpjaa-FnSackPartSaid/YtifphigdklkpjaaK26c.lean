/- The contracts of the program's chapter 12: numbers of two bytes one after the other, written and read. -/
import Derived.Test.YtifphigdklkpjaaK18r
import Derived.Test.YtifphigdklkpjaaK20v
import Derived.Test.YtifphigdklkpjaaG11
namespace Go.Proofs.Ytifphigdklkpjaa
open Go.RowKit Go.PlainAid

/-- Numbers of two bytes, one after the other. -/
def wordsS (ns : List Int) : ByteArray := ns.foldl (fun o n => o ++ wordS n) (ByteArray.mk #[])
theorem wordsS_snoc (ns : List Int) (n : Int) : wordsS (ns ++ [n]) = wordsS ns ++ wordS n := by
  unfold wordsS
  rw [List.foldl_append]
  rfl
theorem wordsS_take (ns : List Int) (k : Nat) (h : k < ns.length) : wordsS (ns.take (k + 1)) = wordsS (ns.take k) ++ wordS ns[k] := by
  rw [← wordsS_snoc, List.take_add_one, List.getElem?_eq_getElem h]
  rfl
theorem wordsS_from (ns : List Int) (o : ByteArray) : (ns.foldl (fun o n => o ++ wordS n) o).size = o.size + 2 * ns.length := by
  induction ns generalizing o with
  | nil => rfl
  | cons x xs ih =>
    rw [List.foldl_cons, ih, ByteArray.size_append, wordS_size, List.length_cons]
    omega
theorem wordsS_size (ns : List Int) : (wordsS ns).size = 2 * ns.length := by
  unfold wordsS
  rw [wordsS_from]
  show 0 + _ = _
  omega
theorem wordsS_three (a b c : Int) : wordsS [a, b, c] = wordS a ++ wordS b ++ wordS c := by
  show ByteArray.mk #[] ++ wordS a ++ wordS b ++ wordS c = _
  rw [show ByteArray.mk #[] ++ wordS a = wordS a from ByteArray.empty_append]
theorem wordsS_two (a b : Int) : wordsS [a, b] = wordS a ++ wordS b := by
  show ByteArray.mk #[] ++ wordS a ++ wordS b = _
  rw [show ByteArray.mk #[] ++ wordS a = wordS a from ByteArray.empty_append]
theorem wordsS_one (a : Int) : wordsS [a] = wordS a := by
  show ByteArray.mk #[] ++ wordS a = _
  rw [show ByteArray.mk #[] ++ wordS a = wordS a from ByteArray.empty_append]

set_option maxHeartbeats 1000000 in
theorem wordsPut_any (ns : List Int) (c cap : Nat) (w : World) (hn : ns.length ≤ 100) (hr : ∀ n ∈ ns, 0 ≤ n ∧ n ≤ 65535) (hv : VarN c (ns.map (Value.int .i64)) w) (hl : c < w.heap.size) :
    Calls Try.prog 30 #[.slice (some ⟨c, 0, none⟩) ns.length cap] w fun e w' => e = .returned (.string (wordsS ns)) ∧ Below w.heap.size w w' := by
  have HV := Lib.hid hv
  have HR := Lib.hid hr
  clear hv hr
  go_enter Try.func30, Try.ntmps30
  go_wp2
  go_loopw [3, 8] (fun o i wr => ∃ k : Nat, k ≤ ns.length ∧ i = .int .i64 k ∧ o = .string (wordsS (ns.take k)) ∧ Hid (Below w.heap.size w wr)) (fun _ i _ => ns.length - (intOf i).toNat)
  case atStart => exact ⟨0, Nat.zero_le _, rfl, rfl, Lib.hid (Below.refl _ _)⟩
  case round =>
    obtain ⟨k, hk, rfl, rfl, hbel⟩ := hrel
    by_cases hlt : k < ns.length
    · have hx : wr.cell? ⟨c, k, none⟩ = some (.int .i64 ns[k]) := kept_cell hbel.out hl (HV.out k _ (by simp [hlt])).1
      have hxr := HR.out ns[k] (List.getElem_mem hlt)
      have E := Lib.hid (wordsS_take ns k hlt)
      have hz1 : (wordsS (ns.take k)).size = 2 * k := by rw [wordsS_size, List.length_take, Nat.min_eq_left hk]
      obtain ⟨x, hxe⟩ : ∃ x, ns[k] = x := ⟨_, rfl⟩
      obtain ⟨T, hT⟩ : ∃ T, wordsS (ns.take k) = T := ⟨_, rfl⟩
      rw [hxe] at hx hxr E
      rw [hT] at hz1 E ⊢
      obtain ⟨x0, x1⟩ := hxr
      have hz2 := wordS_size x
      clear hxe hT
      go_wp2_with fail
      refine (numberPut_two x x0 x1 _).mono ?_
      rintro e w2 ⟨rfl, hb2⟩
      go_wp2
      go_roundw
      case rel => exact ⟨k + 1, by omega, by go_num, by rw [E.out], Lib.hid (hbel.out.trans (hb2.mono hbel.out.size))⟩
      case measure => simp [intOf]; omega
    · obtain rfl : k = ns.length := by omega
      have E : wordsS (ns.take ns.length) = wordsS ns := by rw [List.take_length]
      go_wp2
      go_ret
      exact ⟨by first | rfl | exact ret_s E | simp, hbel.out⟩

theorem Cur.put {c d i : Nat} {s : ByteArray} {p : Int} {w : World} (h : Cur c s p w) (hd : d ≠ c) (v : Value) : Cur c s p (w.setCell ⟨d, i, none⟩ v) := by
  obtain ⟨h0, h1, h2, h3⟩ := h
  exact ⟨by simpa using h0, cell_far hd h1, cell_far hd h2, by rw [World.frozen?_setCell]; exact h3⟩
theorem Cur.go {c : Nat} {s : ByteArray} {p q : Int} {w : World} (h : Cur c s p w) (e : p = q) : Cur c s q w := e ▸ h

set_option maxHeartbeats 400000 in
theorem has_big (c : Nat) (s : ByteArray) (p n : Int) (w : World) (hs : s.size ≤ 100000000) (hn0 : 0 ≤ n) (hn : n ≤ 100000000)
    (hc0 : w.cell? ⟨c, 0, none⟩ = some (.string s)) (hc1 : w.cell? ⟨c, 1, none⟩ = some (.int .i64 p)) (h0 : 0 ≤ p) (h1 : p ≤ s.size - n) :
    Calls Try.prog 25 #[.pointer (some ⟨c, 0, none⟩), .int .i64 n] w fun e w' => e = .returned (.bool true) ∧ ∃ k, w' = w.drewN k := by
  go_enter Try.func25, Try.ntmps25
  go_wp2
  go_quiet (fail)
  go_wp2
  go_ret
  exact ⟨rfl, _, rfl⟩

set_option maxHeartbeats 1000000 in
theorem words_three (c : Nat) (s : ByteArray) (p : Nat) (w : World) (hs : s.size ≤ 100000000)
    (hc : Cur c s p w) (h : p + 6 ≤ s.size) (B : Nat) (hB : B ≤ c) :
    Calls Try.prog 42 #[.pointer (some ⟨c, 0, none⟩), .int .i64 3] w fun e w' => ∃ d, e = .returned (.tuple #[.slice (some ⟨d, 0, none⟩) 3 3, .bool true]) ∧ w.heap.size ≤ d ∧ VarN d [.int .i64 (be s p 2), .int .i64 (be s (p + 2) 2), .int .i64 (be s (p + 4) 2)] w' ∧ Cur c s ((p : Int) + 6) w' ∧ Fr B c w w' := by
  have hs' : s.size ≤ maxLen := Nat.le_trans hs (by decide)
  have hBw : B ≤ w.heap.size := Nat.le_trans hB (Nat.le_of_lt hc.1)
  have hmk : ∀ w, (Instr.makeSlice 73 (.int .i64 3) (.int .i64 3)).run Try.prog w = .ok (.slice (some ⟨w.heap.size, 0, none⟩) 3 3) (w.alloc (.cells #[.int .i64 0, .int .i64 0, .int .i64 0] 3)) := fun _ => by kernel_rfl
  have HC := Lib.hid hc
  have hlt := hc.1
  clear hc
  go_enter Try.func42, Try.ntmps42
  go_wp2_with fail
  refine (has_yes c s p 6 _ hs' (by omega) (by omega) HC.out.2.1 HC.out.2.2.1 (by omega) (by omega)).mono ?_
  rintro e w1 ⟨rfl, q, rfl⟩
  have C1 := Lib.hid (HC.out.drewN q)
  have F1 := Lib.hid ((Fr.refl B c w).drewN q)
  have hs1 := Lib.hid (show (w.drewN q).heap.size = w.heap.size by simp)
  clear HC
  generalize w.drewN q = W1 at C1 F1 hs1 ⊢
  have hlt1 : c < W1.heap.size := C1.out.1
  have V1 := Lib.hid (VarN.new W1 #[.int .i64 0, .int .i64 0, .int .i64 0].toList 3)
  have C2 := Lib.hid (C1.out.grow ((Below.refl _ _).alloc (Nat.le_refl _) (.cells #[.int .i64 0, .int .i64 0, .int .i64 0] 3)))
  have F2 := Lib.hid (F1.out.alloc hBw (.cells #[.int .i64 0, .int .i64 0, .int .i64 0] 3))
  clear C1 F1
  go_wp2_with fail
  refine wp_loop_rounds 4 ?_
  rw [rounds_succ]
  go_wp2_with fail
  refine (number_cur c s p 2 _ hs' (by decide) C2.out (by omega) B hB).mono ?_
  rintro e x0 ⟨rfl, hc0, hf0⟩
  have A0 := Lib.hid (V1.out.aside hf0.aside (by simp) (by omega))
  have D0 := Lib.hid (hc0.go (q := ((p + 2 : Nat) : Int)) (by omega))
  have G0 := Lib.hid (F2.out.trans hf0)
  have v0 := (A0.out 0 _ rfl).1
  have vf0 := (A0.out 0 _ rfl).2
  clear hc0 hf0 V1 C2 F2
  go_wp2_with fail
  have Y0 := Lib.hid (A0.out.set (i := 0) (.int .i64 (be s p 2)))
  have Z0 := Lib.hid (D0.out.put (d := W1.heap.size) (i := 0) (by omega) (.int .i64 (be s p 2)))
  have T0 := Lib.hid (G0.out.set (d := W1.heap.size) (i := 0) (by have := hs1.out; omega) hBw (.int .i64 (be s p 2)))
  clear A0 D0 G0 v0 vf0
  rw [rounds_succ]
  go_wp2_with fail
  refine (number_cur c s (p + 2) 2 _ hs' (by decide) Z0.out (by omega) B hB).mono ?_
  rintro e x1 ⟨rfl, hc1, hf1⟩
  have A1 := Lib.hid (Y0.out.aside hf1.aside (by have := (lt_of_cell (Y0.out 0 _ rfl).1); simpa using this) (by omega))
  have D1 := Lib.hid (hc1.go (q := ((p + 4 : Nat) : Int)) (by omega))
  have G1 := Lib.hid (T0.out.trans hf1)
  have v1 := (A1.out 1 _ rfl).1
  have vf1 := (A1.out 1 _ rfl).2
  clear hc1 hf1 Y0 Z0 T0
  go_wp2_with fail
  have Y1 := Lib.hid (A1.out.set (i := 1) (.int .i64 (be s (p + 2) 2)))
  have Z1 := Lib.hid (D1.out.put (d := W1.heap.size) (i := 1) (by omega) (.int .i64 (be s (p + 2) 2)))
  have T1 := Lib.hid (G1.out.set (d := W1.heap.size) (i := 1) (by have := hs1.out; omega) hBw (.int .i64 (be s (p + 2) 2)))
  clear A1 D1 G1 v1 vf1
  rw [rounds_succ]
  go_wp2_with fail
  refine (number_cur c s (p + 4) 2 _ hs' (by decide) Z1.out (by omega) B hB).mono ?_
  rintro e x2 ⟨rfl, hc2, hf2⟩
  have A2 := Lib.hid (Y1.out.aside hf2.aside (by have := (lt_of_cell (Y1.out 0 _ rfl).1); simpa using this) (by omega))
  have D2 := Lib.hid (hc2.go (q := ((p + 6 : Nat) : Int)) (by omega))
  have G2 := Lib.hid (T1.out.trans hf2)
  have v2 := (A2.out 2 _ rfl).1
  have vf2 := (A2.out 2 _ rfl).2
  clear hc2 hf2 Y1 Z1 T1
  go_wp2_with fail
  have Y2 := Lib.hid (A2.out.set (i := 2) (.int .i64 (be s (p + 4) 2)))
  have Z2 := Lib.hid (D2.out.put (d := W1.heap.size) (i := 2) (by omega) (.int .i64 (be s (p + 4) 2)))
  have T2 := Lib.hid (G2.out.set (d := W1.heap.size) (i := 2) (by have := hs1.out; omega) hBw (.int .i64 (be s (p + 4) 2)))
  clear A2 D2 G2 v2 vf2
  rw [rounds_succ]
  go_wp2
  go_ret2
  exact ⟨W1.heap.size, rfl, by have := hs1.out; omega, Y2.out, Z2.out.go (by omega), T2.out⟩

set_option maxHeartbeats 400000 in
theorem words_three_no (c : Nat) (s : ByteArray) (p : Int) (w : World) (hs : s.size ≤ 100000000)
    (hc : Cur c s p w) (h : p < 0 ∨ s.size - 6 < p) :
    Calls Try.prog 42 #[.pointer (some ⟨c, 0, none⟩), .int .i64 3] w fun e w' => e = .returned (.tuple #[.slice none 0 0, .bool false]) ∧ ∃ k, w' = w.drewN k := by
  have hs' : s.size ≤ maxLen := Nat.le_trans hs (by decide)
  go_enter Try.func42, Try.ntmps42
  go_wp2_with fail
  refine (has_no c s p 6 _ hs' (by omega) (by omega) hc.2.1 hc.2.2.1 h).mono ?_
  rintro e w1 ⟨rfl, q, rfl⟩
  go_wp2
  go_ret2
  exact ⟨rfl, _, rfl⟩

set_option maxHeartbeats 1000000 in
theorem words_two (c : Nat) (s : ByteArray) (p : Nat) (w : World) (hs : s.size ≤ 100000000)
    (hc : Cur c s p w) (h : p + 4 ≤ s.size) (B : Nat) (hB : B ≤ c) :
    Calls Try.prog 42 #[.pointer (some ⟨c, 0, none⟩), .int .i64 2] w fun e w' => ∃ d, e = .returned (.tuple #[.slice (some ⟨d, 0, none⟩) 2 2, .bool true]) ∧ w.heap.size ≤ d ∧ VarN d [.int .i64 (be s p 2), .int .i64 (be s (p + 2) 2)] w' ∧ Cur c s ((p : Int) + 4) w' ∧ Fr B c w w' := by
  have hs' : s.size ≤ maxLen := Nat.le_trans hs (by decide)
  have hBw : B ≤ w.heap.size := Nat.le_trans hB (Nat.le_of_lt hc.1)
  have hmk : ∀ w, (Instr.makeSlice 73 (.int .i64 2) (.int .i64 2)).run Try.prog w = .ok (.slice (some ⟨w.heap.size, 0, none⟩) 2 2) (w.alloc (.cells #[.int .i64 0, .int .i64 0] 3)) := fun _ => by kernel_rfl
  have HC := Lib.hid hc
  have hlt := hc.1
  clear hc
  go_enter Try.func42, Try.ntmps42
  go_wp2_with fail
  refine (has_yes c s p 4 _ hs' (by omega) (by omega) HC.out.2.1 HC.out.2.2.1 (by omega) (by omega)).mono ?_
  rintro e w1 ⟨rfl, q, rfl⟩
  have C1 := Lib.hid (HC.out.drewN q)
  have F1 := Lib.hid ((Fr.refl B c w).drewN q)
  have hs1 := Lib.hid (show (w.drewN q).heap.size = w.heap.size by simp)
  clear HC
  generalize w.drewN q = W1 at C1 F1 hs1 ⊢
  have hlt1 : c < W1.heap.size := C1.out.1
  have V1 := Lib.hid (VarN.new W1 #[.int .i64 0, .int .i64 0].toList 3)
  have C2 := Lib.hid (C1.out.grow ((Below.refl _ _).alloc (Nat.le_refl _) (.cells #[.int .i64 0, .int .i64 0] 3)))
  have F2 := Lib.hid (F1.out.alloc hBw (.cells #[.int .i64 0, .int .i64 0] 3))
  clear C1 F1
  go_wp2_with fail
  refine wp_loop_rounds 3 ?_
  rw [rounds_succ]
  go_wp2_with fail
  refine (number_cur c s p 2 _ hs' (by decide) C2.out (by omega) B hB).mono ?_
  rintro e x0 ⟨rfl, hc0, hf0⟩
  have A0 := Lib.hid (V1.out.aside hf0.aside (by simp) (by omega))
  have D0 := Lib.hid (hc0.go (q := ((p + 2 : Nat) : Int)) (by omega))
  have G0 := Lib.hid (F2.out.trans hf0)
  have v0 := (A0.out 0 _ rfl).1
  have vf0 := (A0.out 0 _ rfl).2
  clear hc0 hf0 V1 C2 F2
  go_wp2_with fail
  have Y0 := Lib.hid (A0.out.set (i := 0) (.int .i64 (be s p 2)))
  have Z0 := Lib.hid (D0.out.put (d := W1.heap.size) (i := 0) (by omega) (.int .i64 (be s p 2)))
  have T0 := Lib.hid (G0.out.set (d := W1.heap.size) (i := 0) (by have := hs1.out; omega) hBw (.int .i64 (be s p 2)))
  clear A0 D0 G0 v0 vf0
  rw [rounds_succ]
  go_wp2_with fail
  refine (number_cur c s (p + 2) 2 _ hs' (by decide) Z0.out (by omega) B hB).mono ?_
  rintro e x1 ⟨rfl, hc1, hf1⟩
  have A1 := Lib.hid (Y0.out.aside hf1.aside (by have := (lt_of_cell (Y0.out 0 _ rfl).1); simpa using this) (by omega))
  have D1 := Lib.hid (hc1.go (q := ((p + 4 : Nat) : Int)) (by omega))
  have G1 := Lib.hid (T0.out.trans hf1)
  have v1 := (A1.out 1 _ rfl).1
  have vf1 := (A1.out 1 _ rfl).2
  clear hc1 hf1 Y0 Z0 T0
  go_wp2_with fail
  have Y1 := Lib.hid (A1.out.set (i := 1) (.int .i64 (be s (p + 2) 2)))
  have Z1 := Lib.hid (D1.out.put (d := W1.heap.size) (i := 1) (by omega) (.int .i64 (be s (p + 2) 2)))
  have T1 := Lib.hid (G1.out.set (d := W1.heap.size) (i := 1) (by have := hs1.out; omega) hBw (.int .i64 (be s (p + 2) 2)))
  clear A1 D1 G1 v1 vf1
  rw [rounds_succ]
  go_wp2
  go_ret2
  exact ⟨W1.heap.size, rfl, by have := hs1.out; omega, Y1.out, Z1.out.go (by omega), T1.out⟩

set_option maxHeartbeats 400000 in
theorem words_two_no (c : Nat) (s : ByteArray) (p : Int) (w : World) (hs : s.size ≤ 100000000)
    (hc : Cur c s p w) (h : p < 0 ∨ s.size - 4 < p) :
    Calls Try.prog 42 #[.pointer (some ⟨c, 0, none⟩), .int .i64 2] w fun e w' => e = .returned (.tuple #[.slice none 0 0, .bool false]) ∧ ∃ k, w' = w.drewN k := by
  have hs' : s.size ≤ maxLen := Nat.le_trans hs (by decide)
  go_enter Try.func42, Try.ntmps42
  go_wp2_with fail
  refine (has_no c s p 4 _ hs' (by omega) (by omega) hc.2.1 hc.2.2.1 h).mono ?_
  rintro e w1 ⟨rfl, q, rfl⟩
  go_wp2
  go_ret2
  exact ⟨rfl, _, rfl⟩

end Go.Proofs.Ytifphigdklkpjaa
