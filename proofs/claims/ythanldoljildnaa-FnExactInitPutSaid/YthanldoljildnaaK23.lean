/- The contracts of chapter 12's model: inits, written. -/
import Derived.Test.YthanldoljildnaaK19
import Derived.Test.YthanldoljildnaaK20v
import Derived.Deep.DeepCutAuto
import Derived.Handy
namespace Go.Proofs.Ythanldoljildnaa
open Go.RowKit Go.PlainAid

set_option maxHeartbeats 400000 in
theorem l1Long_at (n : Int) (h0 : 0 ≤ n) (h1 : n ≤ 4294967295) (w : World) :
    Calls Try.prog 29 #[.int .i64 n] w fun e w' => e = .returned (.string (longS n)) ∧ ∃ o p, (w.alloc o).alloc p = w' := by
  have hz : ¬ 9223372036854775807 < (wordS (n / 65536)).size + (wordS (n % 65536)).size := by rw [wordS_size, wordS_size]; simp
  have E := Lib.hid (long_words n)
  go_enter Try.func29, Try.ntmps29
  go_wp2_with fail
  refine (l1Word_at (n / 65536) (by omega) (by omega) _).mono ?_
  rintro e w1 ⟨rfl, rfl⟩
  go_wp2_with fail
  refine (l1Word_at (n % 65536) (by omega) (by omega) _).mono ?_
  rintro e w1 ⟨rfl, rfl⟩
  go_wp2
  go_ret
  exact ⟨ret_s E.out, _, _, rfl⟩

theorem VarN.drew {c : Nat} {vs : List Value} {w : World} (h : VarN c vs w) : VarN c vs w.drew := h
theorem pastD0 {w : World} {b i : Nat} {v : Value} (h : w.cell? ⟨b, i, none⟩ = some v) : (w).drew.cell? ⟨b, i, none⟩ = some v :=
  (World.cell?_drew _ _).trans (h)
theorem pastD1 {w : World} {b i : Nat} {v : Value} {o0 : Obj} (h : w.cell? ⟨b, i, none⟩ = some v) : (w.alloc o0).drew.cell? ⟨b, i, none⟩ = some v :=
  (World.cell?_drew _ _).trans (past_cell (h) _)
theorem pastD2 {w : World} {b i : Nat} {v : Value} {o0 o1 : Obj} (h : w.cell? ⟨b, i, none⟩ = some v) : ((w.alloc o0).alloc o1).drew.cell? ⟨b, i, none⟩ = some v :=
  (World.cell?_drew _ _).trans (past_cell (past_cell (h) _) _)
theorem pastD3 {w : World} {b i : Nat} {v : Value} {o0 o1 o2 : Obj} (h : w.cell? ⟨b, i, none⟩ = some v) : (((w.alloc o0).alloc o1).alloc o2).drew.cell? ⟨b, i, none⟩ = some v :=
  (World.cell?_drew _ _).trans (past_cell (past_cell (past_cell (h) _) _) _)
theorem pastD4 {w : World} {b i : Nat} {v : Value} {o0 o1 o2 o3 : Obj} (h : w.cell? ⟨b, i, none⟩ = some v) : ((((w.alloc o0).alloc o1).alloc o2).alloc o3).drew.cell? ⟨b, i, none⟩ = some v :=
  (World.cell?_drew _ _).trans (past_cell (past_cell (past_cell (past_cell (h) _) _) _) _)
theorem pastD5 {w : World} {b i : Nat} {v : Value} {o0 o1 o2 o3 o4 : Obj} (h : w.cell? ⟨b, i, none⟩ = some v) : (((((w.alloc o0).alloc o1).alloc o2).alloc o3).alloc o4).drew.cell? ⟨b, i, none⟩ = some v :=
  (World.cell?_drew _ _).trans (past_cell (past_cell (past_cell (past_cell (past_cell (h) _) _) _) _) _)
theorem pastD6 {w : World} {b i : Nat} {v : Value} {o0 o1 o2 o3 o4 o5 : Obj} (h : w.cell? ⟨b, i, none⟩ = some v) : ((((((w.alloc o0).alloc o1).alloc o2).alloc o3).alloc o4).alloc o5).drew.cell? ⟨b, i, none⟩ = some v :=
  (World.cell?_drew _ _).trans (past_cell (past_cell (past_cell (past_cell (past_cell (past_cell (h) _) _) _) _) _) _)
theorem pastD7 {w : World} {b i : Nat} {v : Value} {o0 o1 o2 o3 o4 o5 o6 : Obj} (h : w.cell? ⟨b, i, none⟩ = some v) : (((((((w.alloc o0).alloc o1).alloc o2).alloc o3).alloc o4).alloc o5).alloc o6).drew.cell? ⟨b, i, none⟩ = some v :=
  (World.cell?_drew _ _).trans (past_cell (past_cell (past_cell (past_cell (past_cell (past_cell (past_cell (h) _) _) _) _) _) _) _)

set_option maxHeartbeats 400000 in
theorem l12Init_any (a b c d : Int) (w : World) :
    Calls Try.prog 28 #[.agg #[.int .i64 a, .int .i64 b, .int .i64 c, .int .i64 d]] w fun e w' => e = .returned (.bool (initOkV a b c d)) ∧ Below w.heap.size w w' := by
  by_cases h0 : 1 ≤ a ∧ a ≤ 4294967295
  · have H0 := Lib.hid (decide_eq_true h0)
    have G0 := Lib.hid h0
    clear h0
    by_cases h1 : 0 ≤ b ∧ b ≤ 65535
    · have H1 := Lib.hid (decide_eq_true h1)
      have G1 := Lib.hid h1
      clear h1
      by_cases h2 : 1 ≤ c ∧ c ≤ 4
      · have H2 := Lib.hid (decide_eq_true h2)
        have G2 := Lib.hid h2
        clear h2
        by_cases h3 : Ser d
        · have E := Lib.hid (initOkV_yes (a := a) (b := b) (c := c) (d := d) ⟨G0.out, G1.out, G2.out, ser_le h3⟩)
          have H3 := Lib.hid h3
          clear h3
          rw [E.out]
          go_enter Try.func28, Try.ntmps28
          go_wp2_with fail
          refine (l6In_any a 1 4294967295 _).mono ?_
          rintro e w1 ⟨rfl, rfl⟩
          rw [H0.out]
          go_wp2_with fail
          refine (l6In_any b 0 65535 _).mono ?_
          rintro e w1 ⟨rfl, rfl⟩
          rw [H1.out]
          go_wp2_with fail
          refine (l6In_any c 1 4 _).mono ?_
          rintro e w1 ⟨rfl, rfl⟩
          rw [H2.out]
          go_wp2_with fail
          refine (l3Ok_yes d _ H3.out).mono ?_
          rintro e w1 ⟨rfl, rfl⟩
          go_wp2
          go_ret
          exact ⟨rfl, below_box _ (Nat.le_refl _)⟩
        · have H3 := Lib.hid h3
          clear h3
          rw [initOkV_no fun h => ser_not H3.out h.2.2.2]
          go_enter Try.func28, Try.ntmps28
          go_wp2_with fail
          refine (l6In_any a 1 4294967295 _).mono ?_
          rintro e w1 ⟨rfl, rfl⟩
          rw [H0.out]
          go_wp2_with fail
          refine (l6In_any b 0 65535 _).mono ?_
          rintro e w1 ⟨rfl, rfl⟩
          rw [H1.out]
          go_wp2_with fail
          refine (l6In_any c 1 4 _).mono ?_
          rintro e w1 ⟨rfl, rfl⟩
          rw [H2.out]
          go_wp2_with fail
          refine (l3Ok_no d _ H3.out).mono ?_
          rintro e w1 ⟨rfl, rfl⟩
          go_wp2
          go_ret
          exact ⟨rfl, below_box _ (Nat.le_refl _)⟩
      · have H2 := Lib.hid (decide_eq_false h2)
        rw [initOkV_no fun h => h2 h.2.2.1]
        clear h2
        go_enter Try.func28, Try.ntmps28
        go_wp2_with fail
        refine (l6In_any a 1 4294967295 _).mono ?_
        rintro e w1 ⟨rfl, rfl⟩
        rw [H0.out]
        go_wp2_with fail
        refine (l6In_any b 0 65535 _).mono ?_
        rintro e w1 ⟨rfl, rfl⟩
        rw [H1.out]
        go_wp2_with fail
        refine (l6In_any c 1 4 _).mono ?_
        rintro e w1 ⟨rfl, rfl⟩
        rw [H2.out]
        go_wp2
        go_ret
        exact ⟨rfl, below_box _ (Nat.le_refl _)⟩
    · have H1 := Lib.hid (decide_eq_false h1)
      rw [initOkV_no fun h => h1 h.2.1]
      clear h1
      go_enter Try.func28, Try.ntmps28
      go_wp2_with fail
      refine (l6In_any a 1 4294967295 _).mono ?_
      rintro e w1 ⟨rfl, rfl⟩
      rw [H0.out]
      go_wp2_with fail
      refine (l6In_any b 0 65535 _).mono ?_
      rintro e w1 ⟨rfl, rfl⟩
      rw [H1.out]
      go_wp2
      go_ret
      exact ⟨rfl, below_box _ (Nat.le_refl _)⟩
  · have H0 := Lib.hid (decide_eq_false h0)
    rw [initOkV_no fun h => h0 h.1]
    clear h0
    go_enter Try.func28, Try.ntmps28
    go_wp2_with fail
    refine (l6In_any a 1 4294967295 _).mono ?_
    rintro e w1 ⟨rfl, rfl⟩
    rw [H0.out]
    go_wp2
    go_ret
    exact ⟨rfl, below_box _ (Nat.le_refl _)⟩

set_option maxHeartbeats 400000 in
theorem sInitPut_no (a b c d : Int) (y : Bool) (w : World) (h : ¬ InitOk a b c d) :
    Calls Try.prog 12 #[.agg #[.int .i64 a, .int .i64 b, .int .i64 c, .int .i64 d], .bool y] w fun e w' => e = .returned notMadeV ∧ Below w.heap.size w w' := by
  have H := Lib.hid h
  clear h
  go_enter Try.func12, Try.ntmps12
  go_wp2_with fail
  refine (l12Init_any a b c d _).mono ?_
  rintro e w1 ⟨rfl, hb1⟩
  rw [initOkV_no H.out]
  have V1 := (VarN.new w [.int .i64 a, .int .i64 b, .int .i64 c, .int .i64 d] 24).alloc (.cells #[.int .i64 0, .int .i64 0, .string (ByteArray.mk #[])] 28) (by simp)
  have R1 := VarN.new (w.alloc (.cells #[.int .i64 a, .int .i64 b, .int .i64 c, .int .i64 d] 24)) [.int .i64 0, .int .i64 0, .string (ByteArray.mk #[])] 28
  rw [show (w.alloc (.cells #[.int .i64 a, .int .i64 b, .int .i64 c, .int .i64 d] 24)).heap.size = w.heap.size + 1 by simp] at R1
  have V2 := Lib.hid (V1.below hb1 (by simp; omega))
  have R2 := Lib.hid (R1.below hb1 (by simp))
  have hB1 := Lib.hid (((below_box (.cells #[.int .i64 a, .int .i64 b, .int .i64 c, .int .i64 d] 24) (Nat.le_refl w.heap.size)).alloc (by simp) (.cells #[.int .i64 0, .int .i64 0, .string (ByteArray.mk #[])] 28)).trans (hb1.mono (by simp; omega)))
  clear hb1 V1 R1
  have r0 := (R2.out 0 _ rfl).1
  have g0 := (R2.out 0 _ rfl).2
  have r1 := (R2.out 1 _ rfl).1
  have g1 := (R2.out 1 _ rfl).2
  have r2 := (R2.out 2 _ rfl).1
  have g2 := (R2.out 2 _ rfl).2
  clear V2 R2
  go_wp2
  refine bodyPost_ret (v := notMadeV) ?_ rfl ?_
  · simp [results, Try.results12, go_sem, notMadeV, r0, r1, r2]
  · exact ⟨rfl, ((hB1.out.setCell (Nat.le_succ _) _).setCell (Nat.le_succ _) _).setCell (Nat.le_succ _) _⟩

set_option maxHeartbeats 4000000 in
theorem sInitPut_yes (a b c d : Int) (y : Bool) (w : World) (h : InitOk a b c d) :
    Calls Try.prog 12 #[.agg #[.int .i64 a, .int .i64 b, .int .i64 c, .int .i64 d], .bool y] w fun e w' => e = .returned (madeV (if y then 2 else 1) 0 (initS a b c d)) ∧ Below w.heap.size w w' := by
  have H := Lib.hid h
  obtain ⟨⟨a0, a1⟩, ⟨b0, b1⟩, ⟨c0, c1⟩, d0, d1⟩ := h
  go_enter Try.func12, Try.ntmps12
  go_wp2_with fail
  refine (l12Init_any a b c d _).mono ?_
  rintro e w1 ⟨rfl, hb1⟩
  rw [initOkV_yes H.out]
  have V1 := (VarN.new w [.int .i64 a, .int .i64 b, .int .i64 c, .int .i64 d] 24).alloc (.cells #[.int .i64 0, .int .i64 0, .string (ByteArray.mk #[])] 28) (by simp)
  have R1 := VarN.new (w.alloc (.cells #[.int .i64 a, .int .i64 b, .int .i64 c, .int .i64 d] 24)) [.int .i64 0, .int .i64 0, .string (ByteArray.mk #[])] 28
  rw [show (w.alloc (.cells #[.int .i64 a, .int .i64 b, .int .i64 c, .int .i64 d] 24)).heap.size = w.heap.size + 1 by simp] at R1
  have V2 := Lib.hid (V1.below hb1 (by simp; omega))
  have R2 := Lib.hid (R1.below hb1 (by simp))
  have hB1 := Lib.hid (((below_box (.cells #[.int .i64 a, .int .i64 b, .int .i64 c, .int .i64 d] 24) (Nat.le_refl w.heap.size)).alloc (by simp) (.cells #[.int .i64 0, .int .i64 0, .string (ByteArray.mk #[])] 28)).trans (hb1.mono (by simp; omega)))
  clear hb1 V1 R1
  have hlt : w.heap.size + 1 < w1.heap.size := by simpa using World.block_lt_of_cell? _ _ (R2.out 0 _ rfl).1
  have x0 := (V2.out 0 _ rfl).1
  have x1 := (V2.out 1 _ rfl).1
  have x2 := (V2.out 2 _ rfl).1
  have x3 := (V2.out 3 _ rfl).1
  have hz1 : ¬ 9223372036854775807 < (longS a).size + (wordS b).size := by rw [longS_size, wordS_size]; simp
  have hz2 : ¬ 9223372036854775807 < (longS a).size + (wordS b).size + (wordS c).size := by rw [longS_size, wordS_size, wordS_size]; simp
  have hz3 : ¬ 9223372036854775807 < (longS a).size + (wordS b).size + (wordS c).size + (wordS d).size := by rw [longS_size, wordS_size, wordS_size, wordS_size]; simp
  go_wp2_with fail
  go_cut [6] from 11 to 26 (fun v wx => ∃ n : Nat, v = .pointer (some ⟨n, 0, none⟩) ∧ w.heap.size + 1 < n ∧ VarN n [.int .i64 1, .int .i64 0, .string (longS a ++ wordS b ++ wordS c ++ wordS d)] wx ∧ VarN (w.heap.size + 1) [.int .i64 0, .int .i64 0, .string (ByteArray.mk #[])] wx ∧ Below w.heap.size w wx)
  case first =>
    go_region_held_law (fun W => W.cell? ⟨w.heap.size, 0, none⟩ = some (.int .i64 a) ∧ W.cell? ⟨w.heap.size, 1, none⟩ = some (.int .i64 b) ∧ W.cell? ⟨w.heap.size, 2, none⟩ = some (.int .i64 c) ∧ W.cell? ⟨w.heap.size, 3, none⟩ = some (.int .i64 d)) (first | with_reducible assumption | with_reducible exact ⟨pastD0 x0, pastD0 x1, pastD0 x2, pastD0 x3⟩ | with_reducible exact ⟨pastD1 x0, pastD1 x1, pastD1 x2, pastD1 x3⟩ | with_reducible exact ⟨pastD2 x0, pastD2 x1, pastD2 x2, pastD2 x3⟩ | with_reducible exact ⟨pastD3 x0, pastD3 x1, pastD3 x2, pastD3 x3⟩ | with_reducible exact ⟨pastD4 x0, pastD4 x1, pastD4 x2, pastD4 x3⟩ | with_reducible exact ⟨pastD5 x0, pastD5 x1, pastD5 x2, pastD5 x3⟩ | with_reducible exact ⟨pastD6 x0, pastD6 x1, pastD6 x2, pastD6 x3⟩ | with_reducible exact ⟨pastD7 x0, pastD7 x1, pastD7 x2, pastD7 x3⟩)
      (first | (go_simp; go_at_call 29; refine (l1Long_at a (by omega) a1 _).mono ?_; rintro e w3 ⟨rfl, o, p, rfl⟩) | (go_simp; go_at_call_of 30 (Value.int .i64 b); refine (l1Word_at b (by omega) (by omega) _).mono ?_; rintro e w3 ⟨rfl, rfl⟩) | (go_simp; go_at_call_of 30 (Value.int .i64 c); refine (l1Word_at c (by omega) (by omega) _).mono ?_; rintro e w3 ⟨rfl, rfl⟩) | (go_simp; go_at_call_of 30 (Value.int .i64 d); refine (l1Word_at d (by omega) (by omega) _).mono ?_; rintro e w3 ⟨rfl, rfl⟩))
    all_goals
      go_wp2_with fail
      go_meet
      refine ⟨_, rfl, by omega, ?_, ?_, ?_⟩
      · repeat (first | (with_reducible refine VarN.new_at ?_ [.int .i64 1, .int .i64 0, .string (longS a ++ wordS b ++ wordS c ++ wordS d)] 28; simp; done) | with_reducible refine VarN.drew ?_ | with_reducible refine VarN.alloc ?_ _ (by first | omega | (simp <;> omega)))
      · repeat (first | with_reducible exact R2.out | with_reducible refine VarN.drew ?_ | with_reducible refine VarN.alloc ?_ _ (by first | omega | (simp <;> omega)))
      · have hs := hB1.out.size
        repeat (first | with_reducible exact hB1.out | with_reducible refine Below.drew ?_ | with_reducible refine Below.alloc ?_ (by first | omega | (simp <;> omega)) _)
  case rest =>
    obtain ⟨n, rfl, hn, V, R, hb⟩ := hcut
    have hne : n ≠ w.heap.size + 1 := by omega
    clear x0 x1 x2 x3 hz1 hz2 hz3 V2 R2 hB1
    have c0 := (V 0 _ rfl).1
    have c1 := (V 1 _ rfl).1
    have c2 := (V 2 _ rfl).1
    have e0 := (V 0 _ rfl).2
    have r0 := (R 0 _ rfl).1
    have g0 := (R 0 _ rfl).2
    have r1 := (R 1 _ rfl).1
    have g1 := (R 1 _ rfl).2
    have r2 := (R 2 _ rfl).1
    have g2 := (R 2 _ rfl).2
    have hlt2 : w.heap.size ≤ n := by omega
    cases y
    · go_wp2
      refine bodyPost_ret (v := madeV 1 0 (initS a b c d)) ?_ rfl ?_
      · first | (simp [results, Try.results12, go_sem, madeV, initS, r0, r1, r2]; done) | simp [results, Try.results12, go_sem, madeV, initS, r0, r1, r2, cell_far, hne]
      · exact ⟨rfl, by
          repeat (first | with_reducible exact hb | refine Below.setCell ?_ (by first | exact Nat.le_succ _ | exact hlt2) _)⟩
    · go_wp2
      refine bodyPost_ret (v := madeV 2 0 (initS a b c d)) ?_ rfl ?_
      · first | (simp [results, Try.results12, go_sem, madeV, initS, r0, r1, r2]; done) | simp [results, Try.results12, go_sem, madeV, initS, r0, r1, r2, cell_far, hne]
      · exact ⟨rfl, by
          repeat (first | with_reducible exact hb | refine Below.setCell ?_ (by first | exact Nat.le_succ _ | exact hlt2) _)⟩

end Go.Proofs.Ythanldoljildnaa
