/- The contracts of chapter 12's model, further: chunks that hold no part. -/
import Derived.Test.YtpenkcmhmmjmeaaK20
namespace Go.Proofs.Ytpenkcmhmmjmeaa
open Go.RowKit Go.PlainAid

theorem data_not {p q r : Int} {b : ByteArray} (h : ¬ (7 ≤ b.size ∧ b.size ≤ 26)) : ¬ DataOk p q r (b.extract 6 b.size) := fun k => h (by
  have z := size_cut b 6 b.size (Nat.le_refl _)
  have k4 := k.2.2.2
  omega)

set_option maxHeartbeats 8000000 in
theorem sDataGet_spoilt (f : Int) (b : ByteArray) (w : World) (f0 : 0 ≤ f) (f1 : f ≤ 7) (z0 : 6 ≤ b.size) (hm : b.size ≤ maxLen) (h : ¬ (7 ≤ b.size ∧ b.size ≤ 26)) :
    Calls Try.prog 17 #[.agg #[.int .i64 0, .int .i64 f, .string b]] w fun e w' => e = .returned noDataV ∧ Below w.heap.size w w' := by
  have H := Lib.hid h
  clear h
  have D := Lib.hid (decide_eq_true (show (0 : Int) ≤ f ∧ f ≤ 7 from ⟨f0, f1⟩))
  have hm2 := hm
  unfold maxLen at hm2
  have q6 : (6 : Int) ≤ b.size := by omega
  have hdd : w.heap.size + 1 + 1 ≠ w.heap.size := by omega
  have C0 := VarN.new w [.int .i64 0, .int .i64 f, .string b] 27
  go_enter Try.func17, Try.ntmps17
  go_wp2_with fail
  refine (l6In_any f 0 7 _).mono ?_
  rintro e w1 ⟨rfl, rfl⟩
  rw [D.out]
  go_wp2_with fail
  go_cut [4] from 21 to 33 (fun v wx => v = .pointer (some ⟨w.heap.size + 1 + 1, 0, none⟩) ∧ VarN (w.heap.size + 1 + 1) [.int .i64 (be b 0 2), .int .i64 (be b 2 2), .int .i64 (be b 4 2), .bool false, .bool false, .bool false, .string (b.extract 6 b.size)] wx ∧ VarN w.heap.size [.int .i64 0, .int .i64 f, .string b] wx ∧ Below (w.heap.size + 1 + 1) ((w.alloc (.cells #[.int .i64 0, .int .i64 f, .string b] 27)).alloc (.cells #[.int .i64 0, .int .i64 0, .int .i64 0, .bool false, .bool false, .bool false, .string (ByteArray.mk #[])] 24)) wx)
  case first =>
    go_region_held_law (fun W => W.cell? ⟨w.heap.size, 2, none⟩ = some (.string b)) (first | with_reducible exact (cell_far hdd (cell_far hdd (cell_far hdd (cell_far hdd (cell_far hdd (cell_far hdd (cell_far hdd (by assumption)))))))) | (go_keep; done))
      (first | (go_simp; go_at_call_of 38 (Value.int .i64 0); refine (l1At_be b 0 0 rfl _ hm (by omega)).mono ?_; rintro e w3 ⟨rfl, q, rfl⟩) | (go_simp; go_at_call_of 38 (Value.int .i64 2); refine (l1At_be b 2 2 rfl _ hm (by omega)).mono ?_; rintro e w3 ⟨rfl, q, rfl⟩) | (go_simp; go_at_call_of 38 (Value.int .i64 4); refine (l1At_be b 4 4 rfl _ hm (by omega)).mono ?_; rintro e w3 ⟨rfl, q, rfl⟩))
    all_goals
      go_wp2_with fail
      go_meet
      refine ⟨rfl, ?_, ?_, ?_⟩
      · first
          | (with_reducible refine VarN.new_at ?_ [.int .i64 (be b 0 2), .int .i64 (be b 2 2), .int .i64 (be b 4 2), .bool false, .bool false, .bool false, .string (b.extract 6 b.size)] 24; simp; done)
          | (with_reducible refine VarN.put7 (VarN.drewN (VarN.new_at ?_ [.int .i64 0, .int .i64 0, .int .i64 0, .bool false, .bool false, .bool false, .string (ByteArray.mk #[])] 24) _) _ _ _ _ _ _ _; simp; done)
          | (with_reducible refine VarN.put7 (VarN.new_at ?_ [.int .i64 0, .int .i64 0, .int .i64 0, .bool false, .bool false, .bool false, .string (ByteArray.mk #[])] 24) _ _ _ _ _ _ _; simp; done)
      · repeat (first | with_reducible exact C0 | (with_reducible refine VarN.far ?_ _ hdd) | (with_reducible refine VarN.drewN ?_ _) | (with_reducible refine VarN.alloc ?_ _ (by simp <;> omega)))
      · repeat (first | with_reducible exact Below.refl _ _ | (with_reducible refine Below.setCell ?_ (by exact Nat.le_refl _) _) | (with_reducible refine below_drewN ?_ _) | (with_reducible refine Below.alloc ?_ (by simp <;> omega) _))
  case rest =>
    obtain ⟨rfl, V, C, hb⟩ := hcut
    have hne : ¬ w.heap.size = w.heap.size + 1 + 1 := by omega
    have c1 := (C 1 _ rfl).1
    have HV := Lib.hid V
    have f3 := (V 3 _ rfl).2
    have f4 := (V 4 _ rfl).2
    have f5 := (V 5 _ rfl).2
    have v3 := (V 3 _ rfl).1
    have v4 := (V 4 _ rfl).1
    have v5 := (V 5 _ rfl).1
    have HB := Lib.hid hb
    have L := ((V.set (i := 4) (.bool (f % 2 == 1))).set (i := 3) (.bool (f / 2 % 2 == 1))).set (i := 5) (.bool (f / 4 == 1))
    have l0 := (L 0 _ rfl).1
    have l1 := (L 1 _ rfl).1
    have l2 := (L 2 _ rfl).1
    have l3 := (L 3 _ rfl).1
    have l4 := (L 4 _ rfl).1
    have l5 := (L 5 _ rfl).1
    have l6 := (L 6 _ rfl).1
    have HL := Lib.hid L
    clear V C L hb q6 C0
    go_wp2_with fail
    have HD := Lib.hid (data_not (p := be b 0 2) (q := be b 2 2) (r := be b 4 2) H.out)
    refine (l12Data_any (be b 0 2) (be b 2 2) (be b 4 2) (f / 2 % 2 == 1) (f % 2 == 1) (f / 4 == 1) (b.extract 6 b.size) _).mono ?_
    rintro e w4 ⟨rfl, hb4⟩
    rw [dataOkV_no HD.out]
    have hd := World.block_lt_of_cell? _ _ (HL.out 0 _ rfl).1
    simp only [World.size_setCell] at hd
    have L4 := HL.out.below hb4 (by simpa using hd)
    have HB2 := ((HB.out.setCell (p := ⟨w.heap.size + 1 + 1, 4, none⟩) (Nat.le_refl _) (.bool (f % 2 == 1))).setCell (p := ⟨w.heap.size + 1 + 1, 3, none⟩) (Nat.le_refl _) (.bool (f / 2 % 2 == 1))).setCell (p := ⟨w.heap.size + 1 + 1, 5, none⟩) (Nat.le_refl _) (.bool (f / 4 == 1))
    have hBW := HB2.trans (hb4.mono (by simp only [World.size_setCell]; omega))
    have R1 := VarN.new (w.alloc (.cells #[.int .i64 0, .int .i64 f, .string b] 27)) [.int .i64 0, .int .i64 0, .int .i64 0, .bool false, .bool false, .bool false, .string (ByteArray.mk #[])] 24
    rw [show (w.alloc (.cells #[.int .i64 0, .int .i64 f, .string b] 27)).heap.size = w.heap.size + 1 by simp] at R1
    have R2 := R1.below hBW (by omega)
    have hB4 := Lib.hid (((below_box (.cells #[.int .i64 0, .int .i64 f, .string b] 27) (Nat.le_refl w.heap.size)).alloc (by simp) (.cells #[.int .i64 0, .int .i64 0, .int .i64 0, .bool false, .bool false, .bool false, .string (ByteArray.mk #[])] 24)).trans (hBW.mono (by omega)))
    clear R1 HB HB2 hb4 hBW HL HV c1 f3 f4 f5 v3 v4 v5 l0 l1 l2 l3 l4 l5 l6 hne hdd
    have c0 := (L4 0 _ rfl).1
    have c1 := (L4 1 _ rfl).1
    have c2 := (L4 2 _ rfl).1
    have c3 := (L4 3 _ rfl).1
    have c4 := (L4 4 _ rfl).1
    have c5 := (L4 5 _ rfl).1
    have c6 := (L4 6 _ rfl).1
    have r0 := (R2 0 _ rfl).1
    have g0 := (R2 0 _ rfl).2
    have r1 := (R2 1 _ rfl).1
    have g1 := (R2 1 _ rfl).2
    have r2 := (R2 2 _ rfl).1
    have g2 := (R2 2 _ rfl).2
    have r3 := (R2 3 _ rfl).1
    have g3 := (R2 3 _ rfl).2
    have r4 := (R2 4 _ rfl).1
    have g4 := (R2 4 _ rfl).2
    have r5 := (R2 5 _ rfl).1
    have g5 := (R2 5 _ rfl).2
    have r6 := (R2 6 _ rfl).1
    have g6 := (R2 6 _ rfl).2
    clear L4 R2
    go_wp2
    refine bodyPost_ret (v := noDataV) ?_ rfl ?_
    · simp [results, Try.results17, go_sem, noDataV, r0, r1, r2, r3, r4, r5, r6]
    · exact ⟨rfl, by
        repeat (first | with_reducible exact hB4.out | refine Below.setCell ?_ (by exact Nat.le_succ _) _)⟩

set_option maxHeartbeats 1000000 in
theorem sDataGet_other (k f : Int) (b : ByteArray) (w : World) (hm : b.size ≤ maxLen) (h : ¬ (k = 0 ∧ (0 ≤ f ∧ f ≤ 7) ∧ 6 ≤ b.size)) :
    Calls Try.prog 17 #[.agg #[.int .i64 k, .int .i64 f, .string b]] w fun e w' => e = .returned noDataV ∧ Below w.heap.size w w' := by
  unfold maxLen at hm
  have hB := Lib.hid ((below_box (.cells #[.int .i64 k, .int .i64 f, .string b] 27) (Nat.le_refl w.heap.size)).alloc (by simp) (.cells #[.int .i64 0, .int .i64 0, .int .i64 0, .bool false, .bool false, .bool false, .string (ByteArray.mk #[])] 24))
  by_cases hk : k = 0
  · subst hk
    by_cases hf : 0 ≤ f ∧ f ≤ 7
    · have hz : ¬ 6 ≤ b.size := fun k => h ⟨rfl, hf, k⟩
      have D := Lib.hid (decide_eq_true hf)
      clear h hf
      go_enter Try.func17, Try.ntmps17
      go_wp2_with fail
      refine (l6In_any f 0 7 _).mono ?_
      rintro e w1 ⟨rfl, rfl⟩
      rw [D.out]
      go_wp2
      refine bodyPost_ret (v := noDataV) ?_ rfl ?_
      · simp [results, Try.results17, go_sem, noDataV]
      · exact ⟨rfl, hB.out⟩
    · have D := Lib.hid (decide_eq_false hf)
      clear h hf
      go_enter Try.func17, Try.ntmps17
      go_wp2_with fail
      refine (l6In_any f 0 7 _).mono ?_
      rintro e w1 ⟨rfl, rfl⟩
      rw [D.out]
      go_wp2
      refine bodyPost_ret (v := noDataV) ?_ rfl ?_
      · simp [results, Try.results17, go_sem, noDataV]
      · exact ⟨rfl, hB.out⟩
  · have d0 : (k != 0) = true := by simpa using hk
    clear h
    go_enter Try.func17, Try.ntmps17
    go_wp2
    refine bodyPost_ret (v := noDataV) ?_ rfl ?_
    · simp [results, Try.results17, go_sem, noDataV]
    · exact ⟨rfl, hB.out⟩

theorem sDataGet_no (k f : Int) (b : ByteArray) (w : World) (hm : b.size ≤ maxLen) (h : ¬ HasData k f b) :
    Calls Try.prog 17 #[.agg #[.int .i64 k, .int .i64 f, .string b]] w fun e w' => e = .returned noDataV ∧ Below w.heap.size w w' := by
  by_cases h1 : k = 0 ∧ (0 ≤ f ∧ f ≤ 7) ∧ 6 ≤ b.size
  · obtain ⟨rfl, ⟨f0, f1⟩, h3⟩ := h1
    exact sDataGet_spoilt f b w f0 f1 h3 hm fun k => h ⟨rfl, ⟨f0, f1⟩, k⟩
  · exact sDataGet_other k f b w hm h1

end Go.Proofs.Ytpenkcmhmmjmeaa
