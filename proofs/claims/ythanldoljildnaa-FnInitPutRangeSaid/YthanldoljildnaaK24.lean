/- The contracts of chapter 12's model: inits, read. -/
import Derived.Test.YthanldoljildnaaK23
namespace Go.Proofs.Ythanldoljildnaa
open Go.RowKit Go.PlainAid

theorem l1At_be (s : ByteArray) (p : Nat) (z : Int) (hz : z = p) (w : World) (hs : s.size ≤ maxLen) (h : p + 2 ≤ s.size) :
    Calls Try.prog 36 #[.string s, .int .i64 z] w fun e w' => e = .returned (.int .i64 (be s p 2)) ∧ ∃ q, w' = w.drewN q := by
  subst hz
  rw [be_two]
  exact l1At_any s p w hs h
/-- An init was read, or none. -/
def gotInitV (a b c d : Int) : Value := .tuple #[.agg #[.int .i64 a, .int .i64 b, .int .i64 c, .int .i64 d], .bool true]
def noInitV : Value := .tuple #[.agg #[.int .i64 0, .int .i64 0, .int .i64 0, .int .i64 0], .bool false]

set_option maxHeartbeats 1000000 in
theorem sInitGet_other (k f : Int) (b : ByteArray) (w : World) (h : ¬ ((k = 1 ∨ k = 2) ∧ f = 0 ∧ b.size = 10)) :
    Calls Try.prog 16 #[.agg #[.int .i64 k, .int .i64 f, .string b]] w fun e w' => e = .returned noInitV ∧ Below w.heap.size w w' := by
  have hB := Lib.hid ((below_box (.cells #[.int .i64 k, .int .i64 f, .string b] 28) (Nat.le_refl w.heap.size)).alloc (by simp) (.cells #[.int .i64 0, .int .i64 0, .int .i64 0, .int .i64 0] 24))
  by_cases hk : k = 1 ∨ k = 2
  · have hk1 : ((k != 1) && (k != 2)) = false := by rcases hk with rfl | rfl <;> rfl
    by_cases hf : f = 0
    · have hz : ((b.size : Int) != 10) = true := by
        have : ¬ b.size = 10 := fun e => h ⟨hk, hf, e⟩
        simp; omega
      subst hf
      clear h
      rcases hk with rfl | rfl
      all_goals
        go_enter Try.func16, Try.ntmps16
        go_wp2
        refine bodyPost_ret (v := noInitV) ?_ rfl ?_
        · simp [results, Try.results16, go_sem, noInitV]
        · exact ⟨rfl, hB.out⟩
    · have d0 : (f != 0) = true := by simpa using hf
      clear h
      rcases hk with rfl | rfl
      all_goals
        go_enter Try.func16, Try.ntmps16
        go_wp2
        refine bodyPost_ret (v := noInitV) ?_ rfl ?_
        · simp [results, Try.results16, go_sem, noInitV]
        · exact ⟨rfl, hB.out⟩
  · have d1 : (k != 1) = true := by simp; omega
    have d2 : (k != 2) = true := by simp; omega
    clear h
    go_enter Try.func16, Try.ntmps16
    go_wp2
    refine bodyPost_ret (v := noInitV) ?_ rfl ?_
    · simp [results, Try.results16, go_sem, noInitV]
    · exact ⟨rfl, hB.out⟩

set_option maxHeartbeats 8000000 in
theorem sInitGet_form (k : Int) (b : ByteArray) (w : World) (hk : k = 1 ∨ k = 2) (hz : b.size = 10) :
    Calls Try.prog 16 #[.agg #[.int .i64 k, .int .i64 0, .string b]] w fun e w' => e = .returned (if InitOk (be b 0 4) (be b 4 2) (be b 6 2) (be b 8 2) then gotInitV (be b 0 4) (be b 4 2) (be b 6 2) (be b 8 2) else noInitV) ∧ Below w.heap.size w w' := by
  have hm : b.size ≤ maxLen := Nat.le_trans (Nat.le_of_eq hz) (by decide)
  have q10 : (b.size : Int) = 10 := by omega
  have dz : ((b.size : Int) != 10) = false := by simp; omega
  have b0 := be_two_bound b 0
  have b2 := be_two_bound b 2
  have v1 : IntKind.i64.wrap (65536 * be b 0 2) = 65536 * be b 0 2 := IntWalk.i64_in _ (by omega)
  have v2 : IntKind.i64.wrap (65536 * be b 0 2 + be b 2 2) = be b 0 4 := by rw [be_four]; exact IntWalk.i64_in _ (by omega)
  have hdd : w.heap.size + 1 + 1 ≠ w.heap.size := by omega
  go_enter Try.func16, Try.ntmps16
  go_upto_region 1 with fail
  go_cut [23] from 5 to 23 (fun v wx => v = .bool false ∧ wx = (w.alloc (.cells #[.int .i64 k, .int .i64 0, .string b] 28)).alloc (.cells #[.int .i64 0, .int .i64 0, .int .i64 0, .int .i64 0] 24))
  case first =>
    rcases hk with rfl | rfl
    all_goals
      go_wp2
      go_meet
      exact ⟨rfl, rfl⟩
  case rest =>
    obtain ⟨rfl, rfl⟩ := hcut
    go_wp2_with fail
    go_cut [4] from 25 to 42 (fun v wx => v = .pointer (some ⟨w.heap.size + 1 + 1, 0, none⟩) ∧ VarN (w.heap.size + 1 + 1) [.int .i64 (be b 0 4), .int .i64 (be b 4 2), .int .i64 (be b 6 2), .int .i64 (be b 8 2)] wx ∧ Below (w.heap.size + 1 + 1) ((w.alloc (.cells #[.int .i64 k, .int .i64 0, .string b] 28)).alloc (.cells #[.int .i64 0, .int .i64 0, .int .i64 0, .int .i64 0] 24)) wx)
    case first =>
      go_region_held_law (fun W => W.cell? ⟨w.heap.size, 2, none⟩ = some (.string b)) (first | with_reducible exact (cell_far hdd (cell_far hdd (cell_far hdd (cell_far hdd (by assumption))))) | (go_keep; done))
        (first | (go_simp; go_at_call_of 36 (Value.int .i64 0); refine (l1At_be b 0 0 rfl _ hm (by omega)).mono ?_; rintro e w3 ⟨rfl, q, rfl⟩) | (go_simp; go_at_call_of 36 (Value.int .i64 2); refine (l1At_be b 2 2 rfl _ hm (by omega)).mono ?_; rintro e w3 ⟨rfl, q, rfl⟩) | (go_simp; go_at_call_of 36 (Value.int .i64 4); refine (l1At_be b 4 4 rfl _ hm (by omega)).mono ?_; rintro e w3 ⟨rfl, q, rfl⟩) | (go_simp; go_at_call_of 36 (Value.int .i64 6); refine (l1At_be b 6 6 rfl _ hm (by omega)).mono ?_; rintro e w3 ⟨rfl, q, rfl⟩) | (go_simp; go_at_call_of 36 (Value.int .i64 8); refine (l1At_be b 8 8 rfl _ hm (by omega)).mono ?_; rintro e w3 ⟨rfl, q, rfl⟩))
      all_goals
        go_wp2_with fail
        go_meet
        refine ⟨rfl, ?_, ?_⟩
        · first
            | (with_reducible refine VarN.new_at ?_ [.int .i64 (be b 0 4), .int .i64 (be b 4 2), .int .i64 (be b 6 2), .int .i64 (be b 8 2)] 24; simp; done)
            | (with_reducible refine VarN.put4 (VarN.drewN (VarN.new_at ?_ [.int .i64 0, .int .i64 0, .int .i64 0, .int .i64 0] 24) _) _ _ _ _; simp; done)
            | (with_reducible refine VarN.put4 (VarN.new_at ?_ [.int .i64 0, .int .i64 0, .int .i64 0, .int .i64 0] 24) _ _ _ _; simp; done)
        · repeat (first | with_reducible exact Below.refl _ _ | (with_reducible refine Below.setCell ?_ (by exact Nat.le_refl _) _) | (with_reducible refine below_drewN ?_ _) | (with_reducible refine Below.alloc ?_ (by first | omega | (simp <;> omega)) _))
    case rest =>
      obtain ⟨rfl, V, hb⟩ := hcut
      have hd := World.block_lt_of_cell? _ _ (V 0 _ rfl).1
      have c0 := (V 0 _ rfl).1
      have c1 := (V 1 _ rfl).1
      have c2 := (V 2 _ rfl).1
      have c3 := (V 3 _ rfl).1
      clear v1 v2 b0 b2 dz q10 hdd
      go_wp2_with fail
      refine (l12Init_any (be b 0 4) (be b 4 2) (be b 6 2) (be b 8 2) _).mono ?_
      rintro e w4 ⟨rfl, hb4⟩
      have L4 := V.below hb4 (by simpa using hd)
      have hBW := hb.trans (hb4.mono (by omega))
      have R1 := VarN.new (w.alloc (.cells #[.int .i64 k, .int .i64 0, .string b] 28)) [.int .i64 0, .int .i64 0, .int .i64 0, .int .i64 0] 24
      rw [show (w.alloc (.cells #[.int .i64 k, .int .i64 0, .string b] 28)).heap.size = w.heap.size + 1 by simp] at R1
      have R2 := R1.below hBW (by omega)
      have hB4 := Lib.hid (((below_box (.cells #[.int .i64 k, .int .i64 0, .string b] 28) (Nat.le_refl w.heap.size)).alloc (by simp) (.cells #[.int .i64 0, .int .i64 0, .int .i64 0, .int .i64 0] 24)).trans (hBW.mono (by omega)))
      clear R1 hb hb4 hBW V c0 c1 c2 c3
      have c0 := (L4 0 _ rfl).1
      have r0 := (R2 0 _ rfl).1
      have g0 := (R2 0 _ rfl).2
      have c1 := (L4 1 _ rfl).1
      have r1 := (R2 1 _ rfl).1
      have g1 := (R2 1 _ rfl).2
      have c2 := (L4 2 _ rfl).1
      have r2 := (R2 2 _ rfl).1
      have g2 := (R2 2 _ rfl).2
      have c3 := (L4 3 _ rfl).1
      have r3 := (R2 3 _ rfl).1
      have g3 := (R2 3 _ rfl).2
      clear L4 R2
      by_cases ho : InitOk (be b 0 4) (be b 4 2) (be b 6 2) (be b 8 2)
      · rw [initOkV_yes ho]
        have HO := Lib.hid ho
        clear ho
        go_wp2
        refine bodyPost_ret (v := gotInitV (be b 0 4) (be b 4 2) (be b 6 2) (be b 8 2)) ?_ rfl ?_
        · simp [results, Try.results16, go_sem, gotInitV, r0, r1, r2, r3]
        · exact ⟨by first | rfl | rw [if_pos HO.out], by
            repeat (first | with_reducible exact hB4.out | refine Below.setCell ?_ (by exact Nat.le_succ _) _)⟩
      · rw [initOkV_no ho]
        have HO := Lib.hid ho
        clear ho
        go_wp2
        refine bodyPost_ret (v := noInitV) ?_ rfl ?_
        · simp [results, Try.results16, go_sem, noInitV, r0, r1, r2, r3]
        · exact ⟨by first | rfl | rw [if_neg HO.out], by
            repeat (first | with_reducible exact hB4.out | refine Below.setCell ?_ (by exact Nat.le_succ _) _)⟩

theorem sInitGet_yes (k f : Int) (b : ByteArray) (w : World) (h : HasInit k f b) :
    Calls Try.prog 16 #[.agg #[.int .i64 k, .int .i64 f, .string b]] w fun e w' => e = .returned (gotInitV (be b 0 4) (be b 4 2) (be b 6 2) (be b 8 2)) ∧ Below w.heap.size w w' := by
  have o := init_ok h
  obtain ⟨hk, rfl, hz, _⟩ := h
  have q := sInitGet_form k b w hk hz
  rw [if_pos o] at q
  exact q

theorem sInitGet_no (k f : Int) (b : ByteArray) (w : World) (h : ¬ HasInit k f b) :
    Calls Try.prog 16 #[.agg #[.int .i64 k, .int .i64 f, .string b]] w fun e w' => e = .returned noInitV ∧ Below w.heap.size w w' := by
  by_cases h1 : (k = 1 ∨ k = 2) ∧ f = 0 ∧ b.size = 10
  · obtain ⟨hk, rfl, hz⟩ := h1
    have q := sInitGet_form k b w hk hz
    rw [if_neg fun o => h ⟨hk, rfl, hz, o.1.1, o.2.2.1.1, o.2.2.1.2⟩] at q
    exact q
  · exact sInitGet_other k f b w h1

end Go.Proofs.Ythanldoljildnaa
