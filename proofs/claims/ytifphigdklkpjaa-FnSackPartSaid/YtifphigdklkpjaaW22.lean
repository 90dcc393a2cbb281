/- The walk of the law on blocks that are left out. -/
import Derived.Test.YtifphigdklkpjaaK41
import Derived.Deep.CutRange
namespace Go.Proofs.Ytifphigdklkpjaa
open Go.RowKit Go.PlainAid

set_option maxHeartbeats 60000000 in
set_option maxRecDepth 100000 in
theorem walk_fnSackPart (a0 : Option Addr) (len0 cap0 : Nat) (z0 : List Int) (a1 : Option Addr) (len1 cap1 : Nat) (z1 : List Int) (w : World) (w0 : IsRow .u8 w a0 len0 cap0 z0) (_w1 : IsRow .u8 w a1 len1 cap1 z1) :
    Calls Try.prog 4 #[.slice a0 len0 cap0, .slice a1 len1 cap1] w fun e w' => e = .returned (.bool true) ∧ Below w.heap.size w w' := by
  have H := Lib.hid w0
  clear w0 _w1
  by_cases hl0 : (1048576 : Int) < len0
  · go_enter Try.func4, Try.ntmps4
    go_wp2
    go_ret
    exact ⟨rfl, Below.refl _ _⟩
  by_cases hl1 : (1048576 : Int) < len1
  · go_enter Try.func4, Try.ntmps4
    go_wp2
    go_ret
    exact ⟨rfl, Below.refl _ _⟩
  · go_enter Try.func4, Try.ntmps4
    go_wp2_with fail
    refine (drawSackPut_any a0 len0 cap0 z0 _ H.out).mono ?_
    rintro e w1 ⟨c, g, k, cap, gs, rfl, ⟨nc0, nc1⟩, nk, hgp, hsm, hb1⟩
    have GA := Lib.hid hgp
    clear hgp
    by_cases hc : SackOk c gs
    · by_cases hk0 : k = 0
      · subst hk0
        have HC := Lib.hid hc
        clear hc
        go_wp2_with fail
        refine (sackPut_yes c _ 0 cap gs _ ((GA.out).below (below_box (.cells (List.toArray [.int .i64 c, .slice (some ⟨g, 0, none⟩) 0 cap]) 28) (Nat.le_refl _))) HC.out).mono ?_
        rintro e w2 ⟨rfl, hb2⟩
        have Vv := Lib.hid ((VarN.new_at (w := w1) (d := w1.heap.size) (by simp) [.int .i64 c, .slice (some ⟨g, 0, none⟩) 0 cap] 28).below hb2 (by simp))
        have HB2 := Lib.hid (((hb1).alloc (Nat.le_trans hb1.size (by exact Nat.le_refl _)) (.cells (List.toArray [.int .i64 c, .slice (some ⟨g, 0, none⟩) 0 cap]) 28)).trans (hb2.mono (Nat.le_trans hb1.size (by simp <;> omega))))
        have ltv : w1.heap.size < w2.heap.size := lt_of_cell (Vv.out 0 _ rfl).1
        have nev : ¬ w1.heap.size = w2.heap.size := by omega
        have GA := Lib.hid (((GA.out).below (below_box (.cells (List.toArray [.int .i64 c, .slice (some ⟨g, 0, none⟩) 0 cap]) 28) (Nat.le_refl _))).below hb2)
        clear hb2
        unfold madeV
        have v0 := (Vv.out 0 _ rfl).1
        have vf0 := (Vv.out 0 _ rfl).2
        have v1 := (Vv.out 1 _ rfl).1
        have vf1 := (Vv.out 1 _ rfl).2
        go_wp2_with fail
        refine (sSackPut_yes c _ 0 cap gs _ ((GA.out).below (below_box (.cells (List.toArray [.int .i64 3, .int .i64 0, .string (sackS c gs)]) 24) (Nat.le_refl _))) HC.out).mono ?_
        rintro e w3 ⟨rfl, hb3⟩
        clear v0 vf0 v1 vf1
        have Vv := Lib.hid (((Vv.out).alloc (.cells (List.toArray [.int .i64 3, .int .i64 0, .string (sackS c gs)]) 24) (by omega)).below hb3 (by simp; omega))
        have Vo := Lib.hid ((VarN.new_at (w := w2) (d := w2.heap.size) (by simp) [.int .i64 3, .int .i64 0, .string (sackS c gs)] 24).below hb3 (by simp))
        have HB3 := Lib.hid (((HB2.out).alloc (Nat.le_trans HB2.out.size (by exact Nat.le_refl _)) (.cells (List.toArray [.int .i64 3, .int .i64 0, .string (sackS c gs)]) 24)).trans (hb3.mono (Nat.le_trans HB2.out.size (by simp <;> omega))))
        have ltv : w1.heap.size < w3.heap.size := lt_of_cell (Vv.out 0 _ rfl).1
        have lto : w2.heap.size < w3.heap.size := lt_of_cell (Vo.out 0 _ rfl).1
        have nev : ¬ w1.heap.size = w3.heap.size := by omega
        have neo : ¬ w2.heap.size = w3.heap.size := by omega
        have GA := Lib.hid (((GA.out).below (below_box (.cells (List.toArray [.int .i64 3, .int .i64 0, .string (sackS c gs)]) 24) (Nat.le_refl _))).below hb3)
        clear hb3
        unfold madeV
        have v0 := (Vv.out 0 _ rfl).1
        have vf0 := (Vv.out 0 _ rfl).2
        have v1 := (Vv.out 1 _ rfl).1
        have vf1 := (Vv.out 1 _ rfl).2
        have o0 := (Vo.out 0 _ rfl).1
        have of0 := (Vo.out 0 _ rfl).2
        have o1 := (Vo.out 1 _ rfl).1
        have of1 := (Vo.out 1 _ rfl).2
        have o2 := (Vo.out 2 _ rfl).1
        have of2 := (Vo.out 2 _ rfl).2
        go_wp2
        go_ret
        exact ⟨rfl, (HB3.out).alloc (Nat.le_trans HB3.out.size (by exact Nat.le_refl _)) _⟩
      · have HC := Lib.hid hc
        clear hc
        go_wp2_with fail
        refine (sackPut_yes c _ k cap gs _ ((GA.out).below (below_box (.cells (List.toArray [.int .i64 c, .slice (some ⟨g, 0, none⟩) k cap]) 28) (Nat.le_refl _))) HC.out).mono ?_
        rintro e w2 ⟨rfl, hb2⟩
        have Vv := Lib.hid ((VarN.new_at (w := w1) (d := w1.heap.size) (by simp) [.int .i64 c, .slice (some ⟨g, 0, none⟩) k cap] 28).below hb2 (by simp))
        have HB2 := Lib.hid (((hb1).alloc (Nat.le_trans hb1.size (by exact Nat.le_refl _)) (.cells (List.toArray [.int .i64 c, .slice (some ⟨g, 0, none⟩) k cap]) 28)).trans (hb2.mono (Nat.le_trans hb1.size (by simp <;> omega))))
        have ltv : w1.heap.size < w2.heap.size := lt_of_cell (Vv.out 0 _ rfl).1
        have nev : ¬ w1.heap.size = w2.heap.size := by omega
        have GA := Lib.hid (((GA.out).below (below_box (.cells (List.toArray [.int .i64 c, .slice (some ⟨g, 0, none⟩) k cap]) 28) (Nat.le_refl _))).below hb2)
        clear hb2
        unfold madeV
        have v0 := (Vv.out 0 _ rfl).1
        have vf0 := (Vv.out 0 _ rfl).2
        have v1 := (Vv.out 1 _ rfl).1
        have vf1 := (Vv.out 1 _ rfl).2
        go_wp2_with fail
        refine (sSackPut_yes c _ k cap gs _ ((GA.out).below (below_box (.cells (List.toArray [.int .i64 3, .int .i64 0, .string (sackS c gs)]) 24) (Nat.le_refl _))) HC.out).mono ?_
        rintro e w3 ⟨rfl, hb3⟩
        clear v0 vf0 v1 vf1
        have Vv := Lib.hid (((Vv.out).alloc (.cells (List.toArray [.int .i64 3, .int .i64 0, .string (sackS c gs)]) 24) (by omega)).below hb3 (by simp; omega))
        have Vo := Lib.hid ((VarN.new_at (w := w2) (d := w2.heap.size) (by simp) [.int .i64 3, .int .i64 0, .string (sackS c gs)] 24).below hb3 (by simp))
        have HB3 := Lib.hid (((HB2.out).alloc (Nat.le_trans HB2.out.size (by exact Nat.le_refl _)) (.cells (List.toArray [.int .i64 3, .int .i64 0, .string (sackS c gs)]) 24)).trans (hb3.mono (Nat.le_trans HB2.out.size (by simp <;> omega))))
        have ltv : w1.heap.size < w3.heap.size := lt_of_cell (Vv.out 0 _ rfl).1
        have lto : w2.heap.size < w3.heap.size := lt_of_cell (Vo.out 0 _ rfl).1
        have nev : ¬ w1.heap.size = w3.heap.size := by omega
        have neo : ¬ w2.heap.size = w3.heap.size := by omega
        have GA := Lib.hid (((GA.out).below (below_box (.cells (List.toArray [.int .i64 3, .int .i64 0, .string (sackS c gs)]) 24) (Nat.le_refl _))).below hb3)
        clear hb3
        unfold madeV
        have v0 := (Vv.out 0 _ rfl).1
        have vf0 := (Vv.out 0 _ rfl).2
        have v1 := (Vv.out 1 _ rfl).1
        have vf1 := (Vv.out 1 _ rfl).2
        have o0 := (Vo.out 0 _ rfl).1
        have of0 := (Vo.out 0 _ rfl).2
        have o1 := (Vo.out 1 _ rfl).1
        have of1 := (Vo.out 1 _ rfl).2
        have o2 := (Vo.out 2 _ rfl).1
        have of2 := (Vo.out 2 _ rfl).2
        have hl := GA.out.length
        have hk1 : 0 < k := by omega
        obtain ⟨m, hm⟩ : ∃ m, len1 % k = m := ⟨_, rfl⟩
        have hmk : m < k := hm ▸ Nat.mod_lt _ hk1
        have N := Lib.hid (show SackOk c (gs.take m ++ gs.drop (m + 1)) from ⟨HC.out.1, gaps_drop m HC.out.2 (by omega)⟩)
        have hgl := gaps_lt' GA.out hk1
        have hcap := gaps_cap GA.out
        have mc : m ≤ cap := by omega
        have mk : m + 1 ≤ k := by omega
        have mkc : m + 1 ≤ cap := by omega
        have mc' : (m : Int) ≤ (cap : Int) := by omega
        have mk' : (m : Int) + 1 ≤ (k : Int) := by omega
        have T0 : PQ w w1.heap.size (w3.heap.size + 1) c g k cap gs (w3.alloc (.cells (List.toArray [.int .i64 3, .int .i64 0, .string (sackS c gs)]) 24)) := ⟨Vv.out.alloc _ ltv, GA.out.below (below_box _ (Nat.le_refl _)), HB3.out.alloc HB3.out.size _, hk1, by omega, by omega, by have := HB3.out.size; omega, by simp⟩
        have hz0 : (w3.alloc (.cells (List.toArray [.int .i64 3, .int .i64 0, .string (sackS c gs)]) 24)).heap.size = w3.heap.size + 1 := by simp
        have hmi : ((len1 : Int) % (k : Int)) = ((m : Nat) : Int) := by rw [← hm]; rfl
        go_upto_region 9 with fail
        rw [hmi]
        have hkz : (((k : Nat) : Int) == 0) = false := by simp; omega
        rw [hkz]
        clear hm hmi hkz
        generalize w3.alloc (.cells (List.toArray [.int .i64 3, .int .i64 0, .string (sackS c gs)]) 24) = W5 at *
        generalize w3.heap.size + 1 = H0 at *
        have hT := Lib.hid (pq_next (Below.drew (Below.refl _ _)) (pq_at T0))
        obtain ⟨s0, s1, _⟩ := pq_at T0
        have l1 : (gs.take m).length = m := by rw [List.length_take, hl]; omega
        have l2 : (gs.drop (m + 1)).length = k - (m + 1) := by rw [List.length_drop, hl]
        have wm : IntKind.i64.wrap ((m : Int) + 1) = ((m + 1 : Nat) : Int) := (IntWalk.i64_in _ (by omega)).trans (by omega)
        have m01 : (0 : Int) ≤ (m : Int) + 1 := by omega
        clear T0 v0 vf0 v1 vf1 o0 of0 o1 of1 o2 of2 Vv Vo GA hl
        go_cut [11, 12] from 65 to 83 (fun p b wx => b = .bool true ∧ PQ w w1.heap.size H0 c g k cap gs wx)
        case first =>
          by_cases hcm : cap = m + 1
          · obtain rfl : k = m + 1 := by omega
            subst hcm
            have N := Lib.hid (show SackOk c (gs.take m ++ ([] : List (Int × Int))) from by have h := N.out; rw [List.eq_nil_of_length_eq_zero (l := gs.drop (m + 1)) (by rw [l2]; omega)] at h; exact h)
            have mm1 : (m : Int) ≤ (m : Int) + 1 := by omega
            clear mk mkc mc' mk' hmk
            go_region_held_law (fun W => W.cell? ⟨w1.heap.size, 0, none⟩ = some (.int .i64 c) ∧ W.cell? ⟨w1.heap.size, 1, none⟩ = some (.slice (some ⟨g, 0, none⟩) (m + 1) (m + 1)) ∧ PQ w w1.heap.size H0 c g (m + 1) (m + 1) gs W)
              (first | with_reducible assumption | with_reducible exact hT.out | exact pq_next (by first | assumption | exact below_box _ (Nat.le_refl _) | exact below_drew_alloc _ _ | exact Below.drew (Below.refl _ _)) (by assumption) | exact pq_grow (by assumption) (by first | assumption | omega | exact own_ge (by assumption) rfl) (by assumption) | exact pq_far (by assumption) (by first | omega | (simp; omega)) | exact pq_refill (by assumption) (by first | assumption | omega))
              (first
                | (refine step_cat (by rfl) _ _ (by rfl) H0 0 m m _ _ _ _ [] (gs.take m) (by omega) (by rfl) (by repeat (first | exact lit_own _ _ (by first | exact hz0 | simp [hz0]) (by omega) | with_reducible refine own_drew ?_ | with_reducible refine own_alloc ?_)) (by rfl) l1 (pq_first (pqp (by assumption)) m) (by omega) (pqp (by assumption)).o4 ?_; intro g3 cap3 w' hown3 hgrow3 hat3; rw [List.nil_append] at hown3; have hg3 : H0 ≤ g3 := own_ge hown3 rfl; have hlt3 : g3 < w'.heap.size := (own_blk hown3 rfl).2; have hat3' := hat3; (try simp [hz0] at hat3'); have hz3 : H0 ≤ w'.heap.size := Nat.le_trans (pqp (by assumption)).o4 hgrow3.size; try (have hR := VarN.growO (vs := [.int .i64 0, .int .i64 0, .string (ByteArray.mk #[])]) (by first | exact varN_drew _ _ 24 | exact varN_drew2 _ _ 24 _) hgrow3 (by first | (simp; done) | (simp; omega)) (by intro x hx; cases hx; first | omega | (simp; omega)); try simp only [World.size_alloc, hz0] at hR))
                | (refine step_cat (by rfl) _ _ (by rfl) H0 m 0 m _ _ _ _ (gs.take m) ([] : List (Int × Int)) (by omega) (by rfl) (by repeat (first | with_reducible assumption | with_reducible refine own_drew ?_ | with_reducible refine own_alloc ?_)) (by rfl) (by rfl) (pq_nil _) (by omega) (pqp (by assumption)).o4 ?_; intro g4 cap4 w'' hown4 hgrow4 hat4; have hz4 : H0 ≤ w''.heap.size := Nat.le_trans (pqp (by assumption)).o4 hgrow4.size; try (first | (have hR := VarN.growO hR hgrow4 (lt_of_cell (hR 0 _ rfl).1) (by intro x hx; cases hx; omega)) | (have hR := VarN.growO (vs := [.int .i64 0, .int .i64 0, .string (ByteArray.mk #[])]) (by first | exact VarN.new _ _ 24 | exact varN_drew _ _ 24 | exact varN_drew2 _ _ 24 _) hgrow4 (by first | (simp; done) | (simp; omega)) (by intro x hx; cases hx; first | omega | (simp; omega)))))
                | (go_simp; go_at_call 11; refine (sackPut_yes c _ m _ (gs.take m ++ ([] : List (Int × Int))) _ (own_gaps (base := H0) (by repeat (first | with_reducible assumption | with_reducible refine own_drew ?_ | with_reducible refine own_alloc ?_))) N.out).mono ?_; rintro e w' ⟨rfl, hbn⟩; have hz5 : H0 ≤ w'.heap.size := Nat.le_trans (pqp (by assumption)).o4 hbn.size; unfold madeV; try (first | (have hR2 := VarN.below (VarN.new _ [.int .i64 0, .int .i64 0, .string (ByteArray.mk #[])] 24) hbn (by simp); have r0 := (hR2 0 _ rfl).1; have r1 := (hR2 1 _ rfl).1; have r2 := (hR2 2 _ rfl).1; have rf0 := (hR2 0 _ rfl).2; have rf1 := (hR2 1 _ rfl).2; have rf2 := (hR2 2 _ rfl).2) | (have hR2 := VarN.below hR hbn (lt_of_cell (hR 0 _ rfl).1); have r0 := (hR2 0 _ rfl).1; have r1 := (hR2 1 _ rfl).1; have r2 := (hR2 2 _ rfl).1; have rf0 := (hR2 0 _ rfl).2; have rf1 := (hR2 1 _ rfl).2; have rf2 := (hR2 2 _ rfl).2))))
            all_goals
              rename_i hHeld
              have HW := hHeld.2.2
              go_wp2_with fail
              go_meet
              exact ⟨rfl, HW⟩
          · have hcm2 : ¬ m + 1 = cap := fun h => hcm h.symm
            go_region_held_law (fun W => W.cell? ⟨w1.heap.size, 0, none⟩ = some (.int .i64 c) ∧ W.cell? ⟨w1.heap.size, 1, none⟩ = some (.slice (some ⟨g, 0, none⟩) k cap) ∧ PQ w w1.heap.size H0 c g k cap gs W)
              (first | with_reducible assumption | with_reducible exact hT.out | exact pq_next (by first | assumption | exact below_box _ (Nat.le_refl _) | exact below_drew_alloc _ _ | exact Below.drew (Below.refl _ _)) (by assumption) | exact pq_grow (by assumption) (by first | assumption | omega | exact own_ge (by assumption) rfl) (by assumption) | exact pq_far (by assumption) (by first | omega | (simp; omega)) | exact pq_refill (by assumption) (by first | assumption | omega))
              (first
                | (refine step_cat (by rfl) _ _ (by rfl) H0 0 m m _ _ _ _ [] (gs.take m) (by omega) (by rfl) (by repeat (first | exact lit_own _ _ (by first | exact hz0 | simp [hz0]) (by omega) | with_reducible refine own_drew ?_ | with_reducible refine own_alloc ?_)) (by rfl) l1 (pq_first (pqp (by assumption)) m) (by omega) (pqp (by assumption)).o4 ?_; intro g3 cap3 w' hown3 hgrow3 hat3; rw [List.nil_append] at hown3; have hg3 : H0 ≤ g3 := own_ge hown3 rfl; have hlt3 : g3 < w'.heap.size := (own_blk hown3 rfl).2; have hat3' := hat3; (try simp [hz0] at hat3'); have hz3 : H0 ≤ w'.heap.size := Nat.le_trans (pqp (by assumption)).o4 hgrow3.size; try (have hR := VarN.growO (vs := [.int .i64 0, .int .i64 0, .string (ByteArray.mk #[])]) (by first | exact varN_drew _ _ 24 | exact varN_drew2 _ _ 24 _) hgrow3 (by first | (simp; done) | (simp; omega)) (by intro x hx; cases hx; first | omega | (simp; omega)); try simp only [World.size_alloc, hz0] at hR))
                | (refine step_cat (by rfl) _ _ (by rfl) H0 m (k - (m + 1)) (k - 1) _ _ _ _ (gs.take m) (gs.drop (m + 1)) (by omega) (by rfl) (by repeat (first | with_reducible assumption | with_reducible refine own_drew ?_ | with_reducible refine own_alloc ?_)) (by rfl) l2 (pq_last (pqp (by assumption)) (m + 1) (by omega)) (by omega) (pqp (by assumption)).o4 ?_; intro g4 cap4 w'' hown4 hgrow4 hat4; have hz4 : H0 ≤ w''.heap.size := Nat.le_trans (pqp (by assumption)).o4 hgrow4.size; try (first | (have hR := VarN.growO hR hgrow4 (lt_of_cell (hR 0 _ rfl).1) (by intro x hx; cases hx; omega)) | (have hR := VarN.growO (vs := [.int .i64 0, .int .i64 0, .string (ByteArray.mk #[])]) (by first | exact VarN.new _ _ 24 | exact varN_drew _ _ 24 | exact varN_drew2 _ _ 24 _) hgrow4 (by first | (simp; done) | (simp; omega)) (by intro x hx; cases hx; first | omega | (simp; omega)))))
                | (go_simp; go_at_call 11; refine (sackPut_yes c _ (k - 1) _ (gs.take m ++ (gs.drop (m + 1))) _ (own_gaps (base := H0) (by repeat (first | with_reducible assumption | with_reducible refine own_drew ?_ | with_reducible refine own_alloc ?_))) N.out).mono ?_; rintro e w' ⟨rfl, hbn⟩; have hz5 : H0 ≤ w'.heap.size := Nat.le_trans (pqp (by assumption)).o4 hbn.size; unfold madeV; try (first | (have hR2 := VarN.below (VarN.new _ [.int .i64 0, .int .i64 0, .string (ByteArray.mk #[])] 24) hbn (by simp); have r0 := (hR2 0 _ rfl).1; have r1 := (hR2 1 _ rfl).1; have r2 := (hR2 2 _ rfl).1; have rf0 := (hR2 0 _ rfl).2; have rf1 := (hR2 1 _ rfl).2; have rf2 := (hR2 2 _ rfl).2) | (have hR2 := VarN.below hR hbn (lt_of_cell (hR 0 _ rfl).1); have r0 := (hR2 0 _ rfl).1; have r1 := (hR2 1 _ rfl).1; have r2 := (hR2 2 _ rfl).1; have rf0 := (hR2 0 _ rfl).2; have rf1 := (hR2 1 _ rfl).2; have rf2 := (hR2 2 _ rfl).2))))
            all_goals
              rename_i hHeld
              have HW := hHeld.2.2
              go_wp2_with fail
              go_meet
              exact ⟨rfl, HW⟩
        case rest =>
          obtain ⟨rfl, T8⟩ := hcut
          clear hT s0 s1
          have HW := Lib.hid T8
          clear T8
          go_wp2
          go_ret
          exact ⟨rfl, HW.out.b⟩
    · have HC := Lib.hid hc
      clear hc
      go_wp2_with fail
      refine (sackPut_no c _ k cap gs _ ((GA.out).below (below_box (.cells (List.toArray [.int .i64 c, .slice (some ⟨g, 0, none⟩) k cap]) 28) (Nat.le_refl _))) HC.out).mono ?_
      rintro e w2 ⟨rfl, hb2⟩
      have Vv := Lib.hid ((VarN.new_at (w := w1) (d := w1.heap.size) (by simp) [.int .i64 c, .slice (some ⟨g, 0, none⟩) k cap] 28).below hb2 (by simp))
      have HB2 := Lib.hid (((hb1).alloc (Nat.le_trans hb1.size (by exact Nat.le_refl _)) (.cells (List.toArray [.int .i64 c, .slice (some ⟨g, 0, none⟩) k cap]) 28)).trans (hb2.mono (Nat.le_trans hb1.size (by simp <;> omega))))
      have ltv : w1.heap.size < w2.heap.size := lt_of_cell (Vv.out 0 _ rfl).1
      have nev : ¬ w1.heap.size = w2.heap.size := by omega
      have GA := Lib.hid (((GA.out).below (below_box (.cells (List.toArray [.int .i64 c, .slice (some ⟨g, 0, none⟩) k cap]) 28) (Nat.le_refl _))).below hb2)
      clear hb2
      unfold notMadeV
      have v0 := (Vv.out 0 _ rfl).1
      have vf0 := (Vv.out 0 _ rfl).2
      have v1 := (Vv.out 1 _ rfl).1
      have vf1 := (Vv.out 1 _ rfl).2
      go_wp2_with fail
      refine (sSackPut_no c _ k cap gs _ ((GA.out).below (below_box (.cells (List.toArray [.int .i64 0, .int .i64 0, .string (ByteArray.mk #[])]) 24) (Nat.le_refl _))) HC.out).mono ?_
      rintro e w3 ⟨rfl, hb3⟩
      clear v0 vf0 v1 vf1
      have Vv := Lib.hid (((Vv.out).alloc (.cells (List.toArray [.int .i64 0, .int .i64 0, .string (ByteArray.mk #[])]) 24) (by omega)).below hb3 (by simp; omega))
      have Vo := Lib.hid ((VarN.new_at (w := w2) (d := w2.heap.size) (by simp) [.int .i64 0, .int .i64 0, .string (ByteArray.mk #[])] 24).below hb3 (by simp))
      have HB3 := Lib.hid (((HB2.out).alloc (Nat.le_trans HB2.out.size (by exact Nat.le_refl _)) (.cells (List.toArray [.int .i64 0, .int .i64 0, .string (ByteArray.mk #[])]) 24)).trans (hb3.mono (Nat.le_trans HB2.out.size (by simp <;> omega))))
      have ltv : w1.heap.size < w3.heap.size := lt_of_cell (Vv.out 0 _ rfl).1
      have lto : w2.heap.size < w3.heap.size := lt_of_cell (Vo.out 0 _ rfl).1
      have nev : ¬ w1.heap.size = w3.heap.size := by omega
      have neo : ¬ w2.heap.size = w3.heap.size := by omega
      have GA := Lib.hid (((GA.out).below (below_box (.cells (List.toArray [.int .i64 0, .int .i64 0, .string (ByteArray.mk #[])]) 24) (Nat.le_refl _))).below hb3)
      clear hb3
      unfold notMadeV
      have v0 := (Vv.out 0 _ rfl).1
      have vf0 := (Vv.out 0 _ rfl).2
      have v1 := (Vv.out 1 _ rfl).1
      have vf1 := (Vv.out 1 _ rfl).2
      have o0 := (Vo.out 0 _ rfl).1
      have of0 := (Vo.out 0 _ rfl).2
      have o1 := (Vo.out 1 _ rfl).1
      have of1 := (Vo.out 1 _ rfl).2
      have o2 := (Vo.out 2 _ rfl).1
      have of2 := (Vo.out 2 _ rfl).2
      go_wp2
      go_ret
      exact ⟨rfl, (HB3.out).alloc (Nat.le_trans HB3.out.size (by exact Nat.le_refl _)) _⟩

end Go.Proofs.Ytifphigdklkpjaa
