/- The walks of the laws on the value at the beginning. -/
import Derived.Test.YtcjabomcndahbaaK105
import Derived.Test.YtcjabomcndahbaaK91
import Derived.Test.YtcjabomcndahbaaK94
import Derived.Test.YtcjabomcndahbaaK98
import Derived.Deep.RegionHeldLaw
import Derived.Handy
namespace Go.Proofs.Ytcjabomcndahbaa
open Go.RowKit Go.PlainAid

theorem sSeenNew_as (t c1 : Int) (w : World) (ht : Ser t) (hc : addS t (-1) = c1) :
    Calls Try.prog 17 #[.int .i64 t] w fun e w' => ∃ q, e = .returned (.tuple #[.agg #[.int .i64 c1, .slice q 0 0], .bool true]) ∧ Ns w' q 0 0 [] ∧ Below w.heap.size w w' := by
  subst hc
  refine (sSeenNew_yes t w ht).mono ?_
  rintro e w' ⟨x, rfl, ho⟩
  exact ⟨_, rfl, ho.ns, ho.b⟩
theorem seenNew_as (t c1 : Int) (w : World) (ht : Ser t) (hc : addS t (-1) = c1) :
    Calls Try.prog 16 #[.int .i64 t] w fun e w' => e = .returned (.tuple #[.agg #[.int .i64 c1, .slice none 0 0], .bool true]) ∧ Below w.heap.size w w' := hc ▸ seenNew_yes t w ht
theorem new_facts {t c1 : Int} (ht : Ser t) (hc : addS t (-1) = c1) : hasSV c1 [] t = false ∧ hasSV c1 [] c1 = true ∧ seenV c1 [] = true ∧ addV t (-1) = c1 := by
  subst hc
  have h1 : diffS (addS t (-1)) t = 1 := by
    have := diff_near (c := addS t (-1)) (d := 1) (by omega)
    rwa [addS_sum, show (-1 : Int) + 1 = 0 by omega, addS_none ht] at this
  have h2 := diffS_same (addS t (-1))
  have h3 : SeenOk (addS t (-1)) [] := ⟨ser_le (addS_ser _ _), trivial⟩
  refine ⟨decide_eq_false fun h => ?_, decide_eq_true ⟨h3, addS_ser _ _, .inl (by omega)⟩, seenV_yes h3, addV_yes _ ht⟩
  rcases h.2.2 with h4 | h4
  · omega
  · simp at h4
theorem keptP {p q : Addr} {x y : Value} {w W W' : World} (h : W.cell? p = some x ∧ W.cell? q = some y ∧ Below w.heap.size w W) (hb : Below W.heap.size W W') : W'.cell? p = some x ∧ W'.cell? q = some y ∧ Below w.heap.size w W' := by
  obtain ⟨h1, h2, h4⟩ := h
  exact ⟨(hb.cell (World.block_lt_of_cell? W _ h1)).trans h1, (hb.cell (World.block_lt_of_cell? W _ h2)).trans h2, h4.trans (hb.mono h4.size)⟩

set_option maxHeartbeats 4000000 in
theorem walk_fnSeenNewBad (a0 : Option Addr) (len0 cap0 : Nat) (z0 : List Int) (w : World) (w0 : IsRow .u8 w a0 len0 cap0 z0) :
    Calls Try.prog 4 #[.slice a0 len0 cap0] w fun e w' => e = .returned (.bool true) ∧ Below w.heap.size w w' := by
  have H := Lib.hid w0
  clear w0
  by_cases hl : (1048576 : Int) < len0
  · go_enter Try.func4, Try.ntmps4
    go_wp2
    go_ret
    exact ⟨rfl, Below.refl _ _⟩
  · go_enter Try.func4, Try.ntmps4
    go_wp2_with fail
    refine (drawSeenNew_any a0 len0 cap0 z0 _ H.out).mono ?_
    rintro e w1 ⟨t, rfl, ⟨n0, n1⟩, hb1⟩
    by_cases ht : Ser t
    · obtain ⟨c1, hc1⟩ : ∃ c1, addS t (-1) = c1 := ⟨_, rfl⟩
      have HT := Lib.hid ht
      have HC := Lib.hid hc1
      have HF := Lib.hid (new_facts ht hc1)
      clear ht hc1
      go_wp2_with fail
      refine (seenNew_as t c1 _ HT.out HC.out).mono ?_
      rintro e w2 ⟨rfl, hb2⟩
      have HB2 := Lib.hid (hb1.trans (hb2.mono hb1.size))
      clear hb2
      go_wp2_with fail
      refine (sSeenNew_as t c1 _ HT.out HC.out).mono ?_
      rintro e w3 ⟨q, rfl, hg2, hb3⟩
      have Vo := Lib.hid ((VarN.new_at (w := w2) (d := w2.heap.size) (by simp) [.int .i64 c1, .slice none 0 0] 26).below hb3 (by simp))
      have HB3 := Lib.hid (((HB2.out).alloc (Nat.le_trans HB2.out.size (by exact Nat.le_refl _)) (.cells (List.toArray [.int .i64 c1, .slice none 0 0]) 26)).trans (hb3.mono (Nat.le_trans HB2.out.size (by simp <;> omega))))
      have lto : w2.heap.size < w3.heap.size := lt_of_cell (Vo.out 0 _ rfl).1
      have neo : ¬ w2.heap.size = w3.heap.size := by omega
      clear hb3
      have G2 := Lib.hid hg2
      clear hg2
      have o0 := (Vo.out 0 _ rfl).1
      have of0 := (Vo.out 0 _ rfl).2
      have o1 := (Vo.out 1 _ rfl).1
      have of1 := (Vo.out 1 _ rfl).2
      go_wp2_with fail
      refine (sameSeen_same c1 none _ 0 0 0 [] _ (Ns.nil _) ((G2.out).below (below_box (.cells (List.toArray [.int .i64 c1, .slice q 0 0]) 26) (Nat.le_refl _)))).mono ?_
      rintro e w4 ⟨rfl, hb4⟩
      clear o0 of0 o1 of1
      have Vo := Lib.hid (((Vo.out).alloc (.cells (List.toArray [.int .i64 c1, .slice q 0 0]) 26) (by omega)).below hb4 (by simp; omega))
      have Vv := Lib.hid ((VarN.new_at (w := w3) (d := w3.heap.size) (by simp) [.int .i64 c1, .slice q 0 0] 26).below hb4 (by simp))
      have HB4 := Lib.hid (((HB3.out).alloc (Nat.le_trans HB3.out.size (by exact Nat.le_refl _)) (.cells (List.toArray [.int .i64 c1, .slice q 0 0]) 26)).trans (hb4.mono (Nat.le_trans HB3.out.size (by simp <;> omega))))
      have lto : w2.heap.size < w4.heap.size := lt_of_cell (Vo.out 0 _ rfl).1
      have ltv : w3.heap.size < w4.heap.size := lt_of_cell (Vv.out 0 _ rfl).1
      have neo : ¬ w2.heap.size = w4.heap.size := by omega
      have nev : ¬ w3.heap.size = w4.heap.size := by omega
      have G2 := Lib.hid (((G2.out).below (below_box (.cells (List.toArray [.int .i64 c1, .slice q 0 0]) 26) (Nat.le_refl _))).below hb4)
      clear hb4
      obtain ⟨z, hz⟩ : ∃ z, addV t 0 = z := ⟨_, rfl⟩
      have z0' : 0 ≤ z := by rw [← hz, addV_yes 0 HT.out]; exact (addS_ser t 0).1
      have HZ := Lib.hid hz
      clear hz
      have o0 := (Vo.out 0 _ rfl).1
      have of0 := (Vo.out 0 _ rfl).2
      have o1 := (Vo.out 1 _ rfl).1
      have of1 := (Vo.out 1 _ rfl).2
      have v0 := (Vv.out 0 _ rfl).1
      have vf0 := (Vv.out 0 _ rfl).2
      have v1 := (Vv.out 1 _ rfl).1
      have vf1 := (Vv.out 1 _ rfl).2
      go_wp2_with fail
      refine (serialAdd_any t 0 _).mono ?_
      rw [HZ.out]
      rintro e w' ⟨rfl, rfl⟩
      have o0 := (Vo.out 0 _ rfl).1
      have of0 := (Vo.out 0 _ rfl).2
      have o1 := (Vo.out 1 _ rfl).1
      have of1 := (Vo.out 1 _ rfl).2
      have v0 := (Vv.out 0 _ rfl).1
      have vf0 := (Vv.out 0 _ rfl).2
      have v1 := (Vv.out 1 _ rfl).1
      have vf1 := (Vv.out 1 _ rfl).2
      go_wp2
      go_ret
      exact ⟨rfl, HB4.out⟩
    · have HT := Lib.hid ht
      clear ht
      go_wp2_with fail
      refine (seenNew_no t _ HT.out).mono ?_
      rintro e w2 ⟨rfl, hb2⟩
      have HB2 := Lib.hid (hb1.trans (hb2.mono hb1.size))
      clear hb2
      go_wp2_with fail
      refine (sSeenNew_no t _ HT.out).mono ?_
      rintro e w3 ⟨rfl, hb3⟩
      have Vo := Lib.hid ((VarN.new_at (w := w2) (d := w2.heap.size) (by simp) [.int .i64 0, .slice none 0 0] 26).below hb3 (by simp))
      have HB3 := Lib.hid (((HB2.out).alloc (Nat.le_trans HB2.out.size (by exact Nat.le_refl _)) (.cells (List.toArray [.int .i64 0, .slice none 0 0]) 26)).trans (hb3.mono (Nat.le_trans HB2.out.size (by simp <;> omega))))
      have lto : w2.heap.size < w3.heap.size := lt_of_cell (Vo.out 0 _ rfl).1
      have neo : ¬ w2.heap.size = w3.heap.size := by omega
      clear hb3
      have o0 := (Vo.out 0 _ rfl).1
      have of0 := (Vo.out 0 _ rfl).2
      have o1 := (Vo.out 1 _ rfl).1
      have of1 := (Vo.out 1 _ rfl).2
      go_wp2_with fail
      refine (sameSeen_same 0 none none 0 0 0 [] _ (Ns.nil _) (Ns.nil _)).mono ?_
      rintro e w4 ⟨rfl, hb4⟩
      clear o0 of0 o1 of1
      have Vo := Lib.hid (((Vo.out).alloc (.cells (List.toArray [.int .i64 0, .slice none 0 0]) 26) (by omega)).below hb4 (by simp; omega))
      have Vv := Lib.hid ((VarN.new_at (w := w3) (d := w3.heap.size) (by simp) [.int .i64 0, .slice none 0 0] 26).below hb4 (by simp))
      have HB4 := Lib.hid (((HB3.out).alloc (Nat.le_trans HB3.out.size (by exact Nat.le_refl _)) (.cells (List.toArray [.int .i64 0, .slice none 0 0]) 26)).trans (hb4.mono (Nat.le_trans HB3.out.size (by simp <;> omega))))
      have lto : w2.heap.size < w4.heap.size := lt_of_cell (Vo.out 0 _ rfl).1
      have ltv : w3.heap.size < w4.heap.size := lt_of_cell (Vv.out 0 _ rfl).1
      have neo : ¬ w2.heap.size = w4.heap.size := by omega
      have nev : ¬ w3.heap.size = w4.heap.size := by omega
      clear hb4
      have o0 := (Vo.out 0 _ rfl).1
      have of0 := (Vo.out 0 _ rfl).2
      have o1 := (Vo.out 1 _ rfl).1
      have of1 := (Vo.out 1 _ rfl).2
      have v0 := (Vv.out 0 _ rfl).1
      have vf0 := (Vv.out 0 _ rfl).2
      have v1 := (Vv.out 1 _ rfl).1
      have vf1 := (Vv.out 1 _ rfl).2
      go_wp2_with fail
      refine (serialAdd_any t 0 _).mono ?_
      rw [addV_no 0 HT.out]
      rintro e w' ⟨rfl, rfl⟩
      have o0 := (Vo.out 0 _ rfl).1
      have of0 := (Vo.out 0 _ rfl).2
      have o1 := (Vo.out 1 _ rfl).1
      have of1 := (Vo.out 1 _ rfl).2
      have v0 := (Vv.out 0 _ rfl).1
      have vf0 := (Vv.out 0 _ rfl).2
      have v1 := (Vv.out 1 _ rfl).1
      have vf1 := (Vv.out 1 _ rfl).2
      go_wp2
      go_ret
      exact ⟨rfl, HB4.out⟩

set_option maxHeartbeats 4000000 in
theorem walk_fnSeenNew (a0 : Option Addr) (len0 cap0 : Nat) (z0 : List Int) (w : World) (w0 : IsRow .u8 w a0 len0 cap0 z0) :
    Calls Try.prog 3 #[.slice a0 len0 cap0] w fun e w' => e = .returned (.bool true) ∧ Below w.heap.size w w' := by
  have H := Lib.hid w0
  clear w0
  by_cases hl : (1048576 : Int) < len0
  · go_enter Try.func3, Try.ntmps3
    go_wp2
    go_ret
    exact ⟨rfl, Below.refl _ _⟩
  · go_enter Try.func3, Try.ntmps3
    go_wp2_with fail
    refine (drawSeenNew_any a0 len0 cap0 z0 _ H.out).mono ?_
    rintro e w1 ⟨t, rfl, ⟨n0, n1⟩, hb1⟩
    by_cases ht : Ser t
    · obtain ⟨c1, hc1⟩ : ∃ c1, addS t (-1) = c1 := ⟨_, rfl⟩
      have HT := Lib.hid ht
      have HC := Lib.hid hc1
      have HF := Lib.hid (new_facts ht hc1)
      clear ht hc1
      go_wp2_with fail
      refine (seenNew_as t c1 _ HT.out HC.out).mono ?_
      rintro e w2 ⟨rfl, hb2⟩
      have HB2 := Lib.hid (hb1.trans (hb2.mono hb1.size))
      clear hb2
      go_wp2_with fail
      refine (sSeenNew_as t c1 _ HT.out HC.out).mono ?_
      rintro e w3 ⟨q, rfl, hg2, hb3⟩
      have Vo := Lib.hid ((VarN.new_at (w := w2) (d := w2.heap.size) (by simp) [.int .i64 c1, .slice none 0 0] 26).below hb3 (by simp))
      have HB3 := Lib.hid (((HB2.out).alloc (Nat.le_trans HB2.out.size (by exact Nat.le_refl _)) (.cells (List.toArray [.int .i64 c1, .slice none 0 0]) 26)).trans (hb3.mono (Nat.le_trans HB2.out.size (by simp <;> omega))))
      have lto : w2.heap.size < w3.heap.size := lt_of_cell (Vo.out 0 _ rfl).1
      have neo : ¬ w2.heap.size = w3.heap.size := by omega
      clear hb3
      have G2 := Lib.hid hg2
      clear hg2
      have o0 := (Vo.out 0 _ rfl).1
      have of0 := (Vo.out 0 _ rfl).2
      have o1 := (Vo.out 1 _ rfl).1
      have of1 := (Vo.out 1 _ rfl).2
      go_wp2_with fail
      refine (sameSeen_same c1 none _ 0 0 0 [] _ (Ns.nil _) ((G2.out).below (below_box (.cells (List.toArray [.int .i64 c1, .slice q 0 0]) 26) (Nat.le_refl _)))).mono ?_
      rintro e w4 ⟨rfl, hb4⟩
      clear o0 of0 o1 of1
      have Vo := Lib.hid (((Vo.out).alloc (.cells (List.toArray [.int .i64 c1, .slice q 0 0]) 26) (by omega)).below hb4 (by simp; omega))
      have Vv := Lib.hid ((VarN.new_at (w := w3) (d := w3.heap.size) (by simp) [.int .i64 c1, .slice q 0 0] 26).below hb4 (by simp))
      have HB4 := Lib.hid (((HB3.out).alloc (Nat.le_trans HB3.out.size (by exact Nat.le_refl _)) (.cells (List.toArray [.int .i64 c1, .slice q 0 0]) 26)).trans (hb4.mono (Nat.le_trans HB3.out.size (by simp <;> omega))))
      have lto : w2.heap.size < w4.heap.size := lt_of_cell (Vo.out 0 _ rfl).1
      have ltv : w3.heap.size < w4.heap.size := lt_of_cell (Vv.out 0 _ rfl).1
      have neo : ¬ w2.heap.size = w4.heap.size := by omega
      have nev : ¬ w3.heap.size = w4.heap.size := by omega
      have G2 := Lib.hid (((G2.out).below (below_box (.cells (List.toArray [.int .i64 c1, .slice q 0 0]) 26) (Nat.le_refl _))).below hb4)
      clear hb4
      have o0 := (Vo.out 0 _ rfl).1
      have of0 := (Vo.out 0 _ rfl).2
      have o1 := (Vo.out 1 _ rfl).1
      have of1 := (Vo.out 1 _ rfl).2
      have hS := Lib.hid (keptP (W := w4) (w := w4) (p := ⟨w2.heap.size, 0, none⟩) (q := ⟨w2.heap.size, 1, none⟩) ⟨o0, o1, Below.refl _ _⟩ (Below.drew (Below.refl _ _)))
      go_wp2_with fail
      go_region_held_law (fun W => W.cell? ⟨w2.heap.size, 0, none⟩ = some (.int .i64 c1) ∧ W.cell? ⟨w2.heap.size, 1, none⟩ = some (.slice none 0 0) ∧ Below w4.heap.size w4 W)
        (first | with_reducible assumption | with_reducible exact hS.out | exact keptP (by assumption) (by assumption))
        (first | (go_simp; go_at_call_of 19 (Value.int .i64 t); refine (seenHas_any c1 none 0 0 [] t _ (Ns.nil _)).mono ?_; rw [HF.out.1]; rintro e w' ⟨rfl, hbn⟩) | (go_simp; go_at_call 19; refine (seenHas_any c1 none 0 0 [] c1 _ (Ns.nil _)).mono ?_; rw [HF.out.2.1]; rintro e w' ⟨rfl, hbn⟩) | (go_simp; go_at_call 20; refine (serialAdd_any t (-1) _).mono ?_; rw [HF.out.2.2.2]; rintro e w' ⟨rfl, rfl⟩) | (go_simp; go_at_call 21; refine (seenValid_any c1 none 0 0 [] _ (Ns.nil _)).mono ?_; rw [HF.out.2.2.1]; rintro e w' ⟨rfl, hbn⟩))
      all_goals
        rename_i hHeld
        have HW := Lib.hid hHeld.2.2
        clear hHeld
        go_wp2
        go_ret
        exact ⟨rfl, HB4.out.trans (HW.out.mono HB4.out.size)⟩
    · have HT := Lib.hid ht
      clear ht
      go_wp2_with fail
      refine (seenNew_no t _ HT.out).mono ?_
      rintro e w2 ⟨rfl, hb2⟩
      have HB2 := Lib.hid (hb1.trans (hb2.mono hb1.size))
      clear hb2
      go_wp2_with fail
      refine (sSeenNew_no t _ HT.out).mono ?_
      rintro e w3 ⟨rfl, hb3⟩
      have Vo := Lib.hid ((VarN.new_at (w := w2) (d := w2.heap.size) (by simp) [.int .i64 0, .slice none 0 0] 26).below hb3 (by simp))
      have HB3 := Lib.hid (((HB2.out).alloc (Nat.le_trans HB2.out.size (by exact Nat.le_refl _)) (.cells (List.toArray [.int .i64 0, .slice none 0 0]) 26)).trans (hb3.mono (Nat.le_trans HB2.out.size (by simp <;> omega))))
      have lto : w2.heap.size < w3.heap.size := lt_of_cell (Vo.out 0 _ rfl).1
      have neo : ¬ w2.heap.size = w3.heap.size := by omega
      clear hb3
      have o0 := (Vo.out 0 _ rfl).1
      have of0 := (Vo.out 0 _ rfl).2
      have o1 := (Vo.out 1 _ rfl).1
      have of1 := (Vo.out 1 _ rfl).2
      go_wp2_with fail
      refine (sameSeen_same 0 none none 0 0 0 [] _ (Ns.nil _) (Ns.nil _)).mono ?_
      rintro e w4 ⟨rfl, hb4⟩
      clear o0 of0 o1 of1
      have Vo := Lib.hid (((Vo.out).alloc (.cells (List.toArray [.int .i64 0, .slice none 0 0]) 26) (by omega)).below hb4 (by simp; omega))
      have Vv := Lib.hid ((VarN.new_at (w := w3) (d := w3.heap.size) (by simp) [.int .i64 0, .slice none 0 0] 26).below hb4 (by simp))
      have HB4 := Lib.hid (((HB3.out).alloc (Nat.le_trans HB3.out.size (by exact Nat.le_refl _)) (.cells (List.toArray [.int .i64 0, .slice none 0 0]) 26)).trans (hb4.mono (Nat.le_trans HB3.out.size (by simp <;> omega))))
      have lto : w2.heap.size < w4.heap.size := lt_of_cell (Vo.out 0 _ rfl).1
      have ltv : w3.heap.size < w4.heap.size := lt_of_cell (Vv.out 0 _ rfl).1
      have neo : ¬ w2.heap.size = w4.heap.size := by omega
      have nev : ¬ w3.heap.size = w4.heap.size := by omega
      clear hb4
      have o0 := (Vo.out 0 _ rfl).1
      have of0 := (Vo.out 0 _ rfl).2
      have o1 := (Vo.out 1 _ rfl).1
      have of1 := (Vo.out 1 _ rfl).2
      have v0 := (Vv.out 0 _ rfl).1
      have vf0 := (Vv.out 0 _ rfl).2
      have v1 := (Vv.out 1 _ rfl).1
      have vf1 := (Vv.out 1 _ rfl).2
      go_wp2_with fail
      refine (sameSeen_same 0 none none 0 0 0 [] _ (Ns.nil _) (Ns.nil _)).mono ?_
      rintro e w5 ⟨rfl, hb5⟩
      clear o0 of0 o1 of1 v0 vf0 v1 vf1
      have Vo := Lib.hid ((Vo.out).below hb5 lto)
      have Vv := Lib.hid ((Vv.out).below hb5 ltv)
      have HB5 := Lib.hid (HB4.out.trans (hb5.mono HB4.out.size))
      have lto : w2.heap.size < w5.heap.size := lt_of_cell (Vo.out 0 _ rfl).1
      have ltv : w3.heap.size < w5.heap.size := lt_of_cell (Vv.out 0 _ rfl).1
      have neo : ¬ w2.heap.size = w5.heap.size := by omega
      have nev : ¬ w3.heap.size = w5.heap.size := by omega
      clear hb5
      have o0 := (Vo.out 0 _ rfl).1
      have of0 := (Vo.out 0 _ rfl).2
      have o1 := (Vo.out 1 _ rfl).1
      have of1 := (Vo.out 1 _ rfl).2
      have v0 := (Vv.out 0 _ rfl).1
      have vf0 := (Vv.out 0 _ rfl).2
      have v1 := (Vv.out 1 _ rfl).1
      have vf1 := (Vv.out 1 _ rfl).2
      go_wp2
      go_ret
      exact ⟨rfl, HB5.out⟩

end Go.Proofs.Ytcjabomcndahbaa
