/- The draws of receipts, from bytes. -/
import Derived.Test.YtnahecpmmbdobaaK33
import Derived.Test.YtnahecpmmbdobaaK12
import Derived.Test.YtnahecpmmbdobaaK16
import Derived.Deep.RegionHeldLaw
namespace Go.Proofs.Ytnahecpmmbdobaa
open Go.RowKit Go.PlainAid

/-- A receipt was drawn. -/
def DrewS (w : World) (e : Ending) (w' : World) : Prop :=
  ∃ (c : Int) (g k cap : Nat) (gs : List (Int × Int)), e = .returned (.agg #[.int .i64 c, .slice (some ⟨g, 0, none⟩) k cap]) ∧ (-1 ≤ c ∧ c ≤ 65536) ∧ k ≤ 10 ∧ Gaps w' (some ⟨g, 0, none⟩) k cap gs ∧ Small gs ∧ Below w.heap.size w w'
/-- A receipt and a number were drawn. -/
def DrewSH (w : World) (e : Ending) (w' : World) : Prop :=
  ∃ (c : Int) (g k cap : Nat) (gs : List (Int × Int)) (s : Int), e = .returned (.tuple #[.agg #[.int .i64 c, .slice (some ⟨g, 0, none⟩) k cap], .int .i64 s]) ∧ (-1 ≤ c ∧ c ≤ 65536) ∧ (-1 ≤ s ∧ s ≤ 65536) ∧ k ≤ 10 ∧ Gaps w' (some ⟨g, 0, none⟩) k cap gs ∧ Small gs ∧ Below w.heap.size w w'
theorem gap_add (g j : Nat) : (⟨g, 0, none⟩ : Addr).add j = ⟨g, j, none⟩ := by unfold Addr.add; split <;> simp_all
theorem Gaps.far {w : World} {g k cap d i : Nat} {gs : List (Int × Int)} (h : Gaps w (some ⟨g, 0, none⟩) k cap gs) (hd : d ≠ g) (v : Value) : Gaps (w.setCell ⟨d, i, none⟩ v) (some ⟨g, 0, none⟩) k cap gs := by
  rcases h with ⟨e, _⟩ | ⟨a, e, h7, h8, h9, h10⟩
  · cases e
  · obtain rfl : ⟨g, 0, none⟩ = a := by simpa using e
    refine .inr ⟨_, rfl, h7, h8, h9, fun i hi => ?_⟩
    have := h10 i hi
    rw [gap_add] at this ⊢
    exact ⟨cell_far hd this.1, cell_far hd this.2⟩
theorem Gaps.aside {w w' : World} {g k cap r : Nat} {gs : List (Int × Int)} (h : Gaps w (some ⟨g, 0, none⟩) k cap gs) (ha : Aside w.heap.size r w w') (hr : g ≠ r) : Gaps w' (some ⟨g, 0, none⟩) k cap gs := by
  rcases h with ⟨e, _⟩ | ⟨a, e, h7, h8, h9, h10⟩
  · cases e
  · obtain rfl : ⟨g, 0, none⟩ = a := by simpa using e
    refine .inr ⟨_, rfl, h7, h8, h9, fun i hi => ?_⟩
    have := h10 i hi
    rw [gap_add] at this ⊢
    exact ⟨ha.cell (lt_of_cell this.1) hr this.1, ha.cell (lt_of_cell this.1) hr this.2⟩

set_option maxHeartbeats 1000000 in
theorem drawSackPut_any (a0 : Option Addr) (len0 cap0 : Nat) (zs : List Int) (w : World) (h : IsRow .u8 w a0 len0 cap0 zs) :
    Calls Try.prog 13 #[.slice a0 len0 cap0] w (DrewS w) := by
  have H := Lib.hid h
  clear h
  go_enter Try.func13, Try.ntmps13
  go_wp2_with fail
  refine (l6Open_any a0 len0 cap0 zs _ (H.out.keep (below_box _ (Nat.le_refl _)))).mono ?_
  rintro e w1 ⟨r, rfl, hr1, hb1⟩
  have hsz := hb1.size
  go_wp2_with fail
  refine (l91Sack_any _ r 0 _ hr1 (by omega)).mono ?_
  rintro e w2 ⟨c, g, k, cap, gs, rfl, hc, hk, hg, hG, hs, hr2, hb2⟩
  have hb := hb1.trans hb2
  have R := (VarN.new w [.int .i64 0, .slice none 0 0] 25).below hb (by simp)
  have hB := (below_box (.cells (List.toArray [.int .i64 0, .slice none 0 0]) 25) (Nat.le_refl w.heap.size)).trans (hb.mono (by simp))
  have hne : w.heap.size ≠ g := by simp at hsz; omega
  have HG := Lib.hid ((hG.far (i := 0) hne (.int .i64 c)).far (i := 1) hne (.slice (some ⟨g, 0, none⟩) k cap))
  have HB := Lib.hid ((hB.setCell (p := ⟨w.heap.size, 0, none⟩) (Nat.le_refl _) (.int .i64 c)).setCell (p := ⟨w.heap.size, 1, none⟩) (Nat.le_refl _) (.slice (some ⟨g, 0, none⟩) k cap))
  have r0 := (R 0 _ rfl).1
  have r1 := (R 1 _ rfl).1
  have g0 := (R 0 _ rfl).2
  have g1 := (R 1 _ rfl).2
  clear hr1 hb1 hG hb hb2 R hB hsz hr2
  go_wp2
  refine bodyPost_ret (v := .agg #[.int .i64 c, .slice (some ⟨g, 0, none⟩) k cap]) ?_ rfl ?_
  · simp [results, Try.results13, go_sem, r0, r1]
  · exact ⟨c, g, k, cap, gs, rfl, hc, hk, HG.out, hs, HB.out⟩

set_option maxHeartbeats 1000000 in
theorem l91Near_as (B r m : Nat) (a : Int) (w : World) (h : Rd B r m w) (hm : m ≤ 100000) :
    Calls Try.prog 53 #[.pointer (some ⟨r, 0, none⟩), .int .i64 a] w fun e w' => DrewInt B r (m + 4) Near w e w' ∧ Aside w.heap.size r w w' := by
  by_cases ha : Ser a
  · have HA := Lib.hid ha
    clear ha
    go_enter Try.func53, Try.ntmps53
    go_wp2_with fail
    refine (l3Ok_yes a _ HA.out).mono ?_
    rintro e w0 ⟨rfl, rfl⟩
    go_wp2_with fail
    refine (pick_any B r m 3 _ h (by omega) (by omega) (by omega)).mono ?_
    rintro e w1 ⟨k, rfl, k0, k1, hr1, ho1⟩
    have hb1 := ho1.below h.1
    have ha1 : Aside w.heap.size r w w1 := ho1.aside
    have HZ := Lib.hid ho1.size
    by_cases c0 : 0 < k
    · go_wp2_with fail
      refine (pick_any B r (m + 1) 8 _ (hr1.alloc _) (by omega) (by omega) (by omega)).mono ?_
      rintro e w2 ⟨j, rfl, j0, j1, hr2, ho2⟩
      obtain ⟨z, hz⟩ : ∃ z : Int, w2.cell? ⟨w1.heap.size, j.toNat, none⟩ = some (.int .i64 z) := by
        rcases (show j = 0 ∨ j = 1 ∨ j = 2 ∨ j = 3 ∨ j = 4 ∨ j = 5 ∨ j = 6 ∨ j = 7 by omega) with rfl | rfl | rfl | rfl | rfl | rfl | rfl | rfl
        all_goals exact ⟨_, tab_at ho2 hr1.2.1 _ _ rfl⟩
      go_wp2_with fail
      refine (l3Add_any a z _ HA.out).mono ?_
      rintro e w3 ⟨rfl, rfl⟩
      go_wp2
      go_ret
      exact ⟨⟨_, rfl, (addS_ser a z).near, hr2.mono (by omega), hb1.trans ((hr1.below_alloc _).trans (ho2.below h.1))⟩, ha1.trans ((aside_alloc w1 _ (Nat.le_of_eq HZ.out.symm)).trans ho2.aside)⟩
    · go_wp2_with fail
      refine (l91Word_as B r (m + 1) _ hr1 (by omega)).mono ?_
      rintro e w2 ⟨⟨n, rfl, hn, hr2, hb2⟩, ha2⟩
      go_wp2
      go_ret
      exact ⟨⟨n, rfl, hn, hr2, hb1.trans hb2⟩, ha1.trans (ha2.less (Nat.le_of_eq HZ.out.symm))⟩
  · have HA := Lib.hid ha
    clear ha
    go_enter Try.func53, Try.ntmps53
    go_wp2_with fail
    refine (l3Ok_no a _ HA.out).mono ?_
    rintro e w0 ⟨rfl, rfl⟩
    go_wp2_with fail
    refine (l91Word_as B r m _ h (by omega)).mono ?_
    rintro e w2 ⟨⟨n, rfl, hn, hr2, hb2⟩, ha2⟩
    go_wp2
    go_ret
    exact ⟨⟨n, rfl, hn, hr2.mono (by omega), hb2⟩, ha2⟩

/-- While a receipt and a number are drawn: the receipt at sv, the result's place at N. -/
structure PH (r N sv : Nat) (c : Int) (g k cap : Nat) (gs : List (Int × Int)) (w W : World) : Prop where
  vs : VarN sv [.int .i64 c, .slice (some ⟨g, 0, none⟩) k cap] W
  vr : ∃ z0 z1, VarN N [z0, z1] W
  gp : Gaps W (some ⟨g, 0, none⟩) k cap gs
  b : Below N w W
  o1 : sv ≠ r
  o2 : N < r
  o3 : N ≠ sv
  o4 : g ≠ r
  o5 : N ≠ g
section
variable {r N sv : Nat} {c : Int} {g k cap : Nat} {gs : List (Int × Int)} {w W W' : World}
theorem ph_at (h : PH r N sv c g k cap gs w W) : W.cell? ⟨sv, 0, none⟩ = some (.int .i64 c) ∧ W.cell? ⟨sv, 1, none⟩ = some (.slice (some ⟨g, 0, none⟩) k cap) ∧ PH r N sv c g k cap gs w W := ⟨(h.vs 0 _ rfl).1, (h.vs 1 _ rfl).1, h⟩
theorem PH.step (h : PH r N sv c g k cap gs w W) (ha : Aside W.heap.size r W W') (hb : Below N W W') : PH r N sv c g k cap gs w W' := by
  obtain ⟨z0, z1, hr⟩ := h.vr
  have h2 := h.o2
  exact ⟨h.vs.aside ha (lt_of_cell (h.vs 0 _ rfl).1) h.o1, ⟨z0, z1, hr.aside ha (lt_of_cell (hr 0 _ rfl).1) (by omega)⟩, h.gp.aside ha h.o4, h.b.trans hb, h.o1, h.o2, h.o3, h.o4, h.o5⟩
theorem ph_only (ho : Only r W W') (h : W.cell? ⟨sv, 0, none⟩ = some (.int .i64 c) ∧ W.cell? ⟨sv, 1, none⟩ = some (.slice (some ⟨g, 0, none⟩) k cap) ∧ PH r N sv c g k cap gs w W) :
    W'.cell? ⟨sv, 0, none⟩ = some (.int .i64 c) ∧ W'.cell? ⟨sv, 1, none⟩ = some (.slice (some ⟨g, 0, none⟩) k cap) ∧ PH r N sv c g k cap gs w W' :=
  ph_at (h.2.2.step ho.aside (ho.below (Nat.le_of_lt h.2.2.o2)))
theorem ph_near (ha : Aside W.heap.size r W W') (hb : Below (N + 1) W W') (h : W.cell? ⟨sv, 0, none⟩ = some (.int .i64 c) ∧ W.cell? ⟨sv, 1, none⟩ = some (.slice (some ⟨g, 0, none⟩) k cap) ∧ PH r N sv c g k cap gs w W) :
    W'.cell? ⟨sv, 0, none⟩ = some (.int .i64 c) ∧ W'.cell? ⟨sv, 1, none⟩ = some (.slice (some ⟨g, 0, none⟩) k cap) ∧ PH r N sv c g k cap gs w W' :=
  ph_at (h.2.2.step ha (hb.mono (Nat.le_succ _)))
theorem ph_store {x y : Value} (e : (W.setCell ⟨N, 0, none⟩ x).setCell ⟨N, 1, none⟩ y = W') (h : W.cell? ⟨sv, 0, none⟩ = some (.int .i64 c) ∧ W.cell? ⟨sv, 1, none⟩ = some (.slice (some ⟨g, 0, none⟩) k cap) ∧ PH r N sv c g k cap gs w W) :
    W'.cell? ⟨sv, 0, none⟩ = some (.int .i64 c) ∧ W'.cell? ⟨sv, 1, none⟩ = some (.slice (some ⟨g, 0, none⟩) k cap) ∧ PH r N sv c g k cap gs w W' := by
  obtain ⟨z0, z1, hr⟩ := h.2.2.vr
  have q := h.2.2
  subst e
  exact ph_at ⟨(q.vs.far x q.o3).far y q.o3, ⟨x, y, (hr.set (i := 0) x).set (i := 1) y⟩, (q.gp.far q.o5 x).far q.o5 y, (q.b.setCell (p := ⟨N, 0, none⟩) (Nat.le_refl _) x).setCell (p := ⟨N, 1, none⟩) (Nat.le_refl _) y, q.o1, q.o2, q.o3, q.o4, q.o5⟩
end

set_option maxHeartbeats 2000000 in
theorem drawSackHas_any (a0 : Option Addr) (len0 cap0 : Nat) (zs : List Int) (w : World) (h : IsRow .u8 w a0 len0 cap0 zs) :
    Calls Try.prog 22 #[.slice a0 len0 cap0] w (DrewSH w) := by
  have H := Lib.hid h
  clear h
  go_enter Try.func22, Try.ntmps22
  go_wp2_with fail
  refine (l6Open_any a0 len0 cap0 zs _ (H.out.keep (below_box _ (Nat.le_refl _)))).mono ?_
  rintro e w1 ⟨r, rfl, hr1, hb1⟩
  have hsz := hb1.size
  go_wp2_with fail
  refine (l91Sack_any _ r 0 _ hr1 (by omega)).mono ?_
  rintro e w2 ⟨c, g, k, cap, gs, rfl, hc, hk, hg, hG, hs, hr2, hb2⟩
  have hb := hb1.trans hb2
  have hrw := hr1.1
  have hrl := hr1.2.1
  have hgl : g < w2.heap.size ∨ k = 0 := by
    rcases hG with ⟨e, _⟩ | ⟨a, e, _, _, _, h10⟩
    · cases e
    · obtain rfl : ⟨g, 0, none⟩ = a := by simpa using e
      by_cases hk0 : 0 < k
      · have := (h10 0 hk0).1
        rw [gap_add] at this
        exact .inl (lt_of_cell this)
      · exact .inr (by omega)
  have hw12 := hb2.size
  have R := (VarN.new w [.int .i64 0, .slice none 0 0] 25).below hb (by simp)
  have hB := (below_box (.cells (List.toArray [.int .i64 0, .slice none 0 0]) 25) (Nat.le_refl w.heap.size)).trans (hb.mono (by simp))
  have hR2 := lt_of_cell (R 0 _ rfl).1
  simp at hsz hrw
  have P0 : PH r w.heap.size w2.heap.size c g k cap gs w (w2.alloc (.cells (List.toArray [.int .i64 c, .slice (some ⟨g, 0, none⟩) k cap]) 25)) :=
    ⟨VarN.new w2 _ _, ⟨_, _, R.alloc _ hR2⟩, hG.below (below_box _ (Nat.le_refl _)), hB.alloc (Nat.le_of_lt hR2) _, by have := hr2.2.1; omega, by omega, by omega, by omega, by omega⟩
  have HRa := Lib.hid (hr2.alloc (.cells (List.toArray [.int .i64 c, .slice (some ⟨g, 0, none⟩) k cap]) 25))
  have P0 := Lib.hid P0
  clear hr1 hb1 hG hb hb2 R hB hgl hrl hr2
  by_cases hser : Ser c
  · have HS := Lib.hid hser
    clear hser
    go_wp2_with fail
    refine (l3Ok_yes c _ HS.out).mono ?_
    rintro e w3 ⟨rfl, rfl⟩
    go_wp2_with fail
    refine (pick_any _ r _ 6 _ HRa.out (by omega) (by omega) (by omega)).mono ?_
    rintro e w3 ⟨v, rfl, v0, v1, hr3, ho3⟩
    have P1 := Lib.hid (ph_only ho3 (ph_at P0.out))
    clear ho3
    by_cases hv : 0 < v
    · have hsub : ∀ x : Int, 0 ≤ x → x < 20 → IntKind.i64.wrap (x - 2) = x - 2 := fun x a b => IntWalk.i64_in _ (by omega)
      have hS0 := Lib.hid (ph_at (P1.out.2.2.step (W' := w3.drew) (below_aside (Below.drew (Below.refl _ w3)) (Nat.le_refl _)) (Below.drew (Below.refl _ _))))
      go_wp2_with fail
      go_region_held_law (fun W => W.cell? ⟨w2.heap.size, 0, none⟩ = some (.int .i64 c) ∧ W.cell? ⟨w2.heap.size, 1, none⟩ = some (.slice (some ⟨g, 0, none⟩) k cap) ∧ PH r w.heap.size w2.heap.size c g k cap gs w W)
        (first | with_reducible assumption | with_reducible exact hS0.out | exact ph_only (by assumption) (by assumption) | exact ph_store rfl (by assumption))
        (first
          | (go_simp; go_at_call 51; refine (pick_any _ r _ 20 _ (hr3.keep (Below.drew (Below.refl _ _)) hr3.2.1) (by omega) (by omega) (by omega)).mono ?_; rintro e w' ⟨p, rfl, p0, p1, hr', ho'⟩; obtain ⟨u0, u1, hR⟩ := (ph_only ho' (by assumption)).2.2.vr; have r0 := (hR 0 _ rfl).1; have r1 := (hR 1 _ rfl).1; have rf0 := (hR 0 _ rfl).2; have rf1 := (hR 1 _ rfl).2)
          | (go_simp; go_at_call 52; refine (l3Add_any c _ _ HS.out).mono ?_; rintro e w'' ⟨rfl, rfl⟩))
      all_goals
        rename_i hHeld
        have Q := Lib.hid hHeld.2.2
        clear hHeld
        go_wp2
        refine bodyPost_ret (v := .tuple #[.agg #[.int .i64 c, .slice (some ⟨g, 0, none⟩) k cap], .int .i64 (addS c (p - 2))]) ?_ rfl ?_
        · simp [results, Try.results22, go_sem, r0, r1]
        · exact ⟨c, g, k, cap, gs, _, rfl, hc, (addS_ser c (p - 2)).near, hk, Q.out.gp, hs, Q.out.b⟩
    · have hS0 := Lib.hid (ph_at (P1.out.2.2.step (below_aside (Below.drew (Below.refl _ _)) (Nat.le_refl _)) (Below.drew (Below.refl _ _))))
      go_wp2_with fail
      go_region_held_law (fun W => W.cell? ⟨w2.heap.size, 0, none⟩ = some (.int .i64 c) ∧ W.cell? ⟨w2.heap.size, 1, none⟩ = some (.slice (some ⟨g, 0, none⟩) k cap) ∧ PH r w.heap.size w2.heap.size c g k cap gs w W)
        (first | with_reducible assumption | with_reducible exact hS0.out | exact ph_near (by assumption) (by assumption) (by assumption) | exact ph_store rfl (by assumption))
        (first
          | (go_simp; go_at_call 53; refine (l91Near_as _ r _ c _ (hr3.keep (Below.drew (Below.refl _ _)) hr3.2.1) (by omega)).mono ?_; rintro e w' ⟨⟨n, rfl, hn, hr', hb'⟩, ha'⟩; have hb' := hb'.mono (show w.heap.size + 1 ≤ _ by simp); obtain ⟨u0, u1, hR⟩ := (ph_near ha' hb' (by assumption)).2.2.vr; have r0 := (hR 0 _ rfl).1; have r1 := (hR 1 _ rfl).1; have rf0 := (hR 0 _ rfl).2; have rf1 := (hR 1 _ rfl).2))
      all_goals
        rename_i hHeld
        have Q := Lib.hid hHeld.2.2
        clear hHeld
        go_wp2
        refine bodyPost_ret (v := .tuple #[.agg #[.int .i64 c, .slice (some ⟨g, 0, none⟩) k cap], .int .i64 n]) ?_ rfl ?_
        · simp [results, Try.results22, go_sem, r0, r1]
        · exact ⟨c, g, k, cap, gs, _, rfl, hc, hn, hk, Q.out.gp, hs, Q.out.b⟩
  · have HS := Lib.hid hser
    clear hser
    go_wp2_with fail
    refine (l3Ok_no c _ HS.out).mono ?_
    rintro e w3 ⟨rfl, rfl⟩
    have P1 := Lib.hid (ph_at P0.out)
    have hr3 := HRa.out
    have hS0 := Lib.hid (ph_at (P1.out.2.2.step (below_aside (Below.drew (Below.refl _ _)) (Nat.le_refl _)) (Below.drew (Below.refl _ _))))
    go_wp2_with fail
    go_region_held_law (fun W => W.cell? ⟨w2.heap.size, 0, none⟩ = some (.int .i64 c) ∧ W.cell? ⟨w2.heap.size, 1, none⟩ = some (.slice (some ⟨g, 0, none⟩) k cap) ∧ PH r w.heap.size w2.heap.size c g k cap gs w W)
      (first | with_reducible assumption | with_reducible exact hS0.out | exact ph_near (by assumption) (by assumption) (by assumption) | exact ph_store rfl (by assumption))
      (first
        | (go_simp; go_at_call 53; refine (l91Near_as _ r _ c _ (hr3.keep (Below.drew (Below.refl _ _)) hr3.2.1) (by omega)).mono ?_; rintro e w' ⟨⟨n, rfl, hn, hr', hb'⟩, ha'⟩; have hb' := hb'.mono (show w.heap.size + 1 ≤ _ by simp); obtain ⟨u0, u1, hR⟩ := (ph_near ha' hb' (by assumption)).2.2.vr; have r0 := (hR 0 _ rfl).1; have r1 := (hR 1 _ rfl).1; have rf0 := (hR 0 _ rfl).2; have rf1 := (hR 1 _ rfl).2))
    all_goals
      rename_i hHeld
      have Q := Lib.hid hHeld.2.2
      clear hHeld
      go_wp2
      refine bodyPost_ret (v := .tuple #[.agg #[.int .i64 c, .slice (some ⟨g, 0, none⟩) k cap], .int .i64 n]) ?_ rfl ?_
      · simp [results, Try.results22, go_sem, r0, r1]
      · exact ⟨c, g, k, cap, gs, _, rfl, hc, hn, hk, Q.out.gp, hs, Q.out.b⟩

end Go.Proofs.Ytnahecpmmbdobaa
