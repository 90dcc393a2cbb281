/- The draws of records. -/
import Derived.Test.YtodpbjomiplphabK70
import Derived.Test.YtodpbjomiplphabK4b
import Derived.Test.YtodpbjomiplphabK40
import Derived.Test.YtodpbjomiplphabK7m
import Derived.Deep.RegionLaw
import Derived.Deep.AppendLies
import Derived.IntWalk
namespace Go.Proofs.Ytodpbjomiplphab
open Go.RowKit Go.PlainAid

/-- Drawn records are small. -/
def SmallR (rs : List (Int × ByteArray)) : Prop := ∀ x ∈ rs, (-1 ≤ x.1 ∧ x.1 ≤ 4294967296) ∧ x.2.size ≤ 200
theorem smallR_snoc {rs : List (Int × ByteArray)} {t : Int} {b : ByteArray} (h : SmallR rs) (ht : -1 ≤ t ∧ t ≤ 4294967296) (hb : b.size ≤ 200) : SmallR (rs ++ [(t, b)]) := fun x hx => by
  rcases List.mem_append.1 hx with hx | hx
  · exact h x hx
  · obtain rfl : x = (t, b) := by simpa using hx
    exact ⟨ht, hb⟩
theorem smallR_set {rs : List (Int × ByteArray)} {j : Nat} {t : Int} {b : ByteArray} (h : SmallR rs) (ht : -1 ≤ t ∧ t ≤ 4294967296) (hb : b.size ≤ 200) : SmallR (rs.set j (t, b)) := fun x hx => by
  rcases List.mem_or_eq_of_mem_set hx with hx | rfl
  · exact h x hx
  · exact ⟨ht, hb⟩
theorem rcAt_set {rs : List (Int × ByteArray)} {j : Nat} (hj : j < rs.length) (c : Int × ByteArray) (i : Nat) : rcAt (rs.set j c) i = if i = j then c else rcAt rs i := by
  unfold rcAt
  rw [List.getD_eq_getElem?_getD, List.getD_eq_getElem?_getD]
  by_cases e : i = j
  · subst e
    rw [if_pos rfl, List.getElem?_set_self hj]
    rfl
  · rw [if_neg e, List.getElem?_set_ne (fun h => e h.symm)]
theorem rcs_setT {W : World} {g k cap j : Nat} {rs : List (Int × ByteArray)} (h : Rcs W (some ⟨g, 0, none⟩) k cap rs) (hj : j < k) (t : Int) : Rcs (W.setCell ⟨g, j * 2, none⟩ (.int .i64 t)) (some ⟨g, 0, none⟩) k cap (rs.set j (t, (rcAt rs j).2)) := by
  rcases h with ⟨e, _⟩ | ⟨a, e, h7, h8, h9, h10⟩
  · cases e
  · obtain rfl : ⟨g, 0, none⟩ = a := by simpa using e
    refine .inr ⟨_, rfl, h7, h8, by rw [List.length_set]; exact h9, fun i hi => ?_⟩
    have := h10 i hi
    rw [rc_add] at this ⊢
    rw [rcAt_set (by omega)]
    by_cases e : i = j
    · subst e
      rw [if_pos rfl]
      exact ⟨World.cell?_setCell_same _ _ _ this.1, (World.cell?_setCell_other _ _ _ _ (by simp)).trans this.2⟩
    · rw [if_neg e]
      exact ⟨(World.cell?_setCell_other _ _ _ _ (by simp [Addr.mk.injEq]; try omega)).trans this.1, (World.cell?_setCell_other _ _ _ _ (by simp [Addr.mk.injEq]; try omega)).trans this.2⟩
theorem rcs_setB {W : World} {g k cap j : Nat} {rs : List (Int × ByteArray)} (h : Rcs W (some ⟨g, 0, none⟩) k cap rs) (hj : j < k) (b : ByteArray) : Rcs (W.setCell ⟨g, j * 2 + 1, none⟩ (.string b)) (some ⟨g, 0, none⟩) k cap (rs.set j ((rcAt rs j).1, b)) := by
  rcases h with ⟨e, _⟩ | ⟨a, e, h7, h8, h9, h10⟩
  · cases e
  · obtain rfl : ⟨g, 0, none⟩ = a := by simpa using e
    refine .inr ⟨_, rfl, h7, h8, by rw [List.length_set]; exact h9, fun i hi => ?_⟩
    have := h10 i hi
    rw [rc_add] at this ⊢
    rw [rcAt_set (by omega)]
    by_cases e : i = j
    · subst e
      rw [if_pos rfl]
      exact ⟨(World.cell?_setCell_other _ _ _ _ (by simp)).trans this.1, World.cell?_setCell_same _ _ _ this.2⟩
    · rw [if_neg e]
      exact ⟨(World.cell?_setCell_other _ _ _ _ (by simp [Addr.mk.injEq]; try omega)).trans this.1, (World.cell?_setCell_other _ _ _ _ (by simp [Addr.mk.injEq]; try omega)).trans this.2⟩
theorem rowAway {w w' : World} {base r : Nat} {e : TypeId} {size n m g cap : Nat} {xs : List Value} (h : w.ownsRow base e size (.slice (some ⟨g, 0, none⟩) m cap) n xs) (ha : Aside w.heap.size r w w') (hg : g ≠ r) :
    w'.ownsRow base e size (.slice (some ⟨g, 0, none⟩) m cap) n xs := by
  have hl := rowLt h
  refine ⟨h.1, ?_⟩
  rcases h.2 with ⟨h1, _⟩ | ⟨g', cap', cur, h1, h2, h3, h4⟩
  · exact absurd h1 (by intro e; cases e)
  · obtain ⟨rfl, rfl, rfl⟩ : g = g' ∧ m = n ∧ cap = cap' := by simpa using h1
    exact .inr ⟨g, cap, cur, rfl, h2, by rw [ha g hl hg]; exact h3, h4⟩

/-- While records are drawn: the reader at r, the records at g. -/
structure Sr (B r M N g k cap : Nat) (rs : List (Int × ByteArray)) (w W : World) : Prop where
  rd : Rd B r M W
  own : W.ownsRow N 33 2 (.slice (some ⟨g, 0, none⟩) k cap) k (flatR rs)
  b : Below B w W
  o1 : r < N
  s : SmallR rs
section
variable {B r M N g k cap : Nat} {rs : List (Int × ByteArray)} {w W W' : World}
theorem Sr.gN (h : Sr B r M N g k cap rs w W) : N ≤ g := own_ge h.own rfl
theorem Sr.up (h : Sr B r M N g k cap rs w W) (hb : Below W.heap.size W W') : Sr B r M N g k cap rs w W' :=
  ⟨h.rd.keep hb h.rd.2.1, rowBelow h.own hb (rowLt h.own), h.b.trans (hb.mono (Nat.le_of_lt (Nat.lt_of_le_of_lt h.rd.1 h.rd.2.1))), h.o1, h.s⟩
theorem Sr.only {M' : Nat} (h : Sr B r M N g k cap rs w W) (ho : Only r W W') (hr : Rd B r M' W') : Sr B r M' N g k cap rs w W' :=
  ⟨hr, own_only ho h.o1 h.own, h.b.trans (ho.below h.rd.1), h.o1, h.s⟩
theorem Sr.aside {M' : Nat} (h : Sr B r M N g k cap rs w W) (ha : Aside W.heap.size r W W') (hr : Rd B r M' W') (hb : Below B W W') : Sr B r M' N g k cap rs w W' :=
  ⟨hr, rowAway h.own ha (by have := h.gN; have := h.o1; omega), h.b.trans hb, h.o1, h.s⟩
theorem Sr.mono {M' : Nat} (h : Sr B r M N g k cap rs w W) (hM : M ≤ M') : Sr B r M' N g k cap rs w W := ⟨h.rd.mono hM, h.own, h.b, h.o1, h.s⟩
theorem Sr.push {W1 : World} {g2 cap2 : Nat} {t : Int} {b : ByteArray} (h : Sr B r M N g k cap rs w W) (hgrow : W.grownBy W1 (some g)) (hown : W1.ownsRow N 33 2 (.slice (some ⟨g2, 0, none⟩) (k + 1) cap2) (k + 1) (flatR rs ++ [.int .i64 t, .string b]))
    (ht : -1 ≤ t ∧ t ≤ 4294967296) (hb : b.size ≤ 200) : Sr B r M N g2 (k + 1) cap2 (rs ++ [(t, b)]) w W1 := by
  have h3 := h.o1
  have h5 := h.rd.1
  have h6 := h.gN
  have h7 := h.rd.2.1
  exact ⟨h.rd.keep (Below.grown (Below.refl (r + 1) W) hgrow (by omega) fun x hx => by cases hx; omega) (Nat.lt_succ_self r), by rw [flatR_append]; exact hown, Below.grown h.b hgrow (by omega) fun x hx => by cases hx; omega, h3, smallR_snoc h.s ht hb⟩
end
/-- Drawn records. -/
def DrewRecs (B r m : Nat) (w : World) (e : Ending) (w' : World) : Prop :=
  ∃ (g k cap : Nat) (rs : List (Int × ByteArray)), e = .returned (.slice (some ⟨g, 0, none⟩) k cap) ∧ k ≤ 62 ∧ w.heap.size ≤ g ∧ Rcs w' (some ⟨g, 0, none⟩) k cap rs ∧ (∀ j, w'.frozen? ⟨g, j, none⟩ = false) ∧ SmallR rs ∧ Rd B r m w' ∧ Below B w w'

set_option maxHeartbeats 4000000 in
theorem l91Records_any (B r m : Nat) (w : World) (h : Rd B r m w) (hm : m ≤ 10000) :
    Calls Try.prog 33 #[.pointer (some ⟨r, 0, none⟩)] w (DrewRecs B r (m + 1200) w) := by
  have hrw := h.2.1
  have hBr := h.1
  obtain ⟨i0, hi, hz0, hz1, hz2⟩ := info_parts info_rc
  have HI := Lib.hid (And.intro hi (And.intro hz0 (And.intro hz1 hz2)))
  clear hi hz0 hz1 hz2
  have S0 := Lib.hid (show Sr B r m w.heap.size w.heap.size 0 0 [] w (w.alloc (.cells #[] 33)) from ⟨h.alloc _, World.ownsRow_lit (base := w.heap.size) (e := 33) (size := 2) w #[] 0 (Nat.le_refl _) (by decide) rfl, below_box _ (by omega), hrw, fun x hx => by simp at hx⟩)
  clear h
  go_enter Try.func33, Try.ntmps33
  go_wp2_with fail
  refine (pick_any B r _ 4 _ S0.out.rd (by omega) (by omega) (by omega)).mono ?_
  rintro e w1 ⟨n1, rfl, n10, n11, hr1, ho1⟩
  have S1 := Lib.hid (S0.out.only ho1 hr1)
  clear S0 hr1 ho1
  go_wp2_with fail
  refine (pick_any B r _ 24 _ S1.out.rd (by omega) (by omega) (by omega)).mono ?_
  rintro e w2 ⟨p, rfl, p0, p1, hr2, ho2⟩
  have S2 := Lib.hid (S1.out.only ho2 hr2)
  clear S1 hr2 ho2
  have JOIN : ∃ nn : Nat, n1 = nn ∧ nn ≤ 3 := ⟨n1.toNat, by omega, by omega⟩
  obtain ⟨n3, rfl, n3l⟩ := JOIN
  clear n10 n11
  by_cases pz : p = 0
  · subst pz
    go_wp2_with fail
    refine (pick_any B r _ 5 _ S2.out.rd (by omega) (by omega) (by omega)).mono ?_
    rintro e w3 ⟨q, rfl, q0, q1, hr3, ho3⟩
    have S3 := Lib.hid (S2.out.only ho3 hr3)
    obtain ⟨q', rfl⟩ : ∃ q' : Nat, q = q' := ⟨q.toNat, by omega⟩
    have wq : IntKind.i64.wrap (58 + (q' : Int)) = ((58 + q' : Nat) : Int) := by rw [IntWalk.i64_in _ ⟨by omega, by omega⟩]; simp
    have hnn : 58 + q' ≤ 62 := by omega
    clear S2 hr3 ho3 q0 q1
    generalize 58 + q' = nn at wq hnn
    go_wp2_with fail
    refine (pick_any B r _ 5 _ S3.out.rd (by omega) (by omega) (by omega)).mono ?_
    rintro e w4 ⟨x, rfl, x0, x1, hr4, ho4⟩
    have S4 := Lib.hid ((S3.out.only ho4 hr4).mono (M' := m + 4) (by omega))
    clear S3 hr4 ho4 wq p0 p1
    go_wp2
    go_loopw [3, 5, 6] (fun o a l wr => ∃ (j g cap : Nat) (y : Int) (rs : List (Int × ByteArray)), j ≤ nn ∧ o = .slice (some ⟨g, 0, none⟩) j cap ∧ a = .int .i64 y ∧ l = .int .i64 j ∧ (0 ≤ y ∧ y ≤ 4 + 3 * j) ∧ Hid (Sr B r (m + 4 + 16 * j) w.heap.size g j cap rs w wr)) (fun _ _ l _ => nn - (intOf l).toNat)
    case atStart => exact ⟨0, _, _, x, [], Nat.zero_le _, rfl, rfl, rfl, by omega, S4⟩
    case round =>
      obtain ⟨j, g, cap, y, rs, hj, rfl, rfl, rfl, hy, hS⟩ := hrel
      clear S4
      by_cases hlt : j < nn
      · have cond : (j : Int) < (nn : Int) := by omega
        go_wp2_with fail
        refine (l91Bytes_as B r _ 6 _ hS.out.rd (by omega) (by omega)).mono ?_
        rintro e w5 ⟨⟨b, rfl, hb6, hr5, hb5⟩, ha5⟩
        have S5 := Lib.hid (hS.out.aside ha5 hr5 hb5)
        clear hS hr5 hb5 ha5
        have SA := Lib.hid (S5.out.up (below_box (.cells #[.int .i64 y, .string b] 33) (Nat.le_refl _)))
        have lw : w.heap.size ≤ w5.heap.size := by
          have h1 := S5.out.gN
          have h2 := rowLt S5.out.own
          omega
        clear S5
        go_wp2_with (at_builtin; go_loud (refine wpList_append_lies _ rfl _ _ 24 rfl w.heap.size 33 i0 (.agg #[.int .i64 0, .string (ByteArray.mk #[])]) 2 24 Try.underlying24 HI.out.1 HI.out.2.1 HI.out.2.2.1 HI.out.2.2.2 rfl (by decide) (.slice (some ⟨g, 0, none⟩) j cap) j (flatR rs) rfl SA.out.own ⟨w5.heap.size, 0, none⟩ 1 1 [.int .i64 y, .string b] rfl rfl (news_box rfl) (by simp [Value.oneCell']) (by decide) (by unfold maxLen; omega) (by omega) (by simp; omega) _ rfl ?_))
        intro g2 cap2 w6 hown hgrow hat hlt6
        have S6 := Lib.hid (SA.out.push hgrow hown (by omega) (by omega))
        clear SA hown hgrow hat hlt6
        go_wp2_with fail
        refine (pick_any B r _ 3 _ S6.out.rd (by omega) (by omega) (by omega)).mono ?_
        rintro e w7 ⟨z, rfl, z0, z1, hr7, ho7⟩
        have S7 := Lib.hid ((S6.out.only ho7 hr7).mono (M' := m + 4 + 16 * (j + 1)) (by omega))
        have wz : IntKind.i64.wrap (y + z) = y + z := IntWalk.i64_in _ ⟨by omega, by omega⟩
        clear S6 hr7 ho7
        go_wp2
        go_roundw
        case rel => exact ⟨j + 1, g2, cap2, y + z, _, by omega, rfl, rfl, by go_num, by omega, S7⟩
        case measure => simp [intOf]; omega
      · obtain rfl : j = nn := by omega
        have ncond : ¬ (j : Int) < (j : Int) := by omega
        clear hlt
        by_cases j0 : j = 0
        · subst j0
          go_wp2
          go_ret
          exact ⟨g, 0, cap, rs, rfl, by omega, hS.out.gN, own_rcs hS.out.own, hS.out.own.frozenAt, hS.out.s, hS.out.rd.mono (by omega), hS.out.b⟩
        have c0 : (0 : Int) < (j : Int) := by omega
        go_wp2_with fail
        refine (pick_any B r _ 20 _ hS.out.rd (by omega) (by omega) (by omega)).mono ?_
        rintro e w5 ⟨z, rfl, z0, z1, hr5, ho5⟩
        have S5 := Lib.hid (hS.out.only ho5 hr5)
        clear hS hr5 ho5
        by_cases e0 : z = 0
        · subst e0
          go_wp2_with fail
          refine (pick_any B r _ j _ S5.out.rd (by omega) (by omega) (by omega)).mono ?_
          rintro e w6 ⟨u, rfl, u0, u1, hr6, ho6⟩
          have S6 := Lib.hid (S5.out.only ho6 hr6)
          obtain ⟨v, rfl⟩ : ∃ v : Nat, u = v := ⟨u.toNat, by omega⟩
          have hv : v < j := by omega
          clear S5 hr6 ho6
          go_wp2_with fail
          refine (l91Long_as B r _ _ S6.out.rd (by omega)).mono ?_
          rintro e w7 ⟨⟨t, rfl, ht, hr7, hb7⟩, ha7⟩
          have S7 := Lib.hid (S6.out.aside ha7 hr7 hb7)
          clear S6 hr7 hb7 ha7
          have HC := own_rcs S7.out.own
          obtain ⟨p0, p1⟩ := HC.at (Below.refl _ _) hv
          rw [rc_add] at p0 p1
          have f0 := S7.out.own.frozenAt (v * 2)
          have HC := Lib.hid HC
          go_wp2
          go_ret
          exact ⟨g, j, cap, _, rfl, hnn, S7.out.gN, rcs_setT HC.out hv t, fun i => by rw [World.frozen?_setCell]; exact S7.out.own.frozenAt i, smallR_set S7.out.s ht (S7.out.s _ (rcAt_mem (by rw [HC.out.length]; exact hv))).2, (S7.out.rd.far (by have := S7.out.gN; have := S7.out.o1; omega) _ _).mono (by omega), S7.out.b.setCell (p := ⟨g, v * 2, none⟩) (by have := S7.out.gN; show B ≤ g; omega) _⟩
        by_cases e1 : z = 1
        · subst e1
          go_wp2_with fail
          refine (pick_any B r _ j _ S5.out.rd (by omega) (by omega) (by omega)).mono ?_
          rintro e w6 ⟨u, rfl, u0, u1, hr6, ho6⟩
          have S6 := Lib.hid (S5.out.only ho6 hr6)
          obtain ⟨v, rfl⟩ : ∃ v : Nat, u = v := ⟨u.toNat, by omega⟩
          have hv : v < j := by omega
          clear S5 hr6 ho6
          go_wp2_with fail
          refine (pick_any B r _ 3 _ S6.out.rd (by omega) (by omega) (by omega)).mono ?_
          rintro e w7 ⟨q5, rfl, q50, q51, hr7, ho7⟩
          have S7 := Lib.hid (S6.out.only ho7 hr7)
          obtain ⟨d, rfl⟩ : ∃ d : Nat, q5 = d := ⟨q5.toNat, by omega⟩
          have wd : IntKind.i64.wrap (119 + (d : Int)) = ((119 + d : Nat) : Int) := by rw [IntWalk.i64_in _ ⟨by omega, by omega⟩]; simp
          have hd : 119 + d ≤ 122 := by omega
          clear S6 hr7 ho7 q50 q51
          generalize 119 + d = dd at wd hd
          go_wp2_with fail
          refine (l6Many_any (ByteArray.mk #[122]) dd _ (by decide) (by omega)).mono ?_
          rintro e w8 ⟨b, rfl, hb, rfl⟩
          have hb2 : b.size ≤ 200 := by rw [hb]; show 1 * dd ≤ 200; omega
          have HC := own_rcs S7.out.own
          obtain ⟨p0, p1⟩ := HC.at (Below.refl _ _) hv
          rw [rc_add] at p0 p1
          have f0 := S7.out.own.frozenAt (v * 2 + 1)
          have HC := Lib.hid HC
          clear hb
          go_wp2
          go_ret
          exact ⟨g, j, cap, _, rfl, hnn, S7.out.gN, rcs_setB HC.out hv b, fun i => by rw [World.frozen?_setCell]; exact S7.out.own.frozenAt i, smallR_set S7.out.s (S7.out.s _ (rcAt_mem (by rw [HC.out.length]; exact hv))).1 hb2, (S7.out.rd.far (by have := S7.out.gN; have := S7.out.o1; omega) _ _).mono (by omega), S7.out.b.setCell (p := ⟨g, v * 2 + 1, none⟩) (by have := S7.out.gN; show B ≤ g; omega) _⟩
        · go_wp2
          go_ret
          exact ⟨g, j, cap, rs, rfl, hnn, S5.out.gN, own_rcs S5.out.own, S5.out.own.frozenAt, S5.out.s, S5.out.rd.mono (by omega), S5.out.b⟩
  · obtain ⟨nn, rfl⟩ : ∃ nn, nn = n3 := ⟨_, rfl⟩
    have hnn : nn ≤ 62 := by omega
    go_wp2_with fail
    refine (pick_any B r _ 5 _ S2.out.rd (by omega) (by omega) (by omega)).mono ?_
    rintro e w4 ⟨x, rfl, x0, x1, hr4, ho4⟩
    have S4 := Lib.hid ((S2.out.only ho4 hr4).mono (M' := m + 4) (by omega))
    clear S2 hr4 ho4 p0 p1
    go_wp2
    go_loopw [3, 5, 6] (fun o a l wr => ∃ (j g cap : Nat) (y : Int) (rs : List (Int × ByteArray)), j ≤ nn ∧ o = .slice (some ⟨g, 0, none⟩) j cap ∧ a = .int .i64 y ∧ l = .int .i64 j ∧ (0 ≤ y ∧ y ≤ 4 + 3 * j) ∧ Hid (Sr B r (m + 4 + 16 * j) w.heap.size g j cap rs w wr)) (fun _ _ l _ => nn - (intOf l).toNat)
    case atStart => exact ⟨0, _, _, x, [], Nat.zero_le _, rfl, rfl, rfl, by omega, S4⟩
    case round =>
      obtain ⟨j, g, cap, y, rs, hj, rfl, rfl, rfl, hy, hS⟩ := hrel
      clear S4
      by_cases hlt : j < nn
      · have cond : (j : Int) < (nn : Int) := by omega
        go_wp2_with fail
        refine (l91Bytes_as B r _ 6 _ hS.out.rd (by omega) (by omega)).mono ?_
        rintro e w5 ⟨⟨b, rfl, hb6, hr5, hb5⟩, ha5⟩
        have S5 := Lib.hid (hS.out.aside ha5 hr5 hb5)
        clear hS hr5 hb5 ha5
        have SA := Lib.hid (S5.out.up (below_box (.cells #[.int .i64 y, .string b] 33) (Nat.le_refl _)))
        have lw : w.heap.size ≤ w5.heap.size := by
          have h1 := S5.out.gN
          have h2 := rowLt S5.out.own
          omega
        clear S5
        go_wp2_with (at_builtin; go_loud (refine wpList_append_lies _ rfl _ _ 24 rfl w.heap.size 33 i0 (.agg #[.int .i64 0, .string (ByteArray.mk #[])]) 2 24 Try.underlying24 HI.out.1 HI.out.2.1 HI.out.2.2.1 HI.out.2.2.2 rfl (by decide) (.slice (some ⟨g, 0, none⟩) j cap) j (flatR rs) rfl SA.out.own ⟨w5.heap.size, 0, none⟩ 1 1 [.int .i64 y, .string b] rfl rfl (news_box rfl) (by simp [Value.oneCell']) (by decide) (by unfold maxLen; omega) (by omega) (by simp; omega) _ rfl ?_))
        intro g2 cap2 w6 hown hgrow hat hlt6
        have S6 := Lib.hid (SA.out.push hgrow hown (by omega) (by omega))
        clear SA hown hgrow hat hlt6
        go_wp2_with fail
        refine (pick_any B r _ 3 _ S6.out.rd (by omega) (by omega) (by omega)).mono ?_
        rintro e w7 ⟨z, rfl, z0, z1, hr7, ho7⟩
        have S7 := Lib.hid ((S6.out.only ho7 hr7).mono (M' := m + 4 + 16 * (j + 1)) (by omega))
        have wz : IntKind.i64.wrap (y + z) = y + z := IntWalk.i64_in _ ⟨by omega, by omega⟩
        clear S6 hr7 ho7
        go_wp2
        go_roundw
        case rel => exact ⟨j + 1, g2, cap2, y + z, _, by omega, rfl, rfl, by go_num, by omega, S7⟩
        case measure => simp [intOf]; omega
      · obtain rfl : j = nn := by omega
        have ncond : ¬ (j : Int) < (j : Int) := by omega
        clear hlt
        by_cases j0 : j = 0
        · subst j0
          go_wp2
          go_ret
          exact ⟨g, 0, cap, rs, rfl, by omega, hS.out.gN, own_rcs hS.out.own, hS.out.own.frozenAt, hS.out.s, hS.out.rd.mono (by omega), hS.out.b⟩
        have c0 : (0 : Int) < (j : Int) := by omega
        go_wp2_with fail
        refine (pick_any B r _ 20 _ hS.out.rd (by omega) (by omega) (by omega)).mono ?_
        rintro e w5 ⟨z, rfl, z0, z1, hr5, ho5⟩
        have S5 := Lib.hid (hS.out.only ho5 hr5)
        clear hS hr5 ho5
        by_cases e0 : z = 0
        · subst e0
          go_wp2_with fail
          refine (pick_any B r _ j _ S5.out.rd (by omega) (by omega) (by omega)).mono ?_
          rintro e w6 ⟨u, rfl, u0, u1, hr6, ho6⟩
          have S6 := Lib.hid (S5.out.only ho6 hr6)
          obtain ⟨v, rfl⟩ : ∃ v : Nat, u = v := ⟨u.toNat, by omega⟩
          have hv : v < j := by omega
          clear S5 hr6 ho6
          go_wp2_with fail
          refine (l91Long_as B r _ _ S6.out.rd (by omega)).mono ?_
          rintro e w7 ⟨⟨t, rfl, ht, hr7, hb7⟩, ha7⟩
          have S7 := Lib.hid (S6.out.aside ha7 hr7 hb7)
          clear S6 hr7 hb7 ha7
          have HC := own_rcs S7.out.own
          obtain ⟨p0, p1⟩ := HC.at (Below.refl _ _) hv
          rw [rc_add] at p0 p1
          have f0 := S7.out.own.frozenAt (v * 2)
          have HC := Lib.hid HC
          go_wp2
          go_ret
          exact ⟨g, j, cap, _, rfl, hnn, S7.out.gN, rcs_setT HC.out hv t, fun i => by rw [World.frozen?_setCell]; exact S7.out.own.frozenAt i, smallR_set S7.out.s ht (S7.out.s _ (rcAt_mem (by rw [HC.out.length]; exact hv))).2, (S7.out.rd.far (by have := S7.out.gN; have := S7.out.o1; omega) _ _).mono (by omega), S7.out.b.setCell (p := ⟨g, v * 2, none⟩) (by have := S7.out.gN; show B ≤ g; omega) _⟩
        by_cases e1 : z = 1
        · subst e1
          go_wp2_with fail
          refine (pick_any B r _ j _ S5.out.rd (by omega) (by omega) (by omega)).mono ?_
          rintro e w6 ⟨u, rfl, u0, u1, hr6, ho6⟩
          have S6 := Lib.hid (S5.out.only ho6 hr6)
          obtain ⟨v, rfl⟩ : ∃ v : Nat, u = v := ⟨u.toNat, by omega⟩
          have hv : v < j := by omega
          clear S5 hr6 ho6
          go_wp2_with fail
          refine (pick_any B r _ 3 _ S6.out.rd (by omega) (by omega) (by omega)).mono ?_
          rintro e w7 ⟨q5, rfl, q50, q51, hr7, ho7⟩
          have S7 := Lib.hid (S6.out.only ho7 hr7)
          obtain ⟨d, rfl⟩ : ∃ d : Nat, q5 = d := ⟨q5.toNat, by omega⟩
          have wd : IntKind.i64.wrap (119 + (d : Int)) = ((119 + d : Nat) : Int) := by rw [IntWalk.i64_in _ ⟨by omega, by omega⟩]; simp
          have hd : 119 + d ≤ 122 := by omega
          clear S6 hr7 ho7 q50 q51
          generalize 119 + d = dd at wd hd
          go_wp2_with fail
          refine (l6Many_any (ByteArray.mk #[122]) dd _ (by decide) (by omega)).mono ?_
          rintro e w8 ⟨b, rfl, hb, rfl⟩
          have hb2 : b.size ≤ 200 := by rw [hb]; show 1 * dd ≤ 200; omega
          have HC := own_rcs S7.out.own
          obtain ⟨p0, p1⟩ := HC.at (Below.refl _ _) hv
          rw [rc_add] at p0 p1
          have f0 := S7.out.own.frozenAt (v * 2 + 1)
          have HC := Lib.hid HC
          clear hb
          go_wp2
          go_ret
          exact ⟨g, j, cap, _, rfl, hnn, S7.out.gN, rcs_setB HC.out hv b, fun i => by rw [World.frozen?_setCell]; exact S7.out.own.frozenAt i, smallR_set S7.out.s (S7.out.s _ (rcAt_mem (by rw [HC.out.length]; exact hv))).1 hb2, (S7.out.rd.far (by have := S7.out.gN; have := S7.out.o1; omega) _ _).mono (by omega), S7.out.b.setCell (p := ⟨g, v * 2 + 1, none⟩) (by have := S7.out.gN; show B ≤ g; omega) _⟩
        · go_wp2
          go_ret
          exact ⟨g, j, cap, rs, rfl, hnn, S5.out.gN, own_rcs S5.out.own, S5.out.own.frozenAt, S5.out.s, S5.out.rd.mono (by omega), S5.out.b⟩

end Go.Proofs.Ytodpbjomiplphab
