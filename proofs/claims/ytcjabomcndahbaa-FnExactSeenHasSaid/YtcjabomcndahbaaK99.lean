/- The draw of what has arrived and of a number. -/
import Derived.Test.YtcjabomcndahbaaK98
import Derived.Test.YtcjabomcndahbaaK12
import Derived.Test.YtcjabomcndahbaaK4a
namespace Go.Proofs.Ytcjabomcndahbaa
open Go.RowKit Go.PlainAid

set_option maxHeartbeats 1000000 in
theorem l91Near_aside (B r m : Nat) (a : Int) (w : World) (h : Rd B r m w) (hm : m ≤ 100000) :
    Calls Try.prog 82 #[.pointer (some ⟨r, 0, none⟩), .int .i64 a] w fun e w' => DrewInt B r (m + 4) Near w e w' ∧ Aside w.heap.size r w w' := by
  by_cases ha : Ser a
  · have HA := Lib.hid ha
    clear ha
    go_enter Try.func82, Try.ntmps82
    go_wp2_with fail
    refine (l3Ok_yes a _ HA.out).mono ?_
    rintro e w0 ⟨rfl, rfl⟩
    go_wp2_with fail
    refine (pick_any B r m 3 _ h (by omega) (by omega) (by omega)).mono ?_
    rintro e w1 ⟨k, rfl, k0, k1, hr1, ho1⟩
    have hb1 := ho1.below h.1
    have ha1 : Aside w.heap.size r w w1 := ho1.aside
    have HZ := Lib.hid ho1.size
    by_cases c0 : 0 < k
    · go_wp2_with fail
      refine (pick_any B r (m + 1) 8 _ (hr1.alloc _) (by omega) (by omega) (by omega)).mono ?_
      rintro e w2 ⟨j, rfl, j0, j1, hr2, ho2⟩
      obtain ⟨z, hz⟩ : ∃ z : Int, w2.cell? ⟨w1.heap.size, j.toNat, none⟩ = some (.int .i64 z) := by
        rcases (show j = 0 ∨ j = 1 ∨ j = 2 ∨ j = 3 ∨ j = 4 ∨ j = 5 ∨ j = 6 ∨ j = 7 by omega) with rfl | rfl | rfl | rfl | rfl | rfl | rfl | rfl
        all_goals exact ⟨_, tab_at ho2 hr1.2.1 _ _ rfl⟩
      go_wp2_with fail
      refine (l3Add_any a z _ HA.out).mono ?_
      rintro e w3 ⟨rfl, rfl⟩
      go_wp2
      go_ret
      exact ⟨⟨_, rfl, (addS_ser a z).near, hr2.mono (by omega), hb1.trans ((hr1.below_alloc _).trans (ho2.below h.1))⟩, ha1.trans ((aside_alloc w1 _ (Nat.le_of_eq HZ.out.symm)).trans ho2.aside)⟩
    · go_wp2_with fail
      refine (l91Word_as B r (m + 1) _ hr1 (by omega)).mono ?_
      rintro e w2 ⟨⟨n, rfl, hn, hr2, hb2⟩, ha2⟩
      go_wp2
      go_ret
      exact ⟨⟨n, rfl, hn, hr2, hb1.trans hb2⟩, ha1.trans (ha2.less (Nat.le_of_eq HZ.out.symm))⟩
  · have HA := Lib.hid ha
    clear ha
    go_enter Try.func82, Try.ntmps82
    go_wp2_with fail
    refine (l3Ok_no a _ HA.out).mono ?_
    rintro e w0 ⟨rfl, rfl⟩
    go_wp2_with fail
    refine (l91Word_as B r m _ h (by omega)).mono ?_
    rintro e w2 ⟨⟨n, rfl, hn, hr2, hb2⟩, ha2⟩
    go_wp2
    go_ret
    exact ⟨⟨n, rfl, hn, hr2.mono (by omega), hb2⟩, ha2⟩


/-- What a draw of a value and a number answers to a row of bytes. -/
def DrewSN (w : World) (e : Ending) (w' : World) : Prop :=
  ∃ (c : Int) (a : Option Addr) (k cap : Nat) (es : List Int) (t : Int), e = .returned (.tuple #[.agg #[.int .i64 c, .slice a k cap], .int .i64 t]) ∧ k ≤ 17 ∧ (-1 ≤ c ∧ c ≤ 65536) ∧ (∀ j ∈ es, 0 ≤ j ∧ j ≤ 18) ∧ Near t ∧ OwnN k (.slice a k cap) es w w'

/-- While a value and a number are drawn: the answer's box, the reader at r, the value's variable at D. -/
structure Sm (r M D k cap : Nat) (c : Int) (a : Option Addr) (es : List Int) (w W : World) : Prop where
  rd : Rd (w.heap.size + 1) r M W
  rs : VarN w.heap.size [.int .i64 0, .slice none 0 0] W
  vs : VarN D [.int .i64 c, .slice a k cap] W
  own : W.ownsRow (r + 1) 3 1 (.slice a k cap) k (flatN es)
  b : Below w.heap.size w W
  o2 : r < D
section
variable {r M D k cap : Nat} {c : Int} {a : Option Addr} {es : List Int} {w W W' : World}
theorem Sm.up (h : Sm r M D k cap c a es w W) (hb : Below W.heap.size W W') : Sm r M D k cap c a es w W' :=
  ⟨h.rd.keep hb h.rd.2.1, h.rs.below hb (lt_of_cell (h.rs 0 _ rfl).1), h.vs.below hb (lt_of_cell (h.vs 0 _ rfl).1), ownUp h.own hb, h.b.trans (hb.mono h.b.size), h.o2⟩
theorem Sm.aside {M' : Nat} (h : Sm r M D k cap c a es w W) (ha : Aside W.heap.size r W W') (hr : Rd (w.heap.size + 1) r M' W') (hb : Below (w.heap.size + 1) W W') : Sm r M' D k cap c a es w W' :=
  ⟨hr, h.rs.aside ha (lt_of_cell (h.rs 0 _ rfl).1) (by have := h.rd.1; omega), h.vs.aside ha (lt_of_cell (h.vs 0 _ rfl).1) (by have := h.o2; omega), ownAway h.own ha (Nat.lt_succ_self r), h.b.trans (hb.mono (by omega)), h.o2⟩
theorem Sm.only {M' : Nat} (h : Sm r M D k cap c a es w W) (ho : Only r W W') (hr : Rd (w.heap.size + 1) r M' W') : Sm r M' D k cap c a es w W' :=
  h.aside ho.aside hr (ho.below h.rd.1)
theorem Sm.fin {t : Int} (h : Sm r M D k cap c a es w W) (hk : k ≤ 17) (hc : -1 ≤ c ∧ c ≤ 65536) (he : ∀ j ∈ es, 0 ≤ j ∧ j ≤ 18) (ht : Near t) (x y : Value) :
    DrewSN w (.returned (.tuple #[.agg #[.int .i64 c, .slice a k cap], .int .i64 t])) ((W.setCell ⟨w.heap.size, 0, none⟩ x).setCell ⟨w.heap.size, 1, none⟩ y) := by
  have h1 := h.rd.1
  have hne : ∀ g, (Value.slice a k cap).ownBlock = some g → g ≠ w.heap.size := fun g hg => by have := own_ge h.own hg; omega
  exact ⟨c, a, k, cap, es, t, rfl, hk, hc, he, ht, ownN_low (ownFar (ownFar h.own hne) hne) (by omega), (h.b.setCell (p := ⟨w.heap.size, 0, none⟩) (Nat.le_refl _) _).setCell (p := ⟨w.heap.size, 1, none⟩) (Nat.le_refl _) _⟩
end

set_option maxHeartbeats 4000000 in
theorem drawSeenAdd_any (a0 : Option Addr) (len cap0 : Nat) (zs : List Int) (w : World) (h : IsRow .u8 w a0 len cap0 zs) :
    Calls Try.prog 56 #[.slice a0 len cap0] w (DrewSN w) := by
  have HB := Lib.hid (below_box (w := w) (.cells #[.int .i64 0, .slice none 0 0] 26) (Nat.le_refl _))
  have RB := Lib.hid (VarN.new w [.int .i64 0, .slice none 0 0] 26)
  go_enter Try.func56, Try.ntmps56
  go_wp2_with fail
  refine (l6Open_any a0 len cap0 zs _ (isRow_up h HB.out)).mono ?_
  rintro e w1 ⟨r, rfl, hr1, hb1⟩
  go_wp2_with fail
  refine (l92Seen_any _ r 0 _ hr1 (by omega)).mono ?_
  rintro e w2 ⟨c, a, k, cap, es, rfl, hk, hc, he, ho, hr2, hb2⟩
  have hrw := hr1.2.1
  have hbb := hb1.trans hb2
  have hsz : w.heap.size + 1 ≤ w1.heap.size := by have := hb1.size; simpa using this
  have S2 := Lib.hid (show Sm r 40 w2.heap.size k cap c a es w (w2.alloc (.cells #[.int .i64 c, .slice a k cap] 26)) from ⟨by have := hr2.alloc (.cells #[.int .i64 c, .slice a k cap] 26); simpa using this, (RB.out.below hbb (by simp)).alloc _ (by have := hbb.size; simp at this; omega), VarN.new _ _ _, ownN_alloc (ownN_low ho hrw), ((HB.out.trans (hbb.mono (by simp))).alloc (by have := hbb.size; simp at this; omega) _), hr2.2.1⟩)
  have HKC := Lib.hid (And.intro hk (And.intro hc he))
  clear hr1 hb1 hk hc he ho hr2 hb2 hbb HB RB h
  by_cases hser : Ser c
  · have HSc := Lib.hid hser
    clear hser
    go_wp2_with fail
    refine (l3Ok_yes c _ HSc.out).mono ?_
    rintro e w3 ⟨rfl, rfl⟩
    go_wp2_with fail
    refine (pick_any _ r _ 6 _ S2.out.rd (by omega) (by omega) (by omega)).mono ?_
    rintro e w4 ⟨p, rfl, p0, p1, hr4, ho4⟩
    have S4 := Lib.hid (S2.out.only ho4 hr4)
    clear S2 hr4 ho4
    by_cases hp : 0 < p
    · have SD := Lib.hid (S4.out.up (Below.drew (Below.refl _ _)))
      have v0 := (S4.out.vs 0 _ rfl).1
      have v1 := (S4.out.vs 1 _ rfl).1
      have r0 := (S4.out.rs 0 _ rfl).1
      have r1 := (S4.out.rs 1 _ rfl).1
      have s0 := (S4.out.rs 0 _ rfl).2
      have s1 := (S4.out.rs 1 _ rfl).2
      go_wp2_with fail
      go_region_law
        (first
          | (go_simp; go_at_call 80; refine (pick_any _ r _ 20 _ S4.out.rd (by omega) (by omega) (by omega)).mono ?_; rintro e w6 ⟨q, rfl, q0, q1, hr6, ho6⟩; have hS6 := Lib.hid (Sm.only S4.out ho6 hr6); have wq : IntKind.i64.wrap (q - 2) = q - 2 := IntWalk.i64_in _ ⟨by omega, by omega⟩; have v0 := (hS6.out.vs 0 _ rfl).1; have v1 := (hS6.out.vs 1 _ rfl).1; have r0 := (hS6.out.rs 0 _ rfl).1; have r1 := (hS6.out.rs 1 _ rfl).1; have s0 := (hS6.out.rs 0 _ rfl).2; have s1 := (hS6.out.rs 1 _ rfl).2; clear ho6 hr6)
          | (go_simp; go_at_call 80; refine (pick_any _ r _ 20 _ SD.out.rd (by omega) (by omega) (by omega)).mono ?_; rintro e w6 ⟨q, rfl, q0, q1, hr6, ho6⟩; have hS6 := Lib.hid (Sm.only SD.out ho6 hr6); have wq : IntKind.i64.wrap (q - 2) = q - 2 := IntWalk.i64_in _ ⟨by omega, by omega⟩; have v0 := (hS6.out.vs 0 _ rfl).1; have v1 := (hS6.out.vs 1 _ rfl).1; have r0 := (hS6.out.rs 0 _ rfl).1; have r1 := (hS6.out.rs 1 _ rfl).1; have s0 := (hS6.out.rs 0 _ rfl).2; have s1 := (hS6.out.rs 1 _ rfl).2; clear ho6 hr6)
          | (go_simp; go_at_call 52; refine (l3Add_any c (q - 2) _ HSc.out).mono ?_; rintro e w7 ⟨rfl, rfl⟩))
      all_goals
        have K := Lib.hid (Sm.fin hS6.out HKC.out.1 HKC.out.2.1 HKC.out.2.2 (addS_ser c (q - 2)).near (.int .i64 c) (.slice a k cap))
        clear hS6
        go_wp2
        refine bodyPost_ret (v := .tuple #[.agg #[.int .i64 c, .slice a k cap], .int .i64 (addS c (q - 2))]) ?_ rfl K.out
        simp [results, Try.results56, go_sem, r0, r1]
    · have p00 : p = 0 := by omega
      subst p00
      clear hp
      have SD := Lib.hid (S4.out.up (Below.drew (Below.refl _ _)))
      have v0 := (S4.out.vs 0 _ rfl).1
      have v1 := (S4.out.vs 1 _ rfl).1
      have r0 := (S4.out.rs 0 _ rfl).1
      have r1 := (S4.out.rs 1 _ rfl).1
      have s0 := (S4.out.rs 0 _ rfl).2
      have s1 := (S4.out.rs 1 _ rfl).2
      go_wp2_with fail
      go_region_law
        (first
          | (go_simp; go_at_call 82; refine (l91Near_aside _ r _ c _ S4.out.rd (by omega)).mono ?_; rintro e w6 ⟨⟨q, rfl, hq, hr6, hb6⟩, ha6⟩; have hS6 := Lib.hid (Sm.aside S4.out ha6 hr6 hb6); have v0 := (hS6.out.vs 0 _ rfl).1; have v1 := (hS6.out.vs 1 _ rfl).1; have r0 := (hS6.out.rs 0 _ rfl).1; have r1 := (hS6.out.rs 1 _ rfl).1; have s0 := (hS6.out.rs 0 _ rfl).2; have s1 := (hS6.out.rs 1 _ rfl).2; clear hr6 hb6 ha6)
          | (go_simp; go_at_call 82; refine (l91Near_aside _ r _ c _ SD.out.rd (by omega)).mono ?_; rintro e w6 ⟨⟨q, rfl, hq, hr6, hb6⟩, ha6⟩; have hS6 := Lib.hid (Sm.aside SD.out ha6 hr6 hb6); have v0 := (hS6.out.vs 0 _ rfl).1; have v1 := (hS6.out.vs 1 _ rfl).1; have r0 := (hS6.out.rs 0 _ rfl).1; have r1 := (hS6.out.rs 1 _ rfl).1; have s0 := (hS6.out.rs 0 _ rfl).2; have s1 := (hS6.out.rs 1 _ rfl).2; clear hr6 hb6 ha6))
      all_goals
        have K := Lib.hid (Sm.fin hS6.out HKC.out.1 HKC.out.2.1 HKC.out.2.2 hq (.int .i64 c) (.slice a k cap))
        clear hS6 hq
        go_wp2
        refine bodyPost_ret (v := .tuple #[.agg #[.int .i64 c, .slice a k cap], .int .i64 q]) ?_ rfl K.out
        simp [results, Try.results56, go_sem, r0, r1]
  · have HSc := Lib.hid hser
    clear hser
    go_wp2_with fail
    refine (l3Ok_no c _ HSc.out).mono ?_
    rintro e w3 ⟨rfl, rfl⟩
    have SD := Lib.hid (S2.out.up (Below.drew (Below.refl _ _)))
    have v0 := (S2.out.vs 0 _ rfl).1
    have v1 := (S2.out.vs 1 _ rfl).1
    have r0 := (S2.out.rs 0 _ rfl).1
    have r1 := (S2.out.rs 1 _ rfl).1
    have s0 := (S2.out.rs 0 _ rfl).2
    have s1 := (S2.out.rs 1 _ rfl).2
    go_wp2_with fail
    go_region_law
      (first
        | (go_simp; go_at_call 82; refine (l91Near_aside _ r _ c _ S2.out.rd (by omega)).mono ?_; rintro e w6 ⟨⟨q, rfl, hq, hr6, hb6⟩, ha6⟩; have hS6 := Lib.hid (Sm.aside S2.out ha6 hr6 hb6); have v0 := (hS6.out.vs 0 _ rfl).1; have v1 := (hS6.out.vs 1 _ rfl).1; have r0 := (hS6.out.rs 0 _ rfl).1; have r1 := (hS6.out.rs 1 _ rfl).1; have s0 := (hS6.out.rs 0 _ rfl).2; have s1 := (hS6.out.rs 1 _ rfl).2; clear hr6 hb6 ha6)
        | (go_simp; go_at_call 82; refine (l91Near_aside _ r _ c _ SD.out.rd (by omega)).mono ?_; rintro e w6 ⟨⟨q, rfl, hq, hr6, hb6⟩, ha6⟩; have hS6 := Lib.hid (Sm.aside SD.out ha6 hr6 hb6); have v0 := (hS6.out.vs 0 _ rfl).1; have v1 := (hS6.out.vs 1 _ rfl).1; have r0 := (hS6.out.rs 0 _ rfl).1; have r1 := (hS6.out.rs 1 _ rfl).1; have s0 := (hS6.out.rs 0 _ rfl).2; have s1 := (hS6.out.rs 1 _ rfl).2; clear hr6 hb6 ha6))
    all_goals
      have K := Lib.hid (Sm.fin hS6.out HKC.out.1 HKC.out.2.1 HKC.out.2.2 hq (.int .i64 c) (.slice a k cap))
      clear hS6 hq
      go_wp2
      refine bodyPost_ret (v := .tuple #[.agg #[.int .i64 c, .slice a k cap], .int .i64 q]) ?_ rfl K.out
      simp [results, Try.results56, go_sem, r0, r1]

end Go.Proofs.Ytcjabomcndahbaa
