/- The contracts of the drawing functions of chapter 3: two serial numbers, seldom an invalid one, or a number and steps. -/
import Derived.Test.YtbbfppjokmipeabK10
import Derived.Deep.RegionWith
namespace Go.Proofs.Ytbbfppjokmipeab
open Go.RowKit

/-- Two numbers were drawn. -/
def DrewII (P : Int → Int → Prop) (w : World) (e : Ending) (w' : World) : Prop := ∃ a n : Int, e = .returned (.tuple #[.int .i64 a, .int .i64 n]) ∧ P a n ∧ Below w.heap.size w w'
/-- Three numbers were drawn. -/
def DrewIII (P : Int → Int → Int → Prop) (w : World) (e : Ending) (w' : World) : Prop := ∃ a b n : Int, e = .returned (.tuple #[.int .i64 a, .int .i64 b, .int .i64 n]) ∧ P a b n ∧ Below w.heap.size w w'
/-- About a serial number. -/
def Near (a : Int) : Prop := -1 ≤ a ∧ a ≤ 65536
theorem Ser.near {a : Int} (h : Ser a) : Near a := by unfold Ser at h; unfold Near; omega
theorem Rd.drew {B r m : Nat} {w : World} (h : Rd B r m w) : Rd B r m w.drew := h.keep (Below.refl _ _).drew h.2.1
theorem only_cell {r b i : Nat} {w w' : World} {v : Value} (ho : Only r w w') (hr : r < b) (h : w.cell? ⟨b, i, none⟩ = some v) : w'.cell? ⟨b, i, none⟩ = some v := by
  obtain ⟨u, q, rfl⟩ := ho
  rw [World.cell?_drewN]
  exact cell_far (by omega) h

set_option maxHeartbeats 1000000 in
theorem l91Near_any (B r m : Nat) (a : Int) (w : World) (h : Rd B r m w) (hm : m ≤ 100000) :
    Calls Try.prog 35 #[.pointer (some ⟨r, 0, none⟩), .int .i64 a] w (DrewInt B r (m + 4) Near w) := by
  by_cases ha : Ser a
  · have HA := Lib.hid ha
    clear ha
    go_enter Try.func35, Try.ntmps35
    go_wp2_with fail
    refine (l3Ok_yes a _ HA.out).mono ?_
    rintro e w0 ⟨rfl, rfl⟩
    go_wp2_with fail
    refine (pick_any B r m 3 _ h (by omega) (by omega) (by omega)).mono ?_
    rintro e w1 ⟨k, rfl, k0, k1, hr1, ho1⟩
    have hb1 := ho1.below h.1
    by_cases c0 : 0 < k
    · go_wp2_with fail
      refine (pick_any B r (m + 1) 8 _ (hr1.alloc _) (by omega) (by omega) (by omega)).mono ?_
      rintro e w2 ⟨j, rfl, j0, j1, hr2, ho2⟩
      obtain ⟨z, hz⟩ : ∃ z : Int, w2.cell? ⟨w1.heap.size, j.toNat, none⟩ = some (.int .i64 z) := by
        rcases (show j = 0 ∨ j = 1 ∨ j = 2 ∨ j = 3 ∨ j = 4 ∨ j = 5 ∨ j = 6 ∨ j = 7 by omega) with rfl | rfl | rfl | rfl | rfl | rfl | rfl | rfl
        all_goals exact ⟨_, tab_at ho2 hr1.2.1 _ _ rfl⟩
      go_wp2_with fail
      refine (l3Add_any a z _ HA.out).mono ?_
      rintro e w3 ⟨rfl, rfl⟩
      go_wp2
      go_ret
      exact ⟨_, rfl, (addS_ser a z).near, hr2.mono (by omega), hb1.trans ((hr1.below_alloc _).trans (ho2.below h.1))⟩
    · go_wp2_with fail
      refine (l91Word_any B r (m + 1) _ hr1 (by omega)).mono ?_
      rintro e w2 ⟨n, rfl, hn, hr2, hb2⟩
      go_wp2
      go_ret
      exact ⟨n, rfl, hn, hr2, hb1.trans hb2⟩
  · have HA := Lib.hid ha
    clear ha
    go_enter Try.func35, Try.ntmps35
    go_wp2_with fail
    refine (l3Ok_no a _ HA.out).mono ?_
    rintro e w0 ⟨rfl, rfl⟩
    go_wp2_with fail
    refine (l91Word_any B r m _ h (by omega)).mono ?_
    rintro e w2 ⟨n, rfl, hn, hr2, hb2⟩
    go_wp2
    go_ret
    exact ⟨n, rfl, hn, hr2.mono (by omega), hb2⟩

set_option maxHeartbeats 1000000 in
theorem drawSerialDiff_any (a : Option Addr) (len cap : Nat) (zs : List Int) (w : World) (h : IsRow .u8 w a len cap zs) :
    Calls Try.prog 28 #[.slice a len cap] w (DrewII (fun a b => Near a ∧ Near b) w) := by
  have H := Lib.hid h
  clear h
  go_enter Try.func28, Try.ntmps28
  go_wp2_with fail
  refine (l6Open_any a len cap zs _ H.out).mono ?_
  rintro e w1 ⟨r, rfl, hr1, hb1⟩
  go_wp2_with fail
  refine (l91Word_any _ r 0 _ hr1 (by omega)).mono ?_
  rintro e w2 ⟨x, rfl, hx, hr2, hb2⟩
  go_wp2_with fail
  refine (l91Near_any _ r _ x _ hr2 (by omega)).mono ?_
  rintro e w3 ⟨y, rfl, hy, hr3, hb3⟩
  go_wp2
  go_ret2
  exact ⟨x, y, rfl, ⟨hx, hy⟩, hb1.trans (hb2.trans hb3)⟩

set_option maxHeartbeats 1000000 in
theorem drawSerialLess_any (a : Option Addr) (len cap : Nat) (zs : List Int) (w : World) (h : IsRow .u8 w a len cap zs) :
    Calls Try.prog 15 #[.slice a len cap] w (DrewII (fun a b => Near a ∧ Near b) w) := by
  have H := Lib.hid h
  clear h
  go_enter Try.func15, Try.ntmps15
  go_wp2_with fail
  refine (drawSerialDiff_any a len cap zs _ H.out).mono ?_
  rintro e w1 ⟨x, y, rfl, hp, hb1⟩
  go_wp2
  go_ret2
  exact ⟨x, y, rfl, hp, hb1⟩

set_option maxHeartbeats 1000000 in
theorem drawSerialLast_any (a : Option Addr) (len cap : Nat) (zs : List Int) (w : World) (h : IsRow .u8 w a len cap zs) :
    Calls Try.prog 20 #[.slice a len cap] w (DrewII (fun a b => Near a ∧ Near b) w) := by
  have H := Lib.hid h
  clear h
  go_enter Try.func20, Try.ntmps20
  go_wp2_with fail
  refine (drawSerialDiff_any a len cap zs _ H.out).mono ?_
  rintro e w1 ⟨x, y, rfl, hp, hb1⟩
  go_wp2
  go_ret2
  exact ⟨x, y, rfl, hp, hb1⟩

/-- A step of the table. -/
def step6 (j : Int) : Int := ([65536, -65536, 100000, -100000, 32768, -1] : List Int).getD j.toNat 0
theorem step6_range (j : Int) : -100000 ≤ step6 j ∧ step6 j ≤ 100000 := by
  unfold step6
  match j.toNat with
  | 0 => decide
  | 1 => decide
  | 2 => decide
  | 3 => decide
  | 4 => decide
  | 5 => decide
  | _ + 6 => exact ⟨by simp, by simp⟩
theorem tab6_at (v : World) (j : Int) (T : Nat) (h0 : 0 ≤ j) (h1 : j < 6) : (v.alloc (.cells #[.int .i64 65536, .int .i64 (-65536), .int .i64 100000, .int .i64 (-100000), .int .i64 32768, .int .i64 (-1)] T)).cell? ⟨v.heap.size, j.toNat, none⟩ = some (.int .i64 (step6 j)) := by
  rw [World.cell?_alloc_at _ _ _ _ rfl]
  rcases (show j = 0 ∨ j = 1 ∨ j = 2 ∨ j = 3 ∨ j = 4 ∨ j = 5 by omega) with rfl | rfl | rfl | rfl | rfl | rfl
  all_goals rfl

/-- A number of the table. -/
def many4 (j : Int) : Int := ([-1, 0, 32768, 32769] : List Int).getD j.toNat 0
theorem many4_range (j : Int) : -1 ≤ many4 j ∧ many4 j ≤ 32769 := by
  unfold many4
  match j.toNat with
  | 0 => decide
  | 1 => decide
  | 2 => decide
  | 3 => decide
  | _ + 4 => exact ⟨by simp, by simp⟩
theorem tab4_at (v : World) (j : Int) (T : Nat) (h0 : 0 ≤ j) (h1 : j < 4) : (v.alloc (.cells #[.int .i64 (-1), .int .i64 0, .int .i64 32768, .int .i64 32769] T)).cell? ⟨v.heap.size, j.toNat, none⟩ = some (.int .i64 (many4 j)) := by
  rw [World.cell?_alloc_at _ _ _ _ rfl]
  rcases (show j = 0 ∨ j = 1 ∨ j = 2 ∨ j = 3 by omega) with rfl | rfl | rfl | rfl
  all_goals rfl

set_option maxHeartbeats 1000000 in
theorem drawSerialIn_any (a : Option Addr) (len cap : Nat) (zs : List Int) (w : World) (h : IsRow .u8 w a len cap zs) :
    Calls Try.prog 23 #[.slice a len cap] w (DrewIII (fun a b n => Near a ∧ Near b ∧ -1 ≤ n ∧ n ≤ 32769) w) := by
  have H := Lib.hid h
  clear h
  have htab := tab4_at
  go_enter Try.func23, Try.ntmps23
  go_wp2_with fail
  refine (l6Open_any a len cap zs _ H.out).mono ?_
  rintro e w1 ⟨r, rfl, hr1, hb1⟩
  go_wp2_with fail
  refine (l91Word_any _ r 0 _ hr1 (by omega)).mono ?_
  rintro e w2 ⟨x, rfl, hx, hr2, hb2⟩
  go_wp2_with fail
  refine (l91Near_any _ r _ x _ hr2 (by omega)).mono ?_
  rintro e w3 ⟨y, rfl, hy, hr3, hb3⟩
  go_wp2_with fail
  refine (pick_any _ r _ 6 _ hr3 (by omega) (by omega) (by omega)).mono ?_
  rintro e w4 ⟨k, rfl, k0, k1, hr4, ho4⟩
  have hb4 := hb1.trans (hb2.trans (hb3.trans (ho4.below hr3.1)))
  clear hb1 hb2 hb3 ho4 hr1 hr2 hr3
  by_cases c0 : k = 0
  · subst c0
    go_wp2_with fail
    go_region_with (first | (go_at_call 36; refine (pick_any _ r _ 4 _ (hr4.alloc _).drew (by omega) (by omega) (by omega)).mono ?_; rintro e w5 ⟨j, rfl, j0, j1, hr5, ho5⟩; have hz := only_cell ho5 hr4.2.1 ((World.cell?_drew _ _).trans (tab4_at w4 j _ j0 j1)); have hb5 := hb4.trans ((hr4.below_alloc _).trans ((Below.refl _ _).drew.trans (ho5.below hr4.1))); clear ho5) | (go_at_call 36; refine (pick_any _ r _ 4 _ hr4.drew (by omega) (by omega) (by omega)).mono ?_; rintro e w5 ⟨j, rfl, j0, j1, hr5, ho5⟩; have hb5 := hb4.trans ((Below.refl _ _).drew.trans (ho5.below hr4.1)); clear ho5))
    all_goals (go_wp2; go_ret3; exact ⟨x, y, _, rfl, ⟨hx, hy, many4_range _⟩, by first | assumption | exact Below.trans (by assumption) (Rd.below_alloc (by assumption) _)⟩)
  · go_wp2_with fail
    refine (pick_any _ r _ 10 _ hr4 (by omega) (by omega) (by omega)).mono ?_
    rintro e w5 ⟨m, rfl, m0, m1, hr5, ho5⟩
    have hb5 := hb4.trans (ho5.below hr4.1)
    clear hb4 ho5 hr4
    go_wp2
    go_loopw [7, 8, 9] (fun vb vm vi wr => ∃ (q : Nat) (z n : Int), q ≤ 3 ∧ vi = .int .i64 q ∧ vb = .int .i64 z ∧ vm = .int .i64 n ∧ Near z ∧ (0 ≤ n ∧ n < 10) ∧ Rd w.heap.size r (20 + 5 * q) wr ∧ Below w.heap.size w wr) (fun _ _ i _ => 3 - (intOf i).toNat)
    case atStart => exact ⟨0, y, m, by omega, rfl, rfl, rfl, hy, ⟨m0, m1⟩, hr5.mono (by omega), hb5⟩
    case round =>
      obtain ⟨q, z, n, hq, rfl, rfl, rfl, hz, ⟨n0, n1⟩, hr, hb⟩ := hrel
      clear hr5 hb5
      by_cases hlt : q < 3
      · go_wp2_with fail
        refine (sSerialIn_any x z n _).mono ?_
        rintro e w6 ⟨rfl, rfl⟩
        cases hin : inV x z n
        · go_wp2_with fail
          refine (l91Near_any _ r _ x _ hr (by omega)).mono ?_
          rintro e w7 ⟨z', rfl, hz', hr7, hb7⟩
          go_wp2_with fail
          refine (pick_any _ r _ 10 _ hr7 (by omega) (by omega) (by omega)).mono ?_
          rintro e w8 ⟨n', rfl, n0', n1', hr8, ho8⟩
          have hb8 := hb.trans (hb7.trans (ho8.below hr7.1))
          go_wp2
          go_roundw
          case rel => exact ⟨q + 1, z', n', by omega, by go_num, rfl, rfl, hz', ⟨n0', n1'⟩, hr8.mono (by omega), hb8⟩
          case measure => simp [intOf]; omega
        · go_wp2
          go_ret3
          exact ⟨x, z, n, rfl, ⟨hx, hz, by omega, by omega⟩, hb⟩
      · obtain rfl : q = 3 := by omega
        go_wp2
        go_ret3
        exact ⟨x, z, n, rfl, ⟨hx, hz, by omega, by omega⟩, hb⟩

end Go.Proofs.Ytbbfppjokmipeab
