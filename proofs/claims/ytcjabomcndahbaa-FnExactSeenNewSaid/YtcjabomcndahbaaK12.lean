/- The contracts of the drawing functions of chapter 3: two serial numbers, seldom an invalid one, or a number and steps. -/
import Derived.Test.YtcjabomcndahbaaK10
import Derived.Deep.RegionWith
namespace Go.Proofs.Ytcjabomcndahbaa
open Go.RowKit

/-- Two numbers were drawn. -/
def DrewII (P : Int → Int → Prop) (w : World) (e : Ending) (w' : World) : Prop := ∃ a n : Int, e = .returned (.tuple #[.int .i64 a, .int .i64 n]) ∧ P a n ∧ Below w.heap.size w w'
/-- Three numbers were drawn. -/
def DrewIII (P : Int → Int → Int → Prop) (w : World) (e : Ending) (w' : World) : Prop := ∃ a b n : Int, e = .returned (.tuple #[.int .i64 a, .int .i64 b, .int .i64 n]) ∧ P a b n ∧ Below w.heap.size w w'
/-- About a serial number. -/
def Near (a : Int) : Prop := -1 ≤ a ∧ a ≤ 65536
theorem Ser.near {a : Int} (h : Ser a) : Near a := by unfold Ser at h; unfold Near; omega
theorem Rd.drew {B r m : Nat} {w : World} (h : Rd B r m w) : Rd B r m w.drew := h.keep (Below.refl _ _).drew h.2.1
theorem only_cell {r b i : Nat} {w w' : World} {v : Value} (ho : Only r w w') (hr : r < b) (h : w.cell? ⟨b, i, none⟩ = some v) : w'.cell? ⟨b, i, none⟩ = some v := by
  obtain ⟨u, q, rfl⟩ := ho
  rw [World.cell?_drewN]
  exact cell_far (by omega) h

set_option maxHeartbeats 1000000 in
theorem l91Near_any (B r m : Nat) (a : Int) (w : World) (h : Rd B r m w) (hm : m ≤ 100000) :
    Calls Try.prog 82 #[.pointer (some ⟨r, 0, none⟩), .int .i64 a] w (DrewInt B r (m + 4) Near w) := by
  by_cases ha : Ser a
  · have HA := Lib.hid ha
    clear ha
    go_enter Try.func82, Try.ntmps82
    go_wp2_with fail
    refine (l3Ok_yes a _ HA.out).mono ?_
    rintro e w0 ⟨rfl, rfl⟩
    go_wp2_with fail
    refine (pick_any B r m 3 _ h (by omega) (by omega) (by omega)).mono ?_
    rintro e w1 ⟨k, rfl, k0, k1, hr1, ho1⟩
    have hb1 := ho1.below h.1
    by_cases c0 : 0 < k
    · go_wp2_with fail
      refine (pick_any B r (m + 1) 8 _ (hr1.alloc _) (by omega) (by omega) (by omega)).mono ?_
      rintro e w2 ⟨j, rfl, j0, j1, hr2, ho2⟩
      obtain ⟨z, hz⟩ : ∃ z : Int, w2.cell? ⟨w1.heap.size, j.toNat, none⟩ = some (.int .i64 z) := by
        rcases (show j = 0 ∨ j = 1 ∨ j = 2 ∨ j = 3 ∨ j = 4 ∨ j = 5 ∨ j = 6 ∨ j = 7 by omega) with rfl | rfl | rfl | rfl | rfl | rfl | rfl | rfl
        all_goals exact ⟨_, tab_at ho2 hr1.2.1 _ _ rfl⟩
      go_wp2_with fail
      refine (l3Add_any a z _ HA.out).mono ?_
      rintro e w3 ⟨rfl, rfl⟩
      go_wp2
      go_ret
      exact ⟨_, rfl, (addS_ser a z).near, hr2.mono (by omega), hb1.trans ((hr1.below_alloc _).trans (ho2.below h.1))⟩
    · go_wp2_with fail
      refine (l91Word_any B r (m + 1) _ hr1 (by omega)).mono ?_
      rintro e w2 ⟨n, rfl, hn, hr2, hb2⟩
      go_wp2
      go_ret
      exact ⟨n, rfl, hn, hr2, hb1.trans hb2⟩
  · have HA := Lib.hid ha
    clear ha
    go_enter Try.func82, Try.ntmps82
    go_wp2_with fail
    refine (l3Ok_no a _ HA.out).mono ?_
    rintro e w0 ⟨rfl, rfl⟩
    go_wp2_with fail
    refine (l91Word_any B r m _ h (by omega)).mono ?_
    rintro e w2 ⟨n, rfl, hn, hr2, hb2⟩
    go_wp2
    go_ret
    exact ⟨n, rfl, hn, hr2.mono (by omega), hb2⟩

/-- A step of the table. -/
def step6 (j : Int) : Int := ([65536, -65536, 100000, -100000, 32768, -1] : List Int).getD j.toNat 0
theorem step6_range (j : Int) : -100000 ≤ step6 j ∧ step6 j ≤ 100000 := by
  unfold step6
  match j.toNat with
  | 0 => decide
  | 1 => decide
  | 2 => decide
  | 3 => decide
  | 4 => decide
  | 5 => decide
  | _ + 6 => exact ⟨by simp, by simp⟩
theorem tab6_at (v : World) (j : Int) (T : Nat) (h0 : 0 ≤ j) (h1 : j < 6) : (v.alloc (.cells #[.int .i64 65536, .int .i64 (-65536), .int .i64 100000, .int .i64 (-100000), .int .i64 32768, .int .i64 (-1)] T)).cell? ⟨v.heap.size, j.toNat, none⟩ = some (.int .i64 (step6 j)) := by
  rw [World.cell?_alloc_at _ _ _ _ rfl]
  rcases (show j = 0 ∨ j = 1 ∨ j = 2 ∨ j = 3 ∨ j = 4 ∨ j = 5 by omega) with rfl | rfl | rfl | rfl | rfl | rfl
  all_goals rfl

/-- A number of the table. -/
def many4 (j : Int) : Int := ([-1, 0, 32768, 32769] : List Int).getD j.toNat 0
theorem many4_range (j : Int) : -1 ≤ many4 j ∧ many4 j ≤ 32769 := by
  unfold many4
  match j.toNat with
  | 0 => decide
  | 1 => decide
  | 2 => decide
  | 3 => decide
  | _ + 4 => exact ⟨by simp, by simp⟩
theorem tab4_at (v : World) (j : Int) (T : Nat) (h0 : 0 ≤ j) (h1 : j < 4) : (v.alloc (.cells #[.int .i64 (-1), .int .i64 0, .int .i64 32768, .int .i64 32769] T)).cell? ⟨v.heap.size, j.toNat, none⟩ = some (.int .i64 (many4 j)) := by
  rw [World.cell?_alloc_at _ _ _ _ rfl]
  rcases (show j = 0 ∨ j = 1 ∨ j = 2 ∨ j = 3 by omega) with rfl | rfl | rfl | rfl
  all_goals rfl

end Go.Proofs.Ytcjabomcndahbaa
