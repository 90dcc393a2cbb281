/- The contracts of the drawing functions of chapter 2: a checksum, seldom an invalid one, and bytes. -/
import Derived.Test.YtmmgngdebjndbabK4
import Derived.Test.YtmmgngdebjndbabK8
namespace Go.Proofs.Ytmmgngdebjndbab
open Go.RowKit

/-- A text was drawn out of the given bytes. -/
def DrewS (n : Nat) (w : World) (e : Ending) (w' : World) : Prop := ∃ s : ByteArray, e = .returned (.string s) ∧ s.size ≤ n ∧ Below w.heap.size w w'
/-- A number and a text were drawn. -/
def DrewIS (P : Int → ByteArray → Prop) (w : World) (e : Ending) (w' : World) : Prop := ∃ n s, e = .returned (.tuple #[.int .i64 n, .string s]) ∧ P n s ∧ Below w.heap.size w w'

theorem sum_range {n : Int} (h : Sum n) : -1 ≤ n ∧ n ≤ 4294967296 := by
  unfold Sum at h
  omega

set_option maxHeartbeats 1000000 in
theorem l91Sum_any (B r m : Nat) (w : World) (h : Rd B r m w) (hm : m ≤ 100000) :
    Calls Try.prog 15 #[.pointer (some ⟨r, 0, none⟩)] w (DrewInt B r (m + 50) (fun n => -1 ≤ n ∧ n ≤ 4294967296) w) := by
  go_enter Try.func15, Try.ntmps15
  go_wp2_with fail
  refine (pick_any B r m 10 _ h (by omega) (by omega) (by omega)).mono ?_
  rintro e w1 ⟨k, rfl, k0, k1, hr1, ho1⟩
  have hb1 := ho1.below h.1
  by_cases c0 : k = 0
  · subst c0
    go_wp2_with fail
    refine (pick_any B r (m + 1) 7 _ (hr1.alloc _) (by omega) (by omega) (by omega)).mono ?_
    rintro e w2 ⟨j, rfl, j0, j1, hr2, ho2⟩
    obtain ⟨z, z0, z1, hz⟩ : ∃ z : Int, -1 ≤ z ∧ z ≤ 4294967296 ∧ w2.cell? ⟨w1.heap.size, j.toNat, none⟩ = some (.int .i64 z) := by
      rcases (show j = 0 ∨ j = 1 ∨ j = 2 ∨ j = 3 ∨ j = 4 ∨ j = 5 ∨ j = 6 by omega) with rfl | rfl | rfl | rfl | rfl | rfl | rfl
      all_goals
        refine ⟨_, ?_, ?_, tab_at ho2 hr1.2.1 _ _ rfl⟩
        all_goals decide
    go_wp2
    go_ret
    exact ⟨z, rfl, ⟨z0, z1⟩, hr2.mono (by omega), hb1.trans ((hr1.below_alloc _).trans (ho2.below h.1))⟩
  · by_cases c1 : k = 1
    · subst c1
      go_wp2_with fail
      refine (l91Long_any B r (m + 1) _ hr1 (by omega)).mono ?_
      rintro e w2 ⟨x, rfl, hx, hr2, hb2⟩
      go_wp2
      go_ret
      exact ⟨x, rfl, hx, hr2.mono (by omega), hb1.trans hb2⟩
    · go_wp2_with fail
      refine (l91Bytes_any B r (m + 1) 20 _ hr1 (by omega) (by omega)).mono ?_
      rintro e w2 ⟨s, rfl, hs, hr2, hb2⟩
      go_wp2_with fail
      refine (sSumText_any s _ (Nat.le_trans hs (by decide))).mono ?_
      rintro e w3 ⟨rfl, hb3⟩
      have hr3 := hr2.keep hb3 hr2.2.1
      go_wp2
      go_ret
      exact ⟨_, rfl, sum_range (Sum.one.next s), hr3.mono (by omega), hb1.trans (hb2.trans (hb3.mono (Nat.le_of_lt (Nat.lt_of_le_of_lt h.1 hr2.2.1))))⟩

set_option maxHeartbeats 1000000 in
theorem drawSumValid_any (a : Option Addr) (len cap : Nat) (zs : List Int) (w : World) (h : IsRow .u8 w a len cap zs) :
    Calls Try.prog 9 #[.slice a len cap] w (DrewN (fun n => -1 ≤ n ∧ n ≤ 4294967296) w) := by
  have H := Lib.hid h
  clear h
  go_enter Try.func9, Try.ntmps9
  go_wp2_with fail
  refine (l6Open_any a len cap zs _ H.out).mono ?_
  rintro e w1 ⟨r, rfl, hr1, hb1⟩
  go_wp2_with fail
  refine (l91Sum_any _ r 0 _ hr1 (by omega)).mono ?_
  rintro e w2 ⟨n, rfl, hn, hr2, hb2⟩
  go_wp2
  go_ret
  exact ⟨n, rfl, hn, hb1.trans hb2⟩

set_option maxHeartbeats 1000000 in
theorem drawSumNext_any (a : Option Addr) (len cap : Nat) (zs : List Int) (w : World) (h : IsRow .u8 w a len cap zs) :
    Calls Try.prog 12 #[.slice a len cap] w (DrewIS (fun n s => (-1 ≤ n ∧ n ≤ 4294967296) ∧ s.size ≤ 20) w) := by
  have H := Lib.hid h
  clear h
  go_enter Try.func12, Try.ntmps12
  go_wp2_with fail
  refine (l6Open_any a len cap zs _ H.out).mono ?_
  rintro e w1 ⟨r, rfl, hr1, hb1⟩
  go_wp2_with fail
  refine (l91Sum_any _ r 0 _ hr1 (by omega)).mono ?_
  rintro e w2 ⟨n, rfl, hn, hr2, hb2⟩
  go_wp2_with fail
  refine (l91Bytes_any _ r _ 20 _ hr2 (by omega) (by omega)).mono ?_
  rintro e w3 ⟨s, rfl, hs, hr3, hb3⟩
  go_wp2
  go_ret2
  exact ⟨n, s, rfl, ⟨hn, hs⟩, hb1.trans (hb2.trans hb3)⟩

end Go.Proofs.Ytmmgngdebjndbab
