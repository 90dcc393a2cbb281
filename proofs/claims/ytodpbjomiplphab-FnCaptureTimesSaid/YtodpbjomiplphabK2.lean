/- The contracts of the reading functions of chapter 1: the cursor, WordGet and LongGet, for every text and place. -/
import Derived.Test.YtodpbjomiplphabK1
import Derived.PlainAid
namespace Go.Proofs.Ytodpbjomiplphab
open Go.RowKit Go.PlainAid

set_option maxHeartbeats 400000 in
theorem has_yes (c : Nat) (s : ByteArray) (p n : Int) (w : World) (hs : s.size ≤ maxLen) (hn0 : 0 ≤ n) (hn : n ≤ 100)
    (hc0 : w.cell? ⟨c, 0, none⟩ = some (.string s)) (hc1 : w.cell? ⟨c, 1, none⟩ = some (.int .i64 p)) (h0 : 0 ≤ p) (h1 : p ≤ s.size - n) :
    Calls Try.prog 44 #[.pointer (some ⟨c, 0, none⟩), .int .i64 n] w fun e w' => e = .returned (.bool true) ∧ ∃ k, w' = w.drewN k := by
  unfold maxLen at hs
  go_enter Try.func44, Try.ntmps44
  go_wp2
  go_quiet (fail)
  go_wp2
  go_ret
  exact ⟨rfl, _, rfl⟩


set_option maxHeartbeats 400000 in
theorem has_no (c : Nat) (s : ByteArray) (p n : Int) (w : World) (hs : s.size ≤ maxLen) (hn0 : 0 ≤ n) (hn : n ≤ 100)
    (hc0 : w.cell? ⟨c, 0, none⟩ = some (.string s)) (hc1 : w.cell? ⟨c, 1, none⟩ = some (.int .i64 p)) (h : p < 0 ∨ s.size - n < p) :
    Calls Try.prog 44 #[.pointer (some ⟨c, 0, none⟩), .int .i64 n] w fun e w' => e = .returned (.bool false) ∧ ∃ k, w' = w.drewN k := by
  unfold maxLen at hs
  by_cases h0 : 0 ≤ p
  · have h1 : ¬ p ≤ s.size - n := by omega
    have hd : decide (p ≤ s.size - n) = false := by simpa using h1
    go_enter Try.func44, Try.ntmps44
    go_wp2
    go_quiet (fail)
    go_wp2
    go_ret
    exact ⟨rfl, _, rfl⟩
  · have hd : decide (0 ≤ p) = false := by simpa using h0
    go_enter Try.func44, Try.ntmps44
    go_wp2
    go_quiet (fail)
    go_wp2
    go_ret
    exact ⟨rfl, _, rfl⟩

set_option maxHeartbeats 400000 in
theorem number_no (c : Nat) (s : ByteArray) (p n : Int) (w : World) (hs : s.size ≤ maxLen) (hn0 : 0 ≤ n) (hn : n ≤ 100)
    (hc0 : w.cell? ⟨c, 0, none⟩ = some (.string s)) (hc1 : w.cell? ⟨c, 1, none⟩ = some (.int .i64 p)) (h : p < 0 ∨ s.size - n < p) :
    Calls Try.prog 45 #[.pointer (some ⟨c, 0, none⟩), .int .i64 n] w fun e w' => e = .returned (.tuple #[.int .i64 0, .bool false]) ∧ ∃ k, w' = w.drewN k := by
  go_enter Try.func45, Try.ntmps45
  go_wp2_with (go_at_call 44; refine (has_no c s p n _ hs hn0 hn (by exact hc0) (by exact hc1) h).mono ?_; rintro e w' ⟨rfl, k, rfl⟩)
  go_ret2
  exact ⟨rfl, _, rfl⟩

set_option maxHeartbeats 1000000 in
theorem number_yes (c : Nat) (s : ByteArray) (p m : Nat) (w : World) (hs : s.size ≤ maxLen) (hm : m ≤ 4)
    (hc0 : w.cell? ⟨c, 0, none⟩ = some (.string s)) (hc1 : w.cell? ⟨c, 1, none⟩ = some (.int .i64 p)) (hf1 : w.frozen? ⟨c, 1, none⟩ = false) (h : p + m ≤ s.size) (B : Nat) (hB : B ≤ c) :
    Calls Try.prog 45 #[.pointer (some ⟨c, 0, none⟩), .int .i64 m] w fun e w' => e = .returned (.tuple #[.int .i64 (be s p m), .bool true]) ∧ Below B w w' := by
  have hs' := hs
  unfold maxLen at hs
  go_enter Try.func45, Try.ntmps45
  go_wp2_with (go_at_call 44; refine (has_yes c s p m _ hs' (by omega) (by omega) (by exact hc0) (by exact hc1) (by omega) (by omega)).mono ?_; rintro e w' ⟨rfl, q, rfl⟩)
  go_loopw [6, 12] (fun n i wr => ∃ k : Nat, k ≤ m ∧ i = .int .i64 k ∧ n = .int .i64 (be s p k) ∧ wr.cell? ⟨c, 0, none⟩ = some (.string s) ∧ wr.cell? ⟨c, 1, none⟩ = some (.int .i64 (p + k)) ∧ wr.frozen? ⟨c, 1, none⟩ = false ∧ Below B w wr) (fun _ i _ => m - (intOf i).toNat)
  case atStart => exact ⟨0, Nat.zero_le _, rfl, rfl, hc0, by simpa using hc1, hf1, below_drewN (Below.refl _ _) _⟩
  case round =>
    obtain ⟨k, hk, rfl, rfl, hr0, hr1, hrf, hbel⟩ := hrel
    by_cases hlt : k < m
    · have i0 : (0 : Int) ≤ p + k := by omega
      have i1 : (p : Int) + k < s.size := by omega
      have hbt := get_bt s
      have b0 := bt_nonneg s (p + k)
      have b0' := bt_le s (p + k)
      have e0 := be_nonneg s p k
      have e0' := be_three s p k (by omega)
      have o1 : bits .or .i64 (be s p k * 256) (bt s (p + k)) = be s p k * 256 + bt s (p + k) := or_byte _ _ (by omega) (by omega) (by omega) b0 (by omega)
      clear hc0 hc1 hf1
      go_wp2
      go_quiet (fail)
      go_wp2
      go_roundw
      case rel =>
        refine ⟨k + 1, by omega, by go_num, rfl, ?_, ?_, ?_, (below_drewN hbel _).setCell hB _⟩
        · exact cell_other (by decide) hr0
        · rw [World.cell?_setCell_same _ _ _ (show (wr.drewN nq).cell? ⟨c, 1, none⟩ = _ from hr1), show ((p : Int) + k + 1) = p + ((k + 1 : Nat) : Int) by omega]
        · rw [World.frozen?_setCell]; exact hrf
      case measure => simp [intOf]; omega
    · obtain rfl : k = m := by omega
      go_wp2
      go_ret2
      exact ⟨rfl, hbel⟩

/-! The model's readers. -/
set_option maxHeartbeats 400000 in
theorem l1At_any (s : ByteArray) (p : Nat) (w : World) (hs : s.size ≤ maxLen) (h : p + 2 ≤ s.size) :
    Calls Try.prog 31 #[.string s, .int .i64 p] w fun e w' => e = .returned (.int .i64 (256 * bt s p + bt s (p + 1))) ∧ ∃ q, w' = w.drewN q := by
  unfold maxLen at hs
  have i0 : (0 : Int) ≤ p := by omega
  have i1 : (p : Int) < s.size := by omega
  have i2 : (p : Int) + 1 < s.size := by omega
  have hbt := get_bt s
  have b0 := bt_nonneg s p
  have b0' := bt_le s p
  have b1 := bt_nonneg s (p + 1)
  have b1' := bt_le s (p + 1)
  go_enter Try.func31, Try.ntmps31
  go_wp2
  go_quiet (fail)
  go_wp2
  go_ret
  exact ⟨rfl, _, rfl⟩

end Go.Proofs.Ytodpbjomiplphab
