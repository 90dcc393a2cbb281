/- The contracts of chapter 2: the checksum of a text and of its continuation, the model's and the program's, and whether a number may be one. -/
import Derived.Test.YtcpdpamoddmpaaaG7
import Derived.Deep.QuietTactic
import Derived.BigQuiet
import Derived.OpenShut
namespace Go.Proofs.Ytcpdpamoddmpaaa
open Go.RowKit Go.PlainAid

/-- Both parts are in their range. -/
def Sum (n : Int) : Prop := 0 ≤ n ∧ n % 65536 < 65521 ∧ n / 65536 < 65521
theorem Sum.one : Sum 1 := by unfold Sum; omega
theorem Sum.next {n : Int} (h : Sum n) (s : ByteArray) : Sum (sumNext n s) := sumNext_valid n s h

set_option maxHeartbeats 1000000 in
theorem l2Next_any (n : Int) (s : ByteArray) (w : World) (hs : s.size ≤ maxLen) (h : Sum n) :
    Calls Try.prog 71 #[.int .i64 n, .string s] w fun e w' => e = .returned (.int .i64 (sumNext n s)) ∧ Below w.heap.size w w' := by
  obtain ⟨h0, h1, h2⟩ := h
  unfold maxLen at hs
  have hbt := get_bt s
  go_enter Try.func71, Try.ntmps71
  go_wp2
  go_loop [5, 6, 7] (fun a b i => ∃ (k : Nat) (x y : Int), k ≤ s.size ∧ a = .int .i64 x ∧ b = .int .i64 y ∧ i = .int .i64 k ∧ (0 ≤ x ∧ x < 65521) ∧ (0 ≤ y ∧ y < 65521) ∧ sumRun (n % 65536) (n / 65536) ((nums s).take k) = (x, y)) (fun _ _ i => s.size - (intOf i).toNat)
  case atStart => exact ⟨0, n % 65536, n / 65536, Nat.zero_le _, rfl, rfl, rfl, by omega, by omega, rfl⟩
  case round =>
    obtain ⟨k, x, y, hk, rfl, rfl, rfl, ⟨x0, x1⟩, ⟨y0, y1⟩, hr⟩ := hrel
    have HR := Lib.hid hr
    clear hr
    by_cases hlt : k < s.size
    · have b0 := bt_nonneg s k
      have b1 := bt_le s k
      go_wp2
      go_round
      case rel =>
        refine ⟨k + 1, (x + bt s k) % 65521, (y + (x + bt s k) % 65521) % 65521, by omega, rfl, rfl, by go_num, by omega, by omega, ?_⟩
        rw [sumRun_snoc _ _ s k hlt, HR.out]
      case measure => simp [intOf]; omega
    · obtain rfl : k = s.size := by omega
      have e : 65536 * y + x = sumNext n s := by
        have := HR.out
        rw [nums_all] at this
        unfold sumNext sumOf
        rw [this]
      go_wp2
      go_ret
      exact ⟨rfl, Below.refl _ _⟩

set_option maxHeartbeats 400000 in
theorem sumSplit_any (n : Int) (w : World) (h0 : 0 ≤ n) (h1 : n ≤ 9223372036854775807) :
    Calls Try.prog 61 #[.int .i64 n] w fun e w' => e = .returned (.agg #[.int .i64 (n % 65536), .int .i64 (n / 65536)]) ∧ Below w.heap.size w w' := by
  go_enter Try.func61, Try.ntmps61
  go_wp2
  refine bodyPost_ret (v := .agg #[.int .i64 (n % 65536), .int .i64 (n / 65536)]) (by simp [results, Try.results61, go_sem]) rfl ?_
  exact ⟨rfl, (Below.refl _ _).alloc (Nat.le_refl _) _⟩

set_option maxHeartbeats 1000000 in
theorem sumAdd_any (c : Nat) (x y z : Int) (w : World) (B : Nat) (hB : B ≤ c) (x0 : 0 ≤ x) (x1 : x < 65521) (y0 : 0 ≤ y) (y1 : y < 65521) (z0 : 0 ≤ z) (z1 : z ≤ 255)
    (hc0 : w.cell? ⟨c, 0, none⟩ = some (.int .i64 x)) (hc1 : w.cell? ⟨c, 1, none⟩ = some (.int .i64 y)) (hf0 : w.frozen? ⟨c, 0, none⟩ = false) (hf1 : w.frozen? ⟨c, 1, none⟩ = false) :
    Calls Try.prog 62 #[.pointer (some ⟨c, 0, none⟩), .int .u8 z] w fun e w' => e = .returned (.tuple #[]) ∧ Below B w w' ∧
      w'.cell? ⟨c, 0, none⟩ = some (.int .i64 ((x + z) % 65521)) ∧ w'.cell? ⟨c, 1, none⟩ = some (.int .i64 ((y + (x + z) % 65521) % 65521)) ∧ w'.frozen? ⟨c, 0, none⟩ = false ∧ w'.frozen? ⟨c, 1, none⟩ = false := by
  go_enter Try.func62, Try.ntmps62
  go_wp2
  go_region
  all_goals go_wp2
  all_goals go_region
  all_goals go_wp2
  all_goals go_end0
  all_goals
    have e : (y + (x + z)) % 65521 = (y + (x + z) % 65521) % 65521 := by omega
    have hb : Below B w (((w.setCell ⟨c, 0, none⟩ (.int .i64 ((x + z) % 65521))).setCell ⟨c, 1, none⟩ (.int .i64 ((y + (x + z)) % 65521))).drewN 2) := below_drewN (((Below.refl B w).setCell hB _).setCell hB _) 2
    refine ⟨rfl, hb, ?_, ?_, ?_, ?_⟩
    · exact cell_other (by decide) (World.cell?_setCell_same _ _ _ hc0)
    · rw [← e]; exact World.cell?_setCell_same _ _ _ (cell_other (by decide) hc1)
    · simpa using hf0
    · simpa using hf1

/-- The parts of a sum at block c. -/
def Parts (c : Nat) (x y : Int) (w : World) : Prop :=
  w.cell? ⟨c, 0, none⟩ = some (.int .i64 x) ∧ w.cell? ⟨c, 1, none⟩ = some (.int .i64 y) ∧ w.frozen? ⟨c, 0, none⟩ = false ∧ w.frozen? ⟨c, 1, none⟩ = false

set_option maxHeartbeats 400000 in
theorem sumSum_any (c : Nat) (x y : Int) (w : World) (h : Parts c x y w) (x0 : 0 ≤ x) (x1 : x < 65521) (y0 : 0 ≤ y) (y1 : y < 65521) :
    Calls Try.prog 63 #[.pointer (some ⟨c, 0, none⟩)] w fun e w' => e = .returned (.int .i64 (65536 * y + x)) ∧ ∃ k, w' = w.drewN k := by
  obtain ⟨hc0, hc1, _, _⟩ := h
  have e : y * 65536 + x = 65536 * y + x := by omega
  have E := Lib.hid e
  clear e
  go_enter Try.func63, Try.ntmps63
  go_wp2
  go_quiet (fail)
  go_wp2
  go_ret
  exact ⟨ret_i E.out, _, rfl⟩

theorem part_zero (x y : Int) (w : World) : (Instr.index 80 (.agg #[.int .i64 x, .int .i64 y]) (.int .i64 0)).run Try.prog w = .ok (.int .i64 x) w := by kernel_rfl
theorem part_one (x y : Int) (w : World) : (Instr.index 80 (.agg #[.int .i64 x, .int .i64 y]) (.int .i64 1)).run Try.prog w = .ok (.int .i64 y) w := by kernel_rfl

set_option maxHeartbeats 1000000 in
theorem sumValid_yes (n : Int) (w : World) (hn : n ≤ 9223372036854775807) (h : Sum n) :
    Calls Try.prog 60 #[.int .i64 n] w fun e w' => e = .returned (.bool true) ∧ Below w.heap.size w w' := by
  obtain ⟨h0, h1, h2⟩ := h
  have i0 := part_zero (n % 65536) (n / 65536)
  have i1 := part_one (n % 65536) (n / 65536)
  go_enter Try.func60, Try.ntmps60
  go_wp2_with fail
  refine (sumSplit_any n _ h0 hn).mono ?_
  rintro e w1 ⟨rfl, hb1⟩
  go_wp2
  go_loop [4, 9] (fun _ i => ∃ k : Nat, k ≤ 2 ∧ i = .int .i64 k) (fun _ i => 2 - (intOf i).toNat)
  case atStart => exact ⟨0, by omega, rfl⟩
  case round =>
    obtain ⟨k, hk, rfl⟩ := hrel
    rcases (show k = 0 ∨ k = 1 ∨ k = 2 by omega) with rfl | rfl | rfl
    · go_wp2
      go_round
      case rel => exact ⟨1, by omega, rfl⟩
      case measure => decide
    · go_wp2
      go_round
      case rel => exact ⟨2, by omega, rfl⟩
      case measure => decide
    · go_wp2
      go_ret
      exact ⟨rfl, hb1⟩

set_option maxHeartbeats 1000000 in
theorem sumValid_no (n : Int) (w : World) (hm : -9223372036854775808 ≤ n) (hn : n ≤ 9223372036854775807) (h : ¬ Sum n) :
    Calls Try.prog 60 #[.int .i64 n] w fun e w' => e = .returned (.bool false) ∧ Below w.heap.size w w' := by
  unfold Sum at h
  by_cases h0 : n < 0
  · go_enter Try.func60, Try.ntmps60
    go_wp2
    go_ret
    exact ⟨rfl, Below.refl _ _⟩
  · have i0 := part_zero (n % 65536) (n / 65536)
    have i1 := part_one (n % 65536) (n / 65536)
    go_enter Try.func60, Try.ntmps60
    go_wp2_with fail
    refine (sumSplit_any n _ (by omega) hn).mono ?_
    rintro e w1 ⟨rfl, hb1⟩
    go_wp2
    go_loop [4, 9] (fun _ i => ∃ k : Nat, (k = 0 ∨ (k = 1 ∧ n % 65536 < 65521)) ∧ i = .int .i64 k) (fun _ i => 2 - (intOf i).toNat)
    case atStart => exact ⟨0, .inl rfl, rfl⟩
    case round =>
      obtain ⟨k, hk, rfl⟩ := hrel
      rcases hk with rfl | ⟨rfl, hp⟩
      · by_cases hp : n % 65536 < 65521
        · have hp' : ¬ 65521 ≤ n % 65536 := by omega
          go_wp2
          go_round
          case rel => exact ⟨1, .inr ⟨rfl, hp⟩, rfl⟩
          case measure => decide
        · have hp' : 65521 ≤ n % 65536 := by omega
          go_wp2
          go_ret
          exact ⟨rfl, hb1⟩
      · have hp' : 65521 ≤ n / 65536 := by omega
        go_wp2
        go_ret
        exact ⟨rfl, hb1⟩

theorem Parts.add {c : Nat} {x y z : Int} {w : World} {B : Nat} (h : Parts c x y w) (hB : B ≤ c) (x0 : 0 ≤ x ∧ x < 65521) (y0 : 0 ≤ y ∧ y < 65521) (z0 : 0 ≤ z ∧ z ≤ 255) :
    Calls Try.prog 62 #[.pointer (some ⟨c, 0, none⟩), .int .u8 z] w fun e w' => e = .returned (.tuple #[]) ∧ Below B w w' ∧ Parts c ((x + z) % 65521) ((y + (x + z) % 65521) % 65521) w' :=
  sumAdd_any c x y z w B hB x0.1 x0.2 y0.1 y0.2 z0.1 z0.2 h.1 h.2.1 h.2.2.1 h.2.2.2

set_option maxHeartbeats 1000000 in
theorem sumNext_yes (n : Int) (s : ByteArray) (w : World) (hs : s.size ≤ maxLen) (hn : n ≤ 9223372036854775807) (h : Sum n) :
    Calls Try.prog 40 #[.int .i64 n, .string s] w fun e w' => e = .returned (.int .i64 (sumNext n s)) ∧ Below w.heap.size w w' := by
  have h0 := h.1
  have h' := h
  obtain ⟨g0, g1, g2⟩ := h'
  unfold maxLen at hs
  have hbt := get_bt s
  go_enter Try.func40, Try.ntmps40
  go_wp2_with fail
  refine (sumValid_yes n _ hn h).mono ?_
  rintro e w1 ⟨rfl, hb1⟩
  go_wp2_with fail
  refine (sumSplit_any n _ h0 hn).mono ?_
  rintro e w2 ⟨rfl, hb2⟩
  have hb12 := hb1.trans (hb2.mono hb1.size)
  have hsz := hb12.size
  go_wp2
  go_loopw [6, 14, 20] (fun _ i _ wr => ∃ (k : Nat) (x y : Int), k ≤ s.size ∧ i = .int .i64 k ∧ (0 ≤ x ∧ x < 65521) ∧ (0 ≤ y ∧ y < 65521) ∧ sumRun (n % 65536) (n / 65536) ((nums s).take k) = (x, y) ∧ Parts w2.heap.size x y wr ∧ Below w.heap.size w wr) (fun _ i _ _ => s.size - (intOf i).toNat)
  case atStart => exact ⟨0, n % 65536, n / 65536, Nat.zero_le _, rfl, by omega, by omega, rfl, ⟨by simp, by simp, by simp, by simp⟩, hb12.alloc hsz _⟩
  case round =>
    obtain ⟨k, x, y, hk, rfl, hx, hy, hr, hp, hbel⟩ := hrel
    have HR := Lib.hid hr
    have HP := Lib.hid hp
    clear hr hp
    by_cases hlt : k < s.size
    · go_wp2_with fail
      refine (HP.out.add hsz hx hy ⟨bt_nonneg s k, bt_le s k⟩).mono ?_
      rintro e w3 ⟨rfl, hb3, hp3⟩
      go_wp2
      go_roundw
      case rel =>
        refine ⟨k + 1, (x + bt s k) % 65521, (y + (x + bt s k) % 65521) % 65521, by omega, by go_num, by omega, by omega, ?_, hp3, hbel.trans hb3⟩
        rw [sumRun_snoc _ _ s k hlt, HR.out]
      case measure => simp [intOf]; omega
    · obtain rfl : k = s.size := by omega
      have e : 65536 * y + x = sumNext n s := by
        have := HR.out
        rw [nums_all] at this
        unfold sumNext sumOf
        rw [this]
      have E := Lib.hid e
      clear e
      go_wp2_with fail
      refine (sumSum_any _ x y _ HP.out hx.1 hx.2 hy.1 hy.2).mono ?_
      rintro e w3 ⟨rfl, q, rfl⟩
      go_wp2
      go_ret
      exact ⟨ret_i E.out, below_drewN hbel _⟩

set_option maxHeartbeats 400000 in
theorem sumNext_no (n : Int) (s : ByteArray) (w : World) (hm : -9223372036854775808 ≤ n) (hn : n ≤ 9223372036854775807) (h : ¬ Sum n) :
    Calls Try.prog 40 #[.int .i64 n, .string s] w fun e w' => e = .returned (.int .i64 (-1)) ∧ Below w.heap.size w w' := by
  have H := Lib.hid h
  clear h
  go_enter Try.func40, Try.ntmps40
  go_wp2_with fail
  refine (sumValid_no n _ hm hn H.out).mono ?_
  rintro e w1 ⟨rfl, hb1⟩
  go_wp2
  go_ret
  exact ⟨rfl, hb1⟩

set_option maxHeartbeats 400000 in
theorem sumText_any (s : ByteArray) (w : World) (hs : s.size ≤ maxLen) :
    Calls Try.prog 20 #[.string s] w fun e w' => e = .returned (.int .i64 (sumNext 1 s)) ∧ Below w.heap.size w w' := by
  go_enter Try.func20, Try.ntmps20
  go_wp2_with fail
  refine (sumNext_yes 1 s _ hs (by decide) Sum.one).mono ?_
  rintro e w1 ⟨rfl, hb1⟩
  go_wp2
  go_ret
  exact ⟨rfl, hb1⟩

end Go.Proofs.Ytcpdpamoddmpaaa
