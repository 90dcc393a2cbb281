/- The walks of the laws on checksums that are given: each call returns true and touches nothing that was there. -/
import Derived.Test.YtmmgngdebjndbabK9
import Derived.Deep.RegionWith
namespace Go.Proofs.Ytmmgngdebjndbab
open Go.RowKit Go.PlainAid

theorem sumNext_from (w0 : World) (n : Int) (s : ByteArray) (w : World) (hw : Below w0.heap.size w0 w) (hs : s.size ≤ 100000) (hn : n ≤ 9223372036854775807) (h : Sum n) :
    Calls Try.prog 13 #[.int .i64 n, .string s] w fun e w' => e = .returned (.int .i64 (sumNext n s)) ∧ Below w0.heap.size w0 w' := by
  refine (sumNext_yes n s w (Nat.le_trans hs (by decide)) hn h).mono ?_
  rintro e w' ⟨rfl, hb⟩
  exact ⟨rfl, hw.trans (hb.mono hw.size)⟩
theorem sum_small {n : Int} (h : Sum n) : n ≤ 9223372036854775807 := by
  have h' := sum_range h
  omega

set_option maxHeartbeats 1000000 in
theorem walk_fnSumValid (a0 : Option Addr) (len0 cap0 : Nat) (z0 : List Int) (w : World) (w0 : IsRow .u8 w a0 len0 cap0 z0) :
    Calls Try.prog 3 #[.slice a0 len0 cap0] w fun e w' => e = .returned (.bool true) ∧ Below w.heap.size w w' := by
  have H := Lib.hid w0
  clear w0
  by_cases hl : (1048576 : Int) < len0
  · go_enter Try.func3, Try.ntmps3
    go_wp2
    go_ret
    exact ⟨rfl, Below.refl _ _⟩
  · go_enter Try.func3, Try.ntmps3
    go_wp2_with fail
    refine (drawSumValid_any a0 len0 cap0 z0 _ H.out).mono ?_
    rintro e w1 ⟨n, rfl, ⟨n0, n1⟩, hb1⟩
    by_cases h : Sum n
    · obtain ⟨h0, h1, h2⟩ := h
      have HS := Lib.hid (show Sum n from ⟨h0, h1, h2⟩)
      go_wp2_with fail
      refine (sumValid_yes n _ (by omega) HS.out).mono ?_
      rintro e w2 ⟨rfl, hb2⟩
      go_wp2_with fail
      refine (sSumValid_yes n _ (by omega) HS.out).mono ?_
      rintro e w3 ⟨rfl, hb3⟩
      go_wp2
      go_ret
      exact ⟨rfl, hb1.trans ((hb2.trans (hb3.mono hb2.size)).mono hb1.size)⟩
    · have HS := Lib.hid h
      clear h
      go_wp2_with fail
      refine (sumValid_no n _ (by omega) (by omega) HS.out).mono ?_
      rintro e w2 ⟨rfl, hb2⟩
      go_wp2_with fail
      refine (sSumValid_no n _ (by omega) (by omega) HS.out).mono ?_
      rintro e w3 ⟨rfl, hb3⟩
      have hb : Below w.heap.size w w3 := hb1.trans ((hb2.trans (hb3.mono hb2.size)).mono hb1.size)
      by_cases h0 : 0 ≤ n
      · by_cases h1 : n % 65536 < 65521
        · have h2 : ¬ n / 65536 < 65521 := fun h => HS.out ⟨h0, h1, h⟩
          have d2 : decide (n / 65536 < 65521) = false := by simpa using h2
          go_wp2
          go_ret
          exact ⟨rfl, hb⟩
        · have d1 : decide (n % 65536 < 65521) = false := by simpa using h1
          go_wp2
          go_ret
          exact ⟨rfl, hb⟩
      · have d0 : decide (0 ≤ n) = false := by simpa using h0
        go_wp2
        go_ret
        exact ⟨rfl, hb⟩

set_option maxHeartbeats 1000000 in
theorem walk_fnSumNext (a0 : Option Addr) (len0 cap0 : Nat) (z0 : List Int) (w : World) (w0 : IsRow .u8 w a0 len0 cap0 z0) :
    Calls Try.prog 4 #[.slice a0 len0 cap0] w fun e w' => e = .returned (.bool true) ∧ Below w.heap.size w w' := by
  have H := Lib.hid w0
  clear w0
  by_cases hl : (1048576 : Int) < len0
  · go_enter Try.func4, Try.ntmps4
    go_wp2
    go_ret
    exact ⟨rfl, Below.refl _ _⟩
  · go_enter Try.func4, Try.ntmps4
    go_wp2_with fail
    refine (drawSumNext_any a0 len0 cap0 z0 _ H.out).mono ?_
    rintro e w1 ⟨n, s, rfl, ⟨⟨n0, n1⟩, hs⟩, hb1⟩
    have hm : s.size ≤ maxLen := Nat.le_trans hs (by decide)
    by_cases h : Sum n
    · obtain ⟨h0, h1, h2⟩ := h
      have HS := Lib.hid (show Sum n from ⟨h0, h1, h2⟩)
      have HN := Lib.hid (HS.out.next s)
      have x0 := HN.out.1
      have x1 := sum_small HN.out
      go_wp2_with fail
      refine (sumNext_yes n s _ hm (by omega) HS.out).mono ?_
      rintro e w2 ⟨rfl, hb2⟩
      go_wp2_with fail
      refine (sSumNext_yes n s _ hm (by omega) HS.out).mono ?_
      rintro e w3 ⟨rfl, hb3⟩
      have hb : Below w.heap.size w w3 := hb1.trans ((hb2.trans (hb3.mono hb2.size)).mono hb1.size)
      clear hb1 hb2 hb3
      have x2 : (sumNext n s == -1) = false := by simp; omega
      go_wp2_with fail
      refine (sumValid_yes n _ (by omega) HS.out).mono ?_
      rintro e w4 ⟨rfl, hb4⟩
      go_wp2_with fail
      refine (sumValid_yes _ _ x1 HN.out).mono ?_
      rintro e w5 ⟨rfl, hb5⟩
      go_wp2
      go_ret
      exact ⟨rfl, hb.trans ((hb4.trans (hb5.mono hb4.size)).mono hb.size)⟩
    · have HS := Lib.hid h
      clear h
      go_wp2_with fail
      refine (sumNext_no n s _ (by omega) (by omega) HS.out).mono ?_
      rintro e w2 ⟨rfl, hb2⟩
      go_wp2_with fail
      refine (sSumNext_no n s _ (by omega) (by omega) HS.out).mono ?_
      rintro e w3 ⟨rfl, hb3⟩
      have hb : Below w.heap.size w w3 := hb1.trans ((hb2.trans (hb3.mono hb2.size)).mono hb1.size)
      clear hb1 hb2 hb3
      have hneg : ¬ Sum (-1) := by unfold Sum; omega
      have HG := Lib.hid hneg
      clear hneg
      go_wp2_with fail
      refine (sumValid_no n _ (by omega) (by omega) HS.out).mono ?_
      rintro e w4 ⟨rfl, hb4⟩
      go_wp2_with fail
      refine (sumValid_no _ _ (by decide) (by decide) HG.out).mono ?_
      rintro e w5 ⟨rfl, hb5⟩
      go_wp2
      go_ret
      exact ⟨rfl, hb.trans ((hb4.trans (hb5.mono hb4.size)).mono hb.size)⟩

set_option maxHeartbeats 1000000 in
theorem walk_fnSumNextJoin (a0 : Option Addr) (len0 cap0 : Nat) (z0 : List Int) (a1 : Option Addr) (len1 cap1 : Nat) (z1 : List Int) (w : World) (w0 : IsRow .u8 w a0 len0 cap0 z0) (_w1 : IsRow .u8 w a1 len1 cap1 z1) :
    Calls Try.prog 5 #[.slice a0 len0 cap0, .slice a1 len1 cap1] w fun e w' => e = .returned (.bool true) ∧ Below w.heap.size w w' := by
  have H := Lib.hid w0
  clear w0 _w1
  by_cases hl : (1048576 : Int) < len0
  · go_enter Try.func5, Try.ntmps5
    go_wp2
    go_ret
    exact ⟨rfl, Below.refl _ _⟩
  by_cases hl1 : (1048576 : Int) < len1
  · go_enter Try.func5, Try.ntmps5
    go_wp2
    go_ret
    exact ⟨rfl, Below.refl _ _⟩
  · go_enter Try.func5, Try.ntmps5
    go_wp2_with fail
    refine (drawSumNext_any a0 len0 cap0 z0 _ H.out).mono ?_
    rintro e w1 ⟨n, s, rfl, ⟨⟨n0, n1⟩, hs⟩, hb1⟩
    have hm : s.size ≤ maxLen := Nat.le_trans hs (by decide)
    by_cases h : Sum n
    · obtain ⟨h0, h1, h2⟩ := h
      have HS := Lib.hid (show Sum n from ⟨h0, h1, h2⟩)
      have HN := Lib.hid (HS.out.next s)
      have x0 := HN.out.1
      have x1 := sum_small HN.out
      go_wp2_with fail
      refine (sumNext_yes n s _ hm (by omega) HS.out).mono ?_
      rintro e w2 ⟨rfl, hb2⟩
      go_wp2_with fail
      refine (sSumNext_yes n s _ hm (by omega) HS.out).mono ?_
      rintro e w3 ⟨rfl, hb3⟩
      have hb : Below w.heap.size w w3 := hb1.trans ((hb2.trans (hb3.mono hb2.size)).mono hb1.size)
      clear hb1 hb2 hb3
      have m0 : (0 : Int) ≤ (len1 : Int) % ((s.size : Int) + 1) := Int.emod_nonneg _ (by omega)
      have m1 : (len1 : Int) % ((s.size : Int) + 1) < (s.size : Int) + 1 := Int.emod_lt_of_pos _ (by omega)
      obtain ⟨K, hK⟩ := Int.eq_ofNat_of_zero_le m0
      go_wp2_with fail
      rw [hK]
      rw [hK] at m1
      clear hK m0
      have k0 : (0 : Int) ≤ (K : Int) := Int.natCast_nonneg K
      have k1 : (K : Int) ≤ s.size := by omega
      have hj := sumNext_split n s K HS.out
      have HT := Lib.hid (HS.out.next (s.extract 0 K))
      have hn : n ≤ 9223372036854775807 := by omega
      clear m1
      go_region_with (first | (go_at_call_of 13 (s.extract K s.size); refine (sumNext_from w (sumNext n (s.extract 0 K)) _ _ (by first | assumption | exact Below.drew (by assumption)) (by rw [ByteArray.size_extract]; omega) (sum_small HT.out) HT.out).mono ?_; rintro e w' ⟨rfl, hbn⟩) | (go_at_call 13; refine (sumNext_from w n _ _ (by first | assumption | exact Below.drew (by assumption)) (by rw [ByteArray.size_extract]; omega) hn HS.out).mono ?_; rintro e w' ⟨rfl, hbn⟩))
      all_goals first | (exfalso; omega) | (go_wp2; go_ret; exact ⟨rfl, by first | assumption | exact Below.drew (by assumption)⟩)
    · have HS := Lib.hid h
      clear h
      go_wp2_with fail
      refine (sumNext_no n s _ (by omega) (by omega) HS.out).mono ?_
      rintro e w2 ⟨rfl, hb2⟩
      go_wp2_with fail
      refine (sSumNext_no n s _ (by omega) (by omega) HS.out).mono ?_
      rintro e w3 ⟨rfl, hb3⟩
      have hb : Below w.heap.size w w3 := hb1.trans ((hb2.trans (hb3.mono hb2.size)).mono hb1.size)
      clear hb1 hb2 hb3
      go_wp2
      go_ret
      exact ⟨rfl, hb⟩

set_option maxHeartbeats 1000000 in
theorem walk_fnSumNextByte (a0 : Option Addr) (len0 cap0 : Nat) (z0 : List Int) (w : World) (w0 : IsRow .u8 w a0 len0 cap0 z0) :
    Calls Try.prog 6 #[.slice a0 len0 cap0] w fun e w' => e = .returned (.bool true) ∧ Below w.heap.size w w' := by
  have H := Lib.hid w0
  clear w0
  by_cases hl : (1048576 : Int) < len0
  · go_enter Try.func6, Try.ntmps6
    go_wp2
    go_ret
    exact ⟨rfl, Below.refl _ _⟩
  · go_enter Try.func6, Try.ntmps6
    go_wp2_with fail
    refine (drawSumNext_any a0 len0 cap0 z0 _ H.out).mono ?_
    rintro e w1 ⟨n, s, rfl, ⟨⟨n0, n1⟩, hs⟩, hb1⟩
    have hm : s.size ≤ maxLen := Nat.le_trans hs (by decide)
    by_cases h : Sum n
    · obtain ⟨h0, h1, h2⟩ := h
      have HS := Lib.hid (show Sum n from ⟨h0, h1, h2⟩)
      have HN := Lib.hid (HS.out.next s)
      have x0 := HN.out.1
      have x1 := sum_small HN.out
      go_wp2_with fail
      refine (sumNext_yes n s _ hm (by omega) HS.out).mono ?_
      rintro e w2 ⟨rfl, hb2⟩
      go_wp2_with fail
      refine (sSumNext_yes n s _ hm (by omega) HS.out).mono ?_
      rintro e w3 ⟨rfl, hb3⟩
      have hb : Below w.heap.size w w3 := hb1.trans ((hb2.trans (hb3.mono hb2.size)).mono hb1.size)
      clear hb1 hb2 hb3
      have hq0 : sumNext n (ByteArray.mk #[77]) = 65536 * ((n / 65536 + (n % 65536 + 77) % 65521) % 65521) + (n % 65536 + 77) % 65521 := rfl
      have hq : sumNext n (ByteArray.mk #[77]) = 65536 * ((n / 65536 + (n % 65536 + 77)) % 65521) + (n % 65536 + 77) % 65521 := by rw [hq0]; omega
      have HQ := Lib.hid hq
      clear hq hq0
      go_wp2_with fail
      refine (sumNext_yes n _ _ (by decide) (by omega) HS.out).mono ?_
      rintro e w4 ⟨rfl, hb4⟩
      rw [HQ.out]
      go_wp2
      go_ret
      exact ⟨rfl, hb.trans (hb4.mono hb.size)⟩
    · have HS := Lib.hid h
      clear h
      go_wp2_with fail
      refine (sumNext_no n s _ (by omega) (by omega) HS.out).mono ?_
      rintro e w2 ⟨rfl, hb2⟩
      go_wp2_with fail
      refine (sSumNext_no n s _ (by omega) (by omega) HS.out).mono ?_
      rintro e w3 ⟨rfl, hb3⟩
      have hb : Below w.heap.size w w3 := hb1.trans ((hb2.trans (hb3.mono hb2.size)).mono hb1.size)
      clear hb1 hb2 hb3
      go_wp2
      go_ret
      exact ⟨rfl, hb⟩

set_option maxHeartbeats 400000 in
theorem walk_fnExactSumValid (a0 : Int) (w0 : (Lit.int .i64 a0).wf = true) (w : World) :
    Calls Try.prog 7 #[.int .i64 a0] w fun e w' => e = .returned (.bool true) ∧ Below w.heap.size w w' := by
  have hi := bounds_i64 w0
  by_cases h : Sum a0
  · have HS := Lib.hid h
    clear h w0
    go_enter Try.func7, Try.ntmps7
    go_wp2_with fail
    refine (sSumValid_yes a0 _ hi.2 HS.out).mono ?_
    rintro e w1 ⟨rfl, hb1⟩
    go_wp2_with fail
    refine (sumValid_yes a0 _ hi.2 HS.out).mono ?_
    rintro e w2 ⟨rfl, hb2⟩
    go_wp2
    go_ret
    exact ⟨rfl, hb1.trans (hb2.mono hb1.size)⟩
  · have HS := Lib.hid h
    clear h w0
    go_enter Try.func7, Try.ntmps7
    go_wp2_with fail
    refine (sSumValid_no a0 _ hi.1 hi.2 HS.out).mono ?_
    rintro e w1 ⟨rfl, hb1⟩
    go_wp2_with fail
    refine (sumValid_no a0 _ hi.1 hi.2 HS.out).mono ?_
    rintro e w2 ⟨rfl, hb2⟩
    go_wp2
    go_ret
    exact ⟨rfl, hb1.trans (hb2.mono hb1.size)⟩

set_option maxHeartbeats 400000 in
theorem walk_fnExactSumNext (a0 : Int) (a1 : ByteArray) (w0 : (Lit.int .i64 a0).wf = true) (w1 : a1.size ≤ maxLen) (w : World) :
    Calls Try.prog 8 #[.int .i64 a0, .string a1] w fun e w' => e = .returned (.bool true) ∧ Below w.heap.size w w' := by
  have hi := bounds_i64 w0
  have hm := w1
  unfold maxLen at w1
  by_cases hl : (1048576 : Int) < a1.size
  · go_enter Try.func8, Try.ntmps8
    go_wp2
    go_ret
    exact ⟨rfl, Below.refl _ _⟩
  by_cases h : Sum a0
  · have HS := Lib.hid h
    clear h w0
    go_enter Try.func8, Try.ntmps8
    go_wp2_with fail
    refine (sSumNext_yes a0 a1 _ hm hi.2 HS.out).mono ?_
    rintro e w1 ⟨rfl, hb1⟩
    go_wp2_with fail
    refine (sumNext_yes a0 a1 _ hm hi.2 HS.out).mono ?_
    rintro e w2 ⟨rfl, hb2⟩
    go_wp2
    go_ret
    exact ⟨rfl, hb1.trans (hb2.mono hb1.size)⟩
  · have HS := Lib.hid h
    clear h w0
    go_enter Try.func8, Try.ntmps8
    go_wp2_with fail
    refine (sSumNext_no a0 a1 _ hi.1 hi.2 HS.out).mono ?_
    rintro e w1 ⟨rfl, hb1⟩
    go_wp2_with fail
    refine (sumNext_no a0 a1 _ hi.1 hi.2 HS.out).mono ?_
    rintro e w2 ⟨rfl, hb2⟩
    go_wp2
    go_ret
    exact ⟨rfl, hb1.trans (hb2.mono hb1.size)⟩

end Go.Proofs.Ytmmgngdebjndbab
