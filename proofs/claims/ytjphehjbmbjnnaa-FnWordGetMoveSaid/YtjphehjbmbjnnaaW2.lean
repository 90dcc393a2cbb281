/- The walks of the laws on two-byte and four-byte numbers: each call returns true and touches nothing that was there. -/
import Derived.Test.YtjphehjbmbjnnaaK2
import Derived.Test.YtjphehjbmbjnnaaK4
import Derived.Test.YtjphehjbmbjnnaaG2
namespace Go.Proofs.Ytjphehjbmbjnnaa
open Go.RowKit Go.PlainAid

theorem toList_congr {a b : ByteArray} (h : a.toList = b.toList) : (a.toList == b.toList) = true := by rw [h]; simp

set_option maxHeartbeats 1000000 in
theorem walk_fnWordPut (a0 : Option Addr) (len0 cap0 : Nat) (z0 : List Int) (w : World) (w0 : IsRow .u8 w a0 len0 cap0 z0) :
    Calls Try.prog 3 #[.slice a0 len0 cap0] w fun e w' => e = .returned (.bool true) ∧ Below w.heap.size w w' := by
  have H := Lib.hid w0
  clear w0
  by_cases hl : (1048576 : Int) < len0
  · go_enter Try.func3, Try.ntmps3
    go_wp2
    go_ret
    exact ⟨rfl, Below.refl _ _⟩
  · go_enter Try.func3, Try.ntmps3
    go_wp2_with fail
    refine (drawWordPut_any a0 len0 cap0 z0 _ H.out).mono ?_
    rintro e w1 ⟨n, rfl, ⟨n0, n1⟩, hb1⟩
    by_cases h : 0 ≤ n ∧ n ≤ 65535
    · obtain ⟨h0, h1⟩ := h
      have hz := wordS_size n
      go_wp2_with fail
      refine (wordPut_yes n h0 h1 _).mono ?_
      rintro e w2 ⟨rfl, hb2⟩
      go_wp2_with fail
      refine (sWordPut_yes n h0 h1 _).mono ?_
      rintro e w3 ⟨rfl, hb3⟩
      go_wp2_with fail
      refine (wordGet_yes (wordS n) 0 _ (by rw [hz]; decide) (by omega)).mono ?_
      rintro e w4 ⟨rfl, hb4⟩
      rw [be_wordS n h0 h1]
      go_wp2
      go_ret
      exact ⟨rfl, (hb1.trans (((hb2.trans (((hb3.trans ((hb4).mono hb3.size))).mono hb2.size))).mono hb1.size))⟩
    · have h' : n < 0 ∨ 65535 < n := by omega
      clear h
      go_wp2_with fail
      refine (wordPut_no n h' _).mono ?_
      rintro e w2 ⟨rfl, rfl⟩
      go_wp2_with fail
      refine (sWordPut_no n h' _).mono ?_
      rintro e w3 ⟨rfl, rfl⟩
      go_wp2
      go_ret
      exact ⟨rfl, hb1⟩

set_option maxHeartbeats 1000000 in
theorem walk_fnWordPutRange (a0 : Option Addr) (len0 cap0 : Nat) (z0 : List Int) (w : World) (w0 : IsRow .u8 w a0 len0 cap0 z0) :
    Calls Try.prog 4 #[.slice a0 len0 cap0] w fun e w' => e = .returned (.bool true) ∧ Below w.heap.size w w' := by
  have H := Lib.hid w0
  clear w0
  by_cases hl : (1048576 : Int) < len0
  · go_enter Try.func4, Try.ntmps4
    go_wp2
    go_ret
    exact ⟨rfl, Below.refl _ _⟩
  · go_enter Try.func4, Try.ntmps4
    go_wp2_with fail
    refine (drawWordPut_any a0 len0 cap0 z0 _ H.out).mono ?_
    rintro e w1 ⟨n, rfl, ⟨n0, n1⟩, hb1⟩
    by_cases h : 0 ≤ n ∧ n ≤ 65535
    · obtain ⟨h0, h1⟩ := h
      go_wp2_with fail
      refine (wordPut_yes n h0 h1 _).mono ?_
      rintro e w2 ⟨rfl, hb2⟩
      go_wp2_with fail
      refine (sWordPut_yes n h0 h1 _).mono ?_
      rintro e w3 ⟨rfl, hb3⟩
      go_wp2
      go_ret
      exact ⟨rfl, (hb1.trans (((hb2.trans ((hb3).mono hb2.size))).mono hb1.size))⟩
    · have h' : n < 0 ∨ 65535 < n := by omega
      clear h
      go_wp2_with fail
      refine (wordPut_no n h' _).mono ?_
      rintro e w2 ⟨rfl, rfl⟩
      go_wp2_with fail
      refine (sWordPut_no n h' _).mono ?_
      rintro e w3 ⟨rfl, rfl⟩
      rcases h' with h' | h'
      · go_wp2
        go_ret
        exact ⟨rfl, hb1⟩
      · have h0 : 0 ≤ n := by omega
        have hd : decide (n ≤ 65535) = false := by simp; omega
        go_wp2
        go_ret
        exact ⟨rfl, hb1⟩

set_option maxHeartbeats 1000000 in
theorem walk_fnLongPut (a0 : Option Addr) (len0 cap0 : Nat) (z0 : List Int) (w : World) (w0 : IsRow .u8 w a0 len0 cap0 z0) :
    Calls Try.prog 8 #[.slice a0 len0 cap0] w fun e w' => e = .returned (.bool true) ∧ Below w.heap.size w w' := by
  have H := Lib.hid w0
  clear w0
  by_cases hl : (1048576 : Int) < len0
  · go_enter Try.func8, Try.ntmps8
    go_wp2
    go_ret
    exact ⟨rfl, Below.refl _ _⟩
  · go_enter Try.func8, Try.ntmps8
    go_wp2_with fail
    refine (drawLongPut_any a0 len0 cap0 z0 _ H.out).mono ?_
    rintro e w1 ⟨n, rfl, ⟨n0, n1⟩, hb1⟩
    by_cases h : 0 ≤ n ∧ n ≤ 4294967295
    · obtain ⟨h0, h1⟩ := h
      have hz := longS_size n
      go_wp2_with fail
      refine (longPut_yes n h0 h1 _).mono ?_
      rintro e w2 ⟨rfl, hb2⟩
      go_wp2_with fail
      refine (sLongPut_yes n h0 h1 _).mono ?_
      rintro e w3 ⟨rfl, hb3⟩
      go_wp2_with fail
      refine (longGet_yes (longS n) 0 _ (by rw [hz]; decide) (by omega)).mono ?_
      rintro e w4 ⟨rfl, hb4⟩
      rw [be_longS n h0 h1]
      go_wp2
      go_ret
      exact ⟨rfl, (hb1.trans (((hb2.trans (((hb3.trans ((hb4).mono hb3.size))).mono hb2.size))).mono hb1.size))⟩
    · have h' : n < 0 ∨ 4294967295 < n := by omega
      clear h
      go_wp2_with fail
      refine (longPut_no n h' _).mono ?_
      rintro e w2 ⟨rfl, rfl⟩
      go_wp2_with fail
      refine (sLongPut_no n h' _).mono ?_
      rintro e w3 ⟨rfl, rfl⟩
      go_wp2
      go_ret
      exact ⟨rfl, hb1⟩

set_option maxHeartbeats 1000000 in
theorem walk_fnLongPutRange (a0 : Option Addr) (len0 cap0 : Nat) (z0 : List Int) (w : World) (w0 : IsRow .u8 w a0 len0 cap0 z0) :
    Calls Try.prog 9 #[.slice a0 len0 cap0] w fun e w' => e = .returned (.bool true) ∧ Below w.heap.size w w' := by
  have H := Lib.hid w0
  clear w0
  by_cases hl : (1048576 : Int) < len0
  · go_enter Try.func9, Try.ntmps9
    go_wp2
    go_ret
    exact ⟨rfl, Below.refl _ _⟩
  · go_enter Try.func9, Try.ntmps9
    go_wp2_with fail
    refine (drawLongPut_any a0 len0 cap0 z0 _ H.out).mono ?_
    rintro e w1 ⟨n, rfl, ⟨n0, n1⟩, hb1⟩
    by_cases h : 0 ≤ n ∧ n ≤ 4294967295
    · obtain ⟨h0, h1⟩ := h
      go_wp2_with fail
      refine (longPut_yes n h0 h1 _).mono ?_
      rintro e w2 ⟨rfl, hb2⟩
      go_wp2_with fail
      refine (sLongPut_yes n h0 h1 _).mono ?_
      rintro e w3 ⟨rfl, hb3⟩
      go_wp2
      go_ret
      exact ⟨rfl, (hb1.trans (((hb2.trans ((hb3).mono hb2.size))).mono hb1.size))⟩
    · have h' : n < 0 ∨ 4294967295 < n := by omega
      clear h
      go_wp2_with fail
      refine (longPut_no n h' _).mono ?_
      rintro e w2 ⟨rfl, rfl⟩
      go_wp2_with fail
      refine (sLongPut_no n h' _).mono ?_
      rintro e w3 ⟨rfl, rfl⟩
      rcases h' with h' | h'
      · go_wp2
        go_ret
        exact ⟨rfl, hb1⟩
      · have h0 : 0 ≤ n := by omega
        have hd : decide (n ≤ 4294967295) = false := by simp; omega
        go_wp2
        go_ret
        exact ⟨rfl, hb1⟩

set_option maxHeartbeats 1000000 in
theorem walk_fnWordGet (a0 : Option Addr) (len0 cap0 : Nat) (z0 : List Int) (w : World) (w0 : IsRow .u8 w a0 len0 cap0 z0) :
    Calls Try.prog 5 #[.slice a0 len0 cap0] w fun e w' => e = .returned (.bool true) ∧ Below w.heap.size w w' := by
  have H := Lib.hid w0
  clear w0
  by_cases hl : (1048576 : Int) < len0
  · go_enter Try.func5, Try.ntmps5
    go_wp2
    go_ret
    exact ⟨rfl, Below.refl _ _⟩
  · go_enter Try.func5, Try.ntmps5
    go_wp2_with fail
    refine (drawWordGet_any a0 len0 cap0 z0 _ H.out).mono ?_
    rintro e w1 ⟨s, n, rfl, ⟨s0, n0, n1⟩, hb1⟩
    have hs : s.size ≤ maxLen := Nat.le_trans s0 (by decide)
    have hs1 : s.size ≤ 1000 := Nat.le_trans s0 (by decide)
    by_cases h : 0 ≤ n ∧ n + 2 ≤ s.size
    · obtain ⟨h0, h1⟩ := h
      obtain ⟨p, rfl⟩ := Int.eq_ofNat_of_zero_le h0
      have h2 : p + 2 ≤ s.size := by omega
      go_wp2_with fail
      refine (wordGet_yes s p _ hs h2).mono ?_
      rintro e w2 ⟨rfl, hb2⟩
      go_wp2_with fail
      refine (sWordGet_yes s p _ hs h2).mono ?_
      rintro e w3 ⟨rfl, hb3⟩
      have hx := toList_congr (wordS_extract s p h2)
      have hbd := be_two_bound s p
      go_wp2_with fail
      refine (wordPut_yes (be s p 2) hbd.1 hbd.2 _).mono ?_
      rintro e w4 ⟨rfl, hb4⟩
      go_wp2
      go_ret
      exact ⟨rfl, (hb1.trans (((hb2.trans (((hb3.trans ((hb4).mono hb3.size))).mono hb2.size))).mono hb1.size))⟩
    · have h' : n < 0 ∨ s.size - 2 < n := by omega
      clear h
      go_wp2_with fail
      refine (wordGet_no s n _ hs h').mono ?_
      rintro e w2 ⟨rfl, hb2⟩
      go_wp2_with fail
      refine (sWordGet_no s n _ hs h').mono ?_
      rintro e w3 ⟨rfl, hb3⟩
      go_wp2
      go_ret
      exact ⟨rfl, (hb1.trans (((hb2.trans ((hb3).mono hb2.size))).mono hb1.size))⟩

set_option maxHeartbeats 1000000 in
theorem walk_fnWordGetPlace (a0 : Option Addr) (len0 cap0 : Nat) (z0 : List Int) (w : World) (w0 : IsRow .u8 w a0 len0 cap0 z0) :
    Calls Try.prog 6 #[.slice a0 len0 cap0] w fun e w' => e = .returned (.bool true) ∧ Below w.heap.size w w' := by
  have H := Lib.hid w0
  clear w0
  by_cases hl : (1048576 : Int) < len0
  · go_enter Try.func6, Try.ntmps6
    go_wp2
    go_ret
    exact ⟨rfl, Below.refl _ _⟩
  · go_enter Try.func6, Try.ntmps6
    go_wp2_with fail
    refine (drawWordGet_any a0 len0 cap0 z0 _ H.out).mono ?_
    rintro e w1 ⟨s, n, rfl, ⟨s0, n0, n1⟩, hb1⟩
    have hs : s.size ≤ maxLen := Nat.le_trans s0 (by decide)
    have hs1 : s.size ≤ 1000 := Nat.le_trans s0 (by decide)
    by_cases h : 0 ≤ n ∧ n + 2 ≤ s.size
    · obtain ⟨h0, h1⟩ := h
      obtain ⟨p, rfl⟩ := Int.eq_ofNat_of_zero_le h0
      have h2 : p + 2 ≤ s.size := by omega
      go_wp2_with fail
      refine (wordGet_yes s p _ hs h2).mono ?_
      rintro e w2 ⟨rfl, hb2⟩
      go_wp2_with fail
      refine (sWordGet_yes s p _ hs h2).mono ?_
      rintro e w3 ⟨rfl, hb3⟩
      go_wp2
      go_ret
      exact ⟨rfl, (hb1.trans (((hb2.trans ((hb3).mono hb2.size))).mono hb1.size))⟩
    · have h' : n < 0 ∨ s.size - 2 < n := by omega
      clear h
      go_wp2_with fail
      refine (wordGet_no s n _ hs h').mono ?_
      rintro e w2 ⟨rfl, hb2⟩
      go_wp2_with fail
      refine (sWordGet_no s n _ hs h').mono ?_
      rintro e w3 ⟨rfl, hb3⟩
      rcases h' with h' | h'
      · go_wp2
        go_ret
        exact ⟨rfl, (hb1.trans (((hb2.trans ((hb3).mono hb2.size))).mono hb1.size))⟩
      · by_cases h0 : n < 0
        · go_wp2
          go_ret
          exact ⟨rfl, (hb1.trans (((hb2.trans ((hb3).mono hb2.size))).mono hb1.size))⟩
        · have hd : decide (n + 2 ≤ s.size) = false := by simp; omega
          go_wp2
          go_ret
          exact ⟨rfl, (hb1.trans (((hb2.trans ((hb3).mono hb2.size))).mono hb1.size))⟩

set_option maxHeartbeats 1000000 in
theorem walk_fnLongGet (a0 : Option Addr) (len0 cap0 : Nat) (z0 : List Int) (w : World) (w0 : IsRow .u8 w a0 len0 cap0 z0) :
    Calls Try.prog 11 #[.slice a0 len0 cap0] w fun e w' => e = .returned (.bool true) ∧ Below w.heap.size w w' := by
  have H := Lib.hid w0
  clear w0
  by_cases hl : (1048576 : Int) < len0
  · go_enter Try.func11, Try.ntmps11
    go_wp2
    go_ret
    exact ⟨rfl, Below.refl _ _⟩
  · go_enter Try.func11, Try.ntmps11
    go_wp2_with fail
    refine (drawLongGet_any a0 len0 cap0 z0 _ H.out).mono ?_
    rintro e w1 ⟨s, n, rfl, ⟨s0, n0, n1⟩, hb1⟩
    have hs : s.size ≤ maxLen := Nat.le_trans s0 (by decide)
    have hs1 : s.size ≤ 1000 := Nat.le_trans s0 (by decide)
    by_cases h : 0 ≤ n ∧ n + 4 ≤ s.size
    · obtain ⟨h0, h1⟩ := h
      obtain ⟨p, rfl⟩ := Int.eq_ofNat_of_zero_le h0
      have h2 : p + 4 ≤ s.size := by omega
      go_wp2_with fail
      refine (longGet_yes s p _ hs h2).mono ?_
      rintro e w2 ⟨rfl, hb2⟩
      go_wp2_with fail
      refine (sLongGet_yes s p _ hs h2).mono ?_
      rintro e w3 ⟨rfl, hb3⟩
      go_wp2_with fail
      refine (wordGet_yes s p _ hs (by omega)).mono ?_
      rintro e w4 ⟨rfl, hb4⟩
      go_wp2_with fail
      rw [show ((p : Int) + 2) = ((p + 2 : Nat) : Int) by omega]
      refine (wordGet_yes s (p + 2) _ hs (by omega)).mono ?_
      rintro e w5 ⟨rfl, hb5⟩
      have hbd := be_two_bound s p
      have hbd2 := be_two_bound s (p + 2)
      rw [be_four]
      obtain ⟨hbd3, hbd4⟩ := hbd
      obtain ⟨hbd5, hbd6⟩ := hbd2
      go_wp2
      go_ret
      exact ⟨rfl, (hb1.trans (((hb2.trans (((hb3.trans (((hb4.trans ((hb5).mono hb4.size))).mono hb3.size))).mono hb2.size))).mono hb1.size))⟩
    · have h' : n < 0 ∨ s.size - 4 < n := by omega
      clear h
      go_wp2_with fail
      refine (longGet_no s n _ hs h').mono ?_
      rintro e w2 ⟨rfl, hb2⟩
      go_wp2_with fail
      refine (sLongGet_no s n _ hs h').mono ?_
      rintro e w3 ⟨rfl, hb3⟩
      go_wp2
      go_ret
      exact ⟨rfl, (hb1.trans (((hb2.trans ((hb3).mono hb2.size))).mono hb1.size))⟩

set_option maxHeartbeats 1000000 in
theorem walk_fnLongWords (a0 : Option Addr) (len0 cap0 : Nat) (z0 : List Int) (w : World) (w0 : IsRow .u8 w a0 len0 cap0 z0) :
    Calls Try.prog 10 #[.slice a0 len0 cap0] w fun e w' => e = .returned (.bool true) ∧ Below w.heap.size w w' := by
  have H := Lib.hid w0
  clear w0
  by_cases hl : (1048576 : Int) < len0
  · go_enter Try.func10, Try.ntmps10
    go_wp2
    go_ret
    exact ⟨rfl, Below.refl _ _⟩
  · go_enter Try.func10, Try.ntmps10
    go_wp2_with fail
    refine (drawLongPut_any a0 len0 cap0 z0 _ H.out).mono ?_
    rintro e w1 ⟨n, rfl, ⟨n0, n1⟩, hb1⟩
    by_cases h : 0 ≤ n ∧ n ≤ 4294967295
    · obtain ⟨h0, h1⟩ := h
      have hlw := long_words n
      have hz1 := wordS_size (n / 65536)
      have hz2 := wordS_size (n % 65536)
      go_wp2_with fail
      refine (longPut_yes n h0 h1 _).mono ?_
      rintro e w2 ⟨rfl, hb2⟩
      go_wp2_with fail
      refine (sLongPut_yes n h0 h1 _).mono ?_
      rintro e w3 ⟨rfl, hb3⟩
      go_wp2_with fail
      refine (wordPut_yes (n / 65536) (by omega) (by omega) _).mono ?_
      rintro e w4 ⟨rfl, hb4⟩
      go_wp2_with fail
      refine (wordPut_yes (n % 65536) (by omega) (by omega) _).mono ?_
      rintro e w5 ⟨rfl, hb5⟩
      go_wp2
      go_ret
      exact ⟨rfl, (hb1.trans (((hb2.trans (((hb3.trans (((hb4.trans ((hb5).mono hb4.size))).mono hb3.size))).mono hb2.size))).mono hb1.size))⟩
    · have h' : n < 0 ∨ 4294967295 < n := by omega
      clear h
      go_wp2_with fail
      refine (longPut_no n h' _).mono ?_
      rintro e w2 ⟨rfl, rfl⟩
      go_wp2_with fail
      refine (sLongPut_no n h' _).mono ?_
      rintro e w3 ⟨rfl, rfl⟩
      go_wp2
      go_ret
      exact ⟨rfl, hb1⟩

end Go.Proofs.Ytjphehjbmbjnnaa
