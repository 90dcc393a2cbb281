/- The walks of the laws on hexadecimal digits: each call returns true and touches nothing that was there. -/
import Derived.Test.YtjphehjbmbjnnabK6
import Derived.Test.YtjphehjbmbjnnabK7
import Derived.Test.YtjphehjbmbjnnabG5
namespace Go.Proofs.Ytjphehjbmbjnnab
open Go.RowKit Go.PlainAid

set_option maxHeartbeats 1000000 in
theorem walk_fnHexPut (a0 : Option Addr) (len0 cap0 : Nat) (z0 : List Int) (w : World) (w0 : IsRow .u8 w a0 len0 cap0 z0) :
    Calls Try.prog 4 #[.slice a0 len0 cap0] w fun e w' => e = .returned (.bool true) ∧ Below w.heap.size w w' := by
  have H := Lib.hid w0
  clear w0
  by_cases hl : (1048576 : Int) < len0
  · go_enter Try.func4, Try.ntmps4
    go_wp2
    go_ret
    exact ⟨rfl, Below.refl _ _⟩
  · go_enter Try.func4, Try.ntmps4
    go_wp2_with fail
    refine (drawHexPut_any a0 len0 cap0 z0 _ H.out).mono ?_
    rintro e w1 ⟨s, rfl, hs, hb1⟩
    by_cases h40 : s.size ≤ 40
    · have h40' : (s.size : Int) ≤ 40 := by omega
      have hz := hexS_size s
      have hg := good_hexS s h40
      have hu := Lib.hid (unhex_hexS s)
      go_wp2_with fail
      refine (hexPut_yes s _ h40).mono ?_
      rintro e w2 ⟨rfl, hb2⟩
      go_wp2_with fail
      refine (sHexPut_yes s _ h40).mono ?_
      rintro e w3 ⟨rfl, hb3⟩
      go_wp2_with fail
      refine (hexGet_any (hexS s) _ (by omega)).mono ?_
      rintro e w4 ⟨hcase, hb4⟩
      rcases hcase with ⟨_, rfl⟩ | ⟨hn, _⟩
      · rw [hu.out]
        clear hg
        go_wp2
        go_ret
        exact ⟨rfl, (hb1.trans (((hb2.trans (((hb3.trans ((hb4).mono hb3.size))).mono hb2.size))).mono hb1.size))⟩
      · exact absurd hg hn
    · have h40' : (40 : Int) < s.size := by omega
      go_wp2_with fail
      refine (hexPut_no s _ h40).mono ?_
      rintro e w2 ⟨rfl, rfl⟩
      go_wp2_with fail
      refine (sHexPut_no s _ h40).mono ?_
      rintro e w3 ⟨rfl, rfl⟩
      go_wp2
      go_ret
      exact ⟨rfl, hb1⟩

theorem empty_iff (s : ByteArray) : s.toList.isEmpty = true ↔ s.size = 0 := by
  rw [ByteArray.toList_eq, List.isEmpty_iff_length_eq_zero]
  simp

set_option maxHeartbeats 1000000 in
theorem walk_fnHexPutLong (a0 : Option Addr) (len0 cap0 : Nat) (z0 : List Int) (w : World) (w0 : IsRow .u8 w a0 len0 cap0 z0) :
    Calls Try.prog 5 #[.slice a0 len0 cap0] w fun e w' => e = .returned (.bool true) ∧ Below w.heap.size w w' := by
  have H := Lib.hid w0
  clear w0
  by_cases hl : (1048576 : Int) < len0
  · go_enter Try.func5, Try.ntmps5
    go_wp2
    go_ret
    exact ⟨rfl, Below.refl _ _⟩
  · go_enter Try.func5, Try.ntmps5
    go_wp2_with fail
    refine (drawHexPut_any a0 len0 cap0 z0 _ H.out).mono ?_
    rintro e w1 ⟨s, rfl, hs, hb1⟩
    by_cases h40 : s.size ≤ 40
    · have h40' : (s.size : Int) ≤ 40 := by omega
      have h40'' : decide ((40 : Int) < s.size) = false := by simpa using h40'
      go_wp2_with fail
      refine (hexPut_yes s _ h40).mono ?_
      rintro e w2 ⟨rfl, hb2⟩
      go_wp2_with fail
      refine (sHexPut_yes s _ h40).mono ?_
      rintro e w3 ⟨rfl, hb3⟩
      by_cases h0 : s.size = 0
      · have e1 : s.toList.isEmpty = true := (empty_iff s).2 h0
        have e2 : (hexS s).toList.isEmpty = true := (empty_iff _).2 (by rw [hexS_size]; omega)
        have H0 := Lib.hid h0
        clear h0
        go_wp2
        go_ret
        exact ⟨rfl, (hb1.trans (((hb2.trans ((hb3).mono hb2.size))).mono hb1.size))⟩
      · have e1 : s.toList.isEmpty = false := by
          rw [Bool.eq_false_iff]
          exact fun h => h0 ((empty_iff s).1 h)
        have e2 : (hexS s).toList.isEmpty = false := by
          rw [Bool.eq_false_iff]
          exact fun h => h0 (by have := (empty_iff _).1 h; rw [hexS_size] at this; omega)
        clear h0
        go_wp2
        go_ret
        exact ⟨rfl, (hb1.trans (((hb2.trans ((hb3).mono hb2.size))).mono hb1.size))⟩
    · have h40' : (40 : Int) < s.size := by omega
      have e1 : s.toList.isEmpty = false := by
        rw [Bool.eq_false_iff]
        exact fun h => by have := (empty_iff s).1 h; omega
      go_wp2_with fail
      refine (hexPut_no s _ h40).mono ?_
      rintro e w2 ⟨rfl, rfl⟩
      go_wp2_with fail
      refine (sHexPut_no s _ h40).mono ?_
      rintro e w3 ⟨rfl, rfl⟩
      go_wp2
      go_ret
      exact ⟨rfl, hb1⟩

set_option maxHeartbeats 1000000 in
theorem walk_fnHexGet (a0 : Option Addr) (len0 cap0 : Nat) (z0 : List Int) (w : World) (w0 : IsRow .u8 w a0 len0 cap0 z0) :
    Calls Try.prog 6 #[.slice a0 len0 cap0] w fun e w' => e = .returned (.bool true) ∧ Below w.heap.size w w' := by
  have H := Lib.hid w0
  clear w0
  by_cases hl : (1048576 : Int) < len0
  · go_enter Try.func6, Try.ntmps6
    go_wp2
    go_ret
    exact ⟨rfl, Below.refl _ _⟩
  · go_enter Try.func6, Try.ntmps6
    go_wp2_with fail
    refine (drawHexGet_any a0 len0 cap0 z0 _ H.out).mono ?_
    rintro e w1 ⟨s, rfl, hs, hb1⟩
    by_cases hg : Good s
    · have HG := Lib.hid hg
      clear hg
      go_wp2_with fail
      refine (hexGet_any s _ (by omega)).mono ?_
      rintro e w2 ⟨hc, hb2⟩
      rcases hc with ⟨_, rfl⟩ | ⟨hn, _⟩
      rotate_left
      · exact absurd HG.out hn
      go_wp2_with fail
      refine (sHexGet_any s _ (by omega)).mono ?_
      rintro e w3 ⟨hc, hb3⟩
      rcases hc with ⟨_, rfl⟩ | ⟨hn, _⟩
      rotate_left
      · exact absurd HG.out hn
      have hz := unhex_size s
      have h80 := HG.out.2.1
      have hu := Lib.hid (hexS_unhex s HG.out)
      go_wp2_with fail
      refine (hexPut_yes (unhex s) _ (by omega)).mono ?_
      rintro e w4 ⟨rfl, hb4⟩
      rw [hu.out]
      go_wp2
      go_ret
      exact ⟨rfl, (hb1.trans (((hb2.trans (((hb3.trans ((hb4).mono hb3.size))).mono hb2.size))).mono hb1.size))⟩
    · have HG := Lib.hid hg
      clear hg
      go_wp2_with fail
      refine (hexGet_any s _ (by omega)).mono ?_
      rintro e w2 ⟨hc, hb2⟩
      rcases hc with ⟨hn, _⟩ | ⟨_, rfl⟩
      · exact absurd hn HG.out
      go_wp2_with fail
      refine (sHexGet_any s _ (by omega)).mono ?_
      rintro e w3 ⟨hc, hb3⟩
      rcases hc with ⟨hn, _⟩ | ⟨_, rfl⟩
      · exact absurd hn HG.out
      go_wp2
      go_ret
      exact ⟨rfl, (hb1.trans (((hb2.trans ((hb3).mono hb2.size))).mono hb1.size))⟩

set_option maxHeartbeats 1000000 in
theorem walk_fnHexGetOdd (a0 : Option Addr) (len0 cap0 : Nat) (z0 : List Int) (w : World) (w0 : IsRow .u8 w a0 len0 cap0 z0) :
    Calls Try.prog 7 #[.slice a0 len0 cap0] w fun e w' => e = .returned (.bool true) ∧ Below w.heap.size w w' := by
  have H := Lib.hid w0
  clear w0
  by_cases hl : (1048576 : Int) < len0
  · go_enter Try.func7, Try.ntmps7
    go_wp2
    go_ret
    exact ⟨rfl, Below.refl _ _⟩
  · go_enter Try.func7, Try.ntmps7
    go_wp2_with fail
    refine (drawHexGet_any a0 len0 cap0 z0 _ H.out).mono ?_
    rintro e w1 ⟨s, rfl, hs, hb1⟩
    by_cases hg : Good s
    · have HG := Lib.hid hg
      clear hg
      go_wp2_with fail
      refine (hexGet_any s _ (by omega)).mono ?_
      rintro e w2 ⟨hc, hb2⟩
      rcases hc with ⟨_, rfl⟩ | ⟨hn, _⟩
      rotate_left
      · exact absurd HG.out hn
      go_wp2_with fail
      refine (sHexGet_any s _ (by omega)).mono ?_
      rintro e w3 ⟨hc, hb3⟩
      rcases hc with ⟨_, rfl⟩ | ⟨hn, _⟩
      rotate_left
      · exact absurd HG.out hn
      go_wp2_with fail
      refine (hexGet_any (s ++ ByteArray.mk #[48]) _ (by rw [ByteArray.size_append, show (ByteArray.mk #[48]).size = 1 from rfl]; omega)).mono ?_
      rintro e w4 ⟨hc, hb4⟩
      rcases hc with ⟨hn, _⟩ | ⟨_, rfl⟩
      · exact absurd hn (not_good_odd s _ HG.out rfl)
      go_wp2_with fail
      refine (hexGet_any (s ++ ByteArray.mk #[65, 48]) _ (by rw [ByteArray.size_append, show (ByteArray.mk #[65, 48]).size = 2 from rfl]; omega)).mono ?_
      rintro e w5 ⟨hc, hb5⟩
      rcases hc with ⟨hn, _⟩ | ⟨_, rfl⟩
      · exact absurd hn (not_good_A0 s)
      go_wp2_with fail
      refine (hexGet_any (s ++ ByteArray.mk #[32]) _ (by rw [ByteArray.size_append, show (ByteArray.mk #[32]).size = 1 from rfl]; omega)).mono ?_
      rintro e w6 ⟨hc, hb6⟩
      rcases hc with ⟨hn, _⟩ | ⟨_, rfl⟩
      · exact absurd hn (not_good_odd s _ HG.out rfl)
      go_wp2
      go_ret
      exact ⟨rfl, (hb1.trans (((hb2.trans (((hb3.trans (((hb4.trans (((hb5.trans ((hb6).mono hb5.size))).mono hb4.size))).mono hb3.size))).mono hb2.size))).mono hb1.size))⟩
    · have HG := Lib.hid hg
      clear hg
      go_wp2_with fail
      refine (hexGet_any s _ (by omega)).mono ?_
      rintro e w2 ⟨hc, hb2⟩
      rcases hc with ⟨hn, _⟩ | ⟨_, rfl⟩
      · exact absurd hn HG.out
      go_wp2_with fail
      refine (sHexGet_any s _ (by omega)).mono ?_
      rintro e w3 ⟨hc, hb3⟩
      rcases hc with ⟨hn, _⟩ | ⟨_, rfl⟩
      · exact absurd hn HG.out
      go_wp2
      go_ret
      exact ⟨rfl, (hb1.trans (((hb2.trans ((hb3).mono hb2.size))).mono hb1.size))⟩

set_option maxHeartbeats 1000000 in
theorem walk_fnExactHexPut (a0 : ByteArray) (_w0 : a0.size ≤ maxLen) (w : World) :
    Calls Try.prog 9 #[.string a0] w fun e w' => e = .returned (.bool true) ∧ Below w.heap.size w w' := by
  by_cases hl : (1048576 : Int) < a0.size
  · go_enter Try.func9, Try.ntmps9
    go_wp2
    go_ret
    exact ⟨rfl, Below.refl _ _⟩
  · by_cases h40 : a0.size ≤ 40
    · go_enter Try.func9, Try.ntmps9
      go_wp2_with fail
      refine (sHexPut_yes a0 _ h40).mono ?_
      rintro e w1 ⟨rfl, hb1⟩
      go_wp2_with fail
      refine (hexPut_yes a0 _ h40).mono ?_
      rintro e w2 ⟨rfl, hb2⟩
      go_wp2
      go_ret
      exact ⟨rfl, (hb1.trans ((hb2).mono hb1.size))⟩
    · go_enter Try.func9, Try.ntmps9
      go_wp2_with fail
      refine (sHexPut_no a0 _ h40).mono ?_
      rintro e w1 ⟨rfl, rfl⟩
      go_wp2_with fail
      refine (hexPut_no a0 _ h40).mono ?_
      rintro e w2 ⟨rfl, rfl⟩
      go_wp2
      go_ret
      exact ⟨rfl, Below.refl _ _⟩

set_option maxHeartbeats 1000000 in
theorem walk_fnExactHexGet (a0 : ByteArray) (_w0 : a0.size ≤ maxLen) (w : World) :
    Calls Try.prog 10 #[.string a0] w fun e w' => e = .returned (.bool true) ∧ Below w.heap.size w w' := by
  by_cases hl : (1048576 : Int) < a0.size
  · go_enter Try.func10, Try.ntmps10
    go_wp2
    go_ret
    exact ⟨rfl, Below.refl _ _⟩
  · go_enter Try.func10, Try.ntmps10
    go_wp2_with fail
    refine (sHexGet_any a0 _ (by omega)).mono ?_
    rintro e w1 ⟨hc1, hb1⟩
    rcases hc1 with ⟨hg, rfl⟩ | ⟨hg, rfl⟩
    · have HG := Lib.hid hg
      clear hg
      go_wp2_with fail
      refine (hexGet_any a0 _ (by omega)).mono ?_
      rintro e w2 ⟨hc2, hb2⟩
      rcases hc2 with ⟨_, rfl⟩ | ⟨hn, _⟩
      · go_wp2
        go_ret
        exact ⟨rfl, (hb1.trans ((hb2).mono hb1.size))⟩
      · exact absurd HG.out hn
    · have HG := Lib.hid hg
      clear hg
      go_wp2_with fail
      refine (hexGet_any a0 _ (by omega)).mono ?_
      rintro e w2 ⟨hc2, hb2⟩
      rcases hc2 with ⟨hn, _⟩ | ⟨_, rfl⟩
      · exact absurd hn HG.out
      · go_wp2
        go_ret
        exact ⟨rfl, (hb1.trans ((hb2).mono hb1.size))⟩

theorem hexPut_from (w0 : World) (s : ByteArray) (w : World) (hw : Below w0.heap.size w0 w) (hs : s.size ≤ 40) :
    Calls Try.prog 14 #[.string s] w fun e w' => e = .returned (.string (hexS s)) ∧ Below w0.heap.size w0 w' := by
  refine (hexPut_yes s w hs).mono ?_
  rintro e w' ⟨rfl, hb⟩
  exact ⟨rfl, hw.trans (hb.mono hw.size)⟩

set_option maxHeartbeats 1000000 in
theorem walk_fnHexJoin (a0 : Option Addr) (len0 cap0 : Nat) (z0 : List Int) (a1 : Option Addr) (len1 cap1 : Nat) (z1 : List Int) (w : World) (w0 : IsRow .u8 w a0 len0 cap0 z0) (_w1 : IsRow .u8 w a1 len1 cap1 z1) :
    Calls Try.prog 8 #[.slice a0 len0 cap0, .slice a1 len1 cap1] w fun e w' => e = .returned (.bool true) ∧ Below w.heap.size w w' := by
  have H := Lib.hid w0
  clear w0 _w1
  by_cases hl : (1048576 : Int) < len0
  · go_enter Try.func8, Try.ntmps8
    go_wp2
    go_ret
    exact ⟨rfl, Below.refl _ _⟩
  by_cases hl1 : (1048576 : Int) < len1
  · go_enter Try.func8, Try.ntmps8
    go_wp2
    go_ret
    exact ⟨rfl, Below.refl _ _⟩
  · go_enter Try.func8, Try.ntmps8
    go_wp2_with fail
    refine (drawHexPut_any a0 len0 cap0 z0 _ H.out).mono ?_
    rintro e w1 ⟨s, rfl, hs, hb1⟩
    by_cases h40 : s.size ≤ 40
    · have h40' : (s.size : Int) ≤ 40 := by omega
      have m0 : (0 : Int) ≤ (len1 : Int) % ((s.size : Int) + 1) := Int.emod_nonneg _ (by omega)
      have m1 : (len1 : Int) % ((s.size : Int) + 1) < (s.size : Int) + 1 := Int.emod_lt_of_pos _ (by omega)
      go_wp2_with fail
      refine (hexPut_yes s _ h40).mono ?_
      rintro e w2 ⟨rfl, hb2⟩
      go_wp2_with fail
      refine (sHexPut_yes s _ h40).mono ?_
      rintro e w3 ⟨rfl, hb3⟩
      obtain ⟨K, hK⟩ := Int.eq_ofNat_of_zero_le m0
      go_wp2_with fail
      rw [hK]
      rw [hK] at m1
      clear hK m0
      have k0 : (0 : Int) ≤ (K : Int) := Int.natCast_nonneg K
      have k1 : (K : Int) ≤ s.size := by omega
      have hj := hexS_join s K (by omega)
      have hsz := hexS_size s
      have hz1 := hexS_size (s.extract 0 K)
      have hz2 := hexS_size (s.extract K s.size)
      rw [ByteArray.size_extract] at hz1 hz2
      have y1 : (hexS (s.extract 0 K)).size ≤ 80 := by omega
      have y2 : (hexS (s.extract K s.size)).size ≤ 80 := by omega
      have hb : Below w.heap.size w w3 := (hb1.trans (((hb2.trans ((hb3).mono hb2.size))).mono hb1.size))
      clear hb1 hb2 hb3 hsz hz1 hz2 m1
      go_region_with (first | (go_at_call 14; refine (hexPut_from w _ _ (by first | assumption | exact Below.drew (by assumption)) (by rw [ByteArray.size_extract]; omega)).mono ?_; rintro e w' ⟨rfl, hbn⟩))
      all_goals first | (exfalso; omega) | (go_wp2; go_ret; exact ⟨rfl, by first | assumption | exact Below.drew (by assumption)⟩)
    · have h40' : (40 : Int) < s.size := by omega
      go_wp2_with fail
      refine (hexPut_no s _ h40).mono ?_
      rintro e w2 ⟨rfl, rfl⟩
      go_wp2_with fail
      refine (sHexPut_no s _ h40).mono ?_
      rintro e w3 ⟨rfl, rfl⟩
      go_wp2
      go_ret
      exact ⟨rfl, hb1⟩

end Go.Proofs.Ytjphehjbmbjnnab
