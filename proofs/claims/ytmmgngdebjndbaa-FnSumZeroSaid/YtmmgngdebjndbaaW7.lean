/- The walks of the laws on checksums of texts: each call returns true and touches nothing that was there. -/
import Derived.Test.YtmmgngdebjndbaaK9
import Derived.Deep.RegionWith
namespace Go.Proofs.Ytmmgngdebjndbaa
open Go.RowKit Go.PlainAid

/-- The checksum of a short text, in whatever world came of w0. -/
theorem sumText_from (w0 : World) (s : ByteArray) (w : World) (hw : Below w0.heap.size w0 w) (hs : s.size ≤ 100000) :
    Calls Try.prog 11 #[.string s] w fun e w' => e = .returned (.int .i64 (sumNext 1 s)) ∧ Below w0.heap.size w0 w' := by
  refine (sumText_any s w (Nat.le_trans hs (by decide))).mono ?_
  rintro e w' ⟨rfl, hb⟩
  exact ⟨rfl, hw.trans (hb.mono hw.size)⟩
theorem sumNext_from (w0 : World) (n : Int) (s : ByteArray) (w : World) (hw : Below w0.heap.size w0 w) (hs : s.size ≤ 100000) (hn : n ≤ 9223372036854775807) (h : Sum n) :
    Calls Try.prog 14 #[.int .i64 n, .string s] w fun e w' => e = .returned (.int .i64 (sumNext n s)) ∧ Below w0.heap.size w0 w' := by
  refine (sumNext_yes n s w (Nat.le_trans hs (by decide)) hn h).mono ?_
  rintro e w' ⟨rfl, hb⟩
  exact ⟨rfl, hw.trans (hb.mono hw.size)⟩
theorem sum_text (s : ByteArray) : Sum (sumNext 1 s) ∧ sumNext 1 s ≤ 9223372036854775807 := by
  have h := Sum.one.next s
  have h' := sum_range h
  exact ⟨h, by omega⟩

set_option maxHeartbeats 1000000 in
theorem walk_fnSumText (a0 : Option Addr) (len0 cap0 : Nat) (z0 : List Int) (w : World) (w0 : IsRow .u8 w a0 len0 cap0 z0) :
    Calls Try.prog 3 #[.slice a0 len0 cap0] w fun e w' => e = .returned (.bool true) ∧ Below w.heap.size w w' := by
  have H := Lib.hid w0
  clear w0
  by_cases hl : (1048576 : Int) < len0
  · go_enter Try.func3, Try.ntmps3
    go_wp2
    go_ret
    exact ⟨rfl, Below.refl _ _⟩
  · go_enter Try.func3, Try.ntmps3
    go_wp2_with fail
    refine (drawSumText_any a0 len0 cap0 z0 _ H.out).mono ?_
    rintro e w1 ⟨s, rfl, hs, hb1⟩
    have hm : s.size ≤ maxLen := Nat.le_trans hs (by decide)
    go_wp2_with fail
    refine (sumText_any s _ hm).mono ?_
    rintro e w2 ⟨rfl, hb2⟩
    go_wp2_with fail
    refine (sSumText_any s _ hm).mono ?_
    rintro e w3 ⟨rfl, hb3⟩
    have hb : Below w.heap.size w w3 := hb1.trans ((hb2.trans (hb3.mono hb2.size)).mono hb1.size)
    clear hb1 hb2 hb3

    have hf := sumNext_first s
    have hbt := get_bt s
    have hsm := sum_text s
    go_wp2
    go_loop [6, 7] (fun n i => ∃ k : Nat, k ≤ s.size ∧ i = .int .i64 k ∧ n = .int .i64 (1 + tot ((nums s).take k)) ∧ 0 ≤ tot ((nums s).take k) ∧ tot ((nums s).take k) ≤ 255 * k) (fun _ i => s.size - (intOf i).toNat)
    case atStart => exact ⟨0, Nat.zero_le _, rfl, rfl, by simp [tot], by simp [tot]⟩
    case round =>
      obtain ⟨k, hk, rfl, rfl, t0, t1⟩ := hrel
      by_cases hlt : k < s.size
      · have e : tot ((nums s).take (k + 1)) = tot ((nums s).take k) + bt s k := by rw [nums_take s k hlt, tot_append]; simp [tot]
        have b0 := bt_nonneg s k
        have b1 := bt_le s k
        have E := Lib.hid e
        clear e hf
        go_wp2
        go_round
        case rel => exact ⟨k + 1, by omega, by go_num, by rw [E.out, Int.add_assoc], by rw [E.out]; omega, by rw [E.out]; omega⟩
        case measure => simp [intOf]; omega
      · obtain rfl : k = s.size := by omega
        rw [nums_all] at *
        have HF := Lib.hid hf
        have HS := Lib.hid hsm
        clear hf hsm
        go_wp2_with fail
        refine (sumValid_yes _ _ HS.out.2 HS.out.1).mono ?_
        rintro e w4 ⟨rfl, hb4⟩
        have hd := HS.out.1.1
        have hu := HS.out.2
        go_wp2
        go_ret
        exact ⟨ret_b (by rw [HF.out]; simp), hb.trans (hb4.mono hb.size)⟩

set_option maxHeartbeats 1000000 in
theorem walk_fnSumEmpty (a0 : Option Addr) (len0 cap0 : Nat) (z0 : List Int) (w : World) (w0 : IsRow .u8 w a0 len0 cap0 z0) :
    Calls Try.prog 4 #[.slice a0 len0 cap0] w fun e w' => e = .returned (.bool true) ∧ Below w.heap.size w w' := by
  have H := Lib.hid w0
  clear w0
  by_cases hl : (1048576 : Int) < len0
  · go_enter Try.func4, Try.ntmps4
    go_wp2
    go_ret
    exact ⟨rfl, Below.refl _ _⟩
  · go_enter Try.func4, Try.ntmps4
    go_wp2_with fail
    refine (drawSumText_any a0 len0 cap0 z0 _ H.out).mono ?_
    rintro e w1 ⟨s, rfl, hs, hb1⟩
    have hm : s.size ≤ maxLen := Nat.le_trans hs (by decide)
    go_wp2_with fail
    refine (sumText_any s _ hm).mono ?_
    rintro e w2 ⟨rfl, hb2⟩
    go_wp2_with fail
    refine (sSumText_any s _ hm).mono ?_
    rintro e w3 ⟨rfl, hb3⟩
    have hb : Below w.heap.size w w3 := hb1.trans ((hb2.trans (hb3.mono hb2.size)).mono hb1.size)
    clear hb1 hb2 hb3

    have hsm := sum_text s
    have e0 : sumNext 1 (ByteArray.mk #[]) = 1 := sumNext_empty _ _ rfl
    have e1 : sumNext (sumNext 1 s) (ByteArray.mk #[]) = sumNext 1 s := sumNext_empty _ _ rfl
    have E0 := Lib.hid e0
    have E1 := Lib.hid e1
    have HS := Lib.hid hsm
    clear e0 e1 hsm
    go_wp2_with fail
    refine (sumText_any _ _ (by decide)).mono ?_
    rintro e w4 ⟨rfl, hb4⟩
    rw [E0.out]
    go_wp2_with fail
    refine (sumNext_yes _ _ _ (by decide) HS.out.2 HS.out.1).mono ?_
    rintro e w5 ⟨rfl, hb5⟩
    rw [E1.out]
    go_wp2
    go_ret
    exact ⟨rfl, hb.trans ((hb4.trans (hb5.mono hb4.size)).mono hb.size)⟩

set_option maxHeartbeats 1000000 in
theorem walk_fnSumZero (a0 : Option Addr) (len0 cap0 : Nat) (z0 : List Int) (w : World) (w0 : IsRow .u8 w a0 len0 cap0 z0) :
    Calls Try.prog 8 #[.slice a0 len0 cap0] w fun e w' => e = .returned (.bool true) ∧ Below w.heap.size w w' := by
  have H := Lib.hid w0
  clear w0
  by_cases hl : (1048576 : Int) < len0
  · go_enter Try.func8, Try.ntmps8
    go_wp2
    go_ret
    exact ⟨rfl, Below.refl _ _⟩
  · go_enter Try.func8, Try.ntmps8
    go_wp2_with fail
    refine (drawSumText_any a0 len0 cap0 z0 _ H.out).mono ?_
    rintro e w1 ⟨s, rfl, hs, hb1⟩
    have hm : s.size ≤ maxLen := Nat.le_trans hs (by decide)
    go_wp2_with fail
    refine (sumText_any s _ hm).mono ?_
    rintro e w2 ⟨rfl, hb2⟩
    go_wp2_with fail
    refine (sSumText_any s _ hm).mono ?_
    rintro e w3 ⟨rfl, hb3⟩
    have hb : Below w.heap.size w w3 := hb1.trans ((hb2.trans (hb3.mono hb2.size)).mono hb1.size)
    clear hb1 hb2 hb3

    have hz := sumNext_zero s (ByteArray.mk #[0]) (by omega) rfl
    have hz' : (sumNext 1 (s ++ ByteArray.mk #[0]) != sumNext 1 s) = true := by simpa using hz
    have HZ := Lib.hid hz'
    clear hz'
    have hsz : (s ++ ByteArray.mk #[0]).size = s.size + 1 := by rw [ByteArray.size_append]; rfl
    have hmm : (s ++ ByteArray.mk #[0]).size ≤ maxLen := by rw [hsz]; exact Nat.le_trans (Nat.succ_le_succ hs) (by decide)
    have HM := Lib.hid hmm
    clear hz hsz hmm
    go_wp2_with fail
    refine (sumText_any _ _ HM.out).mono ?_
    rintro e w4 ⟨rfl, hb4⟩
    go_wp2
    go_ret
    exact ⟨ret_b HZ.out, hb.trans (hb4.mono hb.size)⟩

set_option maxHeartbeats 400000 in
theorem walk_fnExactSumText (a0 : ByteArray) (w0 : a0.size ≤ maxLen) (w : World) :
    Calls Try.prog 9 #[.string a0] w fun e w' => e = .returned (.bool true) ∧ Below w.heap.size w w' := by
  have hm := w0
  unfold maxLen at w0
  by_cases hl : (1048576 : Int) < a0.size
  · go_enter Try.func9, Try.ntmps9
    go_wp2
    go_ret
    exact ⟨rfl, Below.refl _ _⟩
  · go_enter Try.func9, Try.ntmps9
    go_wp2_with fail
    refine (sSumText_any a0 _ hm).mono ?_
    rintro e w1 ⟨rfl, hb1⟩
    go_wp2_with fail
    refine (sumText_any a0 _ hm).mono ?_
    rintro e w2 ⟨rfl, hb2⟩
    go_wp2
    go_ret
    exact ⟨rfl, hb1.trans (hb2.mono hb1.size)⟩

set_option maxHeartbeats 1000000 in
theorem walk_fnSumJoin (a0 : Option Addr) (len0 cap0 : Nat) (z0 : List Int) (a1 : Option Addr) (len1 cap1 : Nat) (z1 : List Int) (w : World) (w0 : IsRow .u8 w a0 len0 cap0 z0) (_w1 : IsRow .u8 w a1 len1 cap1 z1) :
    Calls Try.prog 5 #[.slice a0 len0 cap0, .slice a1 len1 cap1] w fun e w' => e = .returned (.bool true) ∧ Below w.heap.size w w' := by
  have H := Lib.hid w0
  clear w0 _w1
  by_cases hl : (1048576 : Int) < len0
  · go_enter Try.func5, Try.ntmps5
    go_wp2
    go_ret
    exact ⟨rfl, Below.refl _ _⟩
  by_cases hl1 : (1048576 : Int) < len1
  · go_enter Try.func5, Try.ntmps5
    go_wp2
    go_ret
    exact ⟨rfl, Below.refl _ _⟩
  · go_enter Try.func5, Try.ntmps5
    go_wp2_with fail
    refine (drawSumText_any a0 len0 cap0 z0 _ H.out).mono ?_
    rintro e w1 ⟨s, rfl, hs, hb1⟩
    have hm : s.size ≤ maxLen := Nat.le_trans hs (by decide)
    go_wp2_with fail
    refine (sumText_any s _ hm).mono ?_
    rintro e w2 ⟨rfl, hb2⟩
    go_wp2_with fail
    refine (sSumText_any s _ hm).mono ?_
    rintro e w3 ⟨rfl, hb3⟩
    have hb : Below w.heap.size w w3 := hb1.trans ((hb2.trans (hb3.mono hb2.size)).mono hb1.size)
    clear hb1 hb2 hb3
    have m0 : (0 : Int) ≤ (len1 : Int) % ((s.size : Int) + 1) := Int.emod_nonneg _ (by omega)
    have m1 : (len1 : Int) % ((s.size : Int) + 1) < ((s.size : Int) + 1) := Int.emod_lt_of_pos _ (by omega)
    obtain ⟨K, hK⟩ := Int.eq_ofNat_of_zero_le m0
    go_wp2_with fail
    rw [hK]
    rw [hK] at m1
    clear hK m0
    have k0 : (0 : Int) ≤ (K : Int) := Int.natCast_nonneg K

    have k1 : (K : Int) ≤ s.size := by omega
    have hj := sumNext_split 1 s K (by decide)
    have hsm := sum_text (s.extract 0 K)
    have HS := Lib.hid hsm
    clear hsm m1
    go_region_with (first | (go_at_call 11; refine (sumText_from w _ _ (by first | assumption | exact Below.drew (by assumption)) (by rw [ByteArray.size_extract]; omega)).mono ?_; rintro e w' ⟨rfl, hbn⟩) | (go_at_call 14; refine (sumNext_from w _ _ _ (by first | assumption | exact Below.drew (by assumption)) (by rw [ByteArray.size_extract]; omega) HS.out.2 HS.out.1).mono ?_; rintro e w' ⟨rfl, hbn⟩))
    all_goals first | (exfalso; omega) | (go_wp2; go_ret; exact ⟨rfl, by first | assumption | exact Below.drew (by assumption)⟩)

set_option maxHeartbeats 1000000 in
theorem walk_fnSumSwap (a0 : Option Addr) (len0 cap0 : Nat) (z0 : List Int) (a1 : Option Addr) (len1 cap1 : Nat) (z1 : List Int) (w : World) (w0 : IsRow .u8 w a0 len0 cap0 z0) (_w1 : IsRow .u8 w a1 len1 cap1 z1) :
    Calls Try.prog 7 #[.slice a0 len0 cap0, .slice a1 len1 cap1] w fun e w' => e = .returned (.bool true) ∧ Below w.heap.size w w' := by
  have H := Lib.hid w0
  clear w0 _w1
  by_cases hl : (1048576 : Int) < len0
  · go_enter Try.func7, Try.ntmps7
    go_wp2
    go_ret
    exact ⟨rfl, Below.refl _ _⟩
  by_cases hl1 : (1048576 : Int) < len1
  · go_enter Try.func7, Try.ntmps7
    go_wp2
    go_ret
    exact ⟨rfl, Below.refl _ _⟩
  · go_enter Try.func7, Try.ntmps7
    go_wp2_with fail
    refine (drawSumText_any a0 len0 cap0 z0 _ H.out).mono ?_
    rintro e w1 ⟨s, rfl, hs, hb1⟩
    have hm : s.size ≤ maxLen := Nat.le_trans hs (by decide)
    go_wp2_with fail
    refine (sumText_any s _ hm).mono ?_
    rintro e w2 ⟨rfl, hb2⟩
    go_wp2_with fail
    refine (sSumText_any s _ hm).mono ?_
    rintro e w3 ⟨rfl, hb3⟩
    have hb : Below w.heap.size w w3 := hb1.trans ((hb2.trans (hb3.mono hb2.size)).mono hb1.size)
    clear hb1 hb2 hb3

    by_cases h2 : (s.size : Int) < 2
    · go_wp2
      go_ret
      exact ⟨rfl, hb⟩
    have m0 : (0 : Int) ≤ (len1 : Int) % ((s.size : Int) - 1) := Int.emod_nonneg _ (by omega)
    have m1 : (len1 : Int) % ((s.size : Int) - 1) < ((s.size : Int) - 1) := Int.emod_lt_of_pos _ (by omega)
    obtain ⟨K, hK⟩ := Int.eq_ofNat_of_zero_le m0
    go_wp2_with fail
    rw [hK]
    rw [hK] at m1
    clear hK m0
    have k0 : (0 : Int) ≤ (K : Int) := Int.natCast_nonneg K

    have k1 : (K : Int) + 2 ≤ s.size := by omega
    have k2 : K + 2 ≤ s.size := by omega
    have hj := sumNext_swap s K k2
    have hbt := get_bt s
    have b0 := bt_nonneg s K
    have b1 := bt_le s K
    have b2 := bt_nonneg s (K + 1)
    have b3 := bt_le s (K + 1)
    have hq : ((sumNext 1 (s.extract 0 K ++ s.extract (K + 1) (K + 2) ++ s.extract K (K + 1) ++ s.extract (K + 2) s.size) == sumNext 1 s) == (bt s K == bt s (K + 1))) = true := by
      by_cases e : bt s K = bt s (K + 1)
      · rw [hj.2 e, e]; simp
      · have e' : ¬ sumNext 1 (s.extract 0 K ++ s.extract (K + 1) (K + 2) ++ s.extract K (K + 1) ++ s.extract (K + 2) s.size) = sumNext 1 s := fun h => e (hj.1 h)
        rw [beq_eq_false_iff_ne.2 e', beq_eq_false_iff_ne.2 e]; rfl
    have HQ := Lib.hid hq
    have i0 : (0 : Int) ≤ (K : Int) + 1 := by omega
    have i1 : (K : Int) + 1 < s.size := by omega
    have i2 : (K : Int) < s.size := by omega
    have i3 : IntKind.i64.wrap ((K : Int) + 1) = (K : Int) + 1 := IntWalk.i64_in _ ⟨by omega, by omega⟩
    have i4 : ((K : Int) + 1).toNat = K + 1 := by omega
    have i5 : K + 1 < s.size := by omega
    clear m1 hj hq
    go_quiet (fail)
    have hbn := below_drewN hb nq
    generalize World.drewN w3 nq = w4 at *
    go_wp2
    go_region_with (first | (go_at_call 11; refine (sumText_from w _ _ (by first | assumption | exact Below.drew (by assumption) | exact Below.drew (Below.drew (by assumption))) (by simp only [ByteArray.size_append, ByteArray.size_extract]; omega)).mono ?_; rintro e w' ⟨rfl, hbn⟩))
    all_goals first | (exfalso; omega) | (go_wp2; go_ret; exact ⟨ret_b HQ.out, by first | assumption | exact Below.drew (by assumption)⟩)

/-- A new row of one byte becomes a text. -/
theorem conv_one (w : World) (b : Nat) (x : Int) (c : Nat) (h : w.cell? ⟨b, 0, none⟩ = some (.int .u8 x)) :
    (convert 22 9 (.slice (some ⟨b, 0, none⟩) 1 c)).run Try.prog w = .ok (.string (strOfNums [x])) w :=
  run_convert_bytes_arg _ 22 5 Try.underlying22 Try.underlying5 b 0 1 c [x] rfl (fun i hi => by
    match i, hi with
    | 0, _ => simpa using h) 9 Try.underlying9
theorem isEmpty_of (s : ByteArray) : s.toList.isEmpty = decide (s.size = 0) := by
  rw [ByteArray.toList_eq, ← ByteArray.size_data, ← Array.length_toList]
  cases s.data.toList <;> simp

set_option maxHeartbeats 1000000 in
theorem walk_fnSumByte (a0 : Option Addr) (len0 cap0 : Nat) (z0 : List Int) (a1 : Option Addr) (len1 cap1 : Nat) (z1 : List Int) (w : World) (w0 : IsRow .u8 w a0 len0 cap0 z0) (_w1 : IsRow .u8 w a1 len1 cap1 z1) :
    Calls Try.prog 6 #[.slice a0 len0 cap0, .slice a1 len1 cap1] w fun e w' => e = .returned (.bool true) ∧ Below w.heap.size w w' := by
  have H := Lib.hid w0
  clear w0 _w1
  by_cases hl : (1048576 : Int) < len0
  · go_enter Try.func6, Try.ntmps6
    go_wp2
    go_ret
    exact ⟨rfl, Below.refl _ _⟩
  by_cases hl1 : (1048576 : Int) < len1
  · go_enter Try.func6, Try.ntmps6
    go_wp2
    go_ret
    exact ⟨rfl, Below.refl _ _⟩
  · go_enter Try.func6, Try.ntmps6
    go_wp2_with fail
    refine (drawSumText_any a0 len0 cap0 z0 _ H.out).mono ?_
    rintro e w1 ⟨s, rfl, hs, hb1⟩
    have hm : s.size ≤ maxLen := Nat.le_trans hs (by decide)
    go_wp2_with fail
    refine (sumText_any s _ hm).mono ?_
    rintro e w2 ⟨rfl, hb2⟩
    go_wp2_with fail
    refine (sSumText_any s _ hm).mono ?_
    rintro e w3 ⟨rfl, hb3⟩
    have hb : Below w.heap.size w w3 := hb1.trans ((hb2.trans (hb3.mono hb2.size)).mono hb1.size)
    clear hb1 hb2 hb3

    have hie := isEmpty_of s
    by_cases h2 : s.size = 0
    · have hie' : s.toList.isEmpty = true := by rw [hie]; simpa using h2
      clear hie
      go_wp2
      go_ret
      exact ⟨rfl, hb⟩
    have hie' : s.toList.isEmpty = false := by rw [hie]; simpa using h2
    clear hie
    have m0 : (0 : Int) ≤ (len1 : Int) % (s.size : Int) := Int.emod_nonneg _ (by omega)
    have m1 : (len1 : Int) % (s.size : Int) < (s.size : Int) := Int.emod_lt_of_pos _ (by omega)
    obtain ⟨K, hK⟩ := Int.eq_ofNat_of_zero_le m0
    go_wp2_with fail
    rw [hK]
    rw [hK] at m1
    clear hK m0
    have k0 : (0 : Int) ≤ (K : Int) := Int.natCast_nonneg K

    have k1 : (K : Int) + 1 ≤ s.size := by omega
    have k2 : K + 1 ≤ s.size := by omega
    have hbt := get_bt s
    have b0 := bt_nonneg s K
    have b1 := bt_le s K
    have hj := sumNext_byte s K k2 (IntKind.u8.wrap (bt s K + 1)) (by rw [IntKind.wrap_u8]; omega) (by rw [IntKind.wrap_u8]; omega) (by rw [IntKind.wrap_u8]; omega)
    have hq : (sumNext 1 (s.extract 0 K ++ strOfNums [IntKind.u8.wrap (bt s K + 1)] ++ s.extract (K + 1) s.size) != sumNext 1 s) = true := by simpa using hj
    have HQ := Lib.hid hq
    have hcv := conv_one
    have hz := strOfNums_size [IntKind.u8.wrap (bt s K + 1)]

    have i0 : (0 : Int) ≤ (K : Int) + 1 := by omega
    have i2 : (K : Int) < s.size := by omega
    have i3 : IntKind.i64.wrap ((K : Int) + 1) = (K : Int) + 1 := IntWalk.i64_in _ ⟨by omega, by omega⟩
    have i4 : ((K : Int) + 1).toNat = K + 1 := by omega
    have y1 : ¬ 9223372036854775807 < K + (strOfNums [IntKind.u8.wrap (bt s K + 1)]).size := by rw [hz]; simp; omega
    have y2 : ¬ 9223372036854775807 < K + (strOfNums [IntKind.u8.wrap (bt s K + 1)]).size + (s.size - (K + 1)) := by rw [hz]; simp; omega
    clear m1 hj hq hz
    go_region_with (first | (go_at_call 11; refine (sumText_from w _ _ (by first | assumption | exact Below.drew (by assumption) | exact Below.drew (hb.alloc hb.size _) | exact hb.alloc hb.size _) (by simp only [ByteArray.size_append, ByteArray.size_extract, strOfNums_size, List.length_cons, List.length_nil]; omega)).mono ?_; rintro e w' ⟨rfl, hbn⟩))
    all_goals first | (exfalso; omega) | (go_wp2; go_ret; exact ⟨ret_b HQ.out, by first | assumption | exact Below.drew (by assumption)⟩)

end Go.Proofs.Ytmmgngdebjndbaa
