/- The walks of the laws on captures that are written: PutBad, Size, Put. -/
import Derived.Test.YtodpbjomiplphaaK83
import Derived.Test.YtodpbjomiplphaaK76
import Derived.Test.YtodpbjomiplphaaK87
import Derived.Handy
namespace Go.Proofs.Ytodpbjomiplphaa
open Go.RowKit Go.PlainAid

theorem cap_four {rs : List (Int × ByteArray)} {S : ByteArray} (h : capS rs = S) : S.extract 0 4 = tap1 := by
  subst h
  have hz : 4 ≤ (capS rs).size := by rw [capS_size]; omega
  refine same_bt (by rw [size_cut _ _ _ hz, tap1_size]) fun i hi => ?_
  rw [size_cut _ _ _ hz] at hi
  rw [bt_cut _ _ _ _ (by omega), Nat.zero_add]
  exact bt_left tap1 (recsS rs) i (by rw [tap1_size]; omega)

set_option maxHeartbeats 4000000 in
theorem walk_fnCapturePutBad (a0 : Option Addr) (len0 cap0 : Nat) (z0 : List Int) (w : World) (w0 : IsRow .u8 w a0 len0 cap0 z0) :
    Calls Try.prog 4 #[.slice a0 len0 cap0] w fun e w' => e = .returned (.bool true) ∧ Below w.heap.size w w' := by
  have H := Lib.hid w0
  clear w0
  by_cases hl : (1048576 : Int) < len0
  · go_enter Try.func4, Try.ntmps4
    go_wp2
    go_ret
    exact ⟨rfl, Below.refl _ _⟩
  · go_enter Try.func4, Try.ntmps4
    go_wp2_with fail
    refine (drawCapturePut_any a0 len0 cap0 z0 _ H.out).mono ?_
    rintro e w1 ⟨g, k, cap, rs, rfl, nk, ng, hch, hfz, hsm, hb1⟩
    have hcl := hch.length
    have GA := Lib.hid hch
    have HZ := Lib.hid (show ∀ r ∈ rs, r.2.size ≤ maxLen from fun r hr => Nat.le_trans (hsm r hr).2 (by decide))
    clear hch hfz hsm ng
    by_cases hc : CapOk rs
    · have HC := Lib.hid hc
      clear hc
      obtain ⟨S, hS⟩ : ∃ S, capS rs = S := ⟨_, rfl⟩
      have HS := Lib.hid hS
      have sz : S.size ≤ 7564 := by rw [← hS]; exact capS_le HC.out
      have sz4 : 4 ≤ S.size := by rw [← hS, capS_size]; omega
      have ne1 := text_some (s := S) (by omega)
      have ne2 : S.toList.isEmpty = false := by simpa using ne1
      clear hS
      go_wp2_with fail
      refine (capturePut_yes _ k cap rs _ GA.out HC.out).mono ?_
      rw [HS.out]
      rintro e w2 ⟨rfl, hb2⟩
      have HB2 := Lib.hid (hb1.trans (hb2.mono hb1.size))
      have GA := Lib.hid ((GA.out).below hb2)
      clear hb2
      go_wp2_with fail
      refine (sCapturePut_yes _ k cap rs _ GA.out HC.out).mono ?_
      rw [HS.out]
      rintro e w3 ⟨rfl, hb3⟩
      have HB3 := Lib.hid (HB2.out.trans (hb3.mono HB2.out.size))
      have GA := Lib.hid ((GA.out).below hb3)
      clear hb3
      have HV := Lib.hid (capV_yes HC.out)
      go_wp2_with fail
      refine (captureValid_any _ k cap rs _ GA.out HZ.out).mono ?_
      rw [HV.out]
      rintro e w4 ⟨rfl, hb4⟩
      have HB4 := Lib.hid (HB3.out.trans (hb4.mono HB3.out.size))
      have GA := Lib.hid ((GA.out).below hb4)
      clear hb4
      go_wp2
      go_ret
      exact ⟨rfl, HB4.out⟩
    · have HC := Lib.hid hc
      clear hc
      go_wp2_with fail
      refine (capturePut_no _ k cap rs _ GA.out HZ.out HC.out).mono ?_
      rintro e w2 ⟨rfl, hb2⟩
      have HB2 := Lib.hid (hb1.trans (hb2.mono hb1.size))
      have GA := Lib.hid ((GA.out).below hb2)
      clear hb2
      go_wp2_with fail
      refine (sCapturePut_no _ k cap rs _ GA.out HZ.out HC.out).mono ?_
      rintro e w3 ⟨rfl, hb3⟩
      have HB3 := Lib.hid (HB2.out.trans (hb3.mono HB2.out.size))
      have GA := Lib.hid ((GA.out).below hb3)
      clear hb3
      have HV := Lib.hid (capV_no HC.out)
      go_wp2_with fail
      refine (captureValid_any _ k cap rs _ GA.out HZ.out).mono ?_
      rw [HV.out]
      rintro e w4 ⟨rfl, hb4⟩
      have HB4 := Lib.hid (HB3.out.trans (hb4.mono HB3.out.size))
      have GA := Lib.hid ((GA.out).below hb4)
      clear hb4
      go_wp2
      go_ret
      exact ⟨rfl, HB4.out⟩

set_option maxHeartbeats 4000000 in
theorem walk_fnCaptureSize (a0 : Option Addr) (len0 cap0 : Nat) (z0 : List Int) (w : World) (w0 : IsRow .u8 w a0 len0 cap0 z0) :
    Calls Try.prog 5 #[.slice a0 len0 cap0] w fun e w' => e = .returned (.bool true) ∧ Below w.heap.size w w' := by
  have H := Lib.hid w0
  clear w0
  by_cases hl : (1048576 : Int) < len0
  · go_enter Try.func5, Try.ntmps5
    go_wp2
    go_ret
    exact ⟨rfl, Below.refl _ _⟩
  · go_enter Try.func5, Try.ntmps5
    go_wp2_with fail
    refine (drawCapturePut_any a0 len0 cap0 z0 _ H.out).mono ?_
    rintro e w1 ⟨g, k, cap, rs, rfl, nk, ng, hch, hfz, hsm, hb1⟩
    have hcl := hch.length
    have GA := Lib.hid hch
    have HZ := Lib.hid (show ∀ r ∈ rs, r.2.size ≤ maxLen from fun r hr => Nat.le_trans (hsm r hr).2 (by decide))
    clear hch hfz hsm ng
    by_cases hc : CapOk rs
    · have HC := Lib.hid hc
      clear hc
      obtain ⟨S, hS⟩ : ∃ S, capS rs = S := ⟨_, rfl⟩
      have HS := Lib.hid hS
      have sz : S.size ≤ 7564 := by rw [← hS]; exact capS_le HC.out
      have sz4 : 4 ≤ S.size := by rw [← hS, capS_size]; omega
      have ne1 := text_some (s := S) (by omega)
      have ne2 : S.toList.isEmpty = false := by simpa using ne1
      clear hS
      go_wp2_with fail
      refine (capturePut_yes _ k cap rs _ GA.out HC.out).mono ?_
      rw [HS.out]
      rintro e w2 ⟨rfl, hb2⟩
      have HB2 := Lib.hid (hb1.trans (hb2.mono hb1.size))
      have GA := Lib.hid ((GA.out).below hb2)
      clear hb2
      go_wp2_with fail
      refine (sCapturePut_yes _ k cap rs _ GA.out HC.out).mono ?_
      rw [HS.out]
      rintro e w3 ⟨rfl, hb3⟩
      have HB3 := Lib.hid (HB2.out.trans (hb3.mono HB2.out.size))
      have GA := Lib.hid ((GA.out).below hb3)
      clear hb3
      have k60 : k ≤ 60 := by have := HC.out.2; omega
      have HF := Lib.hid (cap_four HS.out)
      have HE := Lib.hid (show (S.size : Int) = 4 + ((recsS rs).size : Int) by rw [← HS.out, capS_size]; omega)
      have H4 := Lib.hid (show S.extract 0 4 = ByteArray.mk #[116, 97, 112, 49] from HF.out)
      go_wp2
      go_loopw [6, 7] (fun n i wr => ∃ j : Nat, j ≤ k ∧ i = .int .i64 j ∧ n = .int .i64 (4 + ((recsS (rs.take j)).size : Int)) ∧ (recsS (rs.take j)).size ≤ 126 * j ∧ Hid (Below w3.heap.size w3 wr)) (fun _ i _ => k - (intOf i).toNat)
      case atStart => exact ⟨0, Nat.zero_le _, rfl, rfl, Nat.le_refl _, Lib.hid (Below.refl _ _)⟩
      case round =>
        obtain ⟨j, hj, rfl, rfl, hz, hbel⟩ := hrel
        by_cases hlt : j < k
        · obtain ⟨p0, p1⟩ := GA.out.at hbel.out hlt
          have hkl : j < rs.length := by omega
          obtain ⟨t, ht⟩ : ∃ t, (rcAt rs j).1 = t := ⟨_, rfl⟩
          obtain ⟨y, hy⟩ : ∃ y, (rcAt rs j).2 = y := ⟨_, rfl⟩
          have y1 : y.size ≤ 120 := (recsOk_at hkl ht hy HC.out.1).2
          have EN : (recsS (rs.take (j + 1))).size = (recsS (rs.take j)).size + (6 + y.size) := by rw [take_rcAt hkl, show rcAt rs j = (t, y) from Prod.ext ht hy, recsS_snoc, ByteArray.size_append, recS_size]
          rw [ht] at p0
          rw [hy] at p1
          simp only [rc_add] at p0 p1
          obtain ⟨z, hzz⟩ : ∃ z, (recsS (rs.take j)).size = z := ⟨_, rfl⟩
          obtain ⟨z2, hzz2⟩ : ∃ z2, (recsS (rs.take (j + 1))).size = z2 := ⟨_, rfl⟩
          rw [hzz, hzz2] at EN
          rw [hzz] at hz ⊢
          have HE2 := Lib.hid (And.intro hzz2 EN)
          have e1 : IntKind.i64.wrap (4 + (z : Int) + 6) = 4 + (z : Int) + 6 := IntWalk.i64_in _ ⟨by omega, by omega⟩
          have e2 : IntKind.i64.wrap (4 + (z : Int) + 6 + (y.size : Int)) = 4 + (z : Int) + 6 + (y.size : Int) := IntWalk.i64_in _ ⟨by omega, by omega⟩
          clear ht hy hzz hzz2
          go_wp2
          go_roundw
          case rel => exact ⟨j + 1, by omega, by go_num, by rw [HE2.out.1]; exact congrArg (Value.int .i64) (by have := HE2.out.2; omega), by rw [HE2.out.1]; have := HE2.out.2; omega, hbel⟩
          case measure => simp [intOf]; omega
        · obtain rfl : j = k := by omega
          have E9 : (4 + ((recsS (rs.take j)).size : Int)) = (S.size : Int) := by rw [List.take_of_length_le (by omega), HE.out]
          rw [E9]
          have c4 : (4 : Int) ≤ (S.size : Int) := by omega
          have h4 := H4.out
          go_wp2
          go_ret
          exact ⟨rfl, HB3.out.trans (hbel.out.mono HB3.out.size)⟩
    · have HC := Lib.hid hc
      clear hc
      go_wp2_with fail
      refine (capturePut_no _ k cap rs _ GA.out HZ.out HC.out).mono ?_
      rintro e w2 ⟨rfl, hb2⟩
      have HB2 := Lib.hid (hb1.trans (hb2.mono hb1.size))
      have GA := Lib.hid ((GA.out).below hb2)
      clear hb2
      go_wp2_with fail
      refine (sCapturePut_no _ k cap rs _ GA.out HZ.out HC.out).mono ?_
      rintro e w3 ⟨rfl, hb3⟩
      have HB3 := Lib.hid (HB2.out.trans (hb3.mono HB2.out.size))
      have GA := Lib.hid ((GA.out).below hb3)
      clear hb3
      go_wp2
      go_ret
      exact ⟨rfl, HB3.out⟩

set_option maxHeartbeats 4000000 in
theorem walk_fnCapturePut (a0 : Option Addr) (len0 cap0 : Nat) (z0 : List Int) (w : World) (w0 : IsRow .u8 w a0 len0 cap0 z0) :
    Calls Try.prog 3 #[.slice a0 len0 cap0] w fun e w' => e = .returned (.bool true) ∧ Below w.heap.size w w' := by
  have H := Lib.hid w0
  clear w0
  by_cases hl : (1048576 : Int) < len0
  · go_enter Try.func3, Try.ntmps3
    go_wp2
    go_ret
    exact ⟨rfl, Below.refl _ _⟩
  · go_enter Try.func3, Try.ntmps3
    go_wp2_with fail
    refine (drawCapturePut_any a0 len0 cap0 z0 _ H.out).mono ?_
    rintro e w1 ⟨g, k, cap, rs, rfl, nk, ng, hch, hfz, hsm, hb1⟩
    have hcl := hch.length
    have GA := Lib.hid hch
    have HZ := Lib.hid (show ∀ r ∈ rs, r.2.size ≤ maxLen from fun r hr => Nat.le_trans (hsm r hr).2 (by decide))
    clear hch hfz hsm ng
    by_cases hc : CapOk rs
    · have HC := Lib.hid hc
      clear hc
      obtain ⟨S, hS⟩ : ∃ S, capS rs = S := ⟨_, rfl⟩
      have HS := Lib.hid hS
      have sz : S.size ≤ 7564 := by rw [← hS]; exact capS_le HC.out
      have sz4 : 4 ≤ S.size := by rw [← hS, capS_size]; omega
      have ne1 := text_some (s := S) (by omega)
      have ne2 : S.toList.isEmpty = false := by simpa using ne1
      clear hS
      go_wp2_with fail
      refine (capturePut_yes _ k cap rs _ GA.out HC.out).mono ?_
      rw [HS.out]
      rintro e w2 ⟨rfl, hb2⟩
      have HB2 := Lib.hid (hb1.trans (hb2.mono hb1.size))
      have GA := Lib.hid ((GA.out).below hb2)
      clear hb2
      go_wp2_with fail
      refine (sCapturePut_yes _ k cap rs _ GA.out HC.out).mono ?_
      rw [HS.out]
      rintro e w3 ⟨rfl, hb3⟩
      have HB3 := Lib.hid (HB2.out.trans (hb3.mono HB2.out.size))
      have GA := Lib.hid ((GA.out).below hb3)
      clear hb3
      have HB := Lib.hid (show BeginIs S rs S.size by rw [← HS.out]; exact cap_begin HC.out)
      go_wp2_with fail
      refine (captureGet_is S rs k _ (by omega) HB.out hcl).mono ?_
      rintro e w4 ⟨x1, cap1, rfl, hg1, hb4⟩
      have HB4 := Lib.hid (HB3.out.trans (hb4.mono HB3.out.size))
      have GA := Lib.hid ((GA.out).below hb4)
      clear hb4
      have G1 := Lib.hid hg1
      clear hg1
      go_wp2_with fail
      refine (sameRecords_same _ _ k cap1 cap rs _ G1.out GA.out).mono ?_
      rintro e w5 ⟨rfl, hb5⟩
      have HB5 := Lib.hid (HB4.out.trans (hb5.mono HB4.out.size))
      have GA := Lib.hid ((GA.out).below hb5)
      have G1 := Lib.hid ((G1.out).below hb5)
      clear hb5
      go_wp2
      go_ret
      exact ⟨rfl, HB5.out⟩
    · have HC := Lib.hid hc
      clear hc
      go_wp2_with fail
      refine (capturePut_no _ k cap rs _ GA.out HZ.out HC.out).mono ?_
      rintro e w2 ⟨rfl, hb2⟩
      have HB2 := Lib.hid (hb1.trans (hb2.mono hb1.size))
      have GA := Lib.hid ((GA.out).below hb2)
      clear hb2
      go_wp2_with fail
      refine (sCapturePut_no _ k cap rs _ GA.out HZ.out HC.out).mono ?_
      rintro e w3 ⟨rfl, hb3⟩
      have HB3 := Lib.hid (HB2.out.trans (hb3.mono HB2.out.size))
      have GA := Lib.hid ((GA.out).below hb3)
      clear hb3
      go_wp2
      go_ret
      exact ⟨rfl, HB3.out⟩

end Go.Proofs.Ytodpbjomiplphaa
