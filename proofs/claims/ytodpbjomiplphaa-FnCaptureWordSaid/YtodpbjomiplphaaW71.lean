/- The walks of the laws on captures that are read: Get, BeginAll, Word. -/
import Derived.Test.YtodpbjomiplphaaK83
import Derived.Test.YtodpbjomiplphaaK76
import Derived.Test.YtodpbjomiplphaaK87
import Derived.Handy
namespace Go.Proofs.Ytodpbjomiplphaa
open Go.RowKit Go.PlainAid

theorem cap_whole {s : ByteArray} {rs : List (Int × ByteArray)} (h : BeginIs s rs s.size) : capS rs = s ∧ CapOk rs := by
  obtain ⟨h1, h2, _⟩ := begin_back h
  exact ⟨h1.trans ByteArray.extract_zero_size, h2⟩

set_option maxHeartbeats 4000000 in
theorem walk_fnCaptureGet (a0 : Option Addr) (len0 cap0 : Nat) (z0 : List Int) (w : World) (w0 : IsRow .u8 w a0 len0 cap0 z0) :
    Calls Try.prog 6 #[.slice a0 len0 cap0] w fun e w' => e = .returned (.bool true) ∧ Below w.heap.size w w' := by
  have H := Lib.hid w0
  clear w0
  by_cases hl : (1048576 : Int) < len0
  · go_enter Try.func6, Try.ntmps6
    go_wp2
    go_ret
    exact ⟨rfl, Below.refl _ _⟩
  · go_enter Try.func6, Try.ntmps6
    go_wp2_with fail
    refine (drawCaptureGet_any a0 len0 cap0 z0 _ H.out).mono ?_
    rintro e w1 ⟨s, rfl, hsz, hb1⟩
    have hs8 : s.size ≤ 100000000 := by omega
    by_cases hc : ∃ rs, BeginIs s rs s.size
    · obtain ⟨rs, hp⟩ := hc
      obtain ⟨k, hk⟩ : ∃ k, rs.length = k := ⟨_, rfl⟩
      have HK := Lib.hid hp
      have HL := Lib.hid hk
      clear hp hk
      go_wp2_with fail
      refine (captureGet_is s rs k _ hs8 HK.out HL.out).mono ?_
      rintro e w2 ⟨x1, cap1, rfl, hg1, hb2⟩
      have HB2 := Lib.hid (hb1.trans (hb2.mono hb1.size))
      clear hb2
      have G1 := Lib.hid hg1
      clear hg1
      go_wp2_with fail
      refine (sCaptureGet_is s rs k _ hs8 HK.out HL.out).mono ?_
      rintro e w3 ⟨x2, cap2, rfl, hg2, hb3⟩
      have HB3 := Lib.hid (HB2.out.trans (hb3.mono HB2.out.size))
      have G1 := Lib.hid ((G1.out).below hb3)
      clear hb3
      have G2 := Lib.hid hg2
      clear hg2
      go_wp2_with fail
      refine (sameRecords_same _ _ k cap1 cap2 rs _ G1.out G2.out).mono ?_
      rintro e w4 ⟨rfl, hb4⟩
      have HB4 := Lib.hid (HB3.out.trans (hb4.mono HB3.out.size))
      have G1 := Lib.hid ((G1.out).below hb4)
      have G2 := Lib.hid ((G2.out).below hb4)
      clear hb4
      have HB := Lib.hid (cap_whole HK.out)
      go_wp2_with fail
      refine (capturePut_yes _ k cap1 rs _ G1.out HB.out.2).mono ?_
      rw [HB.out.1]
      rintro e w5 ⟨rfl, hb5⟩
      have HB5 := Lib.hid (HB4.out.trans (hb5.mono HB4.out.size))
      have G1 := Lib.hid ((G1.out).below hb5)
      have G2 := Lib.hid ((G2.out).below hb5)
      clear hb5
      go_wp2
      go_ret
      exact ⟨rfl, HB5.out⟩
    · have HN := Lib.hid (show ∀ rs, ¬ BeginIs s rs s.size from fun rs h => hc ⟨rs, h⟩)
      clear hc
      go_wp2_with fail
      refine (captureGet_not s _ hs8 HN.out).mono ?_
      rintro e w2 ⟨rfl, hb2⟩
      have HB2 := Lib.hid (hb1.trans (hb2.mono hb1.size))
      clear hb2
      go_wp2_with fail
      refine (sCaptureGet_not s _ hs8 HN.out).mono ?_
      rintro e w3 ⟨x2, rfl, hg2, hb3⟩
      have HB3 := Lib.hid (HB2.out.trans (hb3.mono HB2.out.size))
      clear hb3
      have G2 := Lib.hid hg2
      clear hg2
      go_wp2_with fail
      refine (sameRecords_same none _ 0 0 0 [] _ (Rcs.nil _) G2.out).mono ?_
      rintro e w4 ⟨rfl, hb4⟩
      have HB4 := Lib.hid (HB3.out.trans (hb4.mono HB3.out.size))
      have G2 := Lib.hid ((G2.out).below hb4)
      clear hb4
      go_wp2_with fail
      refine (sameRecords_same none _ 0 0 0 [] _ (Rcs.nil _) G2.out).mono ?_
      rintro e w5 ⟨rfl, hb5⟩
      have HB5 := Lib.hid (HB4.out.trans (hb5.mono HB4.out.size))
      have G2 := Lib.hid ((G2.out).below hb5)
      clear hb5
      go_wp2
      go_ret
      exact ⟨rfl, HB5.out⟩

set_option maxHeartbeats 4000000 in
theorem walk_fnCaptureBeginAll (a0 : Option Addr) (len0 cap0 : Nat) (z0 : List Int) (w : World) (w0 : IsRow .u8 w a0 len0 cap0 z0) :
    Calls Try.prog 8 #[.slice a0 len0 cap0] w fun e w' => e = .returned (.bool true) ∧ Below w.heap.size w w' := by
  have H := Lib.hid w0
  clear w0
  by_cases hl : (1048576 : Int) < len0
  · go_enter Try.func8, Try.ntmps8
    go_wp2
    go_ret
    exact ⟨rfl, Below.refl _ _⟩
  · go_enter Try.func8, Try.ntmps8
    go_wp2_with fail
    refine (drawCaptureBegin_any a0 len0 cap0 z0 _ H.out).mono ?_
    rintro e w1 ⟨s, rfl, hsz, hb1⟩
    have hs8 : s.size ≤ 100000000 := by omega
    by_cases hc : 4 ≤ s.size ∧ s.extract 0 4 = tap1
    · obtain ⟨rs, q, hp⟩ := begin_some hc
      obtain ⟨k, hk⟩ : ∃ k, rs.length = k := ⟨_, rfl⟩
      have q4 := (begin_back hp).2.2.1
      have qs := (begin_back hp).2.2.2
      have HK := Lib.hid hp
      have HL := Lib.hid hk
      clear hp hk hc
      go_wp2_with fail
      refine (captureBegin_is s rs q k _ hs8 HK.out HL.out).mono ?_
      rintro e w2 ⟨x1, cap1, rfl, hg1, hb2⟩
      have HB2 := Lib.hid (hb1.trans (hb2.mono hb1.size))
      clear hb2
      have G1 := Lib.hid hg1
      clear hg1
      go_wp2_with fail
      refine (sCaptureBegin_is s rs q k _ hs8 HK.out HL.out).mono ?_
      rintro e w3 ⟨x2, cap2, rfl, hg2, hb3⟩
      have HB3 := Lib.hid (HB2.out.trans (hb3.mono HB2.out.size))
      have G1 := Lib.hid ((G1.out).below hb3)
      clear hb3
      have G2 := Lib.hid hg2
      clear hg2
      go_wp2_with fail
      refine (sameRecords_same _ _ k cap1 cap2 rs _ G1.out G2.out).mono ?_
      rintro e w4 ⟨rfl, hb4⟩
      have HB4 := Lib.hid (HB3.out.trans (hb4.mono HB3.out.size))
      have G1 := Lib.hid ((G1.out).below hb4)
      have G2 := Lib.hid ((G2.out).below hb4)
      clear hb4
      by_cases hq : q = s.size
      · have HE := Lib.hid (show BeginIs s rs s.size from hq ▸ HK.out)
        have e1 : ((q : Int) == (s.size : Int)) = true := beq_iff_eq.2 (by omega)
        have ne1 := text_some (s := s) (by omega)
        have ne2 : s.toList.isEmpty = false := by simpa using ne1
        clear hq
        go_wp2_with fail
        refine (captureGet_is s rs k _ hs8 HE.out HL.out).mono ?_
        rintro e w5 ⟨x3, cap3, rfl, hg3, hb5⟩
        have HB5 := Lib.hid (HB4.out.trans (hb5.mono HB4.out.size))
        have G1 := Lib.hid ((G1.out).below hb5)
        have G2 := Lib.hid ((G2.out).below hb5)
        clear hb5
        have G3 := Lib.hid hg3
        clear hg3
        go_wp2_with fail
        refine (sameRecords_same _ _ k cap3 cap1 rs _ G3.out G1.out).mono ?_
        rintro e w6 ⟨rfl, hb6⟩
        have HB6 := Lib.hid (HB5.out.trans (hb6.mono HB5.out.size))
        have G1 := Lib.hid ((G1.out).below hb6)
        have G2 := Lib.hid ((G2.out).below hb6)
        have G3 := Lib.hid ((G3.out).below hb6)
        clear hb6
        go_wp2
        go_ret
        exact ⟨rfl, HB6.out⟩
      · have HE := Lib.hid (show ∀ ds, ¬ BeginIs s ds s.size from fun ds h => hq (begin_one HK.out h).2)
        have e1 : ((q : Int) == (s.size : Int)) = false := by simpa using fun h : (q : Int) = (s.size : Int) => hq (by omega)
        clear hq
        go_wp2_with fail
        refine (captureGet_not s _ hs8 HE.out).mono ?_
        rintro e w5 ⟨rfl, hb5⟩
        have HB5 := Lib.hid (HB4.out.trans (hb5.mono HB4.out.size))
        have G1 := Lib.hid ((G1.out).below hb5)
        have G2 := Lib.hid ((G2.out).below hb5)
        clear hb5
        go_wp2
        go_ret
        exact ⟨rfl, HB5.out⟩
    · have HN := Lib.hid hc
      have HE := Lib.hid (show ∀ ds, ¬ BeginIs s ds s.size from fun ds h => hc h.1)
      clear hc
      go_wp2_with fail
      refine (captureBegin_not s _ hs8 HN.out).mono ?_
      rintro e w2 ⟨rfl, hb2⟩
      have HB2 := Lib.hid (hb1.trans (hb2.mono hb1.size))
      clear hb2
      go_wp2_with fail
      refine (sCaptureBegin_not s _ hs8 HN.out).mono ?_
      rintro e w3 ⟨x2, rfl, hg2, hb3⟩
      have HB3 := Lib.hid (HB2.out.trans (hb3.mono HB2.out.size))
      clear hb3
      have G2 := Lib.hid hg2
      clear hg2
      go_wp2_with fail
      refine (sameRecords_same none _ 0 0 0 [] _ (Rcs.nil _) G2.out).mono ?_
      rintro e w4 ⟨rfl, hb4⟩
      have HB4 := Lib.hid (HB3.out.trans (hb4.mono HB3.out.size))
      have G2 := Lib.hid ((G2.out).below hb4)
      clear hb4
      go_wp2_with fail
      refine (captureGet_not s _ hs8 HE.out).mono ?_
      rintro e w5 ⟨rfl, hb5⟩
      have HB5 := Lib.hid (HB4.out.trans (hb5.mono HB4.out.size))
      have G2 := Lib.hid ((G2.out).below hb5)
      clear hb5
      by_cases hq : s.size = 0
      · obtain rfl : s = ByteArray.empty := by simpa using hq
        go_wp2
        go_ret
        exact ⟨rfl, HB5.out⟩
      · have ne1 := text_some (s := s) (by omega)
        have ne2 : s.toList.isEmpty = false := by simpa using ne1
        have e1 : ((0 : Int) == (s.size : Int)) = false := by simpa using fun h : (0 : Int) = (s.size : Int) => hq (by omega)
        go_wp2
        go_ret
        exact ⟨rfl, HB5.out⟩

set_option maxHeartbeats 4000000 in
theorem walk_fnCaptureWord (a0 : Option Addr) (len0 cap0 : Nat) (z0 : List Int) (w : World) (w0 : IsRow .u8 w a0 len0 cap0 z0) :
    Calls Try.prog 9 #[.slice a0 len0 cap0] w fun e w' => e = .returned (.bool true) ∧ Below w.heap.size w w' := by
  have H := Lib.hid w0
  clear w0
  by_cases hl : (1048576 : Int) < len0
  · go_enter Try.func9, Try.ntmps9
    go_wp2
    go_ret
    exact ⟨rfl, Below.refl _ _⟩
  · go_enter Try.func9, Try.ntmps9
    go_wp2_with fail
    refine (drawCaptureBegin_any a0 len0 cap0 z0 _ H.out).mono ?_
    rintro e w1 ⟨s, rfl, hsz, hb1⟩
    have hs8 : s.size ≤ 100000000 := by omega
    by_cases hc : 4 ≤ s.size ∧ s.extract 0 4 = tap1
    · obtain ⟨rs, q, hp⟩ := begin_some hc
      obtain ⟨k, hk⟩ : ∃ k, rs.length = k := ⟨_, rfl⟩
      have q4 := (begin_back hp).2.2.1
      have qs := (begin_back hp).2.2.2
      have HK := Lib.hid hp
      have HL := Lib.hid hk
      clear hp hk hc
      go_wp2_with fail
      refine (captureBegin_is s rs q k _ hs8 HK.out HL.out).mono ?_
      rintro e w2 ⟨x1, cap1, rfl, hg1, hb2⟩
      have HB2 := Lib.hid (hb1.trans (hb2.mono hb1.size))
      clear hb2
      have G1 := Lib.hid hg1
      clear hg1
      go_wp2_with fail
      refine (sCaptureBegin_is s rs q k _ hs8 HK.out HL.out).mono ?_
      rintro e w3 ⟨x2, cap2, rfl, hg2, hb3⟩
      have HB3 := Lib.hid (HB2.out.trans (hb3.mono HB2.out.size))
      have G1 := Lib.hid ((G1.out).below hb3)
      clear hb3
      have G2 := Lib.hid hg2
      clear hg2
      go_wp2_with fail
      refine (sameRecords_same _ _ k cap1 cap2 rs _ G1.out G2.out).mono ?_
      rintro e w4 ⟨rfl, hb4⟩
      have HB4 := Lib.hid (HB3.out.trans (hb4.mono HB3.out.size))
      have G1 := Lib.hid ((G1.out).below hb4)
      have G2 := Lib.hid ((G2.out).below hb4)
      clear hb4
      have s4 : decide ((s.size : Int) < 4) = false := decide_eq_false (by omega)
      have s5 : (4 : Int) ≤ (s.size : Int) := by omega
      have h4 : s.extract 0 4 = ByteArray.mk #[116, 97, 112, 49] := HK.out.1.2
      have q0 : ((q : Int) == 0) = false := by simpa using (by omega : q ≠ 0)
      have q1 : decide ((q : Int) > 0) = true := decide_eq_true (by omega)
      go_wp2
      go_ret
      exact ⟨rfl, HB4.out⟩
    · have HN := Lib.hid hc
      clear hc
      go_wp2_with fail
      refine (captureBegin_not s _ hs8 HN.out).mono ?_
      rintro e w2 ⟨rfl, hb2⟩
      have HB2 := Lib.hid (hb1.trans (hb2.mono hb1.size))
      clear hb2
      go_wp2_with fail
      refine (sCaptureBegin_not s _ hs8 HN.out).mono ?_
      rintro e w3 ⟨x2, rfl, hg2, hb3⟩
      have HB3 := Lib.hid (HB2.out.trans (hb3.mono HB2.out.size))
      clear hb3
      have G2 := Lib.hid hg2
      clear hg2
      go_wp2_with fail
      refine (sameRecords_same none _ 0 0 0 [] _ (Rcs.nil _) G2.out).mono ?_
      rintro e w4 ⟨rfl, hb4⟩
      have HB4 := Lib.hid (HB3.out.trans (hb4.mono HB3.out.size))
      have G2 := Lib.hid ((G2.out).below hb4)
      clear hb4
      by_cases h4 : s.size < 4
      · have c4 : (s.size : Int) < 4 := by omega
        go_wp2
        go_ret
        exact ⟨rfl, HB4.out⟩
      · have c4 : ¬ (s.size : Int) < 4 := by omega
        have s5 : (4 : Int) ≤ (s.size : Int) := by omega
        have hne := text_ne (show s.extract 0 4 ≠ tap1 from fun h => HN.out ⟨by omega, h⟩)
        have hne' : ((s.extract 0 4).toList == [116, 97, 112, 49]) = false := by
          rw [show tap1.toList = [116, 97, 112, 49] by rw [ByteArray.toList_eq]; rfl] at hne
          exact hne
        have hne2 : ¬ (s.extract 0 4).toList = [116, 97, 112, 49] := by simpa using hne'
        clear hne
        go_wp2
        go_ret
        exact ⟨rfl, HB4.out⟩

end Go.Proofs.Ytodpbjomiplphaa
