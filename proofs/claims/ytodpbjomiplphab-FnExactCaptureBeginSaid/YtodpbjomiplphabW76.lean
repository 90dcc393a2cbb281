/- The walks of the exact laws on captures that are read. -/
import Derived.Test.YtodpbjomiplphabK81
import Derived.Test.YtodpbjomiplphabK87
import Derived.Handy
namespace Go.Proofs.Ytodpbjomiplphab
open Go.RowKit Go.PlainAid

theorem Own.below {k : Nat} {v : Value} {rs : List (Int × ByteArray)} {w W W' : World} (h : Own k v rs w W) (hb : Below W.heap.size W W') : Own k v rs w W' := h.up hb

set_option maxHeartbeats 4000000 in
theorem walk_fnExactCaptureGet (s : ByteArray) (_w0 : s.size ≤ maxLen) (w : World) :
    Calls Try.prog 8 #[.string s] w fun e w' => e = .returned (.bool true) ∧ Below w.heap.size w w' := by
  by_cases hl : (1048576 : Int) < s.size
  · go_enter Try.func8, Try.ntmps8
    go_wp2
    go_ret
    exact ⟨rfl, Below.refl _ _⟩
  · have hs8 : s.size ≤ 100000000 := by omega
    have HB1 := Lib.hid (Below.refl w.heap.size w)
    go_enter Try.func8, Try.ntmps8
    by_cases hc : ∃ rs, BeginIs s rs s.size
    · obtain ⟨rs, hp⟩ := hc
      obtain ⟨k, hk⟩ : ∃ k, rs.length = k := ⟨_, rfl⟩
      have HK := Lib.hid hp
      have HL := Lib.hid hk
      clear hp hk
      have k60 : k ≤ 60 := by have := HK.out.2.2.1; have := HL.out; omega
      have qn : ¬ 1 + 2 * (k : Int) < 0 := by omega
      go_wp2_with fail
      refine (sCaptureGet_is s rs k _ hs8 HK.out HL.out).mono ?_
      rintro e w2 ⟨x2, cap2, rfl, hg2, hb2⟩
      have HB2 := Lib.hid (HB1.out.trans (hb2.mono HB1.out.size))
      clear hb2
      have G2 := Lib.hid hg2
      clear hg2
      have LT := Lib.hid (rcs_lt G2.out)
      go_wp2_with fail
      refine (captureGet_own s rs k _ hs8 HK.out HL.out).mono ?_
      rintro e w3 ⟨x1, cap1, rfl, ho⟩
      have hb3 := ho.b
      have HB3 := Lib.hid (HB2.out.trans (hb3.mono HB2.out.size))
      have HS0 := Lib.hid (show w.heap.size ≤ w2.heap.size from HB2.out.size)
      have G2 := Lib.hid (G2.out.below hb3)
      have O1 := Lib.hid ho
      clear ho hb3
      go_wp2_with fail
      refine (eqRecordS_same _ _ k cap1 cap2 rs _ (Own.rcs O1.out) G2.out).mono ?_
      rintro e w4 ⟨rfl, hb4⟩
      have HB4 := Lib.hid (HB3.out.trans (hb4.mono HB3.out.size))
      have G2 := Lib.hid ((G2.out).below hb4)
      have O1 := Lib.hid ((O1.out).below hb4)
      clear hb4
      go_wp2_with fail
      refine (markOwn O1.out k60).mono ?_
      rintro e w5 ⟨rfl, hgm, hbm, _⟩
      have HB5 := Lib.hid (HB4.out.trans (hbm.mono HS0.out))
      have G2 := Lib.hid (G2.out.under hbm LT.out)
      have GM := Lib.hid hgm
      clear hgm hbm O1
      go_wp2_with fail
      refine (heldRecordS_any _ k cap1 _ k60 GM.out).mono ?_
      rintro e w6 ⟨rfl, hb6⟩
      have HB6 := Lib.hid (HB5.out.trans (hb6.mono HB5.out.size))
      have G2 := Lib.hid ((G2.out).below hb6)
      have GM := Lib.hid ((GM.out).below hb6)
      clear hb6
      go_wp2_with fail
      refine (captureGet_is s rs k _ hs8 HK.out HL.out).mono ?_
      rintro e w7 ⟨x3, cap3, rfl, hg3, hb7⟩
      have HB7 := Lib.hid (HB6.out.trans (hb7.mono HB6.out.size))
      have G2 := Lib.hid ((G2.out).below hb7)
      have GM := Lib.hid ((GM.out).below hb7)
      clear hb7
      have G3 := Lib.hid hg3
      clear hg3
      go_wp2_with fail
      refine (eqRecordS_same _ _ k cap3 cap2 rs _ G3.out G2.out).mono ?_
      rintro e w8 ⟨rfl, hb8⟩
      have HB8 := Lib.hid (HB7.out.trans (hb8.mono HB7.out.size))
      have G2 := Lib.hid ((G2.out).below hb8)
      have GM := Lib.hid ((GM.out).below hb8)
      have G3 := Lib.hid ((G3.out).below hb8)
      clear hb8
      go_wp2_with fail
      refine (heldRecordS_any _ k cap1 _ k60 GM.out).mono ?_
      rintro e w9 ⟨rfl, hb9⟩
      have HB9 := Lib.hid (HB8.out.trans (hb9.mono HB8.out.size))
      have G2 := Lib.hid ((G2.out).below hb9)
      have GM := Lib.hid ((GM.out).below hb9)
      have G3 := Lib.hid ((G3.out).below hb9)
      clear hb9
      go_wp2
      go_ret
      exact ⟨rfl, HB9.out⟩
    · have HN := Lib.hid (show ∀ rs, ¬ BeginIs s rs s.size from fun rs h => hc ⟨rs, h⟩)
      clear hc
      go_wp2_with fail
      refine (sCaptureGet_not s _ hs8 HN.out).mono ?_
      rintro e w2 ⟨x2, rfl, hg2, hb2⟩
      have HB2 := Lib.hid (HB1.out.trans (hb2.mono HB1.out.size))
      clear hb2
      have G2 := Lib.hid hg2
      clear hg2
      go_wp2_with fail
      refine (captureGet_not s _ hs8 HN.out).mono ?_
      rintro e w3 ⟨rfl, hb3⟩
      have HB3 := Lib.hid (HB2.out.trans (hb3.mono HB2.out.size))
      have G2 := Lib.hid ((G2.out).below hb3)
      clear hb3
      go_wp2_with fail
      refine (eqRecordS_same none _ 0 0 0 [] _ (Rcs.nil _) G2.out).mono ?_
      rintro e w4 ⟨rfl, hb4⟩
      have HB4 := Lib.hid (HB3.out.trans (hb4.mono HB3.out.size))
      have G2 := Lib.hid ((G2.out).below hb4)
      clear hb4
      go_wp2_with fail
      refine (markRecordS_none _).mono ?_
      rintro e w' ⟨rfl, rfl⟩
      go_wp2_with fail
      refine (heldRecordS_none _).mono ?_
      rintro e w5 ⟨rfl, hb5⟩
      have HB5 := Lib.hid (HB4.out.trans (hb5.mono HB4.out.size))
      have G2 := Lib.hid ((G2.out).below hb5)
      clear hb5
      go_wp2_with fail
      refine (captureGet_not s _ hs8 HN.out).mono ?_
      rintro e w6 ⟨rfl, hb6⟩
      have HB6 := Lib.hid (HB5.out.trans (hb6.mono HB5.out.size))
      have G2 := Lib.hid ((G2.out).below hb6)
      clear hb6
      go_wp2_with fail
      refine (eqRecordS_same none _ 0 0 0 [] _ (Rcs.nil _) G2.out).mono ?_
      rintro e w7 ⟨rfl, hb7⟩
      have HB7 := Lib.hid (HB6.out.trans (hb7.mono HB6.out.size))
      have G2 := Lib.hid ((G2.out).below hb7)
      clear hb7
      go_wp2_with fail
      refine (heldRecordS_none _).mono ?_
      rintro e w8 ⟨rfl, hb8⟩
      have HB8 := Lib.hid (HB7.out.trans (hb8.mono HB7.out.size))
      have G2 := Lib.hid ((G2.out).below hb8)
      clear hb8
      go_wp2
      go_ret
      exact ⟨rfl, HB8.out⟩

set_option maxHeartbeats 4000000 in
theorem walk_fnExactCaptureBegin (s : ByteArray) (_w0 : s.size ≤ maxLen) (w : World) :
    Calls Try.prog 9 #[.string s] w fun e w' => e = .returned (.bool true) ∧ Below w.heap.size w w' := by
  by_cases hl : (1048576 : Int) < s.size
  · go_enter Try.func9, Try.ntmps9
    go_wp2
    go_ret
    exact ⟨rfl, Below.refl _ _⟩
  · have hs8 : s.size ≤ 100000000 := by omega
    have HB1 := Lib.hid (Below.refl w.heap.size w)
    go_enter Try.func9, Try.ntmps9
    by_cases hc : 4 ≤ s.size ∧ s.extract 0 4 = tap1
    · obtain ⟨rs, q, hp⟩ := begin_some hc
      obtain ⟨k, hk⟩ : ∃ k, rs.length = k := ⟨_, rfl⟩
      have HK := Lib.hid hp
      have HL := Lib.hid hk
      clear hp hk hc
      have k60 : k ≤ 60 := by have := HK.out.2.2.1; have := HL.out; omega
      have qn : ¬ 1 + 2 * (k : Int) < 0 := by omega
      go_wp2_with fail
      refine (sCaptureBegin_is s rs q k _ hs8 HK.out HL.out).mono ?_
      rintro e w2 ⟨x2, cap2, rfl, hg2, hb2⟩
      have HB2 := Lib.hid (HB1.out.trans (hb2.mono HB1.out.size))
      clear hb2
      have G2 := Lib.hid hg2
      clear hg2
      have LT := Lib.hid (rcs_lt G2.out)
      go_wp2_with fail
      refine (captureBegin_own s rs q k _ hs8 HK.out HL.out).mono ?_
      rintro e w3 ⟨x1, cap1, rfl, ho⟩
      have hb3 := ho.b
      have HB3 := Lib.hid (HB2.out.trans (hb3.mono HB2.out.size))
      have HS0 := Lib.hid (show w.heap.size ≤ w2.heap.size from HB2.out.size)
      have G2 := Lib.hid (G2.out.below hb3)
      have O1 := Lib.hid ho
      clear ho hb3
      go_wp2_with fail
      refine (eqRecordS_same _ _ k cap1 cap2 rs _ (Own.rcs O1.out) G2.out).mono ?_
      rintro e w4 ⟨rfl, hb4⟩
      have HB4 := Lib.hid (HB3.out.trans (hb4.mono HB3.out.size))
      have G2 := Lib.hid ((G2.out).below hb4)
      have O1 := Lib.hid ((O1.out).below hb4)
      clear hb4
      go_wp2_with fail
      refine (markOwn O1.out k60).mono ?_
      rintro e w5 ⟨rfl, hgm, hbm, _⟩
      have HB5 := Lib.hid (HB4.out.trans (hbm.mono HS0.out))
      have G2 := Lib.hid (G2.out.under hbm LT.out)
      have GM := Lib.hid hgm
      clear hgm hbm O1
      go_wp2_with fail
      refine (heldRecordS_any _ k cap1 _ k60 GM.out).mono ?_
      rintro e w6 ⟨rfl, hb6⟩
      have HB6 := Lib.hid (HB5.out.trans (hb6.mono HB5.out.size))
      have G2 := Lib.hid ((G2.out).below hb6)
      have GM := Lib.hid ((GM.out).below hb6)
      clear hb6
      go_wp2_with fail
      refine (captureBegin_is s rs q k _ hs8 HK.out HL.out).mono ?_
      rintro e w7 ⟨x3, cap3, rfl, hg3, hb7⟩
      have HB7 := Lib.hid (HB6.out.trans (hb7.mono HB6.out.size))
      have G2 := Lib.hid ((G2.out).below hb7)
      have GM := Lib.hid ((GM.out).below hb7)
      clear hb7
      have G3 := Lib.hid hg3
      clear hg3
      go_wp2_with fail
      refine (eqRecordS_same _ _ k cap3 cap2 rs _ G3.out G2.out).mono ?_
      rintro e w8 ⟨rfl, hb8⟩
      have HB8 := Lib.hid (HB7.out.trans (hb8.mono HB7.out.size))
      have G2 := Lib.hid ((G2.out).below hb8)
      have GM := Lib.hid ((GM.out).below hb8)
      have G3 := Lib.hid ((G3.out).below hb8)
      clear hb8
      go_wp2_with fail
      refine (heldRecordS_any _ k cap1 _ k60 GM.out).mono ?_
      rintro e w9 ⟨rfl, hb9⟩
      have HB9 := Lib.hid (HB8.out.trans (hb9.mono HB8.out.size))
      have G2 := Lib.hid ((G2.out).below hb9)
      have GM := Lib.hid ((GM.out).below hb9)
      have G3 := Lib.hid ((G3.out).below hb9)
      clear hb9
      go_wp2
      go_ret
      exact ⟨rfl, HB9.out⟩
    · have HN := Lib.hid hc
      clear hc
      go_wp2_with fail
      refine (sCaptureBegin_not s _ hs8 HN.out).mono ?_
      rintro e w2 ⟨x2, rfl, hg2, hb2⟩
      have HB2 := Lib.hid (HB1.out.trans (hb2.mono HB1.out.size))
      clear hb2
      have G2 := Lib.hid hg2
      clear hg2
      go_wp2_with fail
      refine (captureBegin_not s _ hs8 HN.out).mono ?_
      rintro e w3 ⟨rfl, hb3⟩
      have HB3 := Lib.hid (HB2.out.trans (hb3.mono HB2.out.size))
      have G2 := Lib.hid ((G2.out).below hb3)
      clear hb3
      go_wp2_with fail
      refine (eqRecordS_same none _ 0 0 0 [] _ (Rcs.nil _) G2.out).mono ?_
      rintro e w4 ⟨rfl, hb4⟩
      have HB4 := Lib.hid (HB3.out.trans (hb4.mono HB3.out.size))
      have G2 := Lib.hid ((G2.out).below hb4)
      clear hb4
      go_wp2_with fail
      refine (markRecordS_none _).mono ?_
      rintro e w' ⟨rfl, rfl⟩
      go_wp2_with fail
      refine (heldRecordS_none _).mono ?_
      rintro e w5 ⟨rfl, hb5⟩
      have HB5 := Lib.hid (HB4.out.trans (hb5.mono HB4.out.size))
      have G2 := Lib.hid ((G2.out).below hb5)
      clear hb5
      go_wp2_with fail
      refine (captureBegin_not s _ hs8 HN.out).mono ?_
      rintro e w6 ⟨rfl, hb6⟩
      have HB6 := Lib.hid (HB5.out.trans (hb6.mono HB5.out.size))
      have G2 := Lib.hid ((G2.out).below hb6)
      clear hb6
      go_wp2_with fail
      refine (eqRecordS_same none _ 0 0 0 [] _ (Rcs.nil _) G2.out).mono ?_
      rintro e w7 ⟨rfl, hb7⟩
      have HB7 := Lib.hid (HB6.out.trans (hb7.mono HB6.out.size))
      have G2 := Lib.hid ((G2.out).below hb7)
      clear hb7
      go_wp2_with fail
      refine (heldRecordS_none _).mono ?_
      rintro e w8 ⟨rfl, hb8⟩
      have HB8 := Lib.hid (HB7.out.trans (hb8.mono HB7.out.size))
      have G2 := Lib.hid ((G2.out).below hb8)
      clear hb8
      go_wp2
      go_ret
      exact ⟨rfl, HB8.out⟩

end Go.Proofs.Ytodpbjomiplphab
