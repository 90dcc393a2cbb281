/- The walks of the exact laws on captures that are judged and written. -/
import Derived.Test.YtodpbjomiplphabK83
import Derived.Test.YtodpbjomiplphabK77
import Derived.Deep.RegionHeldLaw
import Derived.Handy
namespace Go.Proofs.Ytodpbjomiplphab
open Go.RowKit Go.PlainAid

theorem keptE {a b : Option Addr} {l1 c1 l2 c2 : Nat} {cs ds : List (Int × ByteArray)} {w W W' : World} (h : Rcs W a l1 c1 cs ∧ Rcs W b l2 c2 ds ∧ Below w.heap.size w W) (hb : Below W.heap.size W W') : Rcs W' a l1 c1 cs ∧ Rcs W' b l2 c2 ds ∧ Below w.heap.size w W' :=
  ⟨h.1.below hb, h.2.1.below hb, h.2.2.trans (hb.mono h.2.2.size)⟩

set_option maxHeartbeats 4000000 in
theorem walk_fnExactCaptureValid (a : Option Addr) (len cap : Nat) (cs : List (Int × ByteArray)) (w1 : World) (hch : Rcs w1 a len cap cs) (hz : ∀ c ∈ cs, c.2.size ≤ maxLen) :
    Calls Try.prog 6 #[.slice a len cap] w1 fun e w' => e = .returned (.bool true) ∧ Below w1.heap.size w1 w' := by
  have hb1 := Below.refl w1.heap.size w1
  have GA := Lib.hid hch
  have HZ := Lib.hid hz
  clear hch hz
  obtain ⟨z0, hz0⟩ : ∃ z0, capV cs = z0 := ⟨_, rfl⟩
  have HV := Lib.hid hz0
  clear hz0
  go_enter Try.func6, Try.ntmps6
  go_wp2_with fail
  refine (szRecordS_any a len cap cs _ GA.out HZ.out).mono ?_
  rintro e w2 ⟨⟨z, rfl, hzz⟩, hb2⟩
  have HB2 := Lib.hid (hb1.trans (hb2.mono hb1.size))
  have GA := Lib.hid ((GA.out).below hb2)
  clear hb2
  rcases hzz with rfl | ⟨y0, y1⟩
  · go_wp2
    go_ret
    exact ⟨rfl, HB2.out⟩
  · have yn : ¬ z < 0 := by omega
    have HLE := Lib.hid y1
    clear y0 y1
    go_wp2_with fail
    refine (toRecordS_any a len cap cs _ GA.out HLE.out).mono ?_
    rintro e w3 ⟨⟨d1, rfl, hd1, hg1, hl1⟩, hb3⟩
    have HB3 := Lib.hid (HB2.out.trans (hb3.mono HB2.out.size))
    have GA := Lib.hid ((GA.out).below hb3)
    clear hb3
    clear hd1 hl1
    have G1 := Lib.hid hg1
    clear hg1
    go_wp2_with fail
    refine (sCaptureValid_any _ len len cs _ G1.out HZ.out).mono ?_
    rw [HV.out]
    rintro e w4 ⟨rfl, hb4⟩
    have HB4 := Lib.hid (HB3.out.trans (hb4.mono HB3.out.size))
    have GA := Lib.hid ((GA.out).below hb4)
    have G1 := Lib.hid ((G1.out).below hb4)
    clear hb4
    go_wp2_with fail
    refine (toRecordS_any a len cap cs _ GA.out HLE.out).mono ?_
    rintro e w5 ⟨⟨d2, rfl, hd2, hg2, hl2⟩, hb5⟩
    have HB5 := Lib.hid (HB4.out.trans (hb5.mono HB4.out.size))
    have GA := Lib.hid ((GA.out).below hb5)
    have G1 := Lib.hid ((G1.out).below hb5)
    clear hb5
    clear hd2 hl2
    have G2 := Lib.hid hg2
    clear hg2
    go_wp2_with fail
    refine (captureValid_any _ len len cs _ G2.out HZ.out).mono ?_
    rw [HV.out]
    rintro e w6 ⟨rfl, hb6⟩
    have HB6 := Lib.hid (HB5.out.trans (hb6.mono HB5.out.size))
    have GA := Lib.hid ((GA.out).below hb6)
    have G1 := Lib.hid ((G1.out).below hb6)
    have G2 := Lib.hid ((G2.out).below hb6)
    clear hb6
    go_wp2_with fail
    refine (toRecordS_any a len cap cs _ GA.out HLE.out).mono ?_
    rintro e w7 ⟨⟨d3, rfl, hd3, hg3, hl3⟩, hb7⟩
    have HB7 := Lib.hid (HB6.out.trans (hb7.mono HB6.out.size))
    have GA := Lib.hid ((GA.out).below hb7)
    have G1 := Lib.hid ((G1.out).below hb7)
    have G2 := Lib.hid ((G2.out).below hb7)
    clear hb7
    clear hd3 hl3
    have G3 := Lib.hid hg3
    clear hg3
    go_wp2_with fail
    refine (eqRecordS_same _ _ len len len cs _ G2.out G3.out).mono ?_
    rintro e w8 ⟨rfl, hb8⟩
    have HB8 := Lib.hid (HB7.out.trans (hb8.mono HB7.out.size))
    have GA := Lib.hid ((GA.out).below hb8)
    have G1 := Lib.hid ((G1.out).below hb8)
    have G2 := Lib.hid ((G2.out).below hb8)
    have G3 := Lib.hid ((G3.out).below hb8)
    clear hb8
    go_wp2
    go_ret
    exact ⟨rfl, HB8.out⟩

set_option maxHeartbeats 4000000 in
theorem walk_fnExactCapturePut (a : Option Addr) (len cap : Nat) (cs : List (Int × ByteArray)) (w1 : World) (hch : Rcs w1 a len cap cs) (hz : ∀ c ∈ cs, c.2.size ≤ maxLen) :
    Calls Try.prog 7 #[.slice a len cap] w1 fun e w' => e = .returned (.bool true) ∧ Below w1.heap.size w1 w' := by
  have hb1 := Below.refl w1.heap.size w1
  have GA := Lib.hid hch
  have HZ := Lib.hid hz
  clear hch hz
  by_cases hc : CapOk cs
  · obtain ⟨S, hS⟩ : ∃ S, capS cs = S := ⟨_, rfl⟩
    have HS := Lib.hid hS
    clear hS
    go_enter Try.func7, Try.ntmps7
    have HC := Lib.hid hc
    clear hc
    go_wp2_with fail
    refine (szRecordS_any a len cap cs _ GA.out HZ.out).mono ?_
    rintro e w2 ⟨⟨z, rfl, hzz⟩, hb2⟩
    have HB2 := Lib.hid (hb1.trans (hb2.mono hb1.size))
    have GA := Lib.hid ((GA.out).below hb2)
    clear hb2
    rcases hzz with rfl | ⟨y0, y1⟩
    · go_wp2
      go_ret
      exact ⟨rfl, HB2.out⟩
    · have yn : ¬ z < 0 := by omega
      have HLE := Lib.hid y1
      clear y0 y1
      go_wp2_with fail
      refine (toRecordS_any a len cap cs _ GA.out HLE.out).mono ?_
      rintro e w3 ⟨⟨d1, rfl, hd1, hg1, hl1⟩, hb3⟩
      have HB3 := Lib.hid (HB2.out.trans (hb3.mono HB2.out.size))
      have GA := Lib.hid ((GA.out).below hb3)
      clear hb3
      clear hd1 hl1
      have G1 := Lib.hid hg1
      clear hg1
      go_wp2_with fail
      refine (sCapturePut_yes _ len len cs _ G1.out HC.out).mono ?_
      rw [HS.out]
      rintro e w4 ⟨rfl, hb4⟩
      have HB4 := Lib.hid (HB3.out.trans (hb4.mono HB3.out.size))
      have GA := Lib.hid ((GA.out).below hb4)
      have G1 := Lib.hid ((G1.out).below hb4)
      clear hb4
      go_wp2_with fail
      refine (toRecordS_any a len cap cs _ GA.out HLE.out).mono ?_
      rintro e w5 ⟨⟨d2, rfl, hd2, hg2, hl2⟩, hb5⟩
      have HB5 := Lib.hid (HB4.out.trans (hb5.mono HB4.out.size))
      have GA := Lib.hid ((GA.out).below hb5)
      have G1 := Lib.hid ((G1.out).below hb5)
      clear hb5
      clear hd2 hl2
      have G2 := Lib.hid hg2
      clear hg2
      go_wp2_with fail
      refine (capturePut_yes _ len len cs _ G2.out HC.out).mono ?_
      rw [HS.out]
      rintro e w6 ⟨rfl, hb6⟩
      have HB6 := Lib.hid (HB5.out.trans (hb6.mono HB5.out.size))
      have GA := Lib.hid ((GA.out).below hb6)
      have G1 := Lib.hid ((G1.out).below hb6)
      have G2 := Lib.hid ((G2.out).below hb6)
      clear hb6
      go_wp2_with fail
      refine (toRecordS_any a len cap cs _ GA.out HLE.out).mono ?_
      rintro e w7 ⟨⟨d3, rfl, hd3, hg3, hl3⟩, hb7⟩
      have HB7 := Lib.hid (HB6.out.trans (hb7.mono HB6.out.size))
      have GA := Lib.hid ((GA.out).below hb7)
      have G1 := Lib.hid ((G1.out).below hb7)
      have G2 := Lib.hid ((G2.out).below hb7)
      clear hb7
      clear hd3 hl3
      have G3 := Lib.hid hg3
      clear hg3
      go_wp2_with fail
      refine (eqRecordS_same _ _ len len len cs _ G2.out G3.out).mono ?_
      rintro e w8 ⟨rfl, hb8⟩
      have HB8 := Lib.hid (HB7.out.trans (hb8.mono HB7.out.size))
      have GA := Lib.hid ((GA.out).below hb8)
      have G1 := Lib.hid ((G1.out).below hb8)
      have G2 := Lib.hid ((G2.out).below hb8)
      have G3 := Lib.hid ((G3.out).below hb8)
      clear hb8
      go_wp2
      go_ret
      exact ⟨rfl, HB8.out⟩
  · go_enter Try.func7, Try.ntmps7
    have HC := Lib.hid hc
    clear hc
    go_wp2_with fail
    refine (szRecordS_any a len cap cs _ GA.out HZ.out).mono ?_
    rintro e w2 ⟨⟨z, rfl, hzz⟩, hb2⟩
    have HB2 := Lib.hid (hb1.trans (hb2.mono hb1.size))
    have GA := Lib.hid ((GA.out).below hb2)
    clear hb2
    rcases hzz with rfl | ⟨y0, y1⟩
    · go_wp2
      go_ret
      exact ⟨rfl, HB2.out⟩
    · have yn : ¬ z < 0 := by omega
      have HLE := Lib.hid y1
      clear y0 y1
      go_wp2_with fail
      refine (toRecordS_any a len cap cs _ GA.out HLE.out).mono ?_
      rintro e w3 ⟨⟨d1, rfl, hd1, hg1, hl1⟩, hb3⟩
      have HB3 := Lib.hid (HB2.out.trans (hb3.mono HB2.out.size))
      have GA := Lib.hid ((GA.out).below hb3)
      clear hb3
      clear hd1 hl1
      have G1 := Lib.hid hg1
      clear hg1
      go_wp2_with fail
      refine (sCapturePut_no _ len len cs _ G1.out HZ.out HC.out).mono ?_
      rintro e w4 ⟨rfl, hb4⟩
      have HB4 := Lib.hid (HB3.out.trans (hb4.mono HB3.out.size))
      have GA := Lib.hid ((GA.out).below hb4)
      have G1 := Lib.hid ((G1.out).below hb4)
      clear hb4
      go_wp2_with fail
      refine (toRecordS_any a len cap cs _ GA.out HLE.out).mono ?_
      rintro e w5 ⟨⟨d2, rfl, hd2, hg2, hl2⟩, hb5⟩
      have HB5 := Lib.hid (HB4.out.trans (hb5.mono HB4.out.size))
      have GA := Lib.hid ((GA.out).below hb5)
      have G1 := Lib.hid ((G1.out).below hb5)
      clear hb5
      clear hd2 hl2
      have G2 := Lib.hid hg2
      clear hg2
      go_wp2_with fail
      refine (capturePut_no _ len len cs _ G2.out HZ.out HC.out).mono ?_
      rintro e w6 ⟨rfl, hb6⟩
      have HB6 := Lib.hid (HB5.out.trans (hb6.mono HB5.out.size))
      have GA := Lib.hid ((GA.out).below hb6)
      have G1 := Lib.hid ((G1.out).below hb6)
      have G2 := Lib.hid ((G2.out).below hb6)
      clear hb6
      go_wp2_with fail
      refine (toRecordS_any a len cap cs _ GA.out HLE.out).mono ?_
      rintro e w7 ⟨⟨d3, rfl, hd3, hg3, hl3⟩, hb7⟩
      have HB7 := Lib.hid (HB6.out.trans (hb7.mono HB6.out.size))
      have GA := Lib.hid ((GA.out).below hb7)
      have G1 := Lib.hid ((G1.out).below hb7)
      have G2 := Lib.hid ((G2.out).below hb7)
      clear hb7
      clear hd3 hl3
      have G3 := Lib.hid hg3
      clear hg3
      go_wp2_with fail
      refine (eqRecordS_same _ _ len len len cs _ G2.out G3.out).mono ?_
      rintro e w8 ⟨rfl, hb8⟩
      have HB8 := Lib.hid (HB7.out.trans (hb8.mono HB7.out.size))
      have GA := Lib.hid ((GA.out).below hb8)
      have G1 := Lib.hid ((G1.out).below hb8)
      have G2 := Lib.hid ((G2.out).below hb8)
      have G3 := Lib.hid ((G3.out).below hb8)
      clear hb8
      go_wp2
      go_ret
      exact ⟨rfl, HB8.out⟩

end Go.Proofs.Ytodpbjomiplphab
