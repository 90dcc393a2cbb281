/- The walks of the laws on the beginning of captures: Begin, Cut. -/
import Derived.Test.YtodpbjomiplphaaK83
import Derived.Test.YtodpbjomiplphaaK76
import Derived.Test.YtodpbjomiplphaaK87
import Derived.Deep.RegionHeldLaw
import Derived.Handy
namespace Go.Proofs.Ytodpbjomiplphaa
open Go.RowKit Go.PlainAid

theorem keptT {a b : Option Addr} {k cap cap2 : Nat} {rs : List (Int × ByteArray)} {w W W' : World} (h : Rcs W a k cap rs ∧ Rcs W b k cap2 rs ∧ Below w.heap.size w W) (hb : Below W.heap.size W W') : Rcs W' a k cap rs ∧ Rcs W' b k cap2 rs ∧ Below w.heap.size w W' :=
  ⟨h.1.below hb, h.2.1.below hb, h.2.2.trans (hb.mono h.2.2.size)⟩
theorem keptG {a : Option Addr} {k cap : Nat} {rs : List (Int × ByteArray)} {w W W' : World} (h : Rcs W a k cap rs ∧ Below w.heap.size w W) (hb : Below W.heap.size W W') : Rcs W' a k cap rs ∧ Below w.heap.size w W' :=
  ⟨h.1.below hb, h.2.trans (hb.mono h.2.size)⟩

set_option maxHeartbeats 4000000 in
theorem walk_fnCaptureBegin (a0 : Option Addr) (len0 cap0 : Nat) (z0 : List Int) (w : World) (w0 : IsRow .u8 w a0 len0 cap0 z0) :
    Calls Try.prog 7 #[.slice a0 len0 cap0] w fun e w' => e = .returned (.bool true) ∧ Below w.heap.size w w' := by
  have H := Lib.hid w0
  clear w0
  by_cases hl : (1048576 : Int) < len0
  · go_enter Try.func7, Try.ntmps7
    go_wp2
    go_ret
    exact ⟨rfl, Below.refl _ _⟩
  · go_enter Try.func7, Try.ntmps7
    go_wp2_with fail
    refine (drawCaptureBegin_any a0 len0 cap0 z0 _ H.out).mono ?_
    rintro e w1 ⟨s, rfl, hsz, hb1⟩
    have hs8 : s.size ≤ 100000000 := by omega
    by_cases hc : 4 ≤ s.size ∧ s.extract 0 4 = tap1
    · obtain ⟨rs, q, hp⟩ := begin_some hc
      obtain ⟨k, hk⟩ : ∃ k, rs.length = k := ⟨_, rfl⟩
      have q4 := (begin_back hp).2.2.1
      have qs := (begin_back hp).2.2.2
      have HK := Lib.hid hp
      have HL := Lib.hid hk
      clear hp hk hc
      go_wp2_with fail
      refine (captureBegin_is s rs q k _ hs8 HK.out HL.out).mono ?_
      rintro e w2 ⟨x1, cap1, rfl, hg1, hb2⟩
      have HB2 := Lib.hid (hb1.trans (hb2.mono hb1.size))
      clear hb2
      have G1 := Lib.hid hg1
      clear hg1
      go_wp2_with fail
      refine (sCaptureBegin_is s rs q k _ hs8 HK.out HL.out).mono ?_
      rintro e w3 ⟨x2, cap2, rfl, hg2, hb3⟩
      have HB3 := Lib.hid (HB2.out.trans (hb3.mono HB2.out.size))
      have G1 := Lib.hid ((G1.out).below hb3)
      clear hb3
      have G2 := Lib.hid hg2
      clear hg2
      go_wp2_with fail
      refine (sameRecords_same _ _ k cap1 cap2 rs _ G1.out G2.out).mono ?_
      rintro e w4 ⟨rfl, hb4⟩
      have HB4 := Lib.hid (HB3.out.trans (hb4.mono HB3.out.size))
      have G1 := Lib.hid ((G1.out).below hb4)
      have G2 := Lib.hid ((G2.out).below hb4)
      clear hb4
      have HB := Lib.hid (begin_back HK.out)
      have q0 : ((q : Int) == 0) = false := by simpa using (by omega : q ≠ 0)
      have q1 : (0 : Int) ≤ (q : Int) := by omega
      have q2 : (q : Int) ≤ (s.size : Int) := by omega
      have q3 : (0 : Int) ≤ 0 := by omega
      have hS := Lib.hid (keptG (W := w4) (w := w4) ⟨G1.out, Below.refl _ _⟩ (Below.drew (Below.refl _ _)))
      go_wp2_with fail
      go_region_held_law (fun W => Rcs W x1 k cap1 rs ∧ Below w4.heap.size w4 W)
        (first | with_reducible assumption | with_reducible exact hS.out | exact keptG (by assumption) (by assumption))
        (first | (go_simp; go_at_call 12; refine (capturePut_yes _ k cap1 rs _ (And.left (by assumption)) HB.out.2.1).mono ?_; rw [HB.out.1]; rintro e w' ⟨rfl, hbn⟩))
      all_goals
        rename_i hHeld
        have HW := Lib.hid hHeld.2
        clear hHeld
        go_wp2
        go_ret
        exact ⟨rfl, HB4.out.trans (HW.out.mono HB4.out.size)⟩
    · have HN := Lib.hid hc
      clear hc
      go_wp2_with fail
      refine (captureBegin_not s _ hs8 HN.out).mono ?_
      rintro e w2 ⟨rfl, hb2⟩
      have HB2 := Lib.hid (hb1.trans (hb2.mono hb1.size))
      clear hb2
      go_wp2_with fail
      refine (sCaptureBegin_not s _ hs8 HN.out).mono ?_
      rintro e w3 ⟨x2, rfl, hg2, hb3⟩
      have HB3 := Lib.hid (HB2.out.trans (hb3.mono HB2.out.size))
      clear hb3
      have G2 := Lib.hid hg2
      clear hg2
      go_wp2_with fail
      refine (sameRecords_same none _ 0 0 0 [] _ (Rcs.nil _) G2.out).mono ?_
      rintro e w4 ⟨rfl, hb4⟩
      have HB4 := Lib.hid (HB3.out.trans (hb4.mono HB3.out.size))
      have G2 := Lib.hid ((G2.out).below hb4)
      clear hb4
      go_wp2_with fail
      refine (sameRecords_same none _ 0 0 0 [] _ (Rcs.nil _) G2.out).mono ?_
      rintro e w5 ⟨rfl, hb5⟩
      have HB5 := Lib.hid (HB4.out.trans (hb5.mono HB4.out.size))
      have G2 := Lib.hid ((G2.out).below hb5)
      clear hb5
      go_wp2
      go_ret
      exact ⟨rfl, HB5.out⟩

theorem cap_four {rs : List (Int × ByteArray)} {S : ByteArray} (h : capS rs = S) : S.extract 0 4 = tap1 := by
  subst h
  have hz : 4 ≤ (capS rs).size := by rw [capS_size]; omega
  refine same_bt (by rw [size_cut _ _ _ hz, tap1_size]) fun i hi => ?_
  rw [size_cut _ _ _ hz] at hi
  rw [bt_cut _ _ _ _ (by omega), Nat.zero_add]
  exact bt_left tap1 (recsS rs) i (by rw [tap1_size]; omega)

set_option maxHeartbeats 4000000 in
theorem walk_fnCaptureCut (a0 : Option Addr) (len0 cap0 : Nat) (z0 : List Int) (a1 : Option Addr) (len1 cap1 : Nat) (z1 : List Int) (w : World) (w0 : IsRow .u8 w a0 len0 cap0 z0) (_w1 : IsRow .u8 w a1 len1 cap1 z1) :
    Calls Try.prog 10 #[.slice a0 len0 cap0, .slice a1 len1 cap1] w fun e w' => e = .returned (.bool true) ∧ Below w.heap.size w w' := by
  have H := Lib.hid w0
  clear w0 _w1
  by_cases hl : (1048576 : Int) < len0
  · go_enter Try.func10, Try.ntmps10
    go_wp2
    go_ret
    exact ⟨rfl, Below.refl _ _⟩
  by_cases hl1 : (1048576 : Int) < len1
  · go_enter Try.func10, Try.ntmps10
    go_wp2
    go_ret
    exact ⟨rfl, Below.refl _ _⟩
  · go_enter Try.func10, Try.ntmps10
    go_wp2_with fail
    refine (drawCapturePut_any a0 len0 cap0 z0 _ H.out).mono ?_
    rintro e w1 ⟨g, k, cap, rs, rfl, nk, ng, hch, hfz, hsm, hb1⟩
    have hcl := hch.length
    have GA := Lib.hid hch
    have HZ := Lib.hid (show ∀ r ∈ rs, r.2.size ≤ maxLen from fun r hr => Nat.le_trans (hsm r hr).2 (by decide))
    clear hch hfz hsm ng
    by_cases hc : CapOk rs
    · have HC := Lib.hid hc
      clear hc
      obtain ⟨S, hS⟩ : ∃ S, capS rs = S := ⟨_, rfl⟩
      have HS := Lib.hid hS
      have sz : S.size ≤ 7564 := by rw [← hS]; exact capS_le HC.out
      have sz4 : 4 ≤ S.size := by rw [← hS, capS_size]; omega
      have ne1 := text_some (s := S) (by omega)
      have ne2 : S.toList.isEmpty = false := by simpa using ne1
      clear hS
      go_wp2_with fail
      refine (capturePut_yes _ k cap rs _ GA.out HC.out).mono ?_
      rw [HS.out]
      rintro e w2 ⟨rfl, hb2⟩
      have HB2 := Lib.hid (hb1.trans (hb2.mono hb1.size))
      have GA := Lib.hid ((GA.out).below hb2)
      clear hb2
      go_wp2_with fail
      refine (sCapturePut_yes _ k cap rs _ GA.out HC.out).mono ?_
      rw [HS.out]
      rintro e w3 ⟨rfl, hb3⟩
      have HB3 := Lib.hid (HB2.out.trans (hb3.mono HB2.out.size))
      have GA := Lib.hid ((GA.out).below hb3)
      clear hb3
      obtain ⟨D, hD⟩ : ∃ D, len1 % (S.size - 3) = D := ⟨_, rfl⟩
      have hDl : D < S.size - 3 := hD ▸ Nat.mod_lt _ (by omega)
      have r1 : IntKind.i64.wrap ((S.size : Int) - 3) = (S.size : Int) - 3 := IntWalk.i64_in _ ⟨by omega, by omega⟩
      have r0 : ¬ (S.size : Int) - 3 = 0 := by omega
      have r2 : (len1 : Int).tmod ((S.size : Int) - 3) = (D : Int) := by
        rw [Int.tmod_eq_emod_of_nonneg (by omega), show (S.size : Int) - 3 = ((S.size - 3 : Nat) : Int) by omega, ← hD]
        rfl
      have r3 : IntKind.i64.wrap (4 + (D : Int)) = 4 + (D : Int) := IntWalk.i64_in _ ⟨by omega, by omega⟩
      have b0 : (0 : Int) ≤ 4 + (D : Int) := by omega
      have b1 : 4 + (D : Int) ≤ (S.size : Int) := by omega
      have b2 : (4 + (D : Int)).toNat = 4 + D := by omega
      have hK : 4 + D ≤ S.size := by omega
      have HP := Lib.hid (show 4 ≤ (S.extract 0 (4 + D)).size ∧ (S.extract 0 (4 + D)).extract 0 4 = tap1 by
        refine ⟨by rw [size_cut _ _ _ hK]; omega, ?_⟩
        rw [ByteArray.extract_extract, show min (0 + 4) (4 + D) = 4 by omega]
        exact cap_four HS.out)
      obtain ⟨ds, q, hp⟩ := begin_some HP.out
      obtain ⟨j, hj⟩ : ∃ j, ds.length = j := ⟨_, rfl⟩
      have HB := Lib.hid (show BeginIs S rs S.size by rw [← HS.out]; exact cap_begin HC.out)
      obtain ⟨m1, m2, m3, m4⟩ := begin_cut hK HB.out hp
      have HK := Lib.hid hp
      have HL := Lib.hid hj
      have HM := Lib.hid (show ds = rs.take j from hj ▸ m2)
      rw [hj, hcl] at m1 m4
      clear hp hj m2 hD
      have q1 : (q : Int) ≤ 4 + (D : Int) := by omega
      have j1 : (j : Int) ≤ (k : Int) := by omega
      have hz7 : (S.extract 0 (4 + D)).size ≤ 100000000 := by rw [size_cut _ _ _ hK]; omega
      go_wp2_with fail
      go_wp2_with fail
      refine (captureBegin_is (S.extract 0 (4 + D)) ds q j _ hz7 HK.out HL.out).mono ?_
      rintro e w4 ⟨x1, capx, rfl, hg1, hb4⟩
      have HB4 := Lib.hid (HB3.out.trans (hb4.mono HB3.out.size))
      have GA := Lib.hid ((GA.out).below hb4)
      clear hb4
      have G1 := Lib.hid hg1
      clear hg1
      have jn : (0 : Int) ≤ (j : Int) := by omega
      have jc : (j : Int) ≤ (cap : Int) := by have := GA.out.len_le; omega
      have GT := Lib.hid (show Rcs w4 (some ⟨g, 0, none⟩) j cap ds by rw [HM.out]; exact rcs_take GA.out m1)
      by_cases hx : 4 + D < S.size
      · have d1 : decide (4 + (D : Int) < (S.size : Int)) = true := decide_eq_true (by omega)
        have d2 : 4 + (D : Int) < (S.size : Int) := by omega
        clear hx m4
        go_wp2_with fail
        refine (sameRecords_same _ _ j capx cap ds _ G1.out GT.out).mono ?_
        rintro e w5 ⟨rfl, hb5⟩
        have HB5 := Lib.hid (HB4.out.trans (hb5.mono HB4.out.size))
        have GA := Lib.hid ((GA.out).below hb5)
        have G1 := Lib.hid ((G1.out).below hb5)
        have GT := Lib.hid ((GT.out).below hb5)
        clear hb5
        go_wp2
        go_ret
        exact ⟨rfl, HB5.out⟩
      · have d1 : decide (4 + (D : Int) < (S.size : Int)) = false := decide_eq_false (by omega)
        have d2 : ¬ 4 + (D : Int) < (S.size : Int) := by omega
        obtain rfl : j = k := m4 (by omega)
        clear hx m4
        go_wp2_with fail
        refine (sameRecords_same _ _ j capx cap ds _ G1.out GT.out).mono ?_
        rintro e w5 ⟨rfl, hb5⟩
        have HB5 := Lib.hid (HB4.out.trans (hb5.mono HB4.out.size))
        have GA := Lib.hid ((GA.out).below hb5)
        have G1 := Lib.hid ((G1.out).below hb5)
        have GT := Lib.hid ((GT.out).below hb5)
        clear hb5
        go_wp2
        go_ret
        exact ⟨rfl, HB5.out⟩
    · have HC := Lib.hid hc
      clear hc
      go_wp2_with fail
      refine (capturePut_no _ k cap rs _ GA.out HZ.out HC.out).mono ?_
      rintro e w2 ⟨rfl, hb2⟩
      have HB2 := Lib.hid (hb1.trans (hb2.mono hb1.size))
      have GA := Lib.hid ((GA.out).below hb2)
      clear hb2
      go_wp2_with fail
      refine (sCapturePut_no _ k cap rs _ GA.out HZ.out HC.out).mono ?_
      rintro e w3 ⟨rfl, hb3⟩
      have HB3 := Lib.hid (HB2.out.trans (hb3.mono HB2.out.size))
      have GA := Lib.hid ((GA.out).below hb3)
      clear hb3
      go_wp2
      go_ret
      exact ⟨rfl, HB3.out⟩

end Go.Proofs.Ytodpbjomiplphaa
