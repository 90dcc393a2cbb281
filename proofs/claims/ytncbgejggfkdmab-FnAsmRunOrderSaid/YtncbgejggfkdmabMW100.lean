/- The walks of the laws on runs: later parts, the order. -/
import Derived.Handy
import Derived.Test.YtncbgejggfkdmabM11
namespace Go.Proofs.Ytncbgejggfkdmab
open Go.RowKit Go.PlainAid

theorem takeP_any {W : World} {a : Option Addr} {len cap j : Nat} {ps : List Part} (h : Pts W a len cap ps) (hj : j ≤ len) : Pts W a j cap (ps.take j) := by
  rcases h with ⟨rfl, rfl, rfl, rfl⟩ | ⟨x, rfl, h1, h2, h3, h4⟩
  · obtain rfl : j = 0 := by omega
    exact Pts.nil W
  · exact pts_take (.inr ⟨x, rfl, h1, h2, h3, h4⟩) hj
theorem takeM_any {W : World} {a : Option Addr} {len cap j : Nat} {ps : List Msg} (h : Mgs W a len cap ps) (hj : j ≤ len) : Mgs W a j cap (ps.take j) := by
  rcases h with ⟨rfl, rfl, rfl, rfl⟩ | ⟨x, rfl, h1, h2, h3, h4⟩
  · obtain rfl : j = 0 := by omega
    exact Mgs.nil W
  · exact mgs_take (.inr ⟨x, rfl, h1, h2, h3, h4⟩) hj
theorem order_any {n : Int} {ps : List Part} {rm : List Msg} (h : runV n ps = rm) (hl : ps.length ≤ 5000) (s : Nat) : ∀ i, i < (ofS rm s).length → (mAt (ofS rm s) i).ssn = (i : Int) := by
  intro i hi
  have hm : (mAt (ofS rm s) i).ssn = ((ofS rm s).map fun m => m.ssn).getD i 0 := by
    unfold mAt
    rw [List.getD_eq_getElem?_getD, List.getD_eq_getElem?_getD, List.getElem?_map, List.getElem?_eq_getElem hi]
    rfl
  rw [hm]
  subst h
  unfold runV at hi ⊢
  split at hi
  · rename_i hn
    rw [if_pos hn]
    by_cases hs : s < n.toNat
    · exact runL_order (by omega) (by omega) ps hl s i hs hi
    · rw [runL_far (by omega) (by omega) ps s (by omega)] at hi
      exact absurd hi (Nat.not_lt_zero _)
  · exact absurd hi (Nat.not_lt_zero _)

set_option maxHeartbeats 4000000 in
theorem walk_fnAsmRunPart (a0 : Option Addr) (len0 cap0 : Nat) (z0 : List Int) (b0 : Option Addr) (blen bcap : Nat) (bz : List Int) (w : World) (w0 : IsRow .u8 w a0 len0 cap0 z0) (_w1 : IsRow .u8 w b0 blen bcap bz) :
    Calls Try.prog 7 #[.slice a0 len0 cap0, .slice b0 blen bcap] w fun e w' => e = .returned (.bool true) ∧ Below w.heap.size w w' := by
  have H := Lib.hid w0
  clear w0 _w1
  by_cases hl : (1048576 : Int) < len0
  · go_enter Try.func7, Try.ntmps7
    go_wp2
    go_ret
    exact ⟨rfl, Below.refl _ _⟩
  by_cases hl1 : (1048576 : Int) < blen
  · go_enter Try.func7, Try.ntmps7
    go_wp2
    go_ret
    exact ⟨rfl, Below.refl _ _⟩
  · go_enter Try.func7, Try.ntmps7
    go_wp2_with fail
    refine (drawAsmRun_any a0 len0 cap0 z0 _ H.out).mono ?_
    rintro e w1 ⟨n, a, k, cap, ps, rfl, hn, hk13, _, hp, hb1⟩
    have PA := Lib.hid hp
    have KL := Lib.hid hp.length
    clear hp
    obtain ⟨rm, hr⟩ : ∃ r, runV n ps = r := ⟨_, rfl⟩
    have few := runV_few hr
    rw [KL.out] at few
    obtain ⟨n3, hn3⟩ : ∃ q, rm.length = q := ⟨_, rfl⟩
    rw [hn3] at few
    have HR := Lib.hid hr
    have HN := Lib.hid hn3
    clear hr hn3
    go_wp2_with fail
    refine (asmRun_is n a k cap ps _ PA.out (by omega) HR.out HN.out).mono ?_
    rintro e w2 ⟨g1, d1, rfl, ho1, hb2⟩
    have HB2 := Lib.hid (hb1.trans (hb2.mono hb1.size))
    have PA := Lib.hid ((PA.out).below hb2)
    clear hb2
    have M1 := Lib.hid (own_mgs ho1)
    clear ho1
    go_wp2_with fail
    refine (sAsmRun_is n a k cap ps _ PA.out (by omega) HR.out HN.out).mono ?_
    rintro e w3 ⟨g2, d2, rfl, ho2, hb3⟩
    have HB3 := Lib.hid (HB2.out.trans (hb3.mono HB2.out.size))
    have PA := Lib.hid ((PA.out).below hb3)
    have M1 := Lib.hid ((M1.out).below hb3)
    clear hb3
    have M2 := Lib.hid (own_mgs ho2)
    clear ho2
    go_wp2_with fail
    refine (sameMessages_same _ _ n3 d1 d2 rm _ M1.out M2.out).mono ?_
    rintro e w4 ⟨rfl, hb4⟩
    have HB4 := Lib.hid (HB3.out.trans (hb4.mono HB3.out.size))
    have PA := Lib.hid ((PA.out).below hb4)
    have M1 := Lib.hid ((M1.out).below hb4)
    have M2 := Lib.hid ((M2.out).below hb4)
    clear hb4
    obtain ⟨K, hK⟩ : ∃ K : Nat, blen % (k + 1) = K := ⟨_, rfl⟩
    have K1 : K ≤ k := by have := Nat.mod_lt blen (show k + 1 > 0 by omega); omega
    have eK : (blen : Int) % ((k : Int) + 1) = (K : Int) := by rw [← hK]; simp
    have eK' : Int.tmod (blen : Int) ((k : Int) + 1) = (K : Int) := by rw [Int.tmod_eq_emod_of_nonneg (by omega)]; exact eK
    have kn : ¬ (k : Int) + 1 = 0 := by omega
    clear hK
    obtain ⟨rt, hrt⟩ : ∃ r, runV n (ps.take K) = r := ⟨_, rfl⟩
    have few2 := runV_few hrt
    rw [List.length_take] at few2
    obtain ⟨n4, hn4⟩ : ∃ q, rt.length = q := ⟨_, rfl⟩
    rw [hn4] at few2
    obtain ⟨tl, htl⟩ : ∃ tl, rm = rt ++ tl := by
      rw [← HR.out, ← hrt]
      unfold runV
      split
      · exact runL_part ps K
      · exact ⟨[], rfl⟩
    have HT := Lib.hid htl
    have h43 : n4 ≤ n3 := by have := HN.out; rw [htl, List.length_append] at this; omega
    have HRT := Lib.hid hrt
    have HN4 := Lib.hid hn4
    have i43 : (n4 : Int) ≤ (n3 : Int) := by omega
    have iK : (K : Int) ≤ (k : Int) := by omega
    have PT := Lib.hid (takeP_any PA.out K1)
    have M3 := Lib.hid (takeM_any M1.out h43)
    have ET := Lib.hid (show rm.take n4 = rt by rw [HT.out, List.take_append_of_le_length (by have := HN4.out; omega), List.take_of_length_le (by have := HN4.out; omega)])
    have lc := PA.out.len_le
    have lm := M1.out.len_le
    have kc : (K : Int) ≤ (cap : Int) := by omega
    have mc : (n4 : Int) ≤ (d1 : Int) := by omega
    clear hrt hn4 htl few2
    go_wp2_with fail
    refine (asmRun_is n a K cap (ps.take K) _ PT.out (by omega) HRT.out HN4.out).mono ?_
    rintro e w5 ⟨g3, d3, rfl, ho3, hb5⟩
    have HB5 := Lib.hid (HB4.out.trans (hb5.mono HB4.out.size))
    have PA := Lib.hid ((PA.out).below hb5)
    have M1 := Lib.hid ((M1.out).below hb5)
    have M2 := Lib.hid ((M2.out).below hb5)
    have PT := Lib.hid ((PT.out).below hb5)
    have M3 := Lib.hid ((M3.out).below hb5)
    clear hb5
    have M4 := Lib.hid (own_mgs ho3)
    have M3 := Lib.hid (ET.out ▸ M3.out)
    clear ho3
    go_wp2_with fail
    refine (sameMessages_same _ _ n4 d1 d3 rt _ M3.out M4.out).mono ?_
    rintro e w6 ⟨rfl, hb6⟩
    have HB6 := Lib.hid (HB5.out.trans (hb6.mono HB5.out.size))
    have PA := Lib.hid ((PA.out).below hb6)
    have M1 := Lib.hid ((M1.out).below hb6)
    have M2 := Lib.hid ((M2.out).below hb6)
    have PT := Lib.hid ((PT.out).below hb6)
    have M3 := Lib.hid ((M3.out).below hb6)
    have M4 := Lib.hid ((M4.out).below hb6)
    clear hb6
    go_wp2
    go_ret
    exact ⟨rfl, HB6.out⟩

set_option maxHeartbeats 4000000 in
theorem walk_fnAsmRunOrder (a0 : Option Addr) (len0 cap0 : Nat) (z0 : List Int) (w : World) (w0 : IsRow .u8 w a0 len0 cap0 z0) :
    Calls Try.prog 8 #[.slice a0 len0 cap0] w fun e w' => e = .returned (.bool true) ∧ Below w.heap.size w w' := by
  have H := Lib.hid w0
  clear w0
  by_cases hl : (1048576 : Int) < len0
  · go_enter Try.func8, Try.ntmps8
    go_wp2
    go_ret
    exact ⟨rfl, Below.refl _ _⟩
  · go_enter Try.func8, Try.ntmps8
    go_wp2_with fail
    refine (drawAsmRun_any a0 len0 cap0 z0 _ H.out).mono ?_
    rintro e w1 ⟨n, a, k, cap, ps, rfl, hn, hk13, _, hp, hb1⟩
    have PA := Lib.hid hp
    have KL := Lib.hid hp.length
    clear hp
    obtain ⟨rm, hr⟩ : ∃ r, runV n ps = r := ⟨_, rfl⟩
    have few := runV_few hr
    rw [KL.out] at few
    obtain ⟨n3, hn3⟩ : ∃ q, rm.length = q := ⟨_, rfl⟩
    rw [hn3] at few
    have HR := Lib.hid hr
    have HN := Lib.hid hn3
    clear hr hn3
    go_wp2_with fail
    refine (asmRun_is n a k cap ps _ PA.out (by omega) HR.out HN.out).mono ?_
    rintro e w2 ⟨g1, d1, rfl, ho1, hb2⟩
    have HB2 := Lib.hid (hb1.trans (hb2.mono hb1.size))
    have PA := Lib.hid ((PA.out).below hb2)
    clear hb2
    have M1 := Lib.hid (own_mgs ho1)
    clear ho1
    go_wp2_with fail
    refine (sAsmRun_is n a k cap ps _ PA.out (by omega) HR.out HN.out).mono ?_
    rintro e w3 ⟨g2, d2, rfl, ho2, hb3⟩
    have HB3 := Lib.hid (HB2.out.trans (hb3.mono HB2.out.size))
    have PA := Lib.hid ((PA.out).below hb3)
    have M1 := Lib.hid ((M1.out).below hb3)
    clear hb3
    have M2 := Lib.hid (own_mgs ho2)
    clear ho2
    go_wp2_with fail
    refine (sameMessages_same _ _ n3 d1 d2 rm _ M1.out M2.out).mono ?_
    rintro e w4 ⟨rfl, hb4⟩
    have HB4 := Lib.hid (HB3.out.trans (hb4.mono HB3.out.size))
    have PA := Lib.hid ((PA.out).below hb4)
    have M1 := Lib.hid ((M1.out).below hb4)
    have M2 := Lib.hid ((M2.out).below hb4)
    clear hb4
    have SB := Lib.hid (Below.refl w4.heap.size w4)
    go_wp2
    go_loopw [7] (fun sv wr => ∃ s : Nat, s ≤ 4 ∧ sv = .int .i64 s ∧ Hid (Below w4.heap.size w4 wr)) (fun sv _ => 4 - (intOf sv).toNat)
    case atStart => exact ⟨0, by omega, rfl, SB⟩
    case round =>
      obtain ⟨s, hs, rfl, hbel⟩ := hrel
      clear SB
      by_cases hlt : s < 4
      · have si : (s : Int) < 4 := by omega
        go_wp2_with fail
        refine (ofStream_any _ n3 d1 rm (s : Int) _ (M1.out.below hbel.out) (by omega)).mono ?_
        rintro e wx ⟨gx, kx, cx, rfl, hox, hbx⟩
        have MX := Lib.hid (own_mgs hox)
        have KX := Lib.hid MX.out.length
        have kxb : kx ≤ 13 := by rw [← KX.out]; exact Nat.le_trans (List.length_filter_le _ _) (by have := HN.out; omega)
        have HBX := Lib.hid (hbel.out.trans (hbx.mono hbel.out.size))
        have OR := Lib.hid (order_any HR.out (by have := KL.out; omega) s)
        clear hox hbx
        go_wp2
        go_loopw [9] (fun iv wr2 => ∃ i : Nat, i ≤ kx ∧ iv = .int .i64 i ∧ Hid (Below wx.heap.size wx wr2)) (fun iv _ => kx - (intOf iv).toNat)
        case atStart => exact ⟨0, Nat.zero_le _, rfl, Lib.hid (Below.refl _ _)⟩
        case round =>
          obtain ⟨i, hi, rfl, hb2⟩ := hrel
          by_cases hik : i < kx
          · have ii : (i : Int) < (kx : Int) := by omega
            obtain ⟨p0, p1, p2, p3⟩ := MX.out.at hb2.out hik
            have hss := OR.out i (by rw [KX.out]; exact hik)
            rw [hss] at p1
            rw [mg_add] at p1
            clear p0 p2 p3 hss
            go_wp2
            go_roundw
            case rel => exact ⟨i + 1, by omega, by go_num, hb2⟩
            case measure => simp [intOf]; omega
          · obtain rfl : i = kx := by omega
            have ni : ¬ (i : Int) < (i : Int) := by omega
            have HB3 := Lib.hid (HBX.out.trans (hb2.out.mono HBX.out.size))
            go_wp2
            go_roundw
            case rel => exact ⟨s + 1, by omega, by go_num, HB3⟩
            case measure => simp [intOf]; omega
      · obtain rfl : s = 4 := by omega
        go_wp2
        go_ret
        exact ⟨rfl, HB4.out.trans (hbel.out.mono HB4.out.size)⟩

end Go.Proofs.Ytncbgejggfkdmab
