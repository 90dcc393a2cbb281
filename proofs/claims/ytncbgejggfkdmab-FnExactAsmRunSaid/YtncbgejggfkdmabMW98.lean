/- The walk of the exact law on a list of parts. -/
import Derived.Handy
import Derived.Test.YtncbgejggfkdmabM8
namespace Go.Proofs.Ytncbgejggfkdmab
open Go.RowKit Go.PlainAid

theorem FreP.pts' {d len : Nat} {ps : List Part} {W : World} (h : FreP d len ps W) (hl : ps.length = len) (hm : len ≤ 1048576) : Pts W (some ⟨d, 0, none⟩) len len ps := h.f.pts hl (Nat.le_refl _) (Nat.le_trans hm (by decide))

set_option maxHeartbeats 4000000 in
theorem walk_fnExactAsmRun (n : Int) (a : Option Addr) (len cap : Nat) (ps : List Part) (_wn : (Lit.int .i64 n).wf = true) (w1 : World) (hpt : Pts w1 a len cap ps) (htx : ∀ p ∈ ps, p.text.size ≤ maxLen) :
    Calls Try.prog 11 #[.int .i64 n, .slice a len cap] w1 fun e w' => e = .returned (.bool true) ∧ Below w1.heap.size w1 w' := by
  have hb1 := Below.refl w1.heap.size w1
  have PA := Lib.hid hpt
  have LTP := Lib.hid hpt.lts
  have HLP := Lib.hid hpt.length
  have HTX := Lib.hid htx
  obtain ⟨rm, hr⟩ : ∃ r, runV n ps = r := ⟨_, rfl⟩
  have few := runV_few hr
  rw [hpt.length] at few
  obtain ⟨n3, hn3⟩ : ∃ k, rm.length = k := ⟨_, rfl⟩
  rw [hn3] at few
  have HR := Lib.hid hr
  have HN := Lib.hid hn3
  clear hpt htx hr hn3
  go_enter Try.func11, Try.ntmps11
  go_wp2_with fail
  refine (szDataS_any a len cap ps 1048576 _ (by omega) (by omega) PA.out HTX.out).mono ?_
  rintro e w2 ⟨⟨z, rfl, hzz⟩, hb2⟩
  have HB2 := Lib.hid (hb1.trans (hb2.mono hb1.size))
  have PA := Lib.hid ((PA.out).below hb2)
  have hsz2 : w1.heap.size + 0 ≤ w2.heap.size := by have h := hb2.size; omega
  clear hb2
  rcases hzz with rfl | ⟨y0, y1⟩
  · go_wp2
    go_ret
    exact ⟨rfl, HB2.out⟩
  · have yn : ¬ z < 0 := by omega
    have hk3 : n3 ≤ 1048576 := by omega
    clear y0
    go_wp2_with fail
    refine (toDataS_any a len cap ps _ PA.out y1).mono ?_
    rintro e w3 ⟨⟨d1, rfl, hd1, hf1, hr1, hl1⟩, hb3⟩
    have HB3 := Lib.hid (HB2.out.trans (hb3.mono HB2.out.size))
    have PA := Lib.hid ((PA.out).below hb3)
    have hsz3 : w2.heap.size + 0 ≤ w3.heap.size := by have h := hb3.size; omega
    clear hb3
    have P1 := Lib.hid (hf1.pts HLP.out (Nat.le_refl _) (Nat.le_trans y1 (by decide)))
    clear hf1 hr1 hl1 hd1
    go_wp2_with fail
    refine (sAsmRun_is n _ len len ps _ P1.out y1 HR.out HN.out).mono ?_
    rintro e w4 ⟨aw, cw, rfl, how, hb4⟩
    have HB4 := Lib.hid (HB3.out.trans (hb4.mono HB3.out.size))
    have PA := Lib.hid ((PA.out).below hb4)
    have P1 := Lib.hid ((P1.out).below hb4)
    have hsz4 : w3.heap.size + 0 ≤ w4.heap.size := by have h := hb4.size; omega
    clear hb4
    have MW := Lib.hid (own_mgs how)
    have LMW := Lib.hid MW.out.lts
    clear how
    go_wp2_with fail
    refine (toDataS_any a len cap ps _ PA.out y1).mono ?_
    rintro e w5 ⟨⟨d2, rfl, hd2, hf2, hr2, hl2⟩, hb5⟩
    have HB5 := Lib.hid (HB4.out.trans (hb5.mono HB4.out.size))
    have PA := Lib.hid ((PA.out).below hb5)
    have MW := Lib.hid ((MW.out).below hb5)
    have hsz5 : w4.heap.size + 0 ≤ w5.heap.size := by have h := hb5.size; omega
    clear hb5
    have FR := Lib.hid (show FreP d2 len ps w5 from ⟨hf2, hr2, hl2⟩)
    clear hf2 hr2
    go_wp2_with fail
    refine (asmRun_is n _ len len ps _ (FreP.pts' FR.out HLP.out y1) y1 HR.out HN.out).mono ?_
    rintro e w6 ⟨ag, cg, rfl, ho, hb6⟩
    have HB6 := Lib.hid (HB5.out.trans (hb6.mono HB5.out.size))
    have PA := Lib.hid ((PA.out).below hb6)
    have MW := Lib.hid ((MW.out).below hb6)
    have FR := Lib.hid ((FR.out).below hb6)
    have hsz6 : w5.heap.size + 0 ≤ w6.heap.size := by have h := hb6.size; omega
    clear hb6
    have RM := Lib.hid ho
    have HBM := Lib.hid (fun x (hx : (Value.slice ag n3 cg).ownBlock = some x) => row_lt ho hx)
    clear ho
    go_wp2_with fail
    refine (eqMessageS_same _ _ n3 cg cw rm _ (own_mgs (RM.out)) MW.out).mono ?_
    rintro e w7 ⟨rfl, hb7⟩
    have HB7 := Lib.hid (HB6.out.trans (hb7.mono HB6.out.size))
    have PA := Lib.hid ((PA.out).below hb7)
    have MW := Lib.hid ((MW.out).below hb7)
    have FR := Lib.hid ((FR.out).below hb7)
    have hsz7 : w6.heap.size + 0 ≤ w7.heap.size := by have h := hb7.size; omega
    have RM := Lib.hid (ownUp (RM.out) hb7)
    clear hb7
    go_wp2_with fail
    refine (toDataS_any a len cap ps _ PA.out y1).mono ?_
    rintro e w8 ⟨⟨d3, rfl, hd3, hf3, hr3, hl3⟩, hb8⟩
    have HB8 := Lib.hid (HB7.out.trans (hb8.mono HB7.out.size))
    have PA := Lib.hid ((PA.out).below hb8)
    have MW := Lib.hid ((MW.out).below hb8)
    have FR := Lib.hid ((FR.out).below hb8)
    have hsz8 : w7.heap.size + 0 ≤ w8.heap.size := by have h := hb8.size; omega
    have RM := Lib.hid (ownUp (RM.out) hb8)
    clear hb8
    have P3 := Lib.hid (hf3.pts HLP.out (Nat.le_refl _) (Nat.le_trans y1 (by decide)))
    clear hf3 hr3 hl3 hd3
    go_wp2_with fail
    refine (eqDataS_same _ _ len len len ps _ (FreP.pts' FR.out HLP.out y1) P3.out).mono ?_
    rintro e w9 ⟨rfl, hb9⟩
    have HB9 := Lib.hid (HB8.out.trans (hb9.mono HB8.out.size))
    have PA := Lib.hid ((PA.out).below hb9)
    have MW := Lib.hid ((MW.out).below hb9)
    have FR := Lib.hid ((FR.out).below hb9)
    have P3 := Lib.hid ((P3.out).below hb9)
    have hsz9 : w8.heap.size + 0 ≤ w9.heap.size := by have h := hb9.size; omega
    have RM := Lib.hid (ownUp (RM.out) hb9)
    clear hb9
    obtain ⟨zk, hzk⟩ : ∃ z : Int, ((1 + 7 * len : Nat) : Int) = z := ⟨_, rfl⟩
    have nzk : ¬ zk < 0 := by omega
    go_wp2_with fail
    refine (markFreP FR.out y1 hd2 hzk).mono ?_
    rintro e w10 ⟨rfl, hs10, hm⟩
    have hsz10 : w9.heap.size + 0 ≤ w10.heap.size := hs10
    have PA := Lib.hid (PA.out.mgC hm.b (fun x hx hl => Nat.lt_of_lt_of_le (LTP.out x hx hl) (by omega)))
    have MW := Lib.hid (MW.out.mgC hm.b (fun x hx hl => Nat.lt_of_lt_of_le (LMW.out x hx hl) (by omega)))
    have RM := Lib.hid (own_mgl RM.out hm (fun x hx => by have := HBM.out x hx; simp; omega))
    have HB10 := Lib.hid (HB9.out.trans (hm.b.mono (show w1.heap.size ≤ w4.heap.size by omega)))
    clear hm hs10
    go_wp2_with fail
    refine (eqMessageS_same _ _ n3 cg cw rm _ (own_mgs (RM.out)) MW.out).mono ?_
    rintro e w11 ⟨rfl, hb11⟩
    have HB11 := Lib.hid (HB10.out.trans (hb11.mono HB10.out.size))
    have PA := Lib.hid ((PA.out).below hb11)
    have MW := Lib.hid ((MW.out).below hb11)
    have hsz11 : w10.heap.size + 0 ≤ w11.heap.size := by have h := hb11.size; omega
    have RM := Lib.hid (ownUp (RM.out) hb11)
    clear hb11
    obtain ⟨zm, hzm⟩ : ∃ z : Int, ((1 + 4 * n3 : Nat) : Int) = z := ⟨_, rfl⟩
    have nzm : ¬ zm < 0 := by omega
    go_wp2_with fail
    refine (markM_z RM.out hk3 (by omega) (Nat.le_refl 1) (by omega) rfl hzm).mono ?_
    rintro e w12 ⟨rfl, hgm, hs12, hm⟩
    have hsz12 : w11.heap.size + 0 ≤ w12.heap.size := hs12
    have PA := Lib.hid (PA.out.mgC hm.b (fun x hx hl => Nat.lt_of_lt_of_le (LTP.out x hx hl) (by omega)))
    have MW := Lib.hid (MW.out.mgC hm.b (fun x hx hl => Nat.lt_of_lt_of_le (LMW.out x hx hl) (by omega)))
    have MM := Lib.hid hgm
    clear hgm
    have HB12 := Lib.hid (HB11.out.trans (hm.b.mono (show w1.heap.size ≤ w5.heap.size by omega)))
    clear hm hs12
    go_wp2_with fail
    refine (heldM_z _ n3 cg 1 _ hk3 (Nat.le_refl 1) (by omega) MM.out rfl hzm).mono ?_
    rintro e w13 ⟨rfl, hb13⟩
    have HB13 := Lib.hid (HB12.out.trans (hb13.mono HB12.out.size))
    have PA := Lib.hid ((PA.out).below hb13)
    have MW := Lib.hid ((MW.out).below hb13)
    have MM := Lib.hid ((MM.out).below hb13)
    have hsz13 : w12.heap.size + 0 ≤ w13.heap.size := by have h := hb13.size; omega
    clear hb13
    go_wp2_with fail
    refine (toDataS_any a len cap ps _ PA.out y1).mono ?_
    rintro e w14 ⟨⟨d4, rfl, hd4, hf4, hr4, hl4⟩, hb14⟩
    have HB14 := Lib.hid (HB13.out.trans (hb14.mono HB13.out.size))
    have PA := Lib.hid ((PA.out).below hb14)
    have MW := Lib.hid ((MW.out).below hb14)
    have MM := Lib.hid ((MM.out).below hb14)
    have hsz14 : w13.heap.size + 0 ≤ w14.heap.size := by have h := hb14.size; omega
    clear hb14
    have P4 := Lib.hid (hf4.pts HLP.out (Nat.le_refl _) (Nat.le_trans y1 (by decide)))
    clear hf4 hr4 hl4 hd4
    go_wp2_with fail
    refine (asmRun_is n _ len len ps _ P4.out y1 HR.out HN.out).mono ?_
    rintro e w15 ⟨ah, ch, rfl, hoh, hb15⟩
    have HB15 := Lib.hid (HB14.out.trans (hb15.mono HB14.out.size))
    have PA := Lib.hid ((PA.out).below hb15)
    have MW := Lib.hid ((MW.out).below hb15)
    have MM := Lib.hid ((MM.out).below hb15)
    have P4 := Lib.hid ((P4.out).below hb15)
    have hsz15 : w14.heap.size + 0 ≤ w15.heap.size := by have h := hb15.size; omega
    clear hb15
    have MH := Lib.hid (own_mgs hoh)
    clear hoh
    go_wp2_with fail
    refine (eqMessageS_same _ _ n3 ch cw rm _ MH.out MW.out).mono ?_
    rintro e w16 ⟨rfl, hb16⟩
    have HB16 := Lib.hid (HB15.out.trans (hb16.mono HB15.out.size))
    have PA := Lib.hid ((PA.out).below hb16)
    have MW := Lib.hid ((MW.out).below hb16)
    have MM := Lib.hid ((MM.out).below hb16)
    have MH := Lib.hid ((MH.out).below hb16)
    have hsz16 : w15.heap.size + 0 ≤ w16.heap.size := by have h := hb16.size; omega
    clear hb16
    go_wp2_with fail
    refine (heldM_z _ n3 cg 1 _ hk3 (Nat.le_refl 1) (by omega) MM.out rfl hzm).mono ?_
    rintro e w17 ⟨rfl, hb17⟩
    have HB17 := Lib.hid (HB16.out.trans (hb17.mono HB16.out.size))
    have PA := Lib.hid ((PA.out).below hb17)
    have MW := Lib.hid ((MW.out).below hb17)
    have MM := Lib.hid ((MM.out).below hb17)
    have MH := Lib.hid ((MH.out).below hb17)
    have hsz17 : w16.heap.size + 0 ≤ w17.heap.size := by have h := hb17.size; omega
    clear hb17
    go_wp2
    go_ret
    exact ⟨rfl, HB17.out⟩

end Go.Proofs.Ytncbgejggfkdmab
