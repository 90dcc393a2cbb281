/- The walks of the laws on captures that end or are changed: Rest, Part, Times. -/
import Derived.Test.YtodpbjomiplphabK80
import Derived.Test.YtodpbjomiplphabK76
import Derived.Test.YtodpbjomiplphabK87
import Derived.Deep.AppendLies
import Derived.Deep.RegionLaw
import Derived.Maps.AppendAt
import Derived.Deep.RegionHeldLaw
import Derived.Handy
namespace Go.Proofs.Ytodpbjomiplphab
open Go.RowKit Go.PlainAid

set_option maxHeartbeats 4000000 in
theorem walk_fnCaptureRest (a0 : Option Addr) (len0 cap0 : Nat) (z0 : List Int) (w : World) (w0 : IsRow .u8 w a0 len0 cap0 z0) :
    Calls Try.prog 3 #[.slice a0 len0 cap0] w fun e w' => e = .returned (.bool true) ∧ Below w.heap.size w w' := by
  have H := Lib.hid w0
  clear w0
  by_cases hl : (1048576 : Int) < len0
  · go_enter Try.func3, Try.ntmps3
    go_wp2
    go_ret
    exact ⟨rfl, Below.refl _ _⟩
  · go_enter Try.func3, Try.ntmps3
    go_wp2_with fail
    refine (drawCaptureBegin_any a0 len0 cap0 z0 _ H.out).mono ?_
    rintro e w1 ⟨s, rfl, hsz, hb1⟩
    have hs8 : s.size ≤ 100000000 := by omega
    by_cases hc : 4 ≤ s.size ∧ s.extract 0 4 = tap1
    · obtain ⟨rs, q, hp⟩ := begin_some hc
      obtain ⟨k, hk⟩ : ∃ k, rs.length = k := ⟨_, rfl⟩
      have q4 := (begin_back hp).2.2.1
      have qs := (begin_back hp).2.2.2
      have HK := Lib.hid hp
      have HL := Lib.hid hk
      clear hp hk hc
      go_wp2_with fail
      refine (captureBegin_is s rs q k _ hs8 HK.out HL.out).mono ?_
      rintro e w2 ⟨x1, cap1, rfl, hg1, hb2⟩
      have HB2 := Lib.hid (hb1.trans (hb2.mono hb1.size))
      clear hb2
      have G1 := Lib.hid hg1
      clear hg1
      go_wp2_with fail
      refine (sCaptureBegin_is s rs q k _ hs8 HK.out HL.out).mono ?_
      rintro e w3 ⟨x2, cap2, rfl, hg2, hb3⟩
      have HB3 := Lib.hid (HB2.out.trans (hb3.mono HB2.out.size))
      have G1 := Lib.hid ((G1.out).below hb3)
      clear hb3
      have G2 := Lib.hid hg2
      clear hg2
      go_wp2_with fail
      refine (sameRecords_same _ _ k cap1 cap2 rs _ G1.out G2.out).mono ?_
      rintro e w4 ⟨rfl, hb4⟩
      have HB4 := Lib.hid (HB3.out.trans (hb4.mono HB3.out.size))
      have G1 := Lib.hid ((G1.out).below hb4)
      have G2 := Lib.hid ((G2.out).below hb4)
      clear hb4
      have HR := Lib.hid (begin_rest (y := ByteArray.mk #[120]) HK.out rfl)
      have q0 : ((q : Int) == 0) = false := by simpa using (by omega : q ≠ 0)
      have q1 : (0 : Int) ≤ (q : Int) := by omega
      have q2 : (q : Int) ≤ (s.size : Int) := by omega
      have y0 := size_cut s 0 q qs
      have q3 : ¬ 9223372036854775807 < (s.extract 0 q).size + 1 := by omega
      have q5 : (s.extract 0 q ++ ByteArray.mk #[120]).size ≤ 100000000 := by rw [ByteArray.size_append]; show _ + 1 ≤ _; omega
      clear y0
      go_wp2_with fail
      refine (captureBegin_is (s.extract 0 q ++ ByteArray.mk #[120]) rs q k _ q5 HR.out HL.out).mono ?_
      rintro e w5 ⟨x3, cap3, rfl, hg3, hb5⟩
      have HB5 := Lib.hid (HB4.out.trans (hb5.mono HB4.out.size))
      have G1 := Lib.hid ((G1.out).below hb5)
      have G2 := Lib.hid ((G2.out).below hb5)
      clear hb5
      have G3 := Lib.hid hg3
      clear hg3
      go_wp2_with fail
      refine (sameRecords_same _ _ k cap3 cap1 rs _ G3.out G1.out).mono ?_
      rintro e w6 ⟨rfl, hb6⟩
      have HB6 := Lib.hid (HB5.out.trans (hb6.mono HB5.out.size))
      have G1 := Lib.hid ((G1.out).below hb6)
      have G2 := Lib.hid ((G2.out).below hb6)
      have G3 := Lib.hid ((G3.out).below hb6)
      clear hb6
      go_wp2
      go_ret
      exact ⟨rfl, HB6.out⟩
    · have HN := Lib.hid hc
      clear hc
      go_wp2_with fail
      refine (captureBegin_not s _ hs8 HN.out).mono ?_
      rintro e w2 ⟨rfl, hb2⟩
      have HB2 := Lib.hid (hb1.trans (hb2.mono hb1.size))
      clear hb2
      go_wp2_with fail
      refine (sCaptureBegin_not s _ hs8 HN.out).mono ?_
      rintro e w3 ⟨x2, rfl, hg2, hb3⟩
      have HB3 := Lib.hid (HB2.out.trans (hb3.mono HB2.out.size))
      clear hb3
      have G2 := Lib.hid hg2
      clear hg2
      go_wp2_with fail
      refine (sameRecords_same none _ 0 0 0 [] _ (Rcs.nil _) G2.out).mono ?_
      rintro e w4 ⟨rfl, hb4⟩
      have HB4 := Lib.hid (HB3.out.trans (hb4.mono HB3.out.size))
      have G2 := Lib.hid ((G2.out).below hb4)
      clear hb4
      go_wp2_with fail
      refine (sameRecords_same none _ 0 0 0 [] _ (Rcs.nil _) G2.out).mono ?_
      rintro e w5 ⟨rfl, hb5⟩
      have HB5 := Lib.hid (HB4.out.trans (hb5.mono HB4.out.size))
      have G2 := Lib.hid ((G2.out).below hb5)
      clear hb5
      go_wp2
      go_ret
      exact ⟨rfl, HB5.out⟩


theorem recsOk_weak {l l' : Int} {rs : List (Int × ByteArray)} (h : RecsOk l rs) (hl : l' ≤ l) : RecsOk l' rs := by
  cases rs with
  | nil => trivial
  | cons r rs => exact ⟨⟨⟨Int.le_trans hl h.1.1.1, h.1.1.2⟩, h.1.2⟩, h.2⟩
/-- A record may be left out. -/
theorem recsOk_drop : ∀ {l : Int} {rs : List (Int × ByteArray)} (k : Nat), RecsOk l rs → k < rs.length → RecsOk l (rs.take k ++ rs.drop (k + 1))
  | l, [], _, _, h => absurd h (by simp)
  | l, r :: rs, 0, ⟨h1, h2⟩, _ => recsOk_weak h2 h1.1.1
  | l, r :: rs, k + 1, ⟨h1, h2⟩, h => ⟨h1, recsOk_drop k h2 (by simpa using h)⟩
theorem flatR_cut (rs : List (Int × ByteArray)) (k : Nat) : flatR rs = flatR (rs.take k) ++ flatR (rs.drop k) := by rw [← flatR_append, List.take_append_drop]
theorem flatR_first {rs : List (Int × ByteArray)} {k j : Nat} {u : Value} (h : (flatR (rs.take k))[j]? = some u) : (flatR rs)[j]? = some u := by
  rw [flatR_cut rs k, List.getElem?_append_left (List.getElem?_eq_some_iff.1 h).1]
  exact h
theorem flatR_last {rs : List (Int × ByteArray)} {k j : Nat} {u : Value} (hk : k ≤ rs.length) (h : (flatR (rs.drop k))[j]? = some u) : (flatR rs)[k * 2 + j]? = some u := by
  have hz : (flatR (rs.take k)).length = k * 2 := by rw [flatR_length, List.length_take, Nat.min_eq_left hk]
  rw [flatR_cut rs k, List.getElem?_append_right (by omega), hz, Nat.add_sub_cancel_left]
  exact h
theorem rcs_first {W : World} {g k cap : Nat} {rs : List (Int × ByteArray)} (h : Rcs W (some ⟨g, 0, none⟩) k cap rs) (i : Nat) : ∀ j u, (flatR (rs.take i))[j]? = some u → W.cell? ((⟨g, 0, none⟩ : Addr).add j) = some u := fun j u hu => rcs_flat h j u (flatR_first hu)
theorem rcs_last {W : World} {g k cap : Nat} {rs : List (Int × ByteArray)} (h : Rcs W (some ⟨g, 0, none⟩) k cap rs) (i : Nat) (hi : i ≤ k) : ∀ j u, (flatR (rs.drop i))[j]? = some u → W.cell? ((⟨g, i * 2, none⟩ : Addr).add j) = some u := fun j u hu => by
  have := rcs_flat h _ u (flatR_last (by rw [h.length]; exact hi) hu)
  rw [rc_add] at this
  have e : (⟨g, i * 2, none⟩ : Addr).add j = ⟨g, i * 2 + j, none⟩ := by unfold Addr.add; split <;> simp_all
  rw [e]
  exact this

/-- Records that are appended to a row of one's own, none or some, as a step of a region. -/
theorem step_catR {ops : Array Oper} {o : Oper} {a : Act} {w : World} {K : Act → World → Prop} {Q : Exit → Act → World → Prop} {E : Prop}
    (hg : o.guard = none) (s x : Operand) (hop : o.op = Op.call { callee := Callee.builtin Builtin.append, args := #[s, x], argTypes := #[24, 24] })
    (base i m n cc e cap : Nat) (ad : Addr) (xs ys : List (Int × ByteArray)) (hn : i + m = n) (hv : a.eval s = .slice (some ⟨e, 0, none⟩) i cap) (hown : w.ownsRow base 33 2 (.slice (some ⟨e, 0, none⟩) i cap) i (flatR xs))
    (hx : a.eval x = .slice (some ad) m cc) (hl : ys.length = m) (hc : ∀ j u, (flatR ys)[j]? = some u → w.cell? (ad.add j) = some u) (him : i + m ≤ 1000) (hb : base ≤ w.heap.size)
    (hK : ∀ g3 cap3 w', w'.ownsRow base 33 2 (.slice (some ⟨g3, 0, none⟩) n cap3) n (flatR (xs ++ ys)) → w.grownBy w' (some e) → K (a.put o.dst (.slice (some ⟨g3, 0, none⟩) n cap3)) w') :
    if Region.wanted o (yielded ops a.tmps) = true then Oper.wp Try.prog o a w K Q else E := by
  subst hn
  obtain ⟨i0, hi, hz0, hz1, hz2⟩ := info_parts info_rc
  have hw : Region.wanted o (yielded ops a.tmps) = true := by simp [Region.wanted, hg]
  rw [if_pos hw]
  obtain ⟨v', w', hr, h2, h3, h4, h5⟩ := run_append_own_at (P := Try.prog) w base 24 o.type 33 i0 (.agg #[.int .i64 0, .string (ByteArray.mk #[])]) 2 24 Try.underlying24 hi hz0 hz1 hz2 rfl (by decide) _ i (flatR xs) hown ad m cc (flatR ys) (by rw [flatR_length, hl]) hc (flatR_one ys) (by unfold maxLen; omega) (by omega) hb
  obtain ⟨g3, cap3, rfl⟩ : ∃ g3 cap3, v' = .slice (some ⟨g3, 0, none⟩) (i + m) cap3 := by
    rcases h2.2 with ⟨h0, _⟩ | ⟨g3, cap3, _, hv, _⟩
    · have := (h4.1 h0).1
      cases this
    · exact ⟨g3, cap3, hv⟩
  unfold Oper.wp execOp
  simp only [hop, resolve, invoke, builtin, Sem.run_bind, Sem.run_pure, Result.andThen_ok, List.map_toArray, List.map_cons, List.map_nil, hv, hx, hr]
  exact hK g3 cap3 w' (by rw [flatR_append]; exact h2) h3

theorem xgrow {W : World} {base g n cap size : Nat} {e : TypeId} {xs : List Value} (h : W.ownsRow base e size (.slice (some ⟨g, 0, none⟩) n cap) n xs) : ∀ x, some g = some x → base ≤ x := fun x hx => by
  cases hx
  exact own_ge h rfl

set_option maxHeartbeats 8000000 in
theorem walk_fnCapturePart (a0 : Option Addr) (len0 cap0 : Nat) (z0 : List Int) (a1 : Option Addr) (len1 cap1 : Nat) (z1 : List Int) (w : World) (w0 : IsRow .u8 w a0 len0 cap0 z0) (_w1 : IsRow .u8 w a1 len1 cap1 z1) :
    Calls Try.prog 4 #[.slice a0 len0 cap0, .slice a1 len1 cap1] w fun e w' => e = .returned (.bool true) ∧ Below w.heap.size w w' := by
  have H := Lib.hid w0
  clear w0 _w1
  by_cases hl : (1048576 : Int) < len0
  · go_enter Try.func4, Try.ntmps4
    go_wp2
    go_ret
    exact ⟨rfl, Below.refl _ _⟩
  by_cases hl1 : (1048576 : Int) < len1
  · go_enter Try.func4, Try.ntmps4
    go_wp2
    go_ret
    exact ⟨rfl, Below.refl _ _⟩
  · go_enter Try.func4, Try.ntmps4
    go_wp2_with fail
    refine (drawCaptureValid_any a0 len0 cap0 z0 _ H.out).mono ?_
    rintro e w1 ⟨g, k, cap, rs, rfl, nk, ng, hch, hfz, hsm, hb1⟩
    have hcl := hch.length
    have GA := Lib.hid hch
    have HZ := Lib.hid (show ∀ r ∈ rs, r.2.size ≤ maxLen from fun r hr => Nat.le_trans (hsm r hr).2 (by decide))
    clear hch hfz hsm ng
    by_cases hc : CapOk rs
    · have HC := Lib.hid hc
      clear hc
      have HV := Lib.hid (capV_yes HC.out)
      go_wp2_with fail
      refine (captureValid_any _ k cap rs _ GA.out HZ.out).mono ?_
      rw [HV.out]
      rintro e w2 ⟨rfl, hb2⟩
      have HB2 := Lib.hid (hb1.trans (hb2.mono hb1.size))
      have GA := Lib.hid ((GA.out).below hb2)
      clear hb2
      go_wp2_with fail
      refine (sCaptureValid_any _ k cap rs _ GA.out HZ.out).mono ?_
      rw [HV.out]
      rintro e w3 ⟨rfl, hb3⟩
      have HB3 := Lib.hid (HB2.out.trans (hb3.mono HB2.out.size))
      have GA := Lib.hid ((GA.out).below hb3)
      clear hb3
      by_cases hk0 : k = 0
      · subst hk0
        go_wp2
        go_ret
        exact ⟨rfl, HB3.out⟩
      · obtain ⟨D, hD⟩ : ∃ D, len1 % k = D := ⟨_, rfl⟩
        have hDl : D < k := hD ▸ Nat.mod_lt _ (by omega)
        have r0 : ¬ (k : Int) = 0 := by omega
        have r00 : ((k : Int) == 0) = false := by simpa using hk0
        have r2 : (len1 : Int).tmod (k : Int) = (D : Int) := by
          rw [Int.tmod_eq_emod_of_nonneg (by omega), ← hD]
          rfl
        clear hD
        have hcp := GA.out.len_le
        have b0 : (0 : Int) ≤ (D : Int) := by omega
        have b1 : (D : Int) ≤ (cap : Int) := by omega
        have b2 : IntKind.i64.wrap ((D : Int) + 1) = ((D + 1 : Nat) : Int) := (IntWalk.i64_in _ ⟨by omega, by omega⟩).trans (by omega)
        have b4 : (D : Int) + 1 ≤ (k : Int) := by omega
        have b4' : D + 1 ≤ k := by omega
        have b6 : k ≤ cap := hcp.1
        have b3 : (0 : Int) ≤ (D : Int) + 1 := by omega
        have NK := Lib.hid (show CapOk (rs.take D ++ rs.drop (D + 1)) from ⟨recsOk_drop D HC.out.1 (by omega), by rw [List.length_append, List.length_take, List.length_drop]; have := HC.out.2; omega⟩)
        have HV2 := Lib.hid (capV_yes NK.out)
        have HZ2 := Lib.hid (recs_small NK.out.1)
        have l1 : (rs.take D).length = D := by rw [List.length_take]; omega
        have l2 : (rs.drop (D + 1)).length = k - (D + 1) := by rw [List.length_drop]; omega
        have BE := Lib.hid (show Below w3.heap.size w3 (w3.alloc (.cells #[] 33)).drew from Below.drew (below_box _ (Nat.le_refl _)))
        have sE : w3.heap.size ≤ (w3.alloc (.cells #[] 33)).drew.heap.size := BE.out.size
        have OE := Lib.hid (show (w3.alloc (.cells #[] 33)).drew.ownsRow w3.heap.size 33 2 (.slice (some ⟨w3.heap.size, 0, none⟩) 0 0) 0 (flatR []) from (World.ownsRow_lit (base := w3.heap.size) (e := 33) (size := 2) w3 #[] 0 (Nat.le_refl _) (by decide) rfl).drew)
        have C1 := Lib.hid (rcs_first (GA.out.below BE.out) D)
        have XE := Lib.hid (show ∀ x, some w3.heap.size = some x → w3.heap.size ≤ x from fun x h => by cases h; exact Nat.le_refl _)
        go_wp2_with fail
        clear r2
        by_cases hcap : cap = D + 1
        · obtain rfl : k = D + 1 := by omega
          subst hcap
          have e0 : rs.drop (D + 1) = [] := List.eq_nil_of_length_eq_zero (by omega)
          have NK := NK.out
          have HV2 := HV2.out
          have HZ2 := HZ2.out
          rw [e0] at NK HV2 HZ2
          have HV2 := Lib.hid HV2
          have HZ2 := Lib.hid HZ2
          have b7 : (D : Int) ≤ (D : Int) + 1 := by omega
          have d1 : 0 + D ≤ 1000 := by omega
          have d2 : D + 0 = D := rfl
          have d3 : D + 0 ≤ 1000 := by omega
          have flatR_no : ∀ {W : World} {ad : Addr} j u, (flatR ([] : List (Int × ByteArray)))[j]? = some u → W.cell? (ad.add j) = some u := fun j u h => by simp [flatR] at h
          clear NK e0
          go_region_law (first
            | (refine step_catR (by rfl) _ _ (by rfl) w3.heap.size 0 D D _ _ _ _ [] (rs.take D) (Nat.zero_add _) (by rfl) OE.out (by rfl) l1 C1.out d1 sE ?_; intro g3 cap3 wa hown3 hgrow3; rw [List.nil_append] at hown3; have OA := Lib.hid hown3; have BA := Lib.hid (Below.grown BE.out hgrow3 sE XE.out); have sA := BA.out.size; have XA := Lib.hid (xgrow hown3); clear hown3 hgrow3; dsimp only)
            | (refine step_catR (by rfl) _ _ (by rfl) w3.heap.size D 0 D _ _ _ _ (rs.take D) ([] : List (Int × ByteArray)) d2 (by rfl) OA.out (by rfl) rfl flatR_no d3 sA ?_; intro g4 cap4 wb hown4 hgrow4; have OB := Lib.hid hown4; have BB := Lib.hid (Below.grown BA.out hgrow4 sA XA.out); clear hown4 hgrow4; dsimp only)
            | (go_simp; go_at_call 15; refine (captureValid_any _ D _ (rs.take D ++ ([] : List (Int × ByteArray))) _ (own_rcs OB.out) HZ2.out).mono ?_; rw [HV2.out]; rintro e wc ⟨rfl, hbc⟩))
          all_goals
            have HW := Lib.hid (HB3.out.trans ((BB.out.trans (hbc.mono BB.out.size)).mono HB3.out.size))
            clear hbc
            go_wp2
            go_ret
            exact ⟨rfl, HW.out⟩
        · have hcap2 : ¬ D + 1 = cap := fun h => hcap h.symm
          have d1 : 0 + D ≤ 1000 := by omega
          have d2 : D + (k - (D + 1)) = k - 1 := by omega
          have d3 : D + (k - (D + 1)) ≤ 1000 := by omega
          go_region_law (first
            | (refine step_catR (by rfl) _ _ (by rfl) w3.heap.size 0 D D _ _ _ _ [] (rs.take D) (Nat.zero_add _) (by rfl) OE.out (by rfl) l1 C1.out d1 sE ?_; intro g3 cap3 wa hown3 hgrow3; rw [List.nil_append] at hown3; have OA := Lib.hid hown3; have BA := Lib.hid (Below.grown BE.out hgrow3 sE XE.out); have sA := BA.out.size; have C2 := Lib.hid (rcs_last (GA.out.below BA.out) (D + 1) b4'); have XA := Lib.hid (xgrow hown3); clear hown3 hgrow3; dsimp only)
            | (refine step_catR (by rfl) _ _ (by rfl) w3.heap.size D (k - (D + 1)) (k - 1) _ _ _ _ (rs.take D) (rs.drop (D + 1)) d2 (by rfl) OA.out (by rfl) l2 C2.out d3 sA ?_; intro g4 cap4 wb hown4 hgrow4; have OB := Lib.hid hown4; have BB := Lib.hid (Below.grown BA.out hgrow4 sA XA.out); clear hown4 hgrow4; dsimp only)
            | (go_simp; go_at_call 15; refine (captureValid_any _ (k - 1) _ (rs.take D ++ (rs.drop (D + 1))) _ (own_rcs OB.out) HZ2.out).mono ?_; rw [HV2.out]; rintro e wc ⟨rfl, hbc⟩))
          all_goals
            have HW := Lib.hid (HB3.out.trans ((BB.out.trans (hbc.mono BB.out.size)).mono HB3.out.size))
            clear hbc
            go_wp2
            go_ret
            exact ⟨rfl, HW.out⟩
    · have HC := Lib.hid hc
      clear hc
      have HV := Lib.hid (capV_no HC.out)
      go_wp2_with fail
      refine (captureValid_any _ k cap rs _ GA.out HZ.out).mono ?_
      rw [HV.out]
      rintro e w2 ⟨rfl, hb2⟩
      have HB2 := Lib.hid (hb1.trans (hb2.mono hb1.size))
      have GA := Lib.hid ((GA.out).below hb2)
      clear hb2
      go_wp2_with fail
      refine (sCaptureValid_any _ k cap rs _ GA.out HZ.out).mono ?_
      rw [HV.out]
      rintro e w3 ⟨rfl, hb3⟩
      have HB3 := Lib.hid (HB2.out.trans (hb3.mono HB2.out.size))
      have GA := Lib.hid ((GA.out).below hb3)
      clear hb3
      go_wp2
      go_ret
      exact ⟨rfl, HB3.out⟩

end Go.Proofs.Ytodpbjomiplphab
