/- The walk of the law on captures with a further record. -/
import Derived.Test.YtodpbjomiplphabW73
namespace Go.Proofs.Ytodpbjomiplphab
open Go.RowKit Go.PlainAid

/-- Records that are appended to a row of one's own, none or some. -/
theorem wp_catR {o : Oper} {a : Act} {w : World} {K : Act → World → Prop} {Q : Exit → Act → World → Prop} (s x : Operand) (hop : o.op = Op.call { callee := Callee.builtin Builtin.append, args := #[s, x], argTypes := #[24, 24] })
    (base i m n cc e cap : Nat) (ad : Addr) (xs ys : List (Int × ByteArray)) (hn : i + m = n) (hv : a.eval s = .slice (some ⟨e, 0, none⟩) i cap) (hown : w.ownsRow base 33 2 (.slice (some ⟨e, 0, none⟩) i cap) i (flatR xs))
    (hx : a.eval x = .slice (some ad) m cc) (hl : ys.length = m) (hc : ∀ j u, (flatR ys)[j]? = some u → w.cell? (ad.add j) = some u) (him : i + m ≤ 1000) (hb : base ≤ w.heap.size)
    (hK : ∀ g3 cap3 w', w'.ownsRow base 33 2 (.slice (some ⟨g3, 0, none⟩) n cap3) n (flatR (xs ++ ys)) → w.grownBy w' (some e) → K (a.put o.dst (.slice (some ⟨g3, 0, none⟩) n cap3)) w') :
    Oper.wp Try.prog o a w K Q := by
  subst hn
  obtain ⟨i0, hi, hz0, hz1, hz2⟩ := info_parts info_rc
  obtain ⟨v', w', hr, h2, h3, h4, h5⟩ := run_append_own_at (P := Try.prog) w base 24 o.type 33 i0 (.agg #[.int .i64 0, .string (ByteArray.mk #[])]) 2 24 Try.underlying24 hi hz0 hz1 hz2 rfl (by decide) _ i (flatR xs) hown ad m cc (flatR ys) (by rw [flatR_length, hl]) hc (flatR_one ys) (by unfold maxLen; omega) (by omega) hb
  obtain ⟨g3, cap3, rfl⟩ : ∃ g3 cap3, v' = .slice (some ⟨g3, 0, none⟩) (i + m) cap3 := by
    rcases h2.2 with ⟨h0, _⟩ | ⟨g3, cap3, _, hv, _⟩
    · have := (h4.1 h0).1
      cases this
    · exact ⟨g3, cap3, hv⟩
  unfold Oper.wp execOp
  simp only [hop, resolve, invoke, builtin, Sem.run_bind, Sem.run_pure, Result.andThen_ok, List.map_toArray, List.map_cons, List.map_nil, hv, hx, hr]
  exact hK g3 cap3 w' (by rw [flatR_append]; exact h2) h3

theorem list_catR {ops : Array Oper} {rest : List Oper} {o : Oper} {a : Act} {w : World} {Q : Exit → Act → World → Prop} (hg : o.guard = none) (s x : Operand) (hop : o.op = Op.call { callee := Callee.builtin Builtin.append, args := #[s, x], argTypes := #[24, 24] })
    (base i m n cc e cap : Nat) (ad : Addr) (xs ys : List (Int × ByteArray)) (hn : i + m = n) (hv : a.eval s = .slice (some ⟨e, 0, none⟩) i cap) (hown : w.ownsRow base 33 2 (.slice (some ⟨e, 0, none⟩) i cap) i (flatR xs))
    (hx : a.eval x = .slice (some ad) m cc) (hl : ys.length = m) (hc : ∀ j u, (flatR ys)[j]? = some u → w.cell? (ad.add j) = some u) (him : i + m ≤ 1000) (hb : base ≤ w.heap.size)
    (hK : ∀ g3 cap3 w', w'.ownsRow base 33 2 (.slice (some ⟨g3, 0, none⟩) n cap3) n (flatR (xs ++ ys)) → w.grownBy w' (some e) → wpList Try.prog ops Q rest (a.put o.dst (.slice (some ⟨g3, 0, none⟩) n cap3)) w') :
    wpList Try.prog ops Q (o :: rest) a w :=
  wpList_plain hg fun _ h => wp_catR s x hop base i m n cc e cap ad xs ys hn hv hown hx hl hc him hb fun g3 cap3 w' h2 h3 => h _ _ (hK g3 cap3 w' h2 h3)

theorem recsOk_last {l : Int} : ∀ {rs : List (Int × ByteArray)}, RecsOk l rs → l ≤ 4294967295 → lastT l rs ≤ 4294967295 := by
  intro rs
  induction rs generalizing l with
  | nil => exact fun _ h => h
  | cons r rs ih => exact fun h _ => ih h.2 h.1.1.2
theorem times_x {rs : List (Int × ByteArray)} {k : Nat} (h : CapOk rs) (hk : rs.length = k) : capV (rs ++ [(lastT 0 rs, ByteArray.mk #[])]) = decide ((k : Int) < 60) := by
  have hl := recsOk_last h.1 (by omega)
  by_cases h6 : k < 60
  · rw [decide_eq_true (by omega)]
    refine capV_yes ⟨recsOk_snoc.2 ⟨h.1, ⟨Int.le_refl _, hl⟩, Nat.zero_le _⟩, ?_⟩
    rw [List.length_append, hk]
    show k + 1 ≤ 60
    omega
  · rw [decide_eq_false (by omega)]
    refine capV_no fun q => ?_
    have := q.2
    rw [List.length_append, hk] at this
    exact h6 this
theorem times_y (rs : List (Int × ByteArray)) : capV (rs ++ [(lastT 0 rs - 1, ByteArray.mk #[])]) = false :=
  capV_no fun q => by
    have h1 : lastT 0 rs ≤ lastT 0 rs - 1 := (recsOk_snoc.1 q.1).2.1.1
    omega
theorem small_more {rs : List (Int × ByteArray)} (h : ∀ r ∈ rs, r.2.size ≤ maxLen) (t : Int) : ∀ r ∈ rs ++ [(t, ByteArray.mk #[])], r.2.size ≤ maxLen := fun r hr => by
  rcases List.mem_append.1 hr with h1 | h1
  · exact h r h1
  · rw [List.mem_singleton.1 h1]
    exact Nat.zero_le _

set_option maxHeartbeats 4000000 in
theorem walk_fnCaptureTimes (a0 : Option Addr) (len0 cap0 : Nat) (z0 : List Int) (w : World) (w0 : IsRow .u8 w a0 len0 cap0 z0) :
    Calls Try.prog 5 #[.slice a0 len0 cap0] w fun e w' => e = .returned (.bool true) ∧ Below w.heap.size w w' := by
  have H := Lib.hid w0
  clear w0
  by_cases hl : (1048576 : Int) < len0
  · go_enter Try.func5, Try.ntmps5
    go_wp2
    go_ret
    exact ⟨rfl, Below.refl _ _⟩
  · go_enter Try.func5, Try.ntmps5
    go_wp2_with fail
    refine (drawCaptureValid_any a0 len0 cap0 z0 _ H.out).mono ?_
    rintro e w1 ⟨g, k, cap, rs, rfl, nk, ng, hch, hfz, hsm, hb1⟩
    have hcl := hch.length
    have GA := Lib.hid hch
    have HZ := Lib.hid (show ∀ r ∈ rs, r.2.size ≤ maxLen from fun r hr => Nat.le_trans (hsm r hr).2 (by decide))
    clear hch hfz hsm ng
    by_cases hc : CapOk rs
    · have HC := Lib.hid hc
      clear hc
      have HV := Lib.hid (capV_yes HC.out)
      go_wp2_with fail
      refine (captureValid_any _ k cap rs _ GA.out HZ.out).mono ?_
      rw [HV.out]
      rintro e w2 ⟨rfl, hb2⟩
      have HB2 := Lib.hid (hb1.trans (hb2.mono hb1.size))
      have GA := Lib.hid ((GA.out).below hb2)
      clear hb2
      go_wp2_with fail
      refine (sCaptureValid_any _ k cap rs _ GA.out HZ.out).mono ?_
      rw [HV.out]
      rintro e w3 ⟨rfl, hb3⟩
      have HB3 := Lib.hid (HB2.out.trans (hb3.mono HB2.out.size))
      have GA := Lib.hid ((GA.out).below hb3)
      clear hb3
      by_cases hk0 : k = 0
      · subst hk0
        have HT := Lib.hid (show lastT 0 rs = 0 by rw [List.length_eq_zero_iff.1 hcl]; rfl)
        have TX := Lib.hid (show capV (rs ++ [(0, ByteArray.mk #[])]) = decide ((0 : Int) < 60) by have e := times_x HC.out hcl; rw [HT.out] at e; exact e)
        have TY := Lib.hid (show capV (rs ++ [((-1), ByteArray.mk #[])]) = false by have e := times_y rs; rw [HT.out] at e; exact e)
        have wt : IntKind.i64.wrap (0 - 1) = 0 - 1 := IntWalk.i64_in _ ⟨by omega, by omega⟩
        have BE1 := Lib.hid (show Below w3.heap.size w3 (w3.alloc (.cells #[] 33)) from below_box _ (Nat.le_refl _))
        have sE1 : w3.heap.size ≤ (w3.alloc (.cells #[] 33)).heap.size := BE1.out.size
        have OE1 := Lib.hid (World.ownsRow_lit (base := w3.heap.size) (e := 33) (size := 2) w3 #[] 0 (Nat.le_refl _) (by decide) rfl)
        have C1 := Lib.hid (rcs_flat (GA.out.below BE1.out))
        go_wp2_with (at_builtin; go_loud (refine list_catR rfl _ _ rfl w3.heap.size 0 0 0 _ _ _ _ [] rs (Nat.zero_add _) rfl OE1.out rfl hcl C1.out (by omega) sE1 ?_))
        intro gwa1 capwa1 wa1 hown hgrow
        have BA1 := Lib.hid (Below.grown BE1.out hgrow sE1 fun x h => by cases h; exact Nat.le_refl _)
        have OA1 := Lib.hid (hown.alloc (.cells #[.int .i64 0, .string (ByteArray.mk #[])] 33))
        have XA1 := Lib.hid (xgrow hown)
        have BF1 := Lib.hid (BA1.out.alloc BA1.out.size (.cells #[.int .i64 0, .string (ByteArray.mk #[])] 33))
        have sF1 := BF1.out.size
        clear hown hgrow
        go_wp2_with (at_builtin; go_loud (refine list_catR rfl _ _ rfl w3.heap.size 0 1 (0 + 1) _ _ _ ⟨wa1.heap.size, 0, none⟩ rs [(0, ByteArray.mk #[])] rfl rfl OA1.out rfl rfl (news_box (vs := [.int .i64 0, .string (ByteArray.mk #[])]) rfl) (by omega) sF1 ?_))
        intro gwb1 capwb1 wb1 hown hgrow
        have BB1 := Lib.hid (Below.grown BF1.out hgrow sF1 XA1.out)
        have GB1 := Lib.hid (own_rcs hown)
        have GA := Lib.hid (GA.out.below BB1.out)
        clear hown hgrow BE1 sE1 OE1 C1 BA1 OA1 XA1 BF1 sF1
        have BE2 := Lib.hid (show Below wb1.heap.size wb1 (wb1.alloc (.cells #[] 33)) from below_box _ (Nat.le_refl _))
        have sE2 : wb1.heap.size ≤ (wb1.alloc (.cells #[] 33)).heap.size := BE2.out.size
        have OE2 := Lib.hid (World.ownsRow_lit (base := wb1.heap.size) (e := 33) (size := 2) wb1 #[] 0 (Nat.le_refl _) (by decide) rfl)
        have C2 := Lib.hid (rcs_flat (GA.out.below BE2.out))
        go_wp2_with (at_builtin; go_loud (refine list_catR rfl _ _ rfl wb1.heap.size 0 0 0 _ _ _ _ [] rs (Nat.zero_add _) rfl OE2.out rfl hcl C2.out (by omega) sE2 ?_))
        intro gwa2 capwa2 wa2 hown hgrow
        have BA2 := Lib.hid (Below.grown BE2.out hgrow sE2 fun x h => by cases h; exact Nat.le_refl _)
        have OA2 := Lib.hid (hown.alloc (.cells #[.int .i64 (-1), .string (ByteArray.mk #[])] 33))
        have XA2 := Lib.hid (xgrow hown)
        have BF2 := Lib.hid (BA2.out.alloc BA2.out.size (.cells #[.int .i64 (-1), .string (ByteArray.mk #[])] 33))
        have sF2 := BF2.out.size
        clear hown hgrow
        go_wp2_with (at_builtin; go_loud (refine list_catR rfl _ _ rfl wb1.heap.size 0 1 (0 + 1) _ _ _ ⟨wa2.heap.size, 0, none⟩ rs [((-1), ByteArray.mk #[])] rfl rfl OA2.out rfl rfl (news_box (vs := [.int .i64 (-1), .string (ByteArray.mk #[])]) rfl) (by omega) sF2 ?_))
        intro gwb2 capwb2 wb2 hown hgrow
        have BB2 := Lib.hid (Below.grown BF2.out hgrow sF2 XA2.out)
        have GB2 := Lib.hid (own_rcs hown)
        have GA := Lib.hid (GA.out.below BB2.out)
        clear hown hgrow BE2 sE2 OE2 C2 BA2 OA2 XA2 BF2 sF2
        have GX := Lib.hid (GB1.out.below BB2.out)
        have HBW := Lib.hid (HB3.out.trans ((BB1.out.trans (BB2.out.mono BB1.out.size)).mono HB3.out.size))
        go_wp2_with fail
        refine (captureValid_any _ (0 + 1) _ (rs ++ [(0, ByteArray.mk #[])]) _ GX.out (small_more HZ.out _)).mono ?_
        rw [TX.out]
        rintro e wc ⟨rfl, hbc⟩
        have GY := Lib.hid (GB2.out.below hbc)
        have HBC := Lib.hid (HBW.out.trans (hbc.mono HBW.out.size))
        clear hbc
        go_wp2_with fail
        refine (captureValid_any _ (0 + 1) _ (rs ++ [((-1), ByteArray.mk #[])]) _ GY.out (small_more HZ.out _)).mono ?_
        rw [TY.out]
        rintro e wd ⟨rfl, hbd⟩
        have HBD := Lib.hid (HBC.out.trans (hbd.mono HBC.out.size))
        clear hbd
        go_wp2
        go_ret
        exact ⟨rfl, HBD.out⟩
      · have k0' : (0 : Int) < (k : Int) := by omega
        have r1 : IntKind.i64.wrap ((k : Int) - 1) = ((k - 1 : Nat) : Int) := (IntWalk.i64_in _ ⟨by omega, by omega⟩).trans (by omega)
        obtain ⟨p0, _⟩ := GA.out.at (Below.refl _ _) (show k - 1 < k by omega)
        simp only [rc_add] at p0
        have c0 : (0 : Int) ≤ ((k - 1 : Nat) : Int) := by omega
        have c1 : ((k - 1 : Nat) : Int) < (k : Int) := by omega
        have c2 : (((k - 1 : Nat) : Int)).toNat = k - 1 := by omega
        obtain ⟨T, hT⟩ : ∃ T, lastT 0 rs = T := ⟨_, rfl⟩
        have T0 : 0 ≤ T := by rw [← hT]; exact lastT_low (by omega) HC.out.1
        have T1 : T ≤ 4294967295 := by rw [← hT]; exact recsOk_last HC.out.1 (by omega)
        rw [← lastT_at (l := 0) (show rs.length = k - 1 + 1 by omega), hT] at p0
        have HT := Lib.hid hT
        clear hT
        have TX := Lib.hid (show capV (rs ++ [(T, ByteArray.mk #[])]) = decide (((k : Nat) : Int) < 60) by have e := times_x HC.out hcl; rw [HT.out] at e; exact e)
        have TY := Lib.hid (show capV (rs ++ [((T - 1), ByteArray.mk #[])]) = false by have e := times_y rs; rw [HT.out] at e; exact e)
        have wt : IntKind.i64.wrap (T - 1) = T - 1 := IntWalk.i64_in _ ⟨by omega, by omega⟩
        have BE1 := Lib.hid (show Below w3.heap.size w3 (w3.alloc (.cells #[] 33)) from below_box _ (Nat.le_refl _))
        have sE1 : w3.heap.size ≤ (w3.alloc (.cells #[] 33)).heap.size := BE1.out.size
        have OE1 := Lib.hid (World.ownsRow_lit (base := w3.heap.size) (e := 33) (size := 2) w3 #[] 0 (Nat.le_refl _) (by decide) rfl)
        have C1 := Lib.hid (rcs_flat (GA.out.below BE1.out))
        go_wp2_with (at_builtin; go_loud (refine list_catR rfl _ _ rfl w3.heap.size 0 k k _ _ _ _ [] rs (Nat.zero_add _) rfl OE1.out rfl hcl C1.out (by omega) sE1 ?_))
        intro gwa1 capwa1 wa1 hown hgrow
        have BA1 := Lib.hid (Below.grown BE1.out hgrow sE1 fun x h => by cases h; exact Nat.le_refl _)
        have OA1 := Lib.hid (hown.alloc (.cells #[.int .i64 T, .string (ByteArray.mk #[])] 33))
        have XA1 := Lib.hid (xgrow hown)
        have BF1 := Lib.hid (BA1.out.alloc BA1.out.size (.cells #[.int .i64 T, .string (ByteArray.mk #[])] 33))
        have sF1 := BF1.out.size
        clear hown hgrow
        go_wp2_with (at_builtin; go_loud (refine list_catR rfl _ _ rfl w3.heap.size k 1 (k + 1) _ _ _ ⟨wa1.heap.size, 0, none⟩ rs [(T, ByteArray.mk #[])] rfl rfl OA1.out rfl rfl (news_box (vs := [.int .i64 T, .string (ByteArray.mk #[])]) rfl) (by omega) sF1 ?_))
        intro gwb1 capwb1 wb1 hown hgrow
        have BB1 := Lib.hid (Below.grown BF1.out hgrow sF1 XA1.out)
        have GB1 := Lib.hid (own_rcs hown)
        have GA := Lib.hid (GA.out.below BB1.out)
        clear hown hgrow BE1 sE1 OE1 C1 BA1 OA1 XA1 BF1 sF1
        have BE2 := Lib.hid (show Below wb1.heap.size wb1 (wb1.alloc (.cells #[] 33)) from below_box _ (Nat.le_refl _))
        have sE2 : wb1.heap.size ≤ (wb1.alloc (.cells #[] 33)).heap.size := BE2.out.size
        have OE2 := Lib.hid (World.ownsRow_lit (base := wb1.heap.size) (e := 33) (size := 2) wb1 #[] 0 (Nat.le_refl _) (by decide) rfl)
        have C2 := Lib.hid (rcs_flat (GA.out.below BE2.out))
        go_wp2_with (at_builtin; go_loud (refine list_catR rfl _ _ rfl wb1.heap.size 0 k k _ _ _ _ [] rs (Nat.zero_add _) rfl OE2.out rfl hcl C2.out (by omega) sE2 ?_))
        intro gwa2 capwa2 wa2 hown hgrow
        have BA2 := Lib.hid (Below.grown BE2.out hgrow sE2 fun x h => by cases h; exact Nat.le_refl _)
        have OA2 := Lib.hid (hown.alloc (.cells #[.int .i64 (T - 1), .string (ByteArray.mk #[])] 33))
        have XA2 := Lib.hid (xgrow hown)
        have BF2 := Lib.hid (BA2.out.alloc BA2.out.size (.cells #[.int .i64 (T - 1), .string (ByteArray.mk #[])] 33))
        have sF2 := BF2.out.size
        clear hown hgrow
        go_wp2_with (at_builtin; go_loud (refine list_catR rfl _ _ rfl wb1.heap.size k 1 (k + 1) _ _ _ ⟨wa2.heap.size, 0, none⟩ rs [((T - 1), ByteArray.mk #[])] rfl rfl OA2.out rfl rfl (news_box (vs := [.int .i64 (T - 1), .string (ByteArray.mk #[])]) rfl) (by omega) sF2 ?_))
        intro gwb2 capwb2 wb2 hown hgrow
        have BB2 := Lib.hid (Below.grown BF2.out hgrow sF2 XA2.out)
        have GB2 := Lib.hid (own_rcs hown)
        have GA := Lib.hid (GA.out.below BB2.out)
        clear hown hgrow BE2 sE2 OE2 C2 BA2 OA2 XA2 BF2 sF2
        have GX := Lib.hid (GB1.out.below BB2.out)
        have HBW := Lib.hid (HB3.out.trans ((BB1.out.trans (BB2.out.mono BB1.out.size)).mono HB3.out.size))
        go_wp2_with fail
        refine (captureValid_any _ (k + 1) _ (rs ++ [(T, ByteArray.mk #[])]) _ GX.out (small_more HZ.out _)).mono ?_
        rw [TX.out]
        rintro e wc ⟨rfl, hbc⟩
        have GY := Lib.hid (GB2.out.below hbc)
        have HBC := Lib.hid (HBW.out.trans (hbc.mono HBW.out.size))
        clear hbc
        go_wp2_with fail
        refine (captureValid_any _ (k + 1) _ (rs ++ [((T - 1), ByteArray.mk #[])]) _ GY.out (small_more HZ.out _)).mono ?_
        rw [TY.out]
        rintro e wd ⟨rfl, hbd⟩
        have HBD := Lib.hid (HBC.out.trans (hbd.mono HBC.out.size))
        clear hbd
        go_wp2
        go_ret
        exact ⟨rfl, HBD.out⟩
    · have HC := Lib.hid hc
      clear hc
      have HV := Lib.hid (capV_no HC.out)
      go_wp2_with fail
      refine (captureValid_any _ k cap rs _ GA.out HZ.out).mono ?_
      rw [HV.out]
      rintro e w2 ⟨rfl, hb2⟩
      have HB2 := Lib.hid (hb1.trans (hb2.mono hb1.size))
      have GA := Lib.hid ((GA.out).below hb2)
      clear hb2
      go_wp2_with fail
      refine (sCaptureValid_any _ k cap rs _ GA.out HZ.out).mono ?_
      rw [HV.out]
      rintro e w3 ⟨rfl, hb3⟩
      have HB3 := Lib.hid (HB2.out.trans (hb3.mono HB2.out.size))
      have GA := Lib.hid ((GA.out).below hb3)
      clear hb3
      go_wp2
      go_ret
      exact ⟨rfl, HB3.out⟩

end Go.Proofs.Ytodpbjomiplphab
