/- The contracts of the program's chapter 22: the parts of an assembly as links; whether an assembly is valid; a copy of numbers. -/
import Derived.Test.YtncbgejggfkdmabK152
namespace Go.Proofs.Ytncbgejggfkdmab
open Go.RowKit Go.PlainAid

theorem hasT_take {ps : List Part} {k : Nat} {t : Int} (h : hasT (ps.take k) t = false) (hk : k ≤ ps.length) : ∀ i, i < k → (pAt ps i).tsn ≠ t := fun i hi => by
  refine hasT_no h (pAt ps i) ?_
  have e : pAt ps i = pAt (ps.take k) i := by
    unfold pAt
    rw [List.getD_eq_getElem?_getD, List.getD_eq_getElem?_getD, List.getElem?_take_of_lt hi]
  rw [e]
  exact pAt_mem (by rw [List.length_take]; omega)
theorem hasT_took {ps : List Part} {k : Nat} {t : Int} (h : hasT (ps.take k) t = true) (hk : k ≤ ps.length) : ∃ i, i < k ∧ (pAt ps i).tsn = t := by
  unfold hasT at h
  rw [List.any_eq_true] at h
  obtain ⟨p, hp, e⟩ := h
  obtain ⟨i, hi, rfl⟩ := mem_at hp
  rw [List.length_take] at hi
  refine ⟨i, by omega, ?_⟩
  have e2 : pAt (ps.take k) i = pAt ps i := by
    unfold pAt
    rw [List.getD_eq_getElem?_getD, List.getD_eq_getElem?_getD, List.getElem?_take_of_lt (by omega)]
  rw [← e2]
  simpa using e
/-- While the parts of an assembly are linked: k of them are. -/
structure Lg (w : World) (L M n : Nat) (ps : List Part) (k : Nat) (an : Option Addr) (ln cn : Nat) (ap : Option Addr) (lp cp : Nat) (W : World) : Prop where
  wl : ∃ ns, psOf ns = ps.take k ∧ Wl (w.heap.size + 1) W L M ns
  pre : PreOk n ps k
  box : VarN w.heap.size [.slice an ln cn, .slice ap lp cp] W
  b : Below w.heap.size w W

set_option maxRecDepth 8000 in
set_option maxHeartbeats 4000000 in
theorem waitListOf_any (an : Option Addr) (ln cn : Nat) (next : List Int) (ap : Option Addr) (lp cp : Nat) (ps : List Part) (w : World) (h : Ns w an ln cn next) (hp : Pts w ap lp cp ps) (hk : ∀ p ∈ ps, Key p.tsn) :
    Calls Try.prog 42 #[.agg #[.slice an ln cn, .slice ap lp cp]] w fun e w' => ((AsmOk next ps ∧ ∃ L M ns, e = .returned (.tuple #[.pointer (some ⟨L, 0, none⟩), .bool true]) ∧ psOf ns = ps ∧ Wl w.heap.size w' L M ns) ∨ (¬ AsmOk next ps ∧ e = .returned (.tuple #[.pointer none, .bool false]))) ∧ Below w.heap.size w w' := by
  have hl := h.length
  have hlp := hp.length
  have hmp := hp.len_int
  have HBX := below_box (w := w) (.cells #[.slice an ln cn, .slice ap lp cp] 27) (Nat.le_refl _)
  have HG := Lib.hid (h.below HBX)
  have HP := Lib.hid hp
  have HKY := Lib.hid hk
  have NV := nextValid_any an ln cn next _ HG.out
  have LN := Lib.hid hl
  have LP := Lib.hid hlp
  have HB := Lib.hid HBX
  clear h hp hk hl hlp HBX
  cases hv : nextOkV next with
  | false =>
    have N := Lib.hid (show ¬ AsmOk next ps from fun h => by rw [nextOkV_yes h.next] at hv; cases hv)
    rw [hv] at NV
    clear hv
    go_enter Try.func42, Try.ntmps42
    go_wp2_with fail
    refine NV.mono ?_
    rintro e w1 ⟨rfl, rfl⟩
    go_wp2
    go_ret2
    exact ⟨.inr ⟨N.out, rfl⟩, HB.out⟩
  | true =>
    have N := Lib.hid (of_decide_eq_true hv : NextOk next)
    rw [hv] at NV
    clear hv
    have hmm := @run_makeMap Try.prog
    have L0 := Lib.hid (show Lg w (w.heap.size + 2) (w.heap.size + 1) ln ps 0 an ln cn ap lp cp (((w.alloc (.cells #[.slice an ln cn, .slice ap lp cp] 27)).alloc (.map #[] 0)).alloc (.cells #[.pointer none, .pointer none, .map (some (w.heap.size + 1))] 97)) from by
      refine ⟨⟨[], by simp [psOf], ?_⟩, ⟨fun i hi => absurd hi (Nat.not_lt_zero _), fun i j _ hj => absurd hj (Nat.not_lt_zero _)⟩, ((VarN.new w _ _).alloc _ (by first | (simp; done) | (simp; omega))).alloc _ (by first | (simp; done) | (simp; omega)), (HB.out.alloc (by simp) _).alloc (by first | (simp; done) | (simp; omega)) _⟩
      refine ⟨⟨?_, fun i hi => by simp at hi, by simp, fun x hx => by simp at hx⟩, ⟨.map [], ?_⟩, by simp [psOf], fun p hp => by simp [psOf] at hp, by omega, fun x hx => by simp at hx, by omega, by omega, fun x hx => by simp at hx⟩
      · have := VarN.new_at (w := (w.alloc (.cells #[.slice an ln cn, .slice ap lp cp] 27)).alloc (.map #[] 0)) (d := w.heap.size + 2) (by simp) [.pointer none, .pointer none, .map (some (w.heap.size + 1))] 97
        exact this
      · have := Tab.new (w.alloc (.cells #[.slice an ln cn, .slice ap lp cp] 27))
        rw [show (w.alloc (.cells #[.slice an ln cn, .slice ap lp cp] 27)).heap.size = w.heap.size + 1 by simp] at this
        exact this.block (heap_past _ _ (by simp)))
    go_enter Try.func42, Try.ntmps42
    go_wp2_with fail
    refine NV.mono ?_
    rintro e w1 ⟨rfl, rfl⟩
    go_wp2
    go_loopw [17] (fun i wr => ∃ k : Nat, k ≤ lp ∧ i = .int .i64 k ∧ k ≤ 12 ∧ Hid (Lg w (w.heap.size + 2) (w.heap.size + 1) ln ps k an ln cn ap lp cp wr)) (fun i _ => lp - (intOf i).toNat)
    case atStart => exact ⟨0, Nat.zero_le _, rfl, by omega, L0⟩
    case round =>
      obtain ⟨k, hk, rfl, hk12, hL⟩ := hrel
      clear L0 hmm
      by_cases hlt : k < lp
      · obtain ⟨x, rfl⟩ := HP.out.addr hlt
        obtain ⟨p0, p1, p2, p3, p4, p5, p6⟩ := HP.out.at hL.out.b hlt
        have hkl : k < ps.length := by rw [LP.out]; exact hlt
        have HKP := Lib.hid (HKY.out _ (pAt_mem hkl))
        have HPM := Lib.hid (pAt_mem hkl)
        have HTK := Lib.hid (take_pAt hkl)
        obtain ⟨⟨t, s, q, fi, la, lo, tx⟩, he⟩ : ∃ e, pAt ps k = e := ⟨_, rfl⟩
        have HE := Lib.hid he
        rw [he] at p0 p1 p2 p3 p4 p5 p6 HKP HPM HTK
        dsimp only at p0 p1 p2 p3 p4 p5 p6
        have b0 := (hL.out.box 0 _ rfl).1
        obtain ⟨ns, hns, hwl⟩ := hL.out.wl
        have HNS := Lib.hid hns
        have hnl : ns.length = k := by rw [← psOf_length, hns, List.length_take]; omega
        have HNL := Lib.hid hnl
        have HW := Lib.hid (hwl.alloc (.cells #[.int .i64 t, .int .i64 s, .int .i64 q, .bool fi, .bool la, .bool lo, .string tx] 43))
        have hsz := hL.out.b.size
        have hsl : w.heap.size < wr.heap.size := hL.out.box.lt
        have HB2 := Lib.hid (hL.out.b.alloc hsz (.cells #[.int .i64 t, .int .i64 s, .int .i64 q, .bool fi, .bool la, .bool lo, .string tx] 43))
        have HBOX := Lib.hid (hL.out.box.alloc (.cells #[.int .i64 t, .int .i64 s, .int .i64 q, .bool fi, .bool la, .bool lo, .string tx] 43) (by have := hL.out.box.lt; exact this))
        have FU := full_any _ _ _ ns _ HW.out (by omega)
        have HS := has_any _ _ _ ns t _ HW.out HKP.out
        rw [hns] at HS
        rw [hnl] at FU
        have PRE := Lib.hid hL.out.pre
        clear he hns hwl hnl hL
        by_cases hc12 : 12 ≤ k
        · have NO := Lib.hid (show ¬ AsmOk next ps from fun h => by have := h.few; have := LP.out; omega)
          rw [decide_eq_true hc12] at FU
          go_wp2_with fail
          refine FU.mono ?_
          rintro e w2 ⟨rfl, rfl⟩
          go_wp2
          go_ret2
          exact ⟨.inr ⟨NO.out, rfl⟩, HB2.out⟩
        · rw [decide_eq_false hc12] at FU
          cases hht : hasT (ps.take k) t with
          | true =>
            rw [hht] at HS
            have NO := Lib.hid (show ¬ AsmOk next ps from fun h => by
              obtain ⟨i, hi, e⟩ := hasT_took hht (by omega)
              exact h.pre.2 i k hi hkl (by rw [HE.out]; exact e))
            clear hht
            go_wp2_with fail
            refine FU.mono ?_
            rintro e w2 ⟨rfl, rfl⟩
            go_wp2_with fail
            refine HS.mono ?_
            rintro e w2 ⟨rfl, rfl⟩
            go_wp2
            go_ret2
            exact ⟨.inr ⟨NO.out, rfl⟩, HB2.out⟩
          | false =>
            rw [hht] at HS
            have HT := Lib.hid hht
            have PO := fun w => partOf_any ⟨t, s, q, fi, la, lo, tx⟩ ln w
            have PE := partV_eq t s q fi la lo tx
            rw [PE] at PO
            clear hht
            by_cases hpo : PartOk ln ⟨t, s, q, fi, la, lo, tx⟩
            · have POK := Lib.hid hpo
              rw [partOkV_yes hpo] at PO
              have POH := Lib.hid PO
              clear hpo PO
              go_wp2_with fail
              refine FU.mono ?_
              rintro e w2 ⟨rfl, rfl⟩
              go_wp2_with fail
              refine HS.mono ?_
              rintro e w2 ⟨rfl, rfl⟩
              clear FU HS
              go_wp2_with fail
              refine (POH.out _).mono ?_
              rintro e w3 ⟨rfl, hb3⟩
              have HW3 := Lib.hid (HW.out.below hb3)
              have HBOX3 := Lib.hid (HBOX.out.below hb3 (by simp; omega))
              have V3 := (VarN.new wr [.int .i64 t, .int .i64 s, .int .i64 q, .bool fi, .bool la, .bool lo, .string tx] 43).below hb3 (by simp)
              have q0 := (V3 0 _ rfl).1
              have q1 := (V3 1 _ rfl).1
              have q2 := (V3 2 _ rfl).1
              have q3 := (V3 3 _ rfl).1
              have q4 := (V3 4 _ rfl).1
              have q5 := (V3 5 _ rfl).1
              have q6 := (V3 6 _ rfl).1
              have HB3 := Lib.hid (HB2.out.trans (hb3.mono (by simp; omega)))
              have AD := add_any _ _ _ ns ⟨t, s, q, fi, la, lo, tx⟩ w3 HW3.out (by rw [HNL.out]; omega) HKP.out (by rw [HNS.out]; exact HT.out)
              rw [PE] at AD
              clear hb3 V3 p0 p1 p2 p3 p4 p5 p6 b0
              go_wp2_with fail
              refine AD.mono ?_
              rintro e w4 ⟨rfl, d, hw4, hd4, hk4⟩
              have L4 := Lib.hid (show Lg w (w.heap.size + 2) (w.heap.size + 1) ln ps (k + 1) an ln cn (some x) lp cp w4 from
                ⟨⟨_, by rw [psOf_append, HNS.out, HTK.out]; rfl, hw4⟩, PRE.out.more (by rw [HE.out]; exact POK.out) (by rw [HE.out]; exact hasT_take HT.out (by omega)),
                 HBOX3.out.blk (hk4.b.block _ (by omega)), HB3.out.trans (hk4.b.mono (Nat.le_succ _))⟩)
              clear hw4 hd4 hk4 AD PE
              go_wp2
              go_roundw
              case rel => exact ⟨k + 1, by omega, by go_num, by omega, L4⟩
              case measure => simp [intOf]; omega
            · rw [partOkV_no hpo] at PO
              have POH := Lib.hid PO
              have NO := Lib.hid (show ¬ AsmOk next ps from fun h => hpo (by have := h.ok _ HPM.out; rw [LN.out] at this; exact this))
              clear hpo PO
              go_wp2_with fail
              refine FU.mono ?_
              rintro e w2 ⟨rfl, rfl⟩
              go_wp2_with fail
              refine HS.mono ?_
              rintro e w2 ⟨rfl, rfl⟩
              clear FU HS
              go_wp2_with fail
              refine (POH.out _).mono ?_
              rintro e w3 ⟨rfl, hb3⟩
              have HB3 := Lib.hid (HB2.out.trans (hb3.mono (by simp; omega)))
              clear hb3
              go_wp2
              go_ret2
              exact ⟨.inr ⟨NO.out, rfl⟩, HB3.out⟩
      · obtain rfl : k = lp := by omega
        have OK := Lib.hid (show AsmOk next ps from pre_all N.out.ser (by rw [LN.out, LP.out]; exact hL.out.pre) N.out.1 N.out.2.1 (by rw [LP.out]; exact hk12))
        go_wp2
        go_ret2
        obtain ⟨ns, h1, h2⟩ := hL.out.wl
        have e : ps.take k = ps := List.take_of_length_le (by rw [LP.out]; exact Nat.le_refl _)
        exact ⟨.inl ⟨OK.out, _, _, ns, rfl, h1.trans e, ⟨h2.lk, h2.tab, h2.td, h2.key, h2.ml, h2.fm, by have := h2.lo.1; omega, by have := h2.lo.2.1; omega, fun x hx => by have := h2.lo.2.2 x hx; omega⟩⟩, hL.out.b⟩

set_option maxHeartbeats 400000 in
theorem asmValid_any (an : Option Addr) (ln cn : Nat) (next : List Int) (ap : Option Addr) (lp cp : Nat) (ps : List Part) (w : World) (h : Ns w an ln cn next) (hp : Pts w ap lp cp ps) (hk : ∀ p ∈ ps, Key p.tsn) :
    Calls Try.prog 16 #[.agg #[.slice an ln cn, .slice ap lp cp]] w fun e w' => e = .returned (.bool (asmV next ps)) ∧ Below w.heap.size w w' := by
  have HB := below_box (w := w) (.cells #[.slice an ln cn, .slice ap lp cp] 27) (Nat.le_refl _)
  have WL := waitListOf_any an ln cn next ap lp cp ps _ (h.below HB) (hp.below HB) hk
  have HB := Lib.hid HB
  go_enter Try.func16, Try.ntmps16
  go_wp2_with fail
  refine WL.mono ?_
  rintro e w1 ⟨⟨hok, L, M, ns, rfl, _, _⟩ | ⟨hno, rfl⟩, hb2⟩
  · have V := Lib.hid (asmV_yes hok)
    go_wp2
    go_ret
    exact ⟨ret_b V.out.symm, HB.out.trans (hb2.mono HB.out.size)⟩
  · have V := Lib.hid (asmV_no hno)
    go_wp2
    go_ret
    exact ⟨ret_b V.out.symm, HB.out.trans (hb2.mono HB.out.size)⟩

end Go.Proofs.Ytncbgejggfkdmab
