/- The contracts of the program's chapter 13: a packet is read, or there is a reason why not. -/
import Derived.Test.YtcpdpamoddmpaabDoorK53
import Derived.Test.YtcpdpamoddmpaabDoorK50
import Derived.Test.YtcpdpamoddmpaabDoorK45
namespace Go.Proofs.YtcpdpamoddmpaabDoor
open Go.RowKit Go.PlainAid

/-- An error of errors.New's make. -/
def errV (a : Addr) : Value := .iface 137 (.pointer (some a))
/-- The program's three errors. -/
structure Errs (a0 a1 a2 : Addr) (W : World) : Prop where
  c0 : W.cell? ⟨0, 0, none⟩ = some (.iface 137 (.pointer (some a0)))
  c1 : W.cell? ⟨1, 0, none⟩ = some (.iface 137 (.pointer (some a1)))
  c2 : W.cell? ⟨2, 0, none⟩ = some (.iface 137 (.pointer (some a2)))
  n01 : a0 ≠ a1
  n02 : a0 ≠ a2
  n12 : a1 ≠ a2
  h0 : ∃ c t, W.heap[a0.block]? = some (.cells c t (0, 0))
  h1 : ∃ c t, W.heap[a1.block]? = some (.cells c t (0, 0))
  h2 : ∃ c t, W.heap[a2.block]? = some (.cells c t (0, 0))
theorem Errs.low {a0 a1 a2 : Addr} {W : World} (h : Errs a0 a1 a2 W) : 0 < W.heap.size ∧ 1 < W.heap.size ∧ 2 < W.heap.size :=
  ⟨lt_of_cell h.c0, lt_of_cell h.c1, lt_of_cell h.c2⟩
theorem Errs.under {a0 a1 a2 : Addr} {B : Nat} {W W' : World} (h : Errs a0 a1 a2 W) (hB : W.heap.size ≤ B) (hb : Below B W W') : Errs a0 a1 a2 W' := by
  obtain ⟨l0, l1, l2⟩ := h.low
  have go : ∀ a : Addr, (∃ c t, W.heap[a.block]? = some (.cells c t (0, 0))) → ∃ c t, W'.heap[a.block]? = some (.cells c t (0, 0)) := fun a ⟨c, t, e⟩ => ⟨c, t, (hb.block _ (Nat.lt_of_lt_of_le (Array.getElem?_eq_some_iff.1 e).1 hB)).trans e⟩
  exact ⟨(hb.cell (p := ⟨0, 0, none⟩) (Nat.lt_of_lt_of_le l0 hB)).trans h.c0, (hb.cell (p := ⟨1, 0, none⟩) (Nat.lt_of_lt_of_le l1 hB)).trans h.c1, (hb.cell (p := ⟨2, 0, none⟩) (Nat.lt_of_lt_of_le l2 hB)).trans h.c2, h.n01, h.n02, h.n12, go a0 h.h0, go a1 h.h1, go a2 h.h2⟩
/-- Which error it is. -/
def errA (a0 a1 a2 : Addr) (s : ByteArray) : Addr := if s.size < 12 then a0 else if be s 8 4 = sum13 s then a2 else a1
def NOP : Value := .agg #[.int .i64 0, .int .i64 0, .int .i64 0, .slice none 0 0]
/-- What packetRead answers. -/
def ReadP (a0 a1 a2 : Addr) (w : World) (s : ByteArray) (e : Ending) (w' : World) : Prop :=
  (∃ f t g cs x k cap, PackIs s f t g cs ∧ e = .returned (.tuple #[.agg #[.int .i64 f, .int .i64 t, .int .i64 g, .slice (some ⟨x, 0, none⟩) k cap], .nilIface]) ∧ w'.ownsRow w.heap.size 43 3 (.slice (some ⟨x, 0, none⟩) k cap) k (flatC cs))
  ∨ ((∀ f t g cs, ¬ PackIs s f t g cs) ∧ e = .returned (.tuple #[NOP, .iface 137 (.pointer (some (errA a0 a1 a2 s)))]))
theorem own_chsA {W : World} {base cap k : Nat} {a : Option Addr} {cs : List (Int × Int × ByteArray)} (h : W.ownsRow base 43 3 (.slice a k cap) k (flatC cs)) : Chs W a k cap cs := by
  have hl := h.1
  rw [flatC_length] at hl
  rcases h.2 with ⟨h1, h2⟩ | ⟨g', cap', cur, h1, _⟩
  · obtain ⟨rfl, rfl, rfl⟩ : a = none ∧ k = 0 ∧ cap = 0 := by simpa using h1
    exact .inl ⟨rfl, rfl, rfl, by cases cs with | nil => rfl | cons c l => simp at hl⟩
  · obtain ⟨rfl, _⟩ : a = some ⟨g', 0, none⟩ ∧ cap = cap' := by simpa using h1
    exact own_chs h
theorem own_someA {W : World} {base cap k : Nat} {a : Option Addr} {xs : List Value} {e size : Nat} (h : W.ownsRow base e size (.slice a k cap) k xs) (hk : 0 < k) : ∃ x, a = some ⟨x, 0, none⟩ := by
  rcases h.2 with ⟨_, h2⟩ | ⟨g', cap', cur, h1, _⟩
  · omega
  · obtain ⟨rfl, _⟩ : a = some ⟨g', 0, none⟩ ∧ cap = cap' := by simpa using h1
    exact ⟨g', rfl⟩
theorem rowBase {W : World} {base base' : Nat} {e : TypeId} {size : Nat} {v : Value} {n : Nat} {xs : List Value} (h : W.ownsRow base e size v n xs) (hb : base' ≤ base) : W.ownsRow base' e size v n xs := by
  refine ⟨h.1, ?_⟩
  rcases h.2 with h1 | ⟨g, cap, cur, h1, h2, h3⟩
  · exact .inl h1
  · exact .inr ⟨g, cap, cur, h1, by omega, h3⟩
theorem noPack_rest {s : ByteArray} {cs : List (Int × Int × ByteArray)} {k q : Nat} (hr : Run s 12 cs q) (hk : cs.length = k) (hn : k < 4 → ¬ Has s q) (hz : q < s.size) : ∀ f t g ds, ¬ PackIs s f t g ds := by
  by_cases h4 : k < 4
  · exact noPack_stuck hr (hn h4) hz
  · exact noPack_more hr (by omega) hz

set_option maxHeartbeats 4000000 in
theorem packetRead_any (a0 a1 a2 : Addr) (s : ByteArray) (w : World) (hs : s.size ≤ 100000000) (hE : Errs a0 a1 a2 w) :
    Calls Tryd.prog 29 #[.string s] w fun e w' => ReadP a0 a1 a2 w s e w' ∧ Below w.heap.size w w' := by
  have hm : s.size ≤ maxLen := Nat.le_trans hs (by decide)
  obtain ⟨l0, l1, l2⟩ := hE.low
  have n0 : ¬ w.heap.size = 0 := by omega
  have n1 : ¬ w.heap.size = 1 := by omega
  have n2 : ¬ w.heap.size = 2 := by omega
  by_cases h12 : s.size < 12
  · have V : errA a0 a1 a2 s = a0 := if_pos h12
    have NP := Lib.hid (noPack_short h12)
    have c12 : (s.size : Int) < 12 := by omega
    have e0 := past_c hE.c0 (.cells (List.toArray [.int .i64 0, .int .i64 0, .int .i64 0, .slice none 0 0]) 25)
    have HV := Lib.hid V
    clear V
    go_enter Tryd.func29, Tryd.ntmps29
    go_wp2
    go_region_law (fail)
    all_goals
      go_wp2
      refine bodyPost_ret (v := .tuple #[NOP, .iface 137 (.pointer (some a0))]) ?_ rfl ?_
      · simp [results, Tryd.results29, go_sem, NOP]
      · refine ⟨.inr ⟨NP.out, by rw [HV.out]⟩, ?_⟩
        repeat (first | with_reducible exact Below.refl _ _ | refine Below.setCell ?_ (by exact Nat.le_refl _) _ | refine Below.drew ?_ | refine Below.alloc ?_ (by first | exact Nat.le_refl _ | (simp; omega)) _)
  have h12' : 12 ≤ s.size := by omega
  have c12 : ¬ (s.size : Int) < 12 := by omega
  have k8 : (8 : Int) ≤ (s.size : Int) := by omega
  have k12 : (12 : Int) ≤ (s.size : Int) := by omega
  have z8 := size_cut s 0 8 (by omega)
  have z12 := size_cut s 12 s.size (Nat.le_refl _)
  -- the result's variable at r, the cursor at c
  obtain ⟨R, hR⟩ : ∃ R : Obj, R = .cells #[.int .i64 0, .int .i64 0, .int .i64 0, .slice none 0 0] 25 := ⟨_, rfl⟩
  have T0 : Cur (w.heap.size + 1) s (0 : Nat) ((w.alloc (.cells #[.int .i64 0, .int .i64 0, .int .i64 0, .slice none 0 0] 25)).alloc (.cells #[.string s, .int .i64 0] 76)) := by
    have v := VarN.new_at (w := w.alloc (.cells #[.int .i64 0, .int .i64 0, .int .i64 0, .slice none 0 0] 25)) (d := w.heap.size + 1) (by simp) [.string s, .int .i64 0] 76
    exact ⟨by simp, (v 0 _ rfl).1, (v 1 _ rfl).1, (v 1 _ rfl).2⟩
  have V0 := (VarN.new w [.int .i64 0, .int .i64 0, .int .i64 0, .slice none 0 0] 25).alloc (.cells (List.toArray [.string s, .int .i64 0]) 76) (by simp)
  have B0 := (below_box (.cells (List.toArray [.int .i64 0, .int .i64 0, .int .i64 0, .slice none 0 0]) 25) (Nat.le_refl w.heap.size)).alloc (by simp) (.cells (List.toArray [.string s, .int .i64 0]) 76)
  have HT := Lib.hid T0
  have HV0 := Lib.hid V0
  have HB0 := Lib.hid B0
  clear T0 V0 B0 hR
  have HE := Lib.hid hE
  clear hE R
  go_enter Tryd.func29, Tryd.ntmps29
  go_wp2_with fail
  refine (number_cur (w.heap.size + 1) s 0 2 _ hm (by omega) HT.out (by omega) (w.heap.size + 1) (Nat.le_refl _)).mono ?_
  rintro e w1 ⟨rfl, hc1, hf1⟩
  have HC1 := Lib.hid (hc1.go (q := (2 : Nat)) (by omega))
  have HF1 := Lib.hid hf1
  clear hc1 hf1
  go_wp2_with fail
  refine (number_cur (w.heap.size + 1) s 2 2 _ hm (by omega) HC1.out (by omega) (w.heap.size + 1) (Nat.le_refl _)).mono ?_
  rintro e w2 ⟨rfl, hc2, hf2⟩
  have HC2 := Lib.hid (hc2.go (q := (4 : Nat)) (by omega))
  have HF2 := Lib.hid (HF1.out.trans hf2)
  clear hc2 hf2
  go_wp2_with fail
  refine (number_cur (w.heap.size + 1) s 4 4 _ hm (by omega) HC2.out (by omega) (w.heap.size + 1) (Nat.le_refl _)).mono ?_
  rintro e w3 ⟨rfl, hc3, hf3⟩
  have HC3 := Lib.hid (hc3.go (q := (8 : Nat)) (by omega))
  have HF3 := Lib.hid (HF2.out.trans hf3)
  clear hc3 hf3
  go_wp2_with fail
  refine (number_cur (w.heap.size + 1) s 8 4 _ hm (by omega) HC3.out (by omega) (w.heap.size + 1) (Nat.le_refl _)).mono ?_
  rintro e w4 ⟨rfl, hc4, hf4⟩
  have C4 := hc4.go (q := (12 : Nat)) (by omega)
  have F4 := HF3.out.trans hf4
  have HV4 := Lib.hid (HV0.out.below F4.below (by omega))
  have HB4 := Lib.hid (HB0.out.trans (F4.below.mono (by omega)))
  have HC4 := Lib.hid C4
  clear hc4 hf4 C4 F4 HT HV0 HB0 HC1 HF1 HC2 HF2 HC3 HF3
  have r4 : w.heap.size < w4.heap.size := lt_of_cell (HV4.out 0 _ rfl).1
  go_upto_region 1 with fail
  go_cut [43] from 37 to 43 (fun x wx => x = .bool (be s 8 4 != sum13 s) ∧ Below w4.heap.size w4 wx)
  case first =>
    have EQ := Lib.hid (sum13_parts s)
    have hS := Lib.hid (Below.drew (Below.refl w4.heap.size w4))
    go_region_held_law (fun W => Below w4.heap.size w4 W) (first | with_reducible assumption | exact hS.out | exact (by assumption : Below w4.heap.size w4 _).trans ((by assumption : Below _ _ _).mono (by assumption : Below w4.heap.size w4 _).size))
      (first | (go_simp; go_at_call 26; refine (packetSum_any (s.extract 0 8) (s.extract 12 s.size) _ (by omega) (by omega)).mono ?_; rw [EQ.out]; rintro e w5 ⟨rfl, hb5⟩))
    all_goals
      rename_i hHeld
      go_wp2_with fail
      go_meet
      exact ⟨rfl, hHeld⟩
  case rest =>
    obtain ⟨rfl, b5⟩ := hcut
    have HV5 := Lib.hid (HV4.out.below b5 r4)
    have HB5 := Lib.hid (HB4.out.trans (b5.mono HB4.out.size))
    have HC5 := Lib.hid (HC4.out.grow b5)
    have HE5 := Lib.hid (HE.out.under (Nat.le_refl _) HB5.out)
    have r5 : w.heap.size < wc.heap.size := lt_of_cell (HV5.out 0 _ rfl).1
    clear b5 HV4 HB4 HC4 r4 k8 k12 z8 z12
    by_cases hsum : be s 8 4 = sum13 s
    case neg =>
      have V : errA a0 a1 a2 s = a1 := by unfold errA; rw [if_neg h12, if_neg hsum]
      have HV := Lib.hid V
      have NP := Lib.hid (noPack_sum hsum)
      have hne : (be s 8 4 != sum13 s) = true := by simpa using hsum
      clear hsum V
      have e1 := HE5.out.c1
      have r0 := (HV5.out 0 _ rfl).1
      have r1 := (HV5.out 1 _ rfl).1
      have r2 := (HV5.out 2 _ rfl).1
      have r3 := (HV5.out 3 _ rfl).1
      have f0 := (HV5.out 0 _ rfl).2
      have f1 := (HV5.out 1 _ rfl).2
      have f2 := (HV5.out 2 _ rfl).2
      have f3 := (HV5.out 3 _ rfl).2
      go_wp2
      go_region_law (fail)
      all_goals
        go_wp2
        refine bodyPost_ret (v := .tuple #[NOP, .iface 137 (.pointer (some a1))]) ?_ rfl ?_
        · simp [results, Tryd.results29, go_sem, NOP, r0, r1, r2, r3]
        · refine ⟨.inr ⟨NP.out, by rw [HV.out]⟩, ?_⟩
          repeat (first | with_reducible exact HB5.out | refine Below.setCell ?_ (by exact Nat.le_refl _) _ | refine Below.drew ?_)
    case pos =>
      have V : errA a0 a1 a2 s = a2 := by unfold errA; rw [if_neg h12, if_pos hsum]
      have HV := Lib.hid V
      have HS := Lib.hid hsum
      have hne : (be s 8 4 != sum13 s) = false := by simpa using hsum
      clear hsum V
      go_wp2_with fail
      refine (chunks_any (w.heap.size + 1) s 12 _ hs HC5.out h12' (w.heap.size + 1) (Nat.le_refl _)).mono ?_
      rintro e w6 ⟨a, cap, k, q, cs, rfl, hrun, hq, hk, hk4, hno, hrd⟩
      have HRun := Lib.hid hrun
      have HNO := Lib.hid hno
      have hF := hrd.fr
      have HV6 := HV5.out.below hF.below (by omega)
      have r6 : w.heap.size < w6.heap.size := lt_of_cell (HV6 0 _ rfl).1
      have HB6 := HB5.out.trans (hF.below.mono (by omega))
      have HE6 := HE.out.under (Nat.le_refl _) HB6
      have e2 := past_c HE6.c2 (.cells (List.toArray [.int .i64 (be s 0 2), .int .i64 (be s 2 2), .int .i64 (be s 4 4), .slice a k cap]) 25)
      have hcs := own_chsA hrd.own
      have HCS := Lib.hid (hcs.below (below_box (.cells (List.toArray [.int .i64 (be s 0 2), .int .i64 (be s 2 2), .int .i64 (be s 4 4), .slice a k cap]) 25) (Nat.le_refl _)))
      have up := hrd.up (below_box (.cells (List.toArray [.int .i64 (be s 0 2), .int .i64 (be s 2 2), .int .i64 (be s 4 4), .slice a k cap]) 25) (Nat.le_refl _))
      have d0 := up.cur.2.1
      have d1 := up.cur.2.2.1
      have HUP := Lib.hid up.own
      have V6 := HV6.alloc (.cells (List.toArray [.int .i64 (be s 0 2), .int .i64 (be s 2 2), .int .i64 (be s 4 4), .slice a k cap]) 25) r6
      have HV7 := Lib.hid V6
      have HB7 := Lib.hid (HB6.alloc (by omega) (.cells (List.toArray [.int .i64 (be s 0 2), .int .i64 (be s 2 2), .int .i64 (be s 4 4), .slice a k cap]) 25))
      have P7 := VarN.new w6 [.int .i64 (be s 0 2), .int .i64 (be s 2 2), .int .i64 (be s 4 4), .slice a k cap] 25
      have HP7 := Lib.hid P7
      have r0 := (V6 0 _ rfl).1
      have r1 := (V6 1 _ rfl).1
      have r2 := (V6 2 _ rfl).1
      have r3 := (V6 3 _ rfl).1
      have f0 := (V6 0 _ rfl).2
      have f1 := (V6 1 _ rfl).2
      have f2 := (V6 2 _ rfl).2
      have f3 := (V6 3 _ rfl).2
      clear hrun hno hrd hF HV6 HB6 HE6 hcs up V6 P7
      by_cases hlt : q < s.size
      · have NP := Lib.hid (noPack_rest HRun.out hk HNO.out hlt)
        go_wp2_with fail
        refine (has_yes (w.heap.size + 1) s q 1 _ hm (by omega) (by omega) d0 d1 (by omega) (by omega)).mono ?_
        rintro e w7 ⟨rfl, j7, rfl⟩
        go_wp2
        go_region_law (fail)
        all_goals
          go_wp2
          refine bodyPost_ret (v := .tuple #[NOP, .iface 137 (.pointer (some a2))]) ?_ rfl ?_
          · simp [results, Tryd.results29, go_sem, NOP, r0, r1, r2, r3]
          · refine ⟨.inr ⟨NP.out, by rw [HV.out]⟩, ?_⟩
            repeat (first | with_reducible exact HB7.out | refine Below.setCell ?_ (by exact Nat.le_refl _) _ | refine Below.drew ?_ | refine below_drewN ?_ _)
      · obtain rfl : q = s.size := by omega
        go_wp2_with fail
        refine (has_no (w.heap.size + 1) s s.size 1 _ hm (by omega) (by omega) d0 d1 (.inr (by omega))).mono ?_
        rintro e w7 ⟨rfl, j7, rfl⟩
        have D7 := Lib.hid (below_drewN (Below.refl (w6.alloc (.cells (List.toArray [.int .i64 (be s 0 2), .int .i64 (be s 2 2), .int .i64 (be s 4 4), .slice a k cap]) 25)).heap.size (w6.alloc (.cells (List.toArray [.int .i64 (be s 0 2), .int .i64 (be s 2 2), .int .i64 (be s 4 4), .slice a k cap]) 25))) j7)
        by_cases hok : PackOk (be s 0 2) (be s 2 2) (be s 4 4) cs
        · have OK := Lib.hid (packV_yes hok)
          have PK := Lib.hid (show PackIs s (be s 0 2) (be s 2 2) (be s 4 4) cs from ⟨h12', HS.out, ⟨rfl, rfl, rfl⟩, HRun.out, hok⟩)
          have hkp : 0 < k := by have := hok.2.2.1; omega
          clear hok
          go_wp2_with fail
          refine (packetValid_any _ _ _ a k cap cs _ (HCS.out.below D7.out)).mono ?_
          rw [OK.out]
          rintro e w8 ⟨rfl, hb8⟩
          have b78 := D7.out.trans (hb8.mono D7.out.size)
          have HV8 := HV7.out.below b78 (by simp; omega)
          have HP8 := HP7.out.below b78 (by simp)
          have HO8 := Lib.hid (rowUp HUP.out b78)
          have HB8 := Lib.hid (HB7.out.trans (b78.mono HB7.out.size))
          clear hb8 b78 r0 r1 r2 r3 f0 f1 f2 f3 d0 d1 e2
          have r0 := (HV8 0 _ rfl).1
          have r1 := (HV8 1 _ rfl).1
          have r2 := (HV8 2 _ rfl).1
          have r3 := (HV8 3 _ rfl).1
          have f0 := (HV8 0 _ rfl).2
          have f1 := (HV8 1 _ rfl).2
          have f2 := (HV8 2 _ rfl).2
          have f3 := (HV8 3 _ rfl).2
          have p0 := (HP8 0 _ rfl).1
          have p1 := (HP8 1 _ rfl).1
          have p2 := (HP8 2 _ rfl).1
          have p3 := (HP8 3 _ rfl).1
          obtain ⟨x, rfl⟩ := own_someA HO8.out hkp
          clear HV8 HP8
          go_wp2
          refine bodyPost_ret (v := .tuple #[.agg #[.int .i64 (be s 0 2), .int .i64 (be s 2 2), .int .i64 (be s 4 4), .slice (some ⟨x, 0, none⟩) k cap], .nilIface]) ?_ rfl ?_
          · simp [results, Tryd.results29, go_sem, r0, r1, r2, r3]
          · refine ⟨.inl ⟨_, _, _, cs, x, k, cap, PK.out, rfl, rowBase (base := wc.heap.size) ?_ (Nat.le_of_lt r5)⟩, ?_⟩
            · exact ownsRow_setCell_below (ownsRow_setCell_below (ownsRow_setCell_below (ownsRow_setCell_below HO8.out (a := ⟨w.heap.size, 0, none⟩) r5 _) (a := ⟨w.heap.size, 1, none⟩) r5 _) (a := ⟨w.heap.size, 2, none⟩) r5 _) (a := ⟨w.heap.size, 3, none⟩) r5 _
            · repeat (first | with_reducible exact HB8.out | refine Below.setCell ?_ (by exact Nat.le_refl _) _)
        · have OK := Lib.hid (packV_no hok)
          have NP := Lib.hid (noPack_bad HRun.out hok)
          clear hok
          go_wp2_with fail
          refine (packetValid_any _ _ _ a k cap cs _ (HCS.out.below D7.out)).mono ?_
          rw [OK.out]
          rintro e w8 ⟨rfl, hb8⟩
          have b78 := D7.out.trans (hb8.mono D7.out.size)
          have HV8 := HV7.out.below b78 (by simp; omega)
          have HB8 := Lib.hid (HB7.out.trans (b78.mono HB7.out.size))
          have HE8 := HE.out.under (Nat.le_refl _) HB8.out
          clear hb8 b78 r0 r1 r2 r3 f0 f1 f2 f3 d0 d1 e2
          have e2 := HE8.c2
          have r0 := (HV8 0 _ rfl).1
          have r1 := (HV8 1 _ rfl).1
          have r2 := (HV8 2 _ rfl).1
          have r3 := (HV8 3 _ rfl).1
          have f0 := (HV8 0 _ rfl).2
          have f1 := (HV8 1 _ rfl).2
          have f2 := (HV8 2 _ rfl).2
          have f3 := (HV8 3 _ rfl).2
          clear HV8 HE8
          go_wp2
          go_region_law (fail)
          all_goals
            go_wp2
            refine bodyPost_ret (v := .tuple #[NOP, .iface 137 (.pointer (some a2))]) ?_ rfl ?_
            · simp [results, Tryd.results29, go_sem, NOP, r0, r1, r2, r3]
            · refine ⟨.inr ⟨NP.out, by rw [HV.out]⟩, ?_⟩
              repeat (first | with_reducible exact HB8.out | refine Below.setCell ?_ (by exact Nat.le_refl _) _ | refine Below.drew ?_)

end Go.Proofs.YtcpdpamoddmpaabDoor
