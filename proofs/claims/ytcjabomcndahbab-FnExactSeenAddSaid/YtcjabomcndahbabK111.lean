/- The contracts of container/heap at the program's heap: up, down, Push, Pop. -/
import Derived.Test.YtcjabomcndahbabK110
namespace Go.Proofs.Ytcjabomcndahbab
open Go.RowKit Go.PlainAid

section
variable {p : Addr} {x : Value} {w : World}
theorem method_len (h : w.cell? p = some x) (n : Nat) : (Go.method (n + 1) 48 (.pointer (some p)) "Len").run Try.prog w = .ok (56, x) w := method_of (by kernel_rfl) h n
theorem method_less (h : w.cell? p = some x) (n : Nat) : (Go.method (n + 1) 48 (.pointer (some p)) "Less").run Try.prog w = .ok (77, x) w := method_of (by kernel_rfl) h n
theorem method_swap (h : w.cell? p = some x) (n : Nat) : (Go.method (n + 1) 48 (.pointer (some p)) "Swap").run Try.prog w = .ok (80, x) w := method_of (by kernel_rfl) h n
end

set_option maxHeartbeats 1000000 in
theorem hUp_any (B P g n cap : Nat) (es : List Int) (j : Nat) (w : World) (h : Hp B P g n cap es w) (hj : j < n) (hu : UpOk es n j) :
    Calls Try.prog 54 #[.iface 48 (.pointer (some ⟨P, 0, none⟩)), .int .i64 j] w fun e w' => e = .returned (.tuple #[]) ∧ ∃ ds, HeapOk ds n ∧ ds.Perm es ∧ Hp B P g n cap ds w' ∧ Fh g P w w' := by
  have hm := h.ns.len_int
  have HH := Lib.hid h
  have HU := Lib.hid (And.intro hu (List.Perm.refl es))
  clear h hu
  go_enter Try.func54, Try.ntmps54
  go_wp2
  go_loopw [1] (fun v wr => ∃ (k : Nat) (ds : List Int), k < n ∧ v = .int .i64 k ∧ Hid (UpOk ds n k ∧ ds.Perm es) ∧ Hid (Hp B P g n cap ds wr) ∧ Hid (Fh g P w wr)) (fun v _ => (intOf v).toNat)
  case atStart => exact ⟨j, es, hj, rfl, HU, HH, Lib.hid (Fh.refl g P _)⟩
  case round =>
    obtain ⟨k, ds, hk, rfl, hU, hH, hB⟩ := hrel
    clear HH HU
    by_cases h0 : k = 0
    · subst h0
      have K := Lib.hid (show HeapOk ds n from up_done hU.out.1 (.inl rfl))
      go_wp2
      go_end0
      exact ⟨rfl, ds, K.out, hU.out.2, hH.out, hB.out⟩
    · have e1 : IntKind.i64.wrap ((k : Int) - 1) = ((k - 1 : Nat) : Int) := by rw [IntWalk.i64_in _ ⟨by omega, by omega⟩]; omega
      obtain ⟨i, hi⟩ : ∃ i, (k - 1) / 2 = i := ⟨_, rfl⟩
      have e2 : ((k - 1 : Nat) : Int) / 2 = (i : Int) := by omega
      have hik : i < k := by omega
      have ne : ¬ (i : Int) = k := by omega
      have hc := hH.out.cell
      have mL := method_less hc
      have GN := Lib.hid hH.out.ns
      have ik : i < n := by omega
      by_cases hl : nAt ds k < nAt ds i
      · have HL := Lib.hid hl
        go_wp2_with fail
        refine (hLess_any ⟨g, 0, none⟩ n cap ds k i _ GN.out hk ik).mono ?_
        rw [decide_eq_true HL.out]
        rintro e w2 ⟨rfl, hb2⟩
        have H2 := Lib.hid (hH.out.up hb2)
        have B2 := Lib.hid (hB.out.trans (.of_below hb2))
        clear hb2 hc mL hl
        have hc := H2.out.cell
        have mL := method_swap hc
        go_wp2_with fail
        refine (hSwap_any B g n cap ds i k _ H2.out.own ik hk).mono ?_
        rintro e w3 ⟨rfl, ho, hg⟩
        have HU3 := Lib.hid (show UpOk (swapL ds i k) n i ∧ (swapL ds i k).Perm es from by
          have hln := H2.out.len
          refine ⟨?_, (swapL_perm (by omega) (by omega)).trans hU.out.2⟩
          have := up_swap (by omega) hU.out.1 (by omega) hk (by rw [hi]; exact HL.out)
          rwa [hi] at this)
        have H3 := Lib.hid (H2.out.row ho hg)
        have B3 := Lib.hid (B2.out.trans (.of_grown hg))
        clear ho hg hc mL
        go_wp2
        go_roundw
        case rel => exact ⟨i, swapL ds i k, ik, rfl, HU3, H3, B3⟩
        case measure => simp [intOf]; omega
      · have K := Lib.hid (show HeapOk ds n from up_done hU.out.1 (.inr (by rw [hi]; omega)))
        have HL := Lib.hid (show nAt ds i ≤ nAt ds k by omega)
        go_wp2_with fail
        refine (hLess_any ⟨g, 0, none⟩ n cap ds k i _ GN.out hk ik).mono ?_
        rw [decide_eq_false (Int.not_lt.2 HL.out)]
        rintro e w2 ⟨rfl, hb2⟩
        have H2 := Lib.hid (hH.out.up hb2)
        have B2 := Lib.hid (hB.out.trans (.of_below hb2))
        clear hb2 hc mL hl
        go_wp2
        go_end0
        exact ⟨rfl, ds, K.out, hU.out.2, H2.out, B2.out⟩

/-- The smaller child. -/
theorem par_child {k i : Nat} (h0 : 0 < k) (h : (k - 1) / 2 = i) : k = 2 * i + 1 ∨ k = 2 * i + 2 := by omega

set_option maxHeartbeats 2000000 in
theorem hDown_any (B P g n cap : Nat) (es : List Int) (m : Nat) (w : World) (h : Hp B P g n cap es w) (hmn : m ≤ n) (hn : n ≤ 1000) (hu : DnOk es m 0) (z : Int) (hz : m < n → nAt es m = z) :
    Calls Try.prog 60 #[.iface 48 (.pointer (some ⟨P, 0, none⟩)), .int .i64 0, .int .i64 m] w fun e w' => (∃ v, e = .returned v) ∧ ∃ ds, HeapOk ds m ∧ ds.Perm es ∧ (m < n → nAt ds m = z) ∧ Hp B P g n cap ds w' ∧ Fh g P w w' := by
  have HH := Lib.hid h
  have HU := Lib.hid (show DnOk es m 0 ∧ es.Perm es ∧ (m < n → nAt es m = z) from ⟨hu, List.Perm.refl es, hz⟩)
  clear h hu hz
  go_enter Try.func60, Try.ntmps60
  go_wp2
  go_loopw [7] (fun v wr => ∃ (k : Nat) (ds : List Int), k ≤ m ∧ v = .int .i64 k ∧ Hid (DnOk ds m k ∧ ds.Perm es ∧ (m < n → nAt ds m = z)) ∧ Hid (Hp B P g n cap ds wr) ∧ Hid (Fh g P w wr)) (fun v _ => m - (intOf v).toNat)
  case atStart => exact ⟨0, es, Nat.zero_le _, rfl, HU, HH, Lib.hid (Fh.refl g P _)⟩
  case round =>
    obtain ⟨k, ds, hk, rfl, hU, hH, hB⟩ := hrel
    clear HH HU
    have hBW : B ≤ wr.heap.size := Nat.le_trans hH.out.bp (Nat.le_of_lt hH.out.lt.2)
    obtain ⟨j, hj⟩ : ∃ j, 2 * k + 1 = j := ⟨_, rfl⟩
    obtain ⟨j2, hj2⟩ : ∃ j2, j + 1 = j2 := ⟨_, rfl⟩
    have e1 : IntKind.i64.wrap (2 * (k : Int)) = 2 * (k : Int) := IntWalk.i64_in _ ⟨by omega, by omega⟩
    have e2 : 2 * (k : Int) + 1 = (j : Int) := by omega
    have e3 : (j : Int) + 1 = (j2 : Int) := by omega
    have e4 : IntKind.i64.wrap (j : Int) = (j : Int) := IntWalk.i64_in _ ⟨by omega, by omega⟩
    have e5 : IntKind.i64.wrap (j2 : Int) = (j2 : Int) := IntWalk.i64_in _ ⟨by omega, by omega⟩
    have n0 : ¬ (j : Int) < 0 := by omega
    by_cases c1 : j < m
    · have c1' : ¬ (m : Int) ≤ (j : Int) := by omega
      by_cases c2 : j2 < m
      · have c2' : (j2 : Int) < (m : Int) := by omega
        by_cases t1 : nAt ds j2 < nAt ds j
        · have HT := Lib.hid t1
          clear t1
          have GN := Lib.hid hH.out.ns
          have hc := hH.out.cell
          have mL := method_less hc
          go_wp2_with fail
          refine (hLess_any ⟨g, 0, none⟩ n cap ds j2 j _ GN.out (by omega) (by omega)).mono ?_
          rw [decide_eq_true HT.out]
          rintro e w2 ⟨rfl, hb2⟩
          have H2 := Lib.hid (hH.out.up hb2)
          have B2 := Lib.hid (hB.out.trans (.of_below hb2))
          clear hb2 hc mL GN
          have HM := Lib.hid (show ∀ q, 0 < q → q < m → (q - 1) / 2 = k → nAt ds j2 ≤ nAt ds q from fun q q0 _ hq => by
            have ht := HT.out
            rcases par_child q0 hq with rfl | rfl
            · rw [hj]; omega
            · rw [show 2 * k + 2 = j2 by omega]; exact Int.le_refl _)
          by_cases hl : nAt ds j2 < nAt ds k
          · have HL := Lib.hid hl
            clear hl
            have GN := Lib.hid H2.out.ns
            have hc := H2.out.cell
            have mL := method_less hc
            go_wp2_with fail
            refine (hLess_any ⟨g, 0, none⟩ n cap ds j2 k _ GN.out (by omega) (by omega)).mono ?_
            rw [decide_eq_true HL.out]
            rintro e w3a ⟨rfl, hb2⟩
            have H2a := Lib.hid (H2.out.up hb2)
            have B2a := Lib.hid (B2.out.trans (.of_below hb2))
            clear hb2 hc mL GN
            have hc := H2a.out.cell
            have mL := method_swap hc
            go_wp2_with fail
            refine (hSwap_any B g n cap ds k j2 _ H2a.out.own (by omega) (by omega)).mono ?_
            rintro e w3b ⟨rfl, ho, hg⟩
            have HU3 := Lib.hid (show DnOk (swapL ds k j2) m j2 ∧ (swapL ds k j2).Perm es ∧ (m < n → nAt (swapL ds k j2) m = z) from by
              have hln := H2a.out.len
              refine ⟨dn_swap (by omega) hU.out.1 (by omega) (by omega) (by omega) HL.out HM.out, (swapL_perm (by omega) (by omega)).trans hU.out.2.1, fun h => ?_⟩
              rw [nAt_swap (by omega) (by omega), if_neg (by omega), if_neg (by omega)]
              exact hU.out.2.2 h)
            have H3 := Lib.hid (H2a.out.row ho hg)
            have B3 := Lib.hid (B2a.out.trans (.of_grown hg))
            clear ho hg hc mL
            go_wp2
            go_roundw
            case rel => exact ⟨j2, swapL ds k j2, by omega, rfl, HU3, H3, B3⟩
            case measure => simp [intOf]; omega
          · have HL := Lib.hid (show nAt ds k ≤ nAt ds j2 by omega)
            clear hl
            have K := Lib.hid (show HeapOk ds m from dn_done hU.out.1 fun q q0 qn hq => Int.le_trans HL.out (HM.out q q0 qn hq))
            have GN := Lib.hid H2.out.ns
            have hc := H2.out.cell
            have mL := method_less hc
            go_wp2_with fail
            refine (hLess_any ⟨g, 0, none⟩ n cap ds j2 k _ GN.out (by omega) (by omega)).mono ?_
            rw [decide_eq_false (Int.not_lt.2 HL.out)]
            rintro e w3a ⟨rfl, hb2⟩
            have H2a := Lib.hid (H2.out.up hb2)
            have B2a := Lib.hid (B2.out.trans (.of_below hb2))
            clear hb2 hc mL GN
            go_wp2
            go_ret
            exact ⟨⟨_, rfl⟩, ds, K.out, hU.out.2.1, hU.out.2.2, H2a.out, B2a.out⟩
        · have HT := Lib.hid (show nAt ds j ≤ nAt ds j2 by omega)
          clear t1
          have GN := Lib.hid hH.out.ns
          have hc := hH.out.cell
          have mL := method_less hc
          go_wp2_with fail
          refine (hLess_any ⟨g, 0, none⟩ n cap ds j2 j _ GN.out (by omega) (by omega)).mono ?_
          rw [decide_eq_false (Int.not_lt.2 HT.out)]
          rintro e w2 ⟨rfl, hb2⟩
          have H2 := Lib.hid (hH.out.up hb2)
          have B2 := Lib.hid (hB.out.trans (.of_below hb2))
          clear hb2 hc mL GN
          have HM := Lib.hid (show ∀ q, 0 < q → q < m → (q - 1) / 2 = k → nAt ds j ≤ nAt ds q from fun q q0 _ hq => by
            have ht := HT.out
            rcases par_child q0 hq with rfl | rfl
            · rw [hj]; exact Int.le_refl _
            · rw [show 2 * k + 2 = j2 by omega]; exact ht)
          by_cases hl : nAt ds j < nAt ds k
          · have HL := Lib.hid hl
            clear hl
            have GN := Lib.hid H2.out.ns
            have hc := H2.out.cell
            have mL := method_less hc
            go_wp2_with fail
            refine (hLess_any ⟨g, 0, none⟩ n cap ds j k _ GN.out (by omega) (by omega)).mono ?_
            rw [decide_eq_true HL.out]
            rintro e w3a ⟨rfl, hb2⟩
            have H2a := Lib.hid (H2.out.up hb2)
            have B2a := Lib.hid (B2.out.trans (.of_below hb2))
            clear hb2 hc mL GN
            have hc := H2a.out.cell
            have mL := method_swap hc
            go_wp2_with fail
            refine (hSwap_any B g n cap ds k j _ H2a.out.own (by omega) (by omega)).mono ?_
            rintro e w3b ⟨rfl, ho, hg⟩
            have HU3 := Lib.hid (show DnOk (swapL ds k j) m j ∧ (swapL ds k j).Perm es ∧ (m < n → nAt (swapL ds k j) m = z) from by
              have hln := H2a.out.len
              refine ⟨dn_swap (by omega) hU.out.1 (by omega) (by omega) (by omega) HL.out HM.out, (swapL_perm (by omega) (by omega)).trans hU.out.2.1, fun h => ?_⟩
              rw [nAt_swap (by omega) (by omega), if_neg (by omega), if_neg (by omega)]
              exact hU.out.2.2 h)
            have H3 := Lib.hid (H2a.out.row ho hg)
            have B3 := Lib.hid (B2a.out.trans (.of_grown hg))
            clear ho hg hc mL
            go_wp2
            go_roundw
            case rel => exact ⟨j, swapL ds k j, by omega, rfl, HU3, H3, B3⟩
            case measure => simp [intOf]; omega
          · have HL := Lib.hid (show nAt ds k ≤ nAt ds j by omega)
            clear hl
            have K := Lib.hid (show HeapOk ds m from dn_done hU.out.1 fun q q0 qn hq => Int.le_trans HL.out (HM.out q q0 qn hq))
            have GN := Lib.hid H2.out.ns
            have hc := H2.out.cell
            have mL := method_less hc
            go_wp2_with fail
            refine (hLess_any ⟨g, 0, none⟩ n cap ds j k _ GN.out (by omega) (by omega)).mono ?_
            rw [decide_eq_false (Int.not_lt.2 HL.out)]
            rintro e w3a ⟨rfl, hb2⟩
            have H2a := Lib.hid (H2.out.up hb2)
            have B2a := Lib.hid (B2.out.trans (.of_below hb2))
            clear hb2 hc mL GN
            go_wp2
            go_ret
            exact ⟨⟨_, rfl⟩, ds, K.out, hU.out.2.1, hU.out.2.2, H2a.out, B2a.out⟩
      · have c2' : decide ((j2 : Int) < (m : Int)) = false := decide_eq_false (by omega)
        have c2n : ¬ (j2 : Int) < (m : Int) := by omega
        have HM := Lib.hid (show ∀ q, 0 < q → q < m → (q - 1) / 2 = k → nAt ds j ≤ nAt ds q from fun q q0 hqm hq => by
          rcases par_child q0 hq with rfl | rfl
          · rw [hj]; exact Int.le_refl _
          · omega)
        by_cases hl : nAt ds j < nAt ds k
        · have HL := Lib.hid hl
          clear hl
          have GN := Lib.hid hH.out.ns
          have hc := hH.out.cell
          have mL := method_less hc
          go_wp2_with fail
          refine (hLess_any ⟨g, 0, none⟩ n cap ds j k _ GN.out (by omega) (by omega)).mono ?_
          rw [decide_eq_true HL.out]
          rintro e w3a ⟨rfl, hb2⟩
          have hHa := Lib.hid (hH.out.up hb2)
          have hBa := Lib.hid (hB.out.trans (.of_below hb2))
          clear hb2 hc mL GN
          have hc := hHa.out.cell
          have mL := method_swap hc
          go_wp2_with fail
          refine (hSwap_any B g n cap ds k j _ hHa.out.own (by omega) (by omega)).mono ?_
          rintro e w3b ⟨rfl, ho, hg⟩
          have HU3 := Lib.hid (show DnOk (swapL ds k j) m j ∧ (swapL ds k j).Perm es ∧ (m < n → nAt (swapL ds k j) m = z) from by
            have hln := hHa.out.len
            refine ⟨dn_swap (by omega) hU.out.1 (by omega) (by omega) (by omega) HL.out HM.out, (swapL_perm (by omega) (by omega)).trans hU.out.2.1, fun h => ?_⟩
            rw [nAt_swap (by omega) (by omega), if_neg (by omega), if_neg (by omega)]
            exact hU.out.2.2 h)
          have H3 := Lib.hid (hHa.out.row ho hg)
          have B3 := Lib.hid (hBa.out.trans (.of_grown hg))
          clear ho hg hc mL
          go_wp2
          go_roundw
          case rel => exact ⟨j, swapL ds k j, by omega, rfl, HU3, H3, B3⟩
          case measure => simp [intOf]; omega
        · have HL := Lib.hid (show nAt ds k ≤ nAt ds j by omega)
          clear hl
          have K := Lib.hid (show HeapOk ds m from dn_done hU.out.1 fun q q0 qn hq => Int.le_trans HL.out (HM.out q q0 qn hq))
          have GN := Lib.hid hH.out.ns
          have hc := hH.out.cell
          have mL := method_less hc
          go_wp2_with fail
          refine (hLess_any ⟨g, 0, none⟩ n cap ds j k _ GN.out (by omega) (by omega)).mono ?_
          rw [decide_eq_false (Int.not_lt.2 HL.out)]
          rintro e w3a ⟨rfl, hb2⟩
          have hHa := Lib.hid (hH.out.up hb2)
          have hBa := Lib.hid (hB.out.trans (.of_below hb2))
          clear hb2 hc mL GN
          go_wp2
          go_ret
          exact ⟨⟨_, rfl⟩, ds, K.out, hU.out.2.1, hU.out.2.2, hHa.out, hBa.out⟩
    · have K := Lib.hid (show HeapOk ds m from dn_done hU.out.1 fun q q0 qn hq => by rcases par_child q0 hq with rfl | rfl <;> omega)
      have c1' : (m : Int) ≤ (j : Int) := by omega
      go_wp2
      go_ret
      exact ⟨⟨_, rfl⟩, ds, K.out, hU.out.2.1, hU.out.2.2, hH.out, hB.out⟩

end Go.Proofs.Ytcjabomcndahbab
