/- The walks of the laws on the names of rules. -/
import Derived.Test.YtpdoegococcblaaK240
import Derived.Deep.QuietTactic
import Derived.BigQuiet
namespace Go.Proofs.Ytpdoegococcblaa
open Go.RowKit Go.PlainAid

set_option maxHeartbeats 400000 in
theorem walk_fnExactRuleName (a0 : Int) (_w0 : (Lit.int .i64 a0).wf = true) (w : World) :
    Calls Try.prog 9 #[.int .i64 a0] w fun e w' => e = .returned (.bool true) ∧ Below w.heap.size w w' := by
  go_enter Try.func9, Try.ntmps9
  go_wp2_with fail
  refine (sRuleName_any a0 _).mono ?_
  rintro e w1 ⟨rfl, hb1⟩
  go_wp2_with fail
  refine (ruleName_any a0 _).mono ?_
  rintro e w2 ⟨rfl, hb2⟩
  have hB := hb1.trans (hb2.mono hb1.size)
  clear hb1 hb2
  go_wp2
  go_ret
  exact ⟨rfl, hB⟩

set_option maxHeartbeats 2000000 in
theorem walk_fnRuleName (a0 : Option Addr) (len0 cap0 : Nat) (z0 : List Int) (w : World) (w0 : IsRow .u8 w a0 len0 cap0 z0) :
    Calls Try.prog 8 #[.slice a0 len0 cap0] w fun e w' => e = .returned (.bool true) ∧ Below w.heap.size w w' := by
  have H := Lib.hid w0
  clear w0
  by_cases hl : (1048576 : Int) < len0
  · go_enter Try.func8, Try.ntmps8
    go_wp2
    go_ret
    exact ⟨rfl, Below.refl _ _⟩
  · go_enter Try.func8, Try.ntmps8
    go_wp2_with fail
    refine (drawRuleName_any a0 len0 cap0 z0 _ H.out).mono ?_
    rintro e w1 ⟨k, rfl, ⟨k0, k1⟩, hb1⟩
    go_wp2_with fail
    refine (ruleName_any k _).mono ?_
    rintro e w2 ⟨rfl, hb2⟩
    go_wp2_with fail
    refine (sRuleName_any k _).mono ?_
    rintro e w3 ⟨rfl, hb3⟩
    have HB := Lib.hid (hb1.trans ((hb2.trans (hb3.mono hb2.size)).mono hb1.size))
    clear hb1 hb2 hb3
    obtain ⟨T, hT⟩ : ∃ T, ruleV k = T := ⟨_, rfl⟩
    have HH := Lib.hid (ruleV_has k)
    have HO := Lib.hid (fun j (h : (ruleV k).toList ≠ []) (hj : j ≠ k) => ruleV_other h hj)
    rw [hT] at HH HO
    rw [hT]
    clear hT
    go_wp2
    go_loopw [6] (fun i wr => ∃ n : Nat, n ≤ 14 ∧ i = .int .i64 n ∧ Hid (Below w.heap.size w wr)) (fun i _ => 14 - (intOf i).toNat)
    case atStart => exact ⟨0, by omega, rfl, HB⟩
    case round =>
      obtain ⟨n, hn, rfl, hbel⟩ := hrel
      by_cases hlt : n < 14
      · have hle : (n : Int) ≤ 13 := by omega
        by_cases hnk : (n : Int) = k
        · have d1 : ((n : Int) != k) = false := by simp [hnk]
          have d2 : decide ((n : Int) = k) = true := decide_eq_true hnk
          have d3 : ((n : Int) == k) = true := by simp [hnk]
          clear hnk
          go_wp2
          go_roundw
          case rel => exact ⟨n + 1, by omega, by go_num, hbel⟩
          case measure => simp [intOf]; omega
        · have d1 : ((n : Int) != k) = true := by simpa using hnk
          have d2 : decide ((n : Int) = k) = false := decide_eq_false hnk
          have d3 : ((n : Int) == k) = false := by simpa using hnk
          by_cases hT : T.toList = []
          · have t2 : T.toList.isEmpty = true := by rw [hT]; rfl
            clear hnk
            go_wp2
            go_roundw
            case rel => exact ⟨n + 1, by omega, by go_num, hbel⟩
            case measure => simp [intOf]; omega
          · have t2 : T.toList.isEmpty = false := by simpa using hT
            have F := HO.out n hT hnk
            obtain ⟨U, hU⟩ : ∃ U, ruleV (n : Int) = U := ⟨_, rfl⟩
            rw [hU] at F
            have F2 : ¬ U.toList = T.toList := by simpa using F
            have F3 : decide (U.toList = T.toList) = false := decide_eq_false F2
            have HU := Lib.hid hU
            clear hnk hU
            go_wp2_with fail
            refine (ruleName_any n _).mono ?_
            rintro e w2 ⟨rfl, hb2⟩
            rw [HU.out]
            have HB2 := Lib.hid (hbel.out.trans (hb2.mono hbel.out.size))
            clear hb2
            go_wp2
            go_roundw
            case rel => exact ⟨n + 1, by omega, by go_num, HB2⟩
            case measure => simp [intOf]; omega
      · obtain rfl : n = 14 := by omega
        by_cases hT : T.toList = []
        · have t2 : T.toList.isEmpty = true := by rw [hT]; rfl
          have hk := HH.out.1 hT
          by_cases h1 : (1 : Int) ≤ k
          · have h2 : ¬ k ≤ 11 := by omega
            have h3 : decide (k ≤ 11) = false := decide_eq_false h2
            have h4 : decide ((1 : Int) ≤ k) = true := decide_eq_true h1
            clear hk
            go_wp2
            go_ret
            exact ⟨rfl, hbel.out⟩
          · have h4 : decide ((1 : Int) ≤ k) = false := decide_eq_false h1
            clear hk
            go_wp2
            go_ret
            exact ⟨rfl, hbel.out⟩
        · have t2 : T.toList.isEmpty = false := by simpa using hT
          have hk : 1 ≤ k ∧ k ≤ 11 := Classical.byContradiction fun h => hT (HH.out.2 h)
          have h3 : decide (k ≤ 11) = true := decide_eq_true hk.2
          have h4 : decide ((1 : Int) ≤ k) = true := decide_eq_true hk.1
          obtain ⟨h1, h2⟩ := hk
          go_wp2
          go_ret
          exact ⟨rfl, hbel.out⟩

end Go.Proofs.Ytpdoegococcblaa
