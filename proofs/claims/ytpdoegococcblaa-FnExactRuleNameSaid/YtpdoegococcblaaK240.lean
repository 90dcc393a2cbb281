/- The contracts of the names of rules, and their draw. -/
import Derived.Test.YtpdoegococcblaaK1
import Derived.Test.YtpdoegococcblaaK13
import Derived.Test.YtpdoegococcblaaK4
namespace Go.Proofs.Ytpdoegococcblaa
open Go.RowKit Go.PlainAid

/-- The names, in their order. -/
def ruleL : List ByteArray := [⟨#[]⟩, ⟨#[97, 108, 111, 110, 101]⟩, ⟨#[116, 97, 103]⟩, ⟨#[115, 116, 97, 116, 101]⟩, ⟨#[98, 111, 100, 121]⟩, ⟨#[115, 116, 114, 101, 97, 109]⟩, ⟨#[116, 115, 110]⟩, ⟨#[97, 103, 97, 105, 110]⟩, ⟨#[115, 115, 110]⟩, ⟨#[97, 99, 107]⟩, ⟨#[115, 104, 117, 116]⟩, ⟨#[108, 105, 109, 105, 116]⟩]
/-- The name of a rule. -/
def ruleV (k : Int) : ByteArray := if 0 ≤ k ∧ k ≤ 11 then ruleL.getD k.toNat ⟨#[]⟩ else ⟨#[]⟩
theorem ruleV_out {k : Int} (h : ¬ (0 ≤ k ∧ k ≤ 11)) : ruleV k = ⟨#[]⟩ := if_neg h
theorem ruleV_same : ∀ i j : Fin 12, i ≠ j → (ruleV i.val).toList ≠ [] → (ruleV j.val).toList ≠ (ruleV i.val).toList := by decide +kernel
theorem no_text2 : (ByteArray.mk #[]).toList = [] := by rw [ByteArray.toList_eq]
theorem ruleV_some : ∀ i : Fin 12, ((ruleV i.val).toList = []) ↔ i.val = 0 := by decide +kernel
/-- Rules alone have names. -/
theorem ruleV_has (k : Int) : (ruleV k).toList = [] ↔ ¬ (1 ≤ k ∧ k ≤ 11) := by
  by_cases h1 : 0 ≤ k ∧ k ≤ 11
  · have g := ruleV_some ⟨k.toNat, by omega⟩
    rw [show ((⟨k.toNat, by omega⟩ : Fin 12).val : Int) = k by show ((k.toNat : Nat) : Int) = k; omega] at g
    rw [g]
    show k.toNat = 0 ↔ _
    omega
  · rw [ruleV_out h1]
    exact ⟨fun _ => by omega, fun _ => no_text2⟩
/-- Another number has another name. -/
theorem ruleV_other {k j : Int} (hk : (ruleV k).toList ≠ []) (h : j ≠ k) : ((ruleV j).toList == (ruleV k).toList) = false := by
  rw [beq_eq_false_iff_ne]
  by_cases h1 : 0 ≤ k ∧ k ≤ 11
  · by_cases h2 : 0 ≤ j ∧ j ≤ 11
    · have e1 : ((⟨k.toNat, by omega⟩ : Fin 12).val : Int) = k := by show ((k.toNat : Nat) : Int) = k; omega
      have e2 : ((⟨j.toNat, by omega⟩ : Fin 12).val : Int) = j := by show ((j.toNat : Nat) : Int) = j; omega
      have g := ruleV_same ⟨k.toNat, by omega⟩ ⟨j.toNat, by omega⟩ (fun e => h (by have := congrArg Fin.val e; simp only at this; omega))
      rw [e1, e2] at g
      exact g hk
    · rw [ruleV_out h2]
      exact fun e => hk (by rw [← e]; exact no_text2)
  · rw [ruleV_out h1] at hk
    exact absurd no_text2 hk

set_option maxHeartbeats 4000000 in
theorem sRuleName_any (k : Int) (w : World) :
    Calls Try.prog 29 #[.int .i64 k] w fun e w' => e = .returned (.string (ruleV k)) ∧ Below w.heap.size w w' := by
  by_cases h : 0 ≤ k ∧ k ≤ 11
  · have D := Lib.hid (decide_eq_true h)
    obtain ⟨h0, h1⟩ := h
    rcases (show k = 0 ∨ k = 1 ∨ k = 2 ∨ k = 3 ∨ k = 4 ∨ k = 5 ∨ k = 6 ∨ k = 7 ∨ k = 8 ∨ k = 9 ∨ k = 10 ∨ k = 11 by omega) with rfl | rfl | rfl | rfl | rfl | rfl | rfl | rfl | rfl | rfl | rfl | rfl
    all_goals
      go_enter Try.func29, Try.ntmps29
      go_wp2_with fail
      refine (l6In_any _ 0 11 _).mono ?_
      rintro e w1 ⟨rfl, rfl⟩
      rw [D.out]
      go_wp2
      go_ret
      exact ⟨rfl, below_box _ (Nat.le_refl _)⟩
  · have D := Lib.hid (decide_eq_false h)
    rw [ruleV_out h]
    clear h
    go_enter Try.func29, Try.ntmps29
    go_wp2_with fail
    refine (l6In_any k 0 11 _).mono ?_
    rintro e w1 ⟨rfl, rfl⟩
    rw [D.out]
    go_wp2
    go_ret
    exact ⟨rfl, below_box _ (Nat.le_refl _)⟩

set_option maxHeartbeats 4000000 in
theorem ruleName_any (k : Int) (w : World) :
    Calls Try.prog 28 #[.int .i64 k] w fun e w' => e = .returned (.string (ruleV k)) ∧ Below w.heap.size w w' := by
  by_cases h : 0 ≤ k ∧ k ≤ 11
  · obtain ⟨h0, h1⟩ := h
    rcases (show k = 0 ∨ k = 1 ∨ k = 2 ∨ k = 3 ∨ k = 4 ∨ k = 5 ∨ k = 6 ∨ k = 7 ∨ k = 8 ∨ k = 9 ∨ k = 10 ∨ k = 11 by omega) with rfl | rfl | rfl | rfl | rfl | rfl | rfl | rfl | rfl | rfl | rfl | rfl
    all_goals
      clear h0 h1
      go_enter Try.func28, Try.ntmps28
      go_wp2
      go_ret
      exact ⟨rfl, below_box _ (Nat.le_refl _)⟩
  · rw [ruleV_out h]
    by_cases h0 : k < 0
    · go_enter Try.func28, Try.ntmps28
      go_wp2
      go_ret
      exact ⟨rfl, below_box _ (Nat.le_refl _)⟩
    · have h1 : (12 : Int) ≤ k := by omega
      go_enter Try.func28, Try.ntmps28
      go_wp2
      go_ret
      exact ⟨rfl, below_box _ (Nat.le_refl _)⟩

set_option maxHeartbeats 400000 in
theorem drawRuleName_any (a : Option Addr) (len cap : Nat) (zs : List Int) (w : World) (h : IsRow .u8 w a len cap zs) :
    Calls Try.prog 27 #[.slice a len cap] w fun e w' => ∃ n : Int, e = .returned (.int .i64 n) ∧ (-1 ≤ n ∧ n ≤ 13) ∧ Below w.heap.size w w' := by
  have H := Lib.hid h
  clear h
  go_enter Try.func27, Try.ntmps27
  go_wp2_with fail
  refine (l6Open_any a len cap zs _ H.out).mono ?_
  rintro e w1 ⟨r, rfl, hr1, hb1⟩
  go_wp2_with fail
  refine (pick_any _ r 0 15 _ hr1 (by omega) (by omega) (by omega)).mono ?_
  rintro e w2 ⟨j, rfl, j0, j1, hr2, ho2⟩
  have hb2 := hb1.trans (ho2.below hr1.1)
  go_wp2
  go_ret
  exact ⟨_, rfl, ⟨by omega, by omega⟩, hb2⟩

end Go.Proofs.Ytpdoegococcblaa
