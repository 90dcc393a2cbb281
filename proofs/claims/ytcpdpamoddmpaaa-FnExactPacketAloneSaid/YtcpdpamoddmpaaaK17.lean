/- The contracts of the names of chunks in the model, and of the laws' own helpers on chunks. -/
import Derived.Test.YtcpdpamoddmpaaaK14
import Derived.Test.YtcpdpamoddmpaaaK15
namespace Go.Proofs.Ytcpdpamoddmpaaa
open Go.RowKit Go.PlainAid

/-- The names, in their order. -/
def nameL : List ByteArray := [⟨#[100, 97, 116, 97]⟩, ⟨#[105, 110, 105, 116]⟩, ⟨#[105, 110, 105, 116, 97, 99, 107]⟩, ⟨#[115, 97, 99, 107]⟩, ⟨#[98, 101, 97, 116]⟩, ⟨#[98, 101, 97, 116, 97, 99, 107]⟩, ⟨#[97, 98, 111, 114, 116]⟩, ⟨#[115, 104, 117, 116]⟩, ⟨#[115, 104, 117, 116, 97, 99, 107]⟩, ⟨#[101, 114, 114, 111, 114]⟩, ⟨#[99, 111, 111, 107, 105, 101]⟩, ⟨#[99, 111, 111, 107, 105, 101, 97, 99, 107]⟩, ⟨#[]⟩, ⟨#[]⟩, ⟨#[115, 104, 117, 116, 100, 111, 110, 101]⟩]
/-- The name of a kind. -/
def nameV (k : Int) : ByteArray := if 0 ≤ k ∧ k ≤ 14 then nameL.getD k.toNat ⟨#[]⟩ else ⟨#[]⟩
theorem nameV_out {k : Int} (h : ¬ (0 ≤ k ∧ k ≤ 14)) : nameV k = ⟨#[]⟩ := if_neg h
theorem nameV_same : ∀ i j : Fin 15, i ≠ j → (nameV i.val).toList ≠ [] → (nameV j.val).toList ≠ (nameV i.val).toList := by decide +kernel
theorem no_text : (ByteArray.mk #[]).toList = [] := by rw [ByteArray.toList_eq]
/-- Another number has another name. -/
theorem nameV_other {k j : Int} (hk : (nameV k).toList ≠ []) (h : j ≠ k) : ((nameV j).toList == (nameV k).toList) = false := by
  rw [beq_eq_false_iff_ne]
  by_cases h1 : 0 ≤ k ∧ k ≤ 14
  · by_cases h2 : 0 ≤ j ∧ j ≤ 14
    · have e1 : ((⟨k.toNat, by omega⟩ : Fin 15).val : Int) = k := by show ((k.toNat : Nat) : Int) = k; omega
      have e2 : ((⟨j.toNat, by omega⟩ : Fin 15).val : Int) = j := by show ((j.toNat : Nat) : Int) = j; omega
      have g := nameV_same ⟨k.toNat, by omega⟩ ⟨j.toNat, by omega⟩ (fun e => h (by have := congrArg Fin.val e; simp only at this; omega))
      rw [e1, e2] at g
      exact g hk
    · rw [nameV_out h2]
      exact fun e => hk (by rw [← e]; exact no_text)
  · rw [nameV_out h1] at hk
    exact absurd no_text hk
theorem nameV_some : ∀ i : Fin 15, ((nameV i.val).toList = []) ↔ (i.val = 12 ∨ i.val = 13) := by decide +kernel

set_option maxHeartbeats 400000 in
theorem szChunk_yes (k f : Int) (b : ByteArray) (w : World) (h : b.size ≤ 1048576) :
    Calls Try.prog 65 #[.agg #[.int .i64 k, .int .i64 f, .string b], .int .i64 1048576] w fun e w' => e = .returned (.int .i64 (1048576 - (b.size : Int))) ∧ Below w.heap.size w w' := by
  go_enter Try.func65, Try.ntmps65
  go_wp2
  go_ret
  exact ⟨rfl, below_box _ (Nat.le_refl _)⟩

set_option maxHeartbeats 400000 in
theorem szChunk_no (k f : Int) (b : ByteArray) (w : World) (h : 1048576 < b.size) (hm : b.size ≤ maxLen) :
    Calls Try.prog 65 #[.agg #[.int .i64 k, .int .i64 f, .string b], .int .i64 1048576] w fun e w' => e = .returned (.int .i64 (-1)) ∧ Below w.heap.size w w' := by
  unfold maxLen at hm
  go_enter Try.func65, Try.ntmps65
  go_wp2
  go_ret
  exact ⟨rfl, below_box _ (Nat.le_refl _)⟩

set_option maxHeartbeats 400000 in
theorem toChunk_any (k f : Int) (b : ByteArray) (w : World) :
    Calls Try.prog 66 #[.agg #[.int .i64 k, .int .i64 f, .string b]] w fun e w' => e = .returned (.agg #[.int .i64 k, .int .i64 f, .string b]) ∧ Below w.heap.size w w' := by
  go_enter Try.func66, Try.ntmps66
  go_wp2
  refine bodyPost_ret (v := .agg #[.int .i64 k, .int .i64 f, .string b]) ?_ rfl ?_
  · simp [results, Try.results66, go_sem]
  · exact ⟨rfl, ((below_box _ (Nat.le_refl _)).alloc (by simp) _).alloc (by simp; omega) _⟩

end Go.Proofs.Ytcpdpamoddmpaaa
