/- The contracts of the program's chapter 11: the form of a chunk, the bytes of a chunk or none. -/
import Derived.Test.YtcpdpamoddmpaaaK18a
import Derived.Test.YtcpdpamoddmpaaaK14
namespace Go.Proofs.Ytcpdpamoddmpaaa
open Go.RowKit Go.PlainAid

set_option maxHeartbeats 400000 in
theorem formOf_whole (k f : Int) (b : ByteArray) (w : World) (h : b.size ≤ 60) (hm : b.size % 4 = 0) :
    Calls Try.prog 38 #[.agg #[.int .i64 k, .int .i64 f, .string b]] w fun e w' => e = .returned (.iface 75 (.agg #[.int .i64 k, .int .i64 f, .string b])) ∧ Below w.heap.size w w' := by
  have e1 : IntKind.i64.wrap (4 + (b.size : Int)) = 4 + (b.size : Int) := IntWalk.i64_in _ (by omega)
  have e2 : (4 + (b.size : Int)) % 4 = 0 := by omega
  go_enter Try.func38, Try.ntmps38
  go_wp2
  go_ret
  exact ⟨rfl, below_box _ (Nat.le_refl _)⟩

set_option maxHeartbeats 400000 in
theorem formOf_filled (k f : Int) (b : ByteArray) (w : World) (h : b.size ≤ 60) (hm : b.size % 4 ≠ 0) :
    Calls Try.prog 38 #[.agg #[.int .i64 k, .int .i64 f, .string b]] w fun e w' => e = .returned (.iface 77 (.agg #[.int .i64 k, .int .i64 f, .string b, .int .i64 (pad b.size : Int)])) ∧ Below w.heap.size w w' := by
  have hp : (4 : Int) - (b.size % 4 : Nat) = (pad b.size : Int) := by unfold pad; omega
  obtain ⟨r, hr⟩ : ∃ r : Nat, b.size % 4 = r := ⟨_, rfl⟩
  have e2 : (4 + (b.size : Int)) % 4 = r := by omega
  have e1 : IntKind.i64.wrap (4 + (b.size : Int)) = 4 + (b.size : Int) := IntWalk.i64_in _ (by omega)
  rw [hr] at hp
  have e4 : ¬ (r : Int) = 0 := by omega
  go_enter Try.func38, Try.ntmps38
  go_wp2
  go_ret
  exact ⟨rfl, below_box _ (Nat.le_refl _)⟩

theorem whole_full {k f : Int} {b : ByteArray} (hm : b.size % 4 = 0) : strOfNums [k] ++ strOfNums [f] ++ wordS (4 + (b.size : Int)) ++ b = chunkS k f b := by
  rw [← whole_chunk, show pad b.size = 0 by unfold pad; omega]
  exact (ByteArray.append_empty).symm

set_option maxHeartbeats 400000 in
theorem chunkPut_no (k f : Int) (b : ByteArray) (w : World) (h : ¬ Chk k f b) :
    Calls Try.prog 17 #[.agg #[.int .i64 k, .int .i64 f, .string b]] w fun e w' => e = .returned (.string (ByteArray.mk #[])) ∧ Below w.heap.size w w' := by
  have H := Lib.hid h
  clear h
  go_enter Try.func17, Try.ntmps17
  go_wp2_with fail
  refine (chunkValid_any k f b _).mono ?_
  rintro e w1 ⟨rfl, hb1⟩
  rw [chkV_no H.out]
  go_wp2
  go_ret
  exact ⟨rfl, (below_box _ (Nat.le_refl _)).trans (hb1.mono (by simp))⟩

set_option maxHeartbeats 1000000 in
theorem chunkPut_yes (k f : Int) (b : ByteArray) (w : World) (h : Chk k f b) :
    Calls Try.prog 17 #[.agg #[.int .i64 k, .int .i64 f, .string b]] w fun e w' => e = .returned (.string (chunkS k f b)) ∧ Below w.heap.size w w' := by
  have H := Lib.hid h
  have hb60 := h.2.2
  clear h
  by_cases hm : b.size % 4 = 0
  all_goals
    have HM := Lib.hid hm
    clear hm
    go_enter Try.func17, Try.ntmps17
    go_wp2_with fail
    refine (chunkValid_any k f b _).mono ?_
    rintro e w1 ⟨rfl, hb1⟩
    rw [chkV_yes H.out]
    have c0 : w1.cell? ⟨w.heap.size, 0, none⟩ = some (.int .i64 k) := (hb1.cell (p := ⟨w.heap.size, 0, none⟩) (by simp)).trans (by simp)
    have c1 : w1.cell? ⟨w.heap.size, 1, none⟩ = some (.int .i64 f) := (hb1.cell (p := ⟨w.heap.size, 1, none⟩) (by simp)).trans (by simp)
    have c2 : w1.cell? ⟨w.heap.size, 2, none⟩ = some (.string b) := (hb1.cell (p := ⟨w.heap.size, 2, none⟩) (by simp)).trans (by simp)
    have hb : Below w.heap.size w w1 := (below_box _ (Nat.le_refl _)).trans (hb1.mono (by simp))
    clear hb1
    go_wp2_with fail
  · refine (formOf_whole k f b _ hb60 HM.out).mono ?_
    rintro e w2 ⟨rfl, hb2⟩
    have hB := hb.trans (hb2.mono hb.size)
    clear hb hb2 c0 c1 c2
    go_wp2_with fail
    refine (wholeBytes_any k f b _ H.out).mono ?_
    rintro e w3 ⟨rfl, hb3⟩
    go_wp2
    go_ret
    exact ⟨ret_s (whole_full HM.out), hB.trans (hb3.mono hB.size)⟩
  · refine (formOf_filled k f b _ hb60 HM.out).mono ?_
    rintro e w2 ⟨rfl, hb2⟩
    have hB := hb.trans (hb2.mono hb.size)
    clear hb hb2 c0 c1 c2
    go_wp2_with fail
    refine (filledBytes_any k f b _ H.out).mono ?_
    rintro e w3 ⟨rfl, hb3⟩
    go_wp2
    go_ret
    exact ⟨rfl, hB.trans (hb3.mono hB.size)⟩

end Go.Proofs.Ytcpdpamoddmpaaa
