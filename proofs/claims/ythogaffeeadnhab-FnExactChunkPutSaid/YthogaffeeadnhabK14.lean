/- The contracts of chapter 11's model, further: the bytes of a chunk or none, the chunk at a place. -/
import Derived.Test.YthogaffeeadnhabK13
import Derived.RegionTactic
namespace Go.Proofs.Ythogaffeeadnhab
open Go.RowKit Go.PlainAid

set_option maxHeartbeats 400000 in
theorem sChunkPut_yes (k f : Int) (b : ByteArray) (w : World) (h : Chk k f b) :
    Calls Try.prog 10 #[.agg #[.int .i64 k, .int .i64 f, .string b]] w fun e w' => e = .returned (.string (chunkS k f b)) ∧ Below w.heap.size w w' := by
  have H := Lib.hid h
  clear h
  go_enter Try.func10, Try.ntmps10
  go_wp2_with fail
  refine (sChunkValid_any k f b _).mono ?_
  rintro e w1 ⟨rfl, hb1⟩
  rw [chkV_yes H.out]
  have c0 : w1.cell? ⟨w.heap.size, 0, none⟩ = some (.int .i64 k) := (hb1.cell (p := ⟨w.heap.size, 0, none⟩) (by simp)).trans (by simp)
  have c1 : w1.cell? ⟨w.heap.size, 1, none⟩ = some (.int .i64 f) := (hb1.cell (p := ⟨w.heap.size, 1, none⟩) (by simp)).trans (by simp)
  have c2 : w1.cell? ⟨w.heap.size, 2, none⟩ = some (.string b) := (hb1.cell (p := ⟨w.heap.size, 2, none⟩) (by simp)).trans (by simp)
  have hb : Below w.heap.size w w1 := (below_box _ (Nat.le_refl _)).trans (hb1.mono (by simp))
  clear hb1
  go_wp2_with fail
  refine (l11Put_any k f b _ H.out).mono ?_
  rintro e w2 ⟨rfl, hb2⟩
  go_wp2
  go_ret
  exact ⟨rfl, hb.trans (hb2.mono hb.size)⟩

set_option maxHeartbeats 400000 in
theorem sChunkPut_no (k f : Int) (b : ByteArray) (w : World) (h : ¬ Chk k f b) :
    Calls Try.prog 10 #[.agg #[.int .i64 k, .int .i64 f, .string b]] w fun e w' => e = .returned (.string (ByteArray.mk #[])) ∧ Below w.heap.size w w' := by
  have H := Lib.hid h
  clear h
  go_enter Try.func10, Try.ntmps10
  go_wp2_with fail
  refine (sChunkValid_any k f b _).mono ?_
  rintro e w1 ⟨rfl, hb1⟩
  rw [chkV_no H.out]
  go_wp2
  go_ret
  exact ⟨rfl, (below_box _ (Nat.le_refl _)).trans (hb1.mono (by simp))⟩

/-- A chunk was read, or none. -/
def gotV (k f : Int) (b : ByteArray) (n : Int) : Value := .tuple #[.agg #[.int .i64 k, .int .i64 f, .string b], .int .i64 n, .bool true]
def noneV : Value := .tuple #[.agg #[.int .i64 0, .int .i64 0, .string (ByteArray.mk #[])], .int .i64 0, .bool false]

end Go.Proofs.Ythogaffeeadnhab
