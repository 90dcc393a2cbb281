/- The contracts of the program's chapter 11: whether a chunk is valid, the forms of a chunk, its bytes. -/
import Derived.Test.YtcpdpamoddmpaaaG10
import Derived.Test.YtcpdpamoddmpaaaK1
import Derived.Test.YtcpdpamoddmpaaaK13
import Derived.Test.YtcpdpamoddmpaaaK18v
import Derived.Test.YtcpdpamoddmpaaaShelf
import Derived.Deep.RegionHeldLaw
import Derived.IntWalk
import Derived.Handy
namespace Go.Proofs.Ytcpdpamoddmpaaa
open Go.RowKit Go.PlainAid

theorem repeat_zero (n : Nat) : (⟨(Lib.repeatL (ByteArray.mk #[0]).data.toList n).toArray⟩ : ByteArray) = strOfNums (List.replicate n 0) := by
  rw [show (ByteArray.mk #[0]).data.toList = List.replicate 1 0 from rfl, Lib.repeatL_replicate, Nat.mul_one]
  unfold strOfNums
  rw [List.map_replicate]
  rfl

theorem repeat_any (n : Nat) (w : World) (h : n ≤ 100) :
    Calls Try.prog 89 #[.string (ByteArray.mk #[0]), .int .i64 n] w fun e w' => e = .returned (.string (strOfNums (List.replicate n 0))) ∧ Below w.heap.size w w' := by
  have := Try.strings_Repeat (ByteArray.mk #[0]) n w (by omega) (by show 1 * n ≤ _; omega)
  rw [repeat_zero] at this
  exact this

set_option maxHeartbeats 400000 in
theorem numberPut_one (n : Int) (h0 : 0 ≤ n) (h1 : n ≤ 255) (w : World) :
    Calls Try.prog 32 #[.int .i64 n, .int .i64 1] w fun e w' => e = .returned (.string (strOfNums [n])) ∧ Below w.heap.size w w' := by
  have hmk : ∀ w, (Instr.makeSlice 22 (.int .i64 1) (.int .i64 1)).run Try.prog w = .ok (.slice (some ⟨w.heap.size, 0, none⟩) 1 1) (w.alloc (.cells #[.int .u8 0] 5)) := fun _ => by kernel_rfl
  have kc : ∀ (w : World) (c : Nat), (convert 22 9 (.slice (some ⟨w.heap.size, 0, none⟩) 1 c)).run Try.prog (w.alloc (.cells #[.int .u8 n] 5)) = .ok (.string (strOfNums [n])) (w.alloc (.cells #[.int .u8 n] 5)) := fun w c => by
    refine run_convert_bytes_arg (w.alloc (.cells #[.int .u8 n] 5)) 22 5 Try.underlying22 Try.underlying5 w.heap.size 0 1 c [n] rfl (fun i hi => ?_) 9 Try.underlying9
    obtain rfl : i = 0 := by omega
    simp [go_sem]
  have wn : IntKind.u8.wrap n = n := by rw [IntKind.wrap_u8]; omega
  go_enter Try.func32, Try.ntmps32
  go_wp2
  refine wp_loop_rounds 2 ?_
  rw [rounds_succ]
  go_wp2
  rw [rounds_succ]
  go_wp2
  go_ret
  exact ⟨rfl, (Below.refl _ _).alloc (Nat.le_refl _) _⟩

/-- What a region that reads a chunk's fields needs to know of a world. -/
theorem kept3 {B c : Nat} {k f : Int} {b : ByteArray} {w W W' : World} (hB : B ≤ w.heap.size) (h : W.cell? ⟨c, 0, none⟩ = some (.int .i64 k) ∧ W.cell? ⟨c, 1, none⟩ = some (.int .i64 f) ∧ W.cell? ⟨c, 2, none⟩ = some (.string b) ∧ Below B w W) (hb : Below W.heap.size W W') :
    W'.cell? ⟨c, 0, none⟩ = some (.int .i64 k) ∧ W'.cell? ⟨c, 1, none⟩ = some (.int .i64 f) ∧ W'.cell? ⟨c, 2, none⟩ = some (.string b) ∧ Below B w W' := by
  obtain ⟨h0, h1, h2, h3⟩ := h
  have hlt : c < W.heap.size := World.block_lt_of_cell? W ⟨c, 0, none⟩ h0
  exact ⟨kept_cell hb hlt h0, kept_cell hb hlt h1, kept_cell hb hlt h2, h3.trans (hb.mono (Nat.le_trans hB h3.size))⟩

set_option maxHeartbeats 1000000 in
theorem wholeBytes_any (k f : Int) (b : ByteArray) (w : World) (h : Chk k f b) :
    Calls Try.prog 87 #[.agg #[.int .i64 k, .int .i64 f, .string b]] w fun e w' => e = .returned (.string (strOfNums [k] ++ strOfNums [f] ++ wordS (4 + (b.size : Int)) ++ b)) ∧ Below w.heap.size w w' := by
  obtain ⟨⟨k0, k1⟩, ⟨f0, f1⟩, hb⟩ := h
  have hz1 : ¬ 9223372036854775807 < (strOfNums [k]).size + (strOfNums [f]).size := by rw [strOfNums_size, strOfNums_size]; simp
  have hz2 : ¬ 9223372036854775807 < (strOfNums [k]).size + (strOfNums [f]).size + (wordS (4 + (b.size : Int))).size := by rw [strOfNums_size, strOfNums_size, wordS_size]; simp
  have hz3 : ¬ 9223372036854775807 < (strOfNums [k]).size + (strOfNums [f]).size + (wordS (4 + (b.size : Int))).size + b.size := by rw [strOfNums_size, strOfNums_size, wordS_size]; simp; omega
  have hw : IntKind.i64.wrap (4 + (b.size : Int)) = 4 + (b.size : Int) := IntWalk.i64_in _ (by omega)
  go_enter Try.func87, Try.ntmps87
  go_wp2_with fail
  go_region_held_law (fun W => W.cell? ⟨w.heap.size + 1, 0, none⟩ = some (.int .i64 k) ∧ W.cell? ⟨w.heap.size + 1, 1, none⟩ = some (.int .i64 f) ∧ W.cell? ⟨w.heap.size + 1, 2, none⟩ = some (.string b) ∧ Below w.heap.size w W)
    (first | assumption | exact kept3 (Nat.le_refl _) (by assumption) (by assumption) | (simp [go_sem]; exact ((below_box _ (Nat.le_refl _)).alloc (by simp) _).drew))
    (first | (go_simp; go_at_call_of 32 (Value.int .i64 2); refine (numberPut_two (4 + b.size) (by omega) (by omega) _).mono ?_; rintro e w' ⟨rfl, hbn⟩) | (go_simp; go_at_call_of 32 (Value.int .i64 k); refine (numberPut_one k k0 k1 _).mono ?_; rintro e w' ⟨rfl, hbn⟩) | (go_simp; go_at_call_of 32 (Value.int .i64 f); refine (numberPut_one f f0 f1 _).mono ?_; rintro e w' ⟨rfl, hbn⟩))
  all_goals
    go_wp2
    go_ret
    exact ⟨rfl, by go_split_ands; assumption⟩

theorem kept4 {B c : Nat} {k f z : Int} {b : ByteArray} {w W W' : World} (hB : B ≤ w.heap.size) (h : W.cell? ⟨c, 0, none⟩ = some (.int .i64 k) ∧ W.cell? ⟨c, 1, none⟩ = some (.int .i64 f) ∧ W.cell? ⟨c, 2, none⟩ = some (.string b) ∧ W.cell? ⟨c, 3, none⟩ = some (.int .i64 z) ∧ Below B w W) (hb : Below W.heap.size W W') :
    W'.cell? ⟨c, 0, none⟩ = some (.int .i64 k) ∧ W'.cell? ⟨c, 1, none⟩ = some (.int .i64 f) ∧ W'.cell? ⟨c, 2, none⟩ = some (.string b) ∧ W'.cell? ⟨c, 3, none⟩ = some (.int .i64 z) ∧ Below B w W' := by
  obtain ⟨h0, h1, h2, h3, h4⟩ := h
  have hlt : c < W.heap.size := World.block_lt_of_cell? W ⟨c, 0, none⟩ h0
  exact ⟨kept_cell hb hlt h0, kept_cell hb hlt h1, kept_cell hb hlt h2, kept_cell hb hlt h3, h4.trans (hb.mono (Nat.le_trans hB h4.size))⟩
theorem whole_size (k f : Int) (b : ByteArray) : (strOfNums [k] ++ strOfNums [f] ++ wordS (4 + (b.size : Int)) ++ b).size = 4 + b.size := by
  rw [ByteArray.size_append, ByteArray.size_append, ByteArray.size_append, strOfNums_size, strOfNums_size, wordS_size]
  rfl
theorem whole_chunk (k f : Int) (b : ByteArray) : strOfNums [k] ++ strOfNums [f] ++ wordS (4 + (b.size : Int)) ++ b ++ strOfNums (List.replicate (pad b.size) 0) = chunkS k f b := by
  unfold chunkS
  rw [str_append]
  rfl

set_option maxHeartbeats 1000000 in
theorem filledBytes_any (k f : Int) (b : ByteArray) (w : World) (h : Chk k f b) :
    Calls Try.prog 88 #[.agg #[.int .i64 k, .int .i64 f, .string b, .int .i64 (pad b.size : Int)]] w fun e w' => e = .returned (.string (chunkS k f b)) ∧ Below w.heap.size w w' := by
  have H := Lib.hid h
  have hb := h.2.2
  have hp := pad_lt b.size
  have E := Lib.hid (whole_chunk k f b)
  obtain ⟨T, hT⟩ : ∃ T, strOfNums [k] ++ strOfNums [f] ++ wordS (4 + (b.size : Int)) ++ b = T := ⟨_, rfl⟩
  have hTz : T.size = 4 + b.size := by rw [← hT]; exact whole_size k f b
  have HT := Lib.hid hT
  have E2 := Lib.hid (show T ++ strOfNums (List.replicate (pad b.size) 0) = chunkS k f b by rw [← HT.out]; exact E.out)
  obtain ⟨n, hn⟩ : ∃ n, pad b.size = n := ⟨_, rfl⟩
  rw [hn] at hp E2 ⊢
  have hz : ¬ 9223372036854775807 < T.size + (strOfNums (List.replicate n 0)).size := by rw [strOfNums_size, List.length_replicate]; omega
  clear h hT hTz hn
  go_enter Try.func88, Try.ntmps88
  go_wp2_with fail
  go_region_held_law (fun W => W.cell? ⟨w.heap.size, 0, none⟩ = some (.int .i64 k) ∧ W.cell? ⟨w.heap.size, 1, none⟩ = some (.int .i64 f) ∧ W.cell? ⟨w.heap.size, 2, none⟩ = some (.string b) ∧ W.cell? ⟨w.heap.size, 3, none⟩ = some (.int .i64 n) ∧ Below w.heap.size w W)
    (first | assumption | exact kept4 (Nat.le_refl _) (by assumption) (by assumption) | (simp [go_sem]; exact (below_box _ (Nat.le_refl _)).drew))
    (first | (go_simp; go_at_call 87; refine (wholeBytes_any k f b _ H.out).mono ?_; rw [HT.out]; rintro e w' ⟨rfl, hbn⟩) | (go_simp; go_at_call 89; refine (repeat_any n _ (by omega)).mono ?_; rintro e w' ⟨rfl, hbn⟩))
  all_goals
    go_wp2
    go_ret
    exact ⟨ret_s E2.out, by go_split_ands; assumption⟩

end Go.Proofs.Ytcpdpamoddmpaaa
