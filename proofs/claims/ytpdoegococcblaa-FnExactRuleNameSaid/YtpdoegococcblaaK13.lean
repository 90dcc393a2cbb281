/- The contracts of chapter 11's model: whether a chunk is valid, its bytes, the chunk at a place, names. -/
import Derived.Test.YtpdoegococcblaaG10
import Derived.Test.YtpdoegococcblaaK1
import Derived.Test.YtpdoegococcblaaK2
import Derived.Deep.RegionHeldLaw
import Derived.IntWalk
namespace Go.Proofs.Ytpdoegococcblaa
open Go.RowKit Go.PlainAid

theorem kept_cell {B b i : Nat} {w w' : World} {v : Value} (hb : Below B w w') (h : b < B) (hc : w.cell? ⟨b, i, none⟩ = some v) : w'.cell? ⟨b, i, none⟩ = some v :=
  (hb.cell (p := ⟨b, i, none⟩) h).trans hc
theorem kept_frozen {B b i : Nat} {w w' : World} (hb : Below B w w') (h : b < B) (hf : w.frozen? ⟨b, i, none⟩ = false) : w'.frozen? ⟨b, i, none⟩ = false :=
  (hb.frozen (p := ⟨b, i, none⟩) h).trans hf
theorem below_box {B : Nat} {w : World} (o : Obj) (h : B ≤ w.heap.size) : Below B w (w.alloc o) := (Below.refl B w).alloc h o

set_option maxHeartbeats 400000 in
theorem sChunkValid_any (k f : Int) (b : ByteArray) (w : World) :
    Calls Try.prog 123 #[.agg #[.int .i64 k, .int .i64 f, .string b]] w fun e w' => e = .returned (.bool (chkV k f b)) ∧ Below w.heap.size w w' := by
  by_cases hk : 0 ≤ k ∧ k ≤ 255
  · have HK := Lib.hid (decide_eq_true hk)
    by_cases hf : 0 ≤ f ∧ f ≤ 255
    · have HF := Lib.hid (decide_eq_true hf)
      have E := Lib.hid (show decide ((b.size : Int) ≤ 60) = chkV k f b by
        by_cases hb : b.size ≤ 60
        · rw [chkV_yes ⟨hk, hf, hb⟩]
          exact decide_eq_true (by omega)
        · rw [chkV_no fun h => hb h.2.2]
          exact decide_eq_false (by omega))
      clear hk hf
      go_enter Try.func123, Try.ntmps123
      go_wp2_with fail
      refine (l6In_any k 0 255 _).mono ?_
      rintro e w1 ⟨rfl, rfl⟩
      rw [HK.out]
      go_wp2_with fail
      refine (l6In_any f 0 255 _).mono ?_
      rintro e w1 ⟨rfl, rfl⟩
      rw [HF.out]
      go_wp2
      go_ret
      exact ⟨ret_b E.out, below_box _ (Nat.le_refl _)⟩
    · have HF := Lib.hid (decide_eq_false hf)
      rw [chkV_no fun h => hf h.2.1]
      clear hk hf
      go_enter Try.func123, Try.ntmps123
      go_wp2_with fail
      refine (l6In_any k 0 255 _).mono ?_
      rintro e w1 ⟨rfl, rfl⟩
      rw [HK.out]
      go_wp2_with fail
      refine (l6In_any f 0 255 _).mono ?_
      rintro e w1 ⟨rfl, rfl⟩
      rw [HF.out]
      go_wp2
      go_ret
      exact ⟨rfl, below_box _ (Nat.le_refl _)⟩
  · have HK := Lib.hid (decide_eq_false hk)
    rw [chkV_no fun h => hk h.1]
    clear hk
    go_enter Try.func123, Try.ntmps123
    go_wp2_with fail
    refine (l6In_any k 0 255 _).mono ?_
    rintro e w1 ⟨rfl, rfl⟩
    rw [HK.out]
    go_wp2
    go_ret
    exact ⟨rfl, below_box _ (Nat.le_refl _)⟩

set_option maxHeartbeats 400000 in
theorem l1Word_at (n : Int) (h0 : 0 ≤ n) (h1 : n ≤ 65535) (w : World) :
    Calls Try.prog 121 #[.int .i64 n] w fun e w' => e = .returned (.string (wordS n)) ∧ w.alloc (.cells #[.int .u8 (n / 256), .int .u8 (n % 256)] 5) = w' := by
  have kc := fun (w : World) (x y : Int) (c : Nat) => conv_new2 (P := Try.prog) 22 5 9 Try.underlying22 Try.underlying5 Try.underlying9 w x y c
  go_enter Try.func121, Try.ntmps121
  go_wp2
  go_ret
  exact ⟨rfl, rfl⟩

/-- Two bytes that lie anywhere, as a text. -/
theorem conv_two (w : World) (g cap : Nat) (x y : Int) (h0 : w.cell? ⟨g, 0, none⟩ = some (.int .u8 x)) (h1 : w.cell? ⟨g, 1, none⟩ = some (.int .u8 y)) :
    (convert 22 9 (.slice (some ⟨g, 0, none⟩) 2 cap)).run Try.prog w = .ok (.string (strOfNums [x, y])) w := by
  refine run_convert_bytes_arg w 22 5 Try.underlying22 Try.underlying5 g 0 2 cap [x, y] rfl (fun i hi => ?_) 9 Try.underlying9
  rcases (show i = 0 ∨ i = 1 by omega) with rfl | rfl
  · exact h0
  · exact h1

set_option maxHeartbeats 300000 in
theorem l11Put_any (k f : Int) (b : ByteArray) (w : World) (h : Chk k f b) :
    Calls Try.prog 125 #[.agg #[.int .i64 k, .int .i64 f, .string b]] w fun e w' => e = .returned (.string (chunkS k f b)) ∧ Below w.heap.size w w' := by
  obtain ⟨⟨k0, k1⟩, ⟨f0, f1⟩, hb⟩ := h
  have hc := conv_two
  have hk : IntKind.u8.wrap k = k := by rw [IntKind.wrap_u8]; omega
  have hf : IntKind.u8.wrap f = f := by rw [IntKind.wrap_u8]; omega
  have hz1 : ¬ 9223372036854775807 < (strOfNums [k, f]).size + (wordS (4 + (b.size : Int))).size := by rw [strOfNums_size, wordS_size]; simp
  have hz2 : ¬ 9223372036854775807 < (strOfNums [k, f]).size + (wordS (4 + (b.size : Int))).size + b.size := by rw [strOfNums_size, wordS_size]; simp; omega
  have hw : IntKind.i64.wrap (4 + (b.size : Int)) = 4 + (b.size : Int) := IntWalk.i64_in _ (by omega)
  go_enter Try.func125, Try.ntmps125
  go_wp2_with fail
  go_region_held_law (fun W => W.cell? ⟨w.heap.size, 0, none⟩ = some (.int .i64 k) ∧ W.cell? ⟨w.heap.size, 1, none⟩ = some (.int .i64 f) ∧ W.cell? ⟨w.heap.size, 2, none⟩ = some (.string b)) (go_keep)
    (first | (go_simp; go_at_call 121; refine (l1Word_at (4 + b.size) (by omega) (by omega) _).mono ?_; rintro e w1 ⟨rfl, rfl⟩))
  all_goals
    clear hc hk hf hw hz1 hz2
    go_wp2
    go_loop [3] (fun v => ∃ X : ByteArray, v = .string X ∧ X.size + pad X.size ≤ 100 ∧ X ++ strOfNums (List.replicate (pad X.size) 0) = chunkS k f b) (fun v => pad (szOf v))
    case atStart => exact ⟨_, rfl, by rw [ByteArray.size_append, head_size]; have := pad_lt (4 + b.size); omega, fill_start k f b⟩
    case round =>
      obtain ⟨X, rfl, hX, hE⟩ := hrel
      have HE := Lib.hid hE
      clear hE
      by_cases hm : X.size % 4 = 0
      · have HM := Lib.hid hm
        have d0 : ((X.size : Int) % 4 == 0) = true := by simp; omega
        clear hm
        go_wp2
        go_ret
        exact ⟨ret_s (fill_end HM.out HE.out), (((below_box _ (Nat.le_refl _)).alloc (by simp) _).alloc (by simp; omega) _).drew⟩
      · have HM := Lib.hid hm
        have d0 : ((X.size : Int) % 4 == 0) = false := by simp; omega
        clear hm
        go_wp2
        go_round
        case rel => exact ⟨_, rfl, Nat.le_trans (Nat.le_of_eq (fill_size HM.out)) hX, (fill_step HM.out).trans HE.out⟩
        case measure => exact fill_less HM.out

end Go.Proofs.Ytpdoegococcblaa
