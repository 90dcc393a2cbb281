/- The contracts of the functions on hexadecimal digits. -/
import Derived.Test.YtjphehjbmbjnnabK2
import Derived.Test.YtjphehjbmbjnnabK4
import Derived.Test.YtjphehjbmbjnnabG3
import Derived.Test.YtjphehjbmbjnnabB1
import Derived.Deep.RegionHeld3
import Derived.Deep.AppendLies
namespace Go.Proofs.Ytjphehjbmbjnnab
open Go.RowKit Go.PlainAid

set_option maxHeartbeats 1000000 in
theorem l1Hex_any (s : ByteArray) (w : World) (hs : s.size ≤ 1000) :
    Calls Try.prog 27 #[.string s] w fun e w' => e = .returned (.string (hexS s)) ∧ Below w.heap.size w w' := by
  obtain ⟨i0, hi, hz0, hz1, hz2⟩ := info_parts info_u8
  have hown0 : (w.alloc (.cells #[] 5)).ownsRow w.heap.size 5 1 (.slice (some ⟨w.heap.size, 0, none⟩) 0 0) 0 (([] : List Int).map (Value.int .u8)) := World.ownsRow_lit w #[] 0 (Nat.le_refl _) (by simp) rfl
  have hb0 : Below w.heap.size w (w.alloc (.cells #[] 5)) := (Below.refl _ _).alloc (Nat.le_refl _) _
  go_enter Try.func27, Try.ntmps27
  go_wp2
  go_loopw [3, 4] (fun v i wr => ∃ j : Nat, j ≤ s.size ∧ i = .int .i64 j ∧ wr.ownsRow w.heap.size 5 1 v (2 * j) ((hexL s j).map (Value.int .u8)) ∧ Below w.heap.size w wr) (fun _ i _ => s.size - (intOf i).toNat)
  case atStart => exact ⟨0, Nat.zero_le _, rfl, hown0, hb0⟩
  case round =>
    obtain ⟨j, hj, rfl, hown, hbel⟩ := hrel
    clear hown0 hb0
    by_cases hlt : j < s.size
    · have c0 : (0 : Int) ≤ j := by omega
      have c1 : (j : Int) < s.size := by omega
      have hbt := get_bt s
      have b0 := bt_nonneg s j
      have b1 := bt_le s j
      have d0 : 0 ≤ bt s j / 16 := by omega
      have d1 : bt s j / 16 < 16 := by omega
      have d2 : 0 ≤ bt s j % 16 := by omega
      have d3 : bt s j % 16 < 16 := by omega
      have hI1 := index_hex (P := Try.prog) 9 Try.underlying9 .u8 _ d0 d1
      have hI2 := index_hex (P := Try.prog) 9 Try.underlying9 .u8 _ d2 d3
      go_wp2
      have q1 := u8_quo _ b0 b1
      have q2 := u8_rem _ b0
      have q3 := Int.tmod_eq_emod_of_nonneg b0 (b := 16)
      go_region_held3 (fun _ => True) (exact trivial)
        ((refine step_append_lies _ (by rfl) _ _ _ (by rfl) w.heap.size 5 i0 _ 1 1 Try.underlying25 hi hz0 hz1 hz2 rfl (by omega) _ (2 * j) ((hexL s j).map (Value.int .u8)) (by rfl) ((hown.alloc _).drew) ⟨wr.heap.size, 0, none⟩ 2 2 [.int .u8 (hx (bt s j / 16)), .int .u8 (hx (bt s j % 16))] (by rfl) (by rfl) (World.news_of_block (cs := #[.int .u8 (hx (bt s j / 16)), .int .u8 (hx (bt s j % 16))]) (t := 5) (fr := (0, 0)) (heap_alloc_new wr _)) (by simp [Value.oneCell']) (by omega) (by unfold maxLen; omega) (by omega) (by have := hbel.size; simp; omega) (wr.heap.size + 1) (by simp) ?_; intro gg cap w1 hown1 hgrow hat hlt1))
      all_goals
        have hsz := hbel.size
        have hb1 : Below w.heap.size w w1 := ((hbel.alloc hsz _).drew).grown hgrow (by simp; omega) (fun k hk => own_ge hown hk)
        clear hgrow hown hat hlt1 q1 q2 q3 hI1 hI2 hbt hbel
        go_wp2
        go_roundw
        case rel =>
          refine ⟨j + 1, by omega, by go_num, ?_, hb1⟩
          have hm : (hexL s (j + 1)).map (Value.int .u8) = (hexL s j).map (Value.int .u8) ++ [.int .u8 (hx (bt s j / 16)), .int .u8 (hx (bt s j % 16))] := by simp [hexL]
          rw [hm, show 2 * (j + 1) = 2 * j + 2 by omega]
          exact hown1
        case measure => simp [intOf]; omega
    · obtain rfl : j = s.size := by omega
      have kc := conv_own hown
      go_wp2
      go_ret
      exact ⟨rfl, hbel⟩

set_option maxHeartbeats 1000000 in
theorem sHexPut_yes (s : ByteArray) (w : World) (hs : s.size ≤ 40) :
    Calls Try.prog 15 #[.string s] w fun e w' => e = .returned (.string (hexS s)) ∧ Below w.heap.size w w' := by
  have hs' : (s.size : Int) ≤ 40 := by omega
  go_enter Try.func15, Try.ntmps15
  go_wp2_with fail
  refine (l1Hex_any s _ (by omega)).mono ?_
  rintro e w1 ⟨rfl, hb1⟩
  go_wp2
  go_ret
  exact ⟨rfl, hb1⟩

set_option maxHeartbeats 1000000 in
theorem sHexPut_no (s : ByteArray) (w : World) (hs : ¬ s.size ≤ 40) :
    Calls Try.prog 15 #[.string s] w fun e w' => e = .returned (.string ⟨#[]⟩) ∧ w = w' := by
  have hs' : (40 : Int) < s.size := by omega
  go_enter Try.func15, Try.ntmps15
  go_wp2
  go_ret
  exact ⟨rfl, rfl⟩

set_option maxHeartbeats 1000000 in
theorem hexPut_no (s : ByteArray) (w : World) (hs : ¬ s.size ≤ 40) :
    Calls Try.prog 14 #[.string s] w fun e w' => e = .returned (.string ⟨#[]⟩) ∧ w = w' := by
  have hs' : (40 : Int) < s.size := by omega
  go_enter Try.func14, Try.ntmps14
  go_wp2
  go_ret
  exact ⟨rfl, rfl⟩

set_option maxHeartbeats 1000000 in
theorem hexPut_yes (s : ByteArray) (w : World) (hs : s.size ≤ 40) :
    Calls Try.prog 14 #[.string s] w fun e w' => e = .returned (.string (hexS s)) ∧ Below w.heap.size w w' := by
  have hs' : (s.size : Int) ≤ 40 := by omega
  have hB0 : Lib.IsBuilder 44 5 w.heap.size w.heap.size ((hexL s 0).map (Value.int .u8)) (w.alloc (.cells #[.pointer none, .slice none 0 0] 44)) := Lib.fresh_isBuilder _ _ w
  have hb0 : Below w.heap.size w (w.alloc (.cells #[.pointer none, .slice none 0 0] 44)) := (Below.refl _ _).alloc (Nat.le_refl _) _
  go_enter Try.func14, Try.ntmps14
  go_wp2
  go_loopw [10] (fun i wr => ∃ j : Nat, j ≤ s.size ∧ i = .int .i64 j ∧ Lib.IsBuilder 44 5 w.heap.size w.heap.size ((hexL s j).map (Value.int .u8)) wr ∧ Below w.heap.size w wr) (fun i _ => s.size - (intOf i).toNat)
  case atStart => exact ⟨0, Nat.zero_le _, rfl, hB0, hb0⟩
  case round =>
    obtain ⟨j, hj, rfl, hbu, hbel⟩ := hrel
    clear hB0 hb0
    by_cases hlt : j < s.size
    · have c0 : (0 : Int) ≤ j := by omega
      have c1 : (j : Int) < s.size := by omega
      have hbt := get_bt s
      have b0 := bt_nonneg s j
      have b1 := bt_le s j
      have d0 : 0 ≤ bt s j / 16 := by omega
      have d1 : bt s j / 16 < 16 := by omega
      have d2 : 0 ≤ bt s j % 16 := by omega
      have d3 : bt s j % 16 < 16 := by omega
      have hI1 := index_hex (P := Try.prog) 9 Try.underlying9 .u8 _ d0 d1
      have hI2 := index_hex (P := Try.prog) 9 Try.underlying9 .u8 _ d2 d3
      have q4 := and15 _ b0 b1
      have hsz := hbel.size
      have hln : ((hexL s j).map (Value.int .u8)).length = 2 * j := by rw [List.length_map, hexL_length]
      have HN := Lib.hid hln
      clear hln
      go_wp2_with fail
      refine (writeByte_any w.heap.size w.heap.size _ (hx (bt s j / 16)) _ hbu (by rw [HN.out]; omega) hsz).mono ?_
      rintro e w1 ⟨rfl, hbu1, hb1⟩
      have hsz1 := hb1.size
      go_wp2_with fail
      refine (writeByte_any w.heap.size w.heap.size _ (hx (bt s j % 16)) _ hbu1 (by rw [List.length_append, HN.out, List.length_singleton]; omega) (Nat.le_trans hsz hsz1)).mono ?_
      rintro e w2 ⟨rfl, hbu2, hb2⟩
      have hbu3 : Lib.IsBuilder 44 5 w.heap.size w.heap.size ((hexL s (j + 1)).map (Value.int .u8)) w2 := by
        have hm : (hexL s (j + 1)).map (Value.int .u8) = ((hexL s j).map (Value.int .u8) ++ [.int .u8 (hx (bt s j / 16))]) ++ [.int .u8 (hx (bt s j % 16))] := by simp [hexL]
        rw [hm]
        exact hbu2
      have hb3 := hbel.trans (hb1.trans hb2)
      clear hbu hbu1 hbu2 hb1 hb2 hbel hI1 hI2 q4 hbt
      go_wp2
      go_roundw
      case rel => exact ⟨j + 1, by omega, by go_num, hbu3, hb3⟩
      case measure => simp [intOf]; omega
    · obtain rfl : j = s.size := by omega
      rw [nums_cells _ (hexL_range s s.size)] at hbu
      go_wp2_with fail
      refine (Try.Builder_String_any w.heap.size w.heap.size _ _ hbu hbel.size).mono ?_
      rintro e w1 ⟨rfl, hb1⟩
      go_wp2
      go_ret
      exact ⟨rfl, hbel.trans hb1⟩

end Go.Proofs.Ytjphehjbmbjnnab
