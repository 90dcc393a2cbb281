/- The contracts of chapter 13's model: the checksum of a packet and its bytes. -/
import Derived.Test.YtcpdpamoddmpaaaK43
import Derived.Test.YtcpdpamoddmpaaaK8
import Derived.Test.YtcpdpamoddmpaaaK4b
import Derived.Test.YtcpdpamoddmpaaaK20v
import Derived.Deep.CutRange
import Derived.Deep.RegionHeldLaw
import Derived.IntWalk
import Derived.Handy
namespace Go.Proofs.Ytcpdpamoddmpaaa
open Go.RowKit Go.PlainAid

set_option maxHeartbeats 1000000 in
theorem l13Sum_any (s : ByteArray) (w : World) (h12 : 12 ≤ s.size) (hs : s.size ≤ 100000000) :
    Calls Try.prog 56 #[.string s] w fun e w' => e = .returned (.int .i64 (sum13 s)) ∧ Below w.heap.size w w' := by
  have z1 := size_cut s 0 8 (by omega)
  have z2 := size_cut s 12 s.size (Nat.le_refl _)
  have b1 : (8 : Int) ≤ (s.size : Int) := by omega
  have b2 : (12 : Int) ≤ (s.size : Int) := by omega
  have E := Lib.hid (show sum13 s = sumNext 1 (s.extract 0 8 ++ ByteArray.mk #[0, 0, 0, 0] ++ s.extract 12 s.size) from rfl)
  have EZ := Lib.hid (show (s.extract 0 8 ++ ByteArray.mk #[0, 0, 0, 0] ++ s.extract 12 s.size).size = s.size from bare_size h12)
  have hz1 : ¬ 9223372036854775807 < (s.extract 0 8).size + 4 := by omega
  have hz2 : ¬ 9223372036854775807 < (s.extract 0 8).size + 4 + (s.extract 12 s.size).size := by omega
  clear z1 z2
  go_enter Try.func56, Try.ntmps56
  go_wp2_with fail
  go_region_held_law (fun W => Below w.heap.size w W) (first | with_reducible assumption | exact Below.drew (Below.refl _ _) | exact (by assumption : Below w.heap.size w _).trans ((by assumption : Below _ _ _).mono (by assumption : Below w.heap.size w _).size))
    (first | (go_simp; go_at_call 71; refine (l2Next_any 1 (s.extract 0 8 ++ ByteArray.mk #[0, 0, 0, 0] ++ s.extract 12 s.size) _ (by rw [EZ.out]; unfold maxLen; omega) Sum.one).mono ?_; rintro e w1 ⟨rfl, hb1⟩; rw [← E.out]))
  all_goals
    go_wp2
    go_ret
    exact ⟨rfl, by assumption⟩

theorem pre_size (f t g : Int) (cs : List (Int × Int × ByteArray)) : (headP f t g ++ zero4 ++ chunksS cs).size = 12 + (chunksS cs).size := by
  rw [ByteArray.size_append, ByteArray.size_append, headP_size, zero4_size]
theorem pre_head (f t g : Int) (cs : List (Int × Int × ByteArray)) : (headP f t g ++ zero4 ++ chunksS cs).extract 0 8 = headP f t g := by
  have h8 := headP_size f t g
  have hp := pre_size f t g cs
  have hz : (headP f t g ++ zero4).size = 12 := by rw [ByteArray.size_append, h8, zero4_size]
  have hc := size_cut (headP f t g ++ zero4 ++ chunksS cs) 0 8 (by omega)
  refine same_bt (by omega) fun i hi => ?_
  rw [bt_cut _ _ _ _ (by omega), Nat.zero_add, bt_left _ _ _ (by omega), bt_left _ _ _ (by omega)]
theorem pre_tail (f t g : Int) (cs : List (Int × Int × ByteArray)) : (headP f t g ++ zero4 ++ chunksS cs).extract 12 (headP f t g ++ zero4 ++ chunksS cs).size = chunksS cs := by
  have hp := pre_size f t g cs
  have hz : (headP f t g ++ zero4).size = 12 := by rw [ByteArray.size_append, headP_size, zero4_size]
  have hc := size_cut (headP f t g ++ zero4 ++ chunksS cs) 12 (headP f t g ++ zero4 ++ chunksS cs).size (Nat.le_refl _)
  refine same_bt (by omega) fun i hi => ?_
  rw [bt_cut _ _ _ _ (by omega), bt_right _ _ _ (by omega), hz, show 12 + i - 12 = i by omega]
theorem pre_bare (f t g : Int) (cs : List (Int × Int × ByteArray)) : sum13 (headP f t g ++ zero4 ++ chunksS cs) = sumNext 1 (headP f t g ++ zero4 ++ chunksS cs) := by
  unfold sum13 bare
  rw [pre_head, pre_tail]
theorem pre_pack (f t g : Int) (cs : List (Int × Int × ByteArray)) : (headP f t g ++ zero4 ++ chunksS cs).extract 0 8 ++ longS (sum13 (headP f t g ++ zero4 ++ chunksS cs)) ++ (headP f t g ++ zero4 ++ chunksS cs).extract 12 (headP f t g ++ zero4 ++ chunksS cs).size = packS f t g cs := by
  rw [pre_head, pre_tail, pre_bare]
  rfl

/-- A variable at b, and no block that was there has turned. -/
structure PV (w : World) (b : Nat) (vs : List Value) (W : World) : Prop where
  v : VarN b vs W
  bel : Below w.heap.size w W
section
variable {w W W' : World} {b : Nat} {x0 x1 x2 x3 : Value}
theorem pv_at (h : PV w b [x0, x1, x2, x3] W) : W.cell? ⟨b, 0, none⟩ = some x0 ∧ W.cell? ⟨b, 1, none⟩ = some x1 ∧ W.cell? ⟨b, 2, none⟩ = some x2 ∧ W.cell? ⟨b, 3, none⟩ = some x3 ∧ PV w b [x0, x1, x2, x3] W :=
  ⟨(h.v 0 _ rfl).1, (h.v 1 _ rfl).1, (h.v 2 _ rfl).1, (h.v 3 _ rfl).1, h⟩
theorem pv_next (hb : Below W.heap.size W W') (h : W.cell? ⟨b, 0, none⟩ = some x0 ∧ W.cell? ⟨b, 1, none⟩ = some x1 ∧ W.cell? ⟨b, 2, none⟩ = some x2 ∧ W.cell? ⟨b, 3, none⟩ = some x3 ∧ PV w b [x0, x1, x2, x3] W) :
    W'.cell? ⟨b, 0, none⟩ = some x0 ∧ W'.cell? ⟨b, 1, none⟩ = some x1 ∧ W'.cell? ⟨b, 2, none⟩ = some x2 ∧ W'.cell? ⟨b, 3, none⟩ = some x3 ∧ PV w b [x0, x1, x2, x3] W' := by
  have q := h.2.2.2.2
  exact pv_at ⟨q.v.below hb (lt_of_cell (q.v 0 _ rfl).1), q.bel.trans (hb.mono q.bel.size)⟩
end

set_option maxHeartbeats 4000000 in
theorem l13Put_any (f t g : Int) (a : Option Addr) (len cap : Nat) (cs : List (Int × Int × ByteArray)) (w : World) (h : Chs w a len cap cs) (hok : PackOk f t g cs) :
    Calls Try.prog 34 #[.agg #[.int .i64 f, .int .i64 t, .int .i64 g, .slice a len cap]] w fun e w' => e = .returned (.string (packS f t g cs)) ∧ Below w.heap.size w w' := by
  obtain ⟨⟨hf, ht, hft⟩, hg, hn, hall⟩ := hok
  have hl := h.length
  have hm := h.len_int
  have HG := Lib.hid h
  have HA := Lib.hid hall
  clear h hall
  have wz1 := wordS_size f
  have wz2 := wordS_size t
  have wz3 := longS_size g
  have hz1 : ¬ 9223372036854775807 < (wordS f).size + (wordS t).size := by omega
  have hz2 : ¬ 9223372036854775807 < (wordS f).size + (wordS t).size + (longS g).size := by omega
  have hz3 : ¬ 9223372036854775807 < (wordS f).size + (wordS t).size + (longS g).size + 4 := by omega
  clear wz1 wz2 wz3
  have T0 : PV w w.heap.size [.int .i64 f, .int .i64 t, .int .i64 g, .slice a len cap] (w.alloc (.cells #[.int .i64 f, .int .i64 t, .int .i64 g, .slice a len cap] 25)) := ⟨VarN.new_at (by simp) [.int .i64 f, .int .i64 t, .int .i64 g, .slice a len cap] 25, below_box _ (Nat.le_refl _)⟩
  have hT := Lib.hid (pv_next (Below.drew (Below.refl _ _)) (pv_at T0))
  clear T0
  go_enter Try.func34, Try.ntmps34
  go_upto_region 1 with fail
  go_cut [3] from 5 to 16 (fun o wx => o = .string (headP f t g ++ zero4) ∧ PV w w.heap.size [.int .i64 f, .int .i64 t, .int .i64 g, .slice a len cap] wx)
  case first =>
   go_region_held_law (fun W => W.cell? ⟨w.heap.size, 0, none⟩ = some (.int .i64 f) ∧ W.cell? ⟨w.heap.size, 1, none⟩ = some (.int .i64 t) ∧ W.cell? ⟨w.heap.size, 2, none⟩ = some (.int .i64 g) ∧ W.cell? ⟨w.heap.size, 3, none⟩ = some (.slice a len cap) ∧ PV w w.heap.size [.int .i64 f, .int .i64 t, .int .i64 g, .slice a len cap] W)
     (first | with_reducible assumption | with_reducible exact hT.out | exact pv_next (by first | assumption | exact below_box _ (Nat.le_refl _) | exact Below.drew (Below.refl _ _)) (by assumption))
     (first
       | (go_simp; go_at_call 54; refine (l1Long_any g (by omega) (by omega) _).mono ?_; rintro e w1 ⟨rfl, hb1⟩)
       | (go_simp; go_at_call_of 53 (Value.int .i64 f); refine (l1Word_any f (by omega) (by omega) _).mono ?_; rintro e w1 ⟨rfl, hb1⟩)
       | (go_simp; go_at_call_of 53 (Value.int .i64 t); refine (l1Word_any t (by omega) (by omega) _).mono ?_; rintro e w1 ⟨rfl, hb1⟩))
   all_goals
     rename_i hHeld
     have HW := hHeld.2.2.2.2
     go_wp2_with fail
     go_meet
     exact ⟨rfl, HW⟩
  case rest =>
    obtain ⟨rfl, T8⟩ := hcut
    clear hT
    have hpk := Lib.hid (pre_pack f t g cs)
    go_wp2_with fail
    go_loopw [3, 4] (fun o i wr => ∃ (k : Nat) (X : ByteArray), k ≤ len ∧ o = .string X ∧ i = .int .i64 k ∧ Hid (headP f t g ++ zero4 ++ chunksS (cs.take k) = X) ∧ X.size ≤ 12 + 64 * k ∧ 12 ≤ X.size ∧ wr.cell? ⟨w.heap.size, 3, none⟩ = some (.slice a len cap) ∧ Hid (PV w w.heap.size [.int .i64 f, .int .i64 t, .int .i64 g, .slice a len cap] wr)) (fun _ i _ => len - (intOf i).toNat)
    case atStart =>
      refine ⟨0, _, Nat.zero_le _, rfl, rfl, Lib.hid ?_, ?_, ?_, (T8.v 3 _ rfl).1, Lib.hid T8⟩
      · exact ByteArray.append_empty
      · rw [ByteArray.size_append, headP_size, zero4_size]; omega
      · rw [ByteArray.size_append, headP_size, zero4_size]; omega
    case round =>
      obtain ⟨k, X, hk, rfl, rfl, hX, hs1, hs0, hc3, hpv⟩ := hrel
      by_cases hlt : k < len
      · obtain ⟨x, rfl⟩ := HG.out.some hlt
        obtain ⟨p0, p1, p2⟩ := HG.out.at hpv.out.bel hlt
        have hkl : k < cs.length := by omega
        have hch := HA.out _ (chAt_mem hkl)
        have N := Lib.hid (show headP f t g ++ zero4 ++ chunksS (cs.take (k + 1)) = X ++ chunkS (chAt cs k).1 (chAt cs k).2.1 (chAt cs k).2.2 by rw [take_chAt hkl, chunksS_snoc, ← hX.out]; simp only [ByteArray.append_assoc])
        obtain ⟨c1, hc1'⟩ : ∃ c1, (chAt cs k).1 = c1 := ⟨_, rfl⟩
        obtain ⟨c2, hc2'⟩ : ∃ c2, (chAt cs k).2.1 = c2 := ⟨_, rfl⟩
        obtain ⟨c3', hc3'⟩ : ∃ c3, (chAt cs k).2.2 = c3 := ⟨_, rfl⟩
        rw [hc1', hc2', hc3'] at N hch
        rw [hc1'] at p0
        rw [hc2'] at p1
        rw [hc3'] at p2
        have HCH := Lib.hid hch
        have hcz := chunkS_le c1 c2 c3' hch.2.2
        have hz9 : ¬ 9223372036854775807 < X.size + (chunkS c1 c2 c3').size := by omega
        clear hc1' hc2' hc3' hch
        go_wp2_with fail
        refine (l11Put_any c1 c2 c3' _ HCH.out).mono ?_
        rintro e w1 ⟨rfl, hb1⟩
        have q3 := kept_cell hb1 (lt_of_cell hc3) hc3
        have HP := Lib.hid (show PV w w.heap.size [.int .i64 f, .int .i64 t, .int .i64 g, .slice (some x) len cap] w1 from ⟨hpv.out.v.below hb1 (lt_of_cell hc3), hpv.out.bel.trans (hb1.mono hpv.out.bel.size)⟩)
        clear hb1
        go_wp2
        go_roundw
        case rel => exact ⟨k + 1, _, by omega, rfl, by go_num, N, by rw [ByteArray.size_append]; omega, by rw [ByteArray.size_append]; omega, q3, HP⟩
        case measure => simp [intOf]; omega
      · obtain rfl : k = len := by omega
        have hX' : headP f t g ++ zero4 ++ chunksS cs = X := by
          have := hX.out
          rw [List.take_of_length_le (by omega)] at this
          exact this
        rw [hX'] at hpk
        have b1 : (8 : Int) ≤ (X.size : Int) := by omega
        have b2 : (12 : Int) ≤ (X.size : Int) := by omega
        have z1 := size_cut X 0 8 (by omega)
        have z2 := size_cut X 12 X.size (Nat.le_refl _)
        have z3 := longS_size (sum13 X)
        have sb := sumNext_four (bare X)
        have hz4 : ¬ 9223372036854775807 < min 8 X.size + (longS (sum13 X)).size := by omega
        have hz5 : ¬ 9223372036854775807 < min 8 X.size + (longS (sum13 X)).size + (X.size - 12) := by omega
        have hb9 := hpv.out.bel
        have hXs : X.size ≤ 100000000 := by omega
        have hsum : 0 ≤ sum13 X ∧ sum13 X ≤ 4294967295 := sb
        clear z1 z2 z3 hX hX' hz1 hz2 hz3 sb
        go_wp2_with fail
        go_region_held_law (fun W => Below w.heap.size w W) (first | with_reducible assumption | exact Below.drew hb9 | exact (by assumption : Below w.heap.size w _).trans ((by assumption : Below _ _ _).mono (by assumption : Below w.heap.size w _).size))
          (first
            | (go_simp; go_at_call 56; refine (l13Sum_any X _ hs0 hXs).mono ?_; rintro e w1 ⟨rfl, hb1⟩)
            | (go_simp; go_at_call 54; refine (l1Long_any (sum13 X) hsum.1 hsum.2 _).mono ?_; rintro e w1 ⟨rfl, hb1⟩))
        all_goals
          go_wp2
          go_ret
          exact ⟨ret_s hpk.out, by assumption⟩

set_option maxHeartbeats 1000000 in
theorem sPacketPut_yes (f t g : Int) (a : Option Addr) (len cap : Nat) (cs : List (Int × Int × ByteArray)) (w : World) (h : Chs w a len cap cs) (hok : PackOk f t g cs) :
    Calls Try.prog 15 #[.agg #[.int .i64 f, .int .i64 t, .int .i64 g, .slice a len cap]] w fun e w' => e = .returned (.string (packS f t g cs)) ∧ Below w.heap.size w w' := by
  have HG := Lib.hid h
  have HK := Lib.hid hok
  have V := Lib.hid (packV_yes hok)
  clear h hok
  go_enter Try.func15, Try.ntmps15
  go_wp2_with fail
  refine (sPacketValid_any f t g a len cap cs _ (HG.out.below (below_box _ (Nat.le_refl _)))).mono ?_
  rintro e w1 ⟨rfl, hb1⟩
  rw [V.out]
  have T := Lib.hid ((VarN.new_at (w := w) (d := w.heap.size) (by simp) [.int .i64 f, .int .i64 t, .int .i64 g, .slice a len cap] 25).below hb1 (by simp))
  have HB := Lib.hid ((below_box (w := w) (.cells (List.toArray [.int .i64 f, .int .i64 t, .int .i64 g, .slice a len cap]) 25) (Nat.le_refl _)).trans (hb1.mono (by simp)))
  clear hb1
  have c0 := (T.out 0 _ rfl).1
  have c1 := (T.out 1 _ rfl).1
  have c2 := (T.out 2 _ rfl).1
  have c3 := (T.out 3 _ rfl).1
  go_wp2_with fail
  refine (l13Put_any f t g a len cap cs _ (HG.out.below HB.out) HK.out).mono ?_
  rintro e w2 ⟨rfl, hb2⟩
  have HB2 := Lib.hid (HB.out.trans (hb2.mono HB.out.size))
  clear hb2 c0 c1 c2 c3
  go_wp2
  go_ret
  exact ⟨rfl, HB2.out⟩
set_option maxHeartbeats 1000000 in
theorem sPacketPut_no (f t g : Int) (a : Option Addr) (len cap : Nat) (cs : List (Int × Int × ByteArray)) (w : World) (h : Chs w a len cap cs) (hok : ¬ PackOk f t g cs) :
    Calls Try.prog 15 #[.agg #[.int .i64 f, .int .i64 t, .int .i64 g, .slice a len cap]] w fun e w' => e = .returned (.string (ByteArray.mk #[])) ∧ Below w.heap.size w w' := by
  have HG := Lib.hid h
  have V := Lib.hid (packV_no hok)
  clear h hok
  go_enter Try.func15, Try.ntmps15
  go_wp2_with fail
  refine (sPacketValid_any f t g a len cap cs _ (HG.out.below (below_box _ (Nat.le_refl _)))).mono ?_
  rintro e w1 ⟨rfl, hb1⟩
  rw [V.out]
  have HB := Lib.hid ((below_box (w := w) (.cells (List.toArray [.int .i64 f, .int .i64 t, .int .i64 g, .slice a len cap]) 25) (Nat.le_refl _)).trans (hb1.mono (by simp)))
  clear hb1
  go_wp2
  go_ret
  exact ⟨rfl, HB.out⟩

end Go.Proofs.Ytcpdpamoddmpaaa
