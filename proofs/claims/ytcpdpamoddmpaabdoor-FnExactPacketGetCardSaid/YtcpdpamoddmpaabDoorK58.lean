/- The contracts of the exact law's marks: what is written into the chunks of an answer, and whether it still lies there. -/
import Derived.Test.YtcpdpamoddmpaabDoorK61
import Derived.Test.YtcpdpamoddmpaabDoorK57
import Derived.Deep.RegionHeldLaw
import Derived.Handy
namespace Go.Proofs.YtcpdpamoddmpaabDoor
open Go.RowKit Go.PlainAid

/-- The text of a mark. -/
def mtS (j : Nat) : ByteArray := if j = 0 then ByteArray.mk #[109] ++ (strOfNums [51] ++ ByteArray.mk #[]) else if j = 1 then ByteArray.mk #[109] ++ (strOfNums [54] ++ ByteArray.mk #[]) else if j = 2 then ByteArray.mk #[109] ++ (strOfNums [57] ++ ByteArray.mk #[]) else ByteArray.mk #[109] ++ (strOfNums [49] ++ (strOfNums [50] ++ ByteArray.mk #[]))

set_option maxHeartbeats 1000000 in
theorem markText_three (w : World) :
    Calls Tryd.prog 60 #[.int .i64 3] w fun e w' => e = .returned (.string (mtS 0)) ∧ Below w.heap.size w w' := by
  have hcv := conv_single
  have hz51 := strOfNums_size [51]
  go_enter Tryd.func60, Tryd.ntmps60
  go_wp2
  refine wp_loop_rounds 2 ?_
  rw [rounds_succ]
  go_wp2
  rw [rounds_succ]
  go_wp2
  go_ret
  exact ⟨rfl, below_box _ (Nat.le_refl _)⟩

set_option maxHeartbeats 1000000 in
theorem markText_six (w : World) :
    Calls Tryd.prog 60 #[.int .i64 6] w fun e w' => e = .returned (.string (mtS 1)) ∧ Below w.heap.size w w' := by
  have hcv := conv_single
  have hz54 := strOfNums_size [54]
  go_enter Tryd.func60, Tryd.ntmps60
  go_wp2
  refine wp_loop_rounds 2 ?_
  rw [rounds_succ]
  go_wp2
  rw [rounds_succ]
  go_wp2
  go_ret
  exact ⟨rfl, below_box _ (Nat.le_refl _)⟩

set_option maxHeartbeats 1000000 in
theorem markText_nine (w : World) :
    Calls Tryd.prog 60 #[.int .i64 9] w fun e w' => e = .returned (.string (mtS 2)) ∧ Below w.heap.size w w' := by
  have hcv := conv_single
  have hz57 := strOfNums_size [57]
  go_enter Tryd.func60, Tryd.ntmps60
  go_wp2
  refine wp_loop_rounds 2 ?_
  rw [rounds_succ]
  go_wp2
  rw [rounds_succ]
  go_wp2
  go_ret
  exact ⟨rfl, below_box _ (Nat.le_refl _)⟩

set_option maxHeartbeats 1000000 in
theorem markText_twelve (w : World) :
    Calls Tryd.prog 60 #[.int .i64 12] w fun e w' => e = .returned (.string (mtS 3)) ∧ Below w.heap.size w w' := by
  have hcv := conv_single
  have hz50 := strOfNums_size [50]
  have hz49 := strOfNums_size [49]
  go_enter Tryd.func60, Tryd.ntmps60
  go_wp2
  refine wp_loop_rounds 3 ?_
  rw [rounds_succ]
  go_wp2
  rw [rounds_succ]
  go_wp2
  rw [rounds_succ]
  go_wp2
  go_ret
  exact ⟨rfl, (below_box _ (Nat.le_refl _)).alloc (by simp) _⟩

theorem markText_any (j : Nat) (z : Int) (w : World) (hj : j < 4) (hz : z = 3 + 3 * (j : Int)) :
    Calls Tryd.prog 60 #[.int .i64 z] w fun e w' => e = .returned (.string (mtS j)) ∧ Below w.heap.size w w' := by
  subst hz
  rcases (show j = 0 ∨ j = 1 ∨ j = 2 ∨ j = 3 by omega) with rfl | rfl | rfl | rfl
  · exact markText_three w
  · exact markText_six w
  · exact markText_nine w
  · exact markText_twelve w

/-- The marks of n chunks. -/
def marksC (n : Nat) : List (Int × Int × ByteArray) := (List.range n).map fun i : Nat => (1 + 3 * (i : Int), 2 + 3 * (i : Int), mtS i)
theorem marksC_length (n : Nat) : (marksC n).length = n := by simp [marksC]
theorem marksC_at (n k : Nat) (h : k < n) : chAt (marksC n) k = (1 + 3 * (k : Int), 2 + 3 * (k : Int), mtS k) := by
  unfold chAt
  rw [List.getD_eq_getElem?_getD]
  simp [marksC, h]
theorem own_fil {w : World} {base g n cap : Nat} {xs : List Value} (cs : List (Int × Int × ByteArray)) (h : w.ownsRow base 43 3 (.slice (some ⟨g, 0, none⟩) n cap) n xs) : Fil g n 0 cs w ∧ Free g w ∧ n ≤ cap ∧ cap ≤ maxLen ∧ base ≤ g ∧ g < w.heap.size := by
  rcases h.2 with ⟨h1, _⟩ | ⟨g', cap', cur, h1, h2, h3, h4, h5, h6, _⟩
  · exact absurd h1 (by intro e; cases e)
  · obtain ⟨rfl, _, rfl⟩ : g = g' ∧ True ∧ cap = cap' := by simpa using h1
    refine ⟨fun i hi => ?_, fun j => by unfold World.frozen?; simp [h3], h4, h5, h2, (Array.getElem?_eq_some_iff.1 h3).1⟩
    have q1 : i * 3 < cur.size := by omega
    have q2 : i * 3 + 1 < cur.size := by omega
    have q3 : i * 3 + 2 < cur.size := by omega
    exact ⟨cur[i * 3], cur[i * 3 + 1], cur[i * 3 + 2], by unfold World.cell?; simp [h3, q1], by unfold World.cell?; simp [h3, q2], by unfold World.cell?; simp [h3, q3], fun h => absurd h (by omega)⟩
/-- Of the blocks that were there none but g's has turned, and none below g. -/
structure Mw (g : Nat) (w W : World) : Prop where
  a : Aside w.heap.size g w W
  b : Below g w W
  z : w.heap.size ≤ W.heap.size
  l : g < w.heap.size
theorem Mw.set {g i : Nat} {w W : World} (h : Mw g w W) (v : Value) : Mw g w (W.setCell ⟨g, i, none⟩ v) :=
  ⟨fun b hb hr => (Below.heap_setCell W ⟨g, i, none⟩ v b (by simpa using hr)).trans (h.a b hb hr), h.b.setCell (p := ⟨g, i, none⟩) (Nat.le_refl _) v, by simpa using h.z, h.l⟩
theorem Mw.grow {g : Nat} {w W W' : World} (h : Mw g w W) (hb : Below W.heap.size W W') : Mw g w W' :=
  ⟨h.a.trans (below_aside hb h.z), h.b.trans (hb.mono (by have := h.z; have := h.l; omega)), Nat.le_trans h.z hb.size, h.l⟩

set_option maxHeartbeats 2000000 in
theorem markChunkS_any (g n cap : Nat) (w : World) (hn : n ≤ 4) (hg : g < w.heap.size) (h : Fil g n 0 (marksC n) w) (hf : Free g w) :
    Calls Tryd.prog 39 #[.slice (some ⟨g, 0, none⟩) n cap, .int .i64 1] w fun e w' => e = .returned (.int .i64 (1 + 3 * (n : Int))) ∧ Fil g n n (marksC n) w' ∧ Mw g w w' := by
  have HF := Lib.hid (And.intro h (And.intro hf (show Mw g w w from ⟨Aside.refl _ _ _, Below.refl _ _, Nat.le_refl _, hg⟩)))
  clear h hf
  go_enter Tryd.func39, Tryd.ntmps39
  go_wp2
  go_loopw [1, 5] (fun m i wr => ∃ j : Nat, j ≤ n ∧ i = .int .i64 j ∧ m = .int .i64 (1 + 3 * (j : Int)) ∧ Hid (Fil g n j (marksC n) wr ∧ Free g wr ∧ Mw g w wr)) (fun _ i _ => n - (intOf i).toNat)
  case atStart => exact ⟨0, Nat.zero_le _, rfl, rfl, HF⟩
  case round =>
    obtain ⟨j, hj, rfl, rfl, hfi⟩ := hrel
    clear HF
    by_cases hlt : j < n
    · have hm := marksC_at n j hlt
      obtain ⟨F0, R0, M0⟩ := hfi.out
      obtain ⟨u, v, x, s0, s1, s2, _⟩ := F0 j hlt
      have r0 := R0 (j * 3)
      have r1 := R0 (j * 3 + 1)
      have s1' : ∀ y : Value, (wr.setCell ⟨g, j * 3, none⟩ y).cell? ⟨g, j * 3 + 1, none⟩ = some v := fun y => cell_other (by omega) s1
      have FA := (F0.cell (i := j) (j := 0) (Nat.le_refl _) rfl (by omega) (.int .i64 (1 + 3 * (j : Int)))).cell (i := j) (j := 1) (Nat.le_refl _) rfl (by omega) (.int .i64 (2 + 3 * (j : Int)))
      have RA := (R0.set (e := g) (i := j * 3) (.int .i64 (1 + 3 * (j : Int)))).set (e := g) (i := j * 3 + 1) (.int .i64 (2 + 3 * (j : Int)))
      have MA := (M0.set (i := j * 3) (.int .i64 (1 + 3 * (j : Int)))).set (i := j * 3 + 1) (.int .i64 (2 + 3 * (j : Int)))
      have a0 : ((wr.setCell ⟨g, j * 3, none⟩ (.int .i64 (1 + 3 * (j : Int)))).setCell ⟨g, j * 3 + 1, none⟩ (.int .i64 (2 + 3 * (j : Int)))).cell? ⟨g, j * 3, none⟩ = some (.int .i64 (1 + 3 * (j : Int))) := cell_other (by omega) (World.cell?_setCell_same _ _ _ s0)
      have a1 : ((wr.setCell ⟨g, j * 3, none⟩ (.int .i64 (1 + 3 * (j : Int)))).setCell ⟨g, j * 3 + 1, none⟩ (.int .i64 (2 + 3 * (j : Int)))).cell? ⟨g, j * 3 + 1, none⟩ = some (.int .i64 (2 + 3 * (j : Int))) := World.cell?_setCell_same _ _ _ (s1' _)
      have HA := Lib.hid (And.intro FA (And.intro RA (And.intro MA (And.intro a0 a1))))
      have k1 : IntKind.i64.wrap (1 + 3 * (j : Int) + 1) = 2 + 3 * (j : Int) := (IntWalk.i64_in _ (by omega)).trans (by omega)
      have k2 : IntKind.i64.wrap (2 + 3 * (j : Int) + 1) = 3 + 3 * (j : Int) := (IntWalk.i64_in _ (by omega)).trans (by omega)
      have k3 : IntKind.i64.wrap (3 + 3 * (j : Int) + 1) = 4 + 3 * (j : Int) := (IntWalk.i64_in _ (by omega)).trans (by omega)
      have HM := Lib.hid hm
      clear FA RA MA a0 a1 hm hfi F0 R0 M0 s1
      go_wp2_with fail
      refine (markText_any j _ _ (by omega) rfl).mono ?_
      rintro e w8 ⟨rfl, hb8⟩
      have hgl : g < ((wr.setCell ⟨g, j * 3, none⟩ (.int .i64 (1 + 3 * (j : Int)))).setCell ⟨g, j * 3 + 1, none⟩ (.int .i64 (2 + 3 * (j : Int)))).heap.size := Nat.lt_of_lt_of_le hg HA.out.2.2.1.z
      have F8 := HA.out.1.below hb8
      have R8 := HA.out.2.1.below hgl hb8
      have M8 := HA.out.2.2.1.grow hb8
      obtain ⟨u8, v8, x8, q0, q1, q2, _⟩ := F8 j hlt
      have t2 := R8 (j * 3 + 2)
      have HN := Lib.hid (show Fil g n (j + 1) (marksC n) (w8.setCell ⟨g, j * 3 + 2, none⟩ (.string (mtS j))) ∧ Free g (w8.setCell ⟨g, j * 3 + 2, none⟩ (.string (mtS j))) ∧ Mw g w (w8.setCell ⟨g, j * 3 + 2, none⟩ (.string (mtS j))) from
        ⟨(F8.cell (i := j) (j := 2) (Nat.le_refl _) rfl (by omega) (.string (mtS j))).step (c1 := 1 + 3 * (j : Int)) (c2 := 2 + 3 * (j : Int)) (c3 := mtS j) (by rw [HM.out]) (by rw [HM.out]) (by rw [HM.out])
          (cell_other (by omega) (kept_cell hb8 hgl HA.out.2.2.2.1)) (cell_other (by omega) (kept_cell hb8 hgl HA.out.2.2.2.2)) (World.cell?_setCell_same _ _ _ q2), R8.set _, M8.set _⟩)
      clear F8 R8 M8 hb8 hgl HA r0 r1 s0 s2 s1' q0 q1
      go_wp2
      go_roundw
      case rel => exact ⟨j + 1, by omega, by go_num, by go_num, HN⟩
      case measure => simp [intOf]; omega
    · obtain rfl : j = n := by omega
      go_wp2
      go_ret
      exact ⟨rfl, hfi.out.1, hfi.out.2.2⟩

theorem keptB {p : Addr} {v : Value} {w W W' : World} (h : W.cell? p = some v ∧ Below w.heap.size w W) (hb : Below W.heap.size W W') : W'.cell? p = some v ∧ Below w.heap.size w W' :=
  ⟨(hb.cell (World.block_lt_of_cell? W _ h.1)).trans h.1, h.2.trans (hb.mono h.2.size)⟩

set_option maxHeartbeats 2000000 in
theorem heldChunkS_any (a : Option Addr) (n cap : Nat) (w : World) (hn : n ≤ 4) (h : Chs w a n cap (marksC n)) :
    Calls Tryd.prog 40 #[.slice a n cap, .int .i64 1] w fun e w' => e = .returned (.int .i64 (1 + 3 * (n : Int))) ∧ Below w.heap.size w w' := by
  have HG := Lib.hid h
  clear h
  go_enter Tryd.func40, Tryd.ntmps40
  go_wp2
  go_loopw [1, 5] (fun m i wr => ∃ j : Nat, j ≤ n ∧ i = .int .i64 j ∧ m = .int .i64 (1 + 3 * (j : Int)) ∧ Hid (Below w.heap.size w wr)) (fun _ i _ => n - (intOf i).toNat)
  case atStart => exact ⟨0, Nat.zero_le _, rfl, rfl, Lib.hid (Below.refl _ _)⟩
  case round =>
    obtain ⟨j, hj, rfl, rfl, hbel⟩ := hrel
    by_cases hlt : j < n
    · obtain ⟨x, rfl⟩ := HG.out.some hlt
      obtain ⟨p0, p1, p2⟩ := HG.out.at hbel.out hlt
      rw [marksC_at n j hlt] at p0 p1 p2
      have k1 : IntKind.i64.wrap (1 + 3 * (j : Int) + 1) = 2 + 3 * (j : Int) := (IntWalk.i64_in _ (by omega)).trans (by omega)
      have k2 : IntKind.i64.wrap (2 + 3 * (j : Int) + 1) = 3 + 3 * (j : Int) := (IntWalk.i64_in _ (by omega)).trans (by omega)
      have k3 : IntKind.i64.wrap (3 + 3 * (j : Int) + 1) = 4 + 3 * (j : Int) := (IntWalk.i64_in _ (by omega)).trans (by omega)
      have hS := Lib.hid (keptB (W := wr) ⟨p2, hbel.out⟩ (Below.drew (Below.refl _ _)))
      go_wp2_with fail
      go_region_held_law (fun W => W.cell? ⟨(x.add (j * 3)).block, (x.add (j * 3)).off + 2, none⟩ = some (.string (mtS j)) ∧ Below w.heap.size w W)
        (first | with_reducible assumption | with_reducible exact hS.out | exact keptB (by assumption) (by assumption))
        (first | (go_simp; go_at_call 60; refine (markText_any j _ _ (by omega) rfl).mono ?_; rintro e w' ⟨rfl, hbn⟩))
      all_goals
        go_wp2
        go_roundw
        case rel => exact ⟨j + 1, by omega, by go_num, by go_num, by go_split_ands; exact Lib.hid (by assumption)⟩
        case measure => simp [intOf]; omega
    · obtain rfl : j = n := by omega
      go_wp2
      go_ret
      exact ⟨rfl, hbel.out⟩

set_option maxHeartbeats 400000 in
theorem markPacket_some (f t q : Int) (g n cap : Nat) (w : World) (hn : n ≤ 4) (hg : g < w.heap.size) (h : Fil g n 0 (marksC n) w) (hf : Free g w) :
    Calls Tryd.prog 18 #[.agg #[.int .i64 f, .int .i64 t, .int .i64 q, .slice (some ⟨g, 0, none⟩) n cap], .int .i64 1] w fun e w' => e = .returned (.int .i64 (1 + 3 * (n : Int))) ∧ Fil g n n (marksC n) w' ∧ Mw g w w' := by
  have F1 := Lib.hid (h.below (below_box (.cells #[.int .i64 f, .int .i64 t, .int .i64 q, .slice (some ⟨g, 0, none⟩) n cap] 25) (Nat.le_refl _)))
  have R1 := Lib.hid (hf.below hg (below_box (.cells #[.int .i64 f, .int .i64 t, .int .i64 q, .slice (some ⟨g, 0, none⟩) n cap] 25) (Nat.le_refl _)))
  clear h hf
  go_enter Tryd.func18, Tryd.ntmps18
  go_wp2_with fail
  refine (markChunkS_any g n cap _ hn (by simp; omega) F1.out R1.out).mono ?_
  rintro e w1 ⟨rfl, hf, hmw⟩
  have HF := Lib.hid hf
  have HM := Lib.hid (show Mw g w w1 from ⟨(aside_alloc (r := g) w _ (Nat.le_refl _)).trans (hmw.a.less (by simp)), (below_box _ (Nat.le_of_lt hg)).trans hmw.b, by have := hmw.z; simp at this; omega, hg⟩)
  clear hf hmw
  go_wp2
  go_ret
  exact ⟨rfl, HF.out, HM.out⟩

set_option maxHeartbeats 400000 in
theorem markChunkS_none (w : World) :
    Calls Tryd.prog 39 #[.slice none 0 0, .int .i64 1] w fun e w' => e = .returned (.int .i64 1) ∧ w' = w := by
  go_enter Tryd.func39, Tryd.ntmps39
  go_wp2
  go_loopw [1, 5] (fun m i wr => m = .int .i64 1 ∧ i = .int .i64 0 ∧ wr = w) (fun _ _ _ => 0)
  case atStart => exact ⟨rfl, rfl, rfl⟩
  case round =>
    obtain ⟨rfl, rfl, rfl⟩ := hrel
    go_wp2
    go_ret
    exact ⟨rfl, rfl⟩

set_option maxHeartbeats 400000 in
theorem markPacket_none (f t q : Int) (w : World) :
    Calls Tryd.prog 18 #[.agg #[.int .i64 f, .int .i64 t, .int .i64 q, .slice none 0 0], .int .i64 1] w fun e w' => e = .returned (.int .i64 1) ∧ Below w.heap.size w w' := by
  go_enter Tryd.func18, Tryd.ntmps18
  go_wp2_with fail
  refine (markChunkS_none _).mono ?_
  rintro e w1 ⟨rfl, rfl⟩
  go_wp2
  go_ret
  exact ⟨rfl, below_box _ (Nat.le_refl _)⟩

set_option maxHeartbeats 400000 in
theorem heldPacket_any (f t q : Int) (a : Option Addr) (n cap : Nat) (w : World) (hn : n ≤ 4) (h : Chs w a n cap (marksC n)) :
    Calls Tryd.prog 19 #[.agg #[.int .i64 f, .int .i64 t, .int .i64 q, .slice a n cap], .int .i64 1] w fun e w' => e = .returned (.int .i64 (1 + 3 * (n : Int))) ∧ Below w.heap.size w w' := by
  have G1 := Lib.hid (h.below (below_box (.cells #[.int .i64 f, .int .i64 t, .int .i64 q, .slice a n cap] 25) (Nat.le_refl _)))
  have hq : ¬ 1 + 3 * (n : Int) < 0 := by omega
  clear h
  go_enter Tryd.func19, Tryd.ntmps19
  go_wp2_with fail
  refine (heldChunkS_any a n cap _ hn G1.out).mono ?_
  rintro e w1 ⟨rfl, hb⟩
  have HB := Lib.hid ((below_box (w := w) (.cells #[.int .i64 f, .int .i64 t, .int .i64 q, .slice a n cap] 25) (Nat.le_refl _)).trans (hb.mono (by simp)))
  clear hb
  go_wp2
  go_ret
  exact ⟨rfl, HB.out⟩
theorem heldPacket_none (f t q : Int) (w : World) :
    Calls Tryd.prog 19 #[.agg #[.int .i64 f, .int .i64 t, .int .i64 q, .slice none 0 0], .int .i64 1] w fun e w' => e = .returned (.int .i64 1) ∧ Below w.heap.size w w' :=
  heldPacket_any f t q none 0 0 w (by omega) (.inl ⟨rfl, rfl, rfl, rfl⟩)
theorem eqPacket_none (w : World) :
    Calls Tryd.prog 17 #[.agg #[.int .i64 0, .int .i64 0, .int .i64 0, .slice none 0 0], .agg #[.int .i64 0, .int .i64 0, .int .i64 0, .slice none 0 0]] w fun e w' => e = .returned (.bool true) ∧ Below w.heap.size w w' :=
  eqPacket_same 0 0 0 none none 0 0 0 [] w (.inl ⟨rfl, rfl, rfl, rfl⟩) (.inl ⟨rfl, rfl, rfl, rfl⟩)

end Go.Proofs.YtcpdpamoddmpaabDoor
