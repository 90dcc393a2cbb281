/- The walks of the exact laws on packets that are judged and written. -/
import Derived.Test.YtcpdpamoddmpaaaK51
import Derived.Test.YtcpdpamoddmpaaaK52
import Derived.Test.YtcpdpamoddmpaaaK56
import Derived.Test.YtcpdpamoddmpaaaK61
import Derived.Deep.RegionHeldLaw
import Derived.Handy
namespace Go.Proofs.Ytcpdpamoddmpaaa
open Go.RowKit Go.PlainAid

/-- What the last comparison of a law needs to know of a world. -/
theorem keptX {p1 p2 p3 p4 p5 p6 p7 p8 : Addr} {v1 v2 v3 v4 v5 v6 v7 v8 : Value} {a b : Option Addr} {l1 c1 l2 c2 : Nat} {cs ds : List (Int × Int × ByteArray)} {w W W' : World}
    (h : W.cell? p1 = some v1 ∧ W.cell? p2 = some v2 ∧ W.cell? p3 = some v3 ∧ W.cell? p4 = some v4 ∧ W.cell? p5 = some v5 ∧ W.cell? p6 = some v6 ∧ W.cell? p7 = some v7 ∧ W.cell? p8 = some v8 ∧ Chs W a l1 c1 cs ∧ Chs W b l2 c2 ds ∧ Below w.heap.size w W) (hb : Below W.heap.size W W') :
    W'.cell? p1 = some v1 ∧ W'.cell? p2 = some v2 ∧ W'.cell? p3 = some v3 ∧ W'.cell? p4 = some v4 ∧ W'.cell? p5 = some v5 ∧ W'.cell? p6 = some v6 ∧ W'.cell? p7 = some v7 ∧ W'.cell? p8 = some v8 ∧ Chs W' a l1 c1 cs ∧ Chs W' b l2 c2 ds ∧ Below w.heap.size w W' := by
  obtain ⟨h1, h2, h3, h4, h5, h6, h7, h8, h9, h10, h11⟩ := h
  have go : ∀ (p : Addr) (v : Value), W.cell? p = some v → W'.cell? p = some v := fun p v e => (hb.cell (World.block_lt_of_cell? W _ e)).trans e
  exact ⟨go _ _ h1, go _ _ h2, go _ _ h3, go _ _ h4, go _ _ h5, go _ _ h6, go _ _ h7, go _ _ h8, h9.below hb, h10.below hb, h11.trans (hb.mono h11.size)⟩

set_option maxHeartbeats 4000000 in
theorem walk_fnExactPacketValid (f t n : Int) (a : Option Addr) (len cap : Nat) (cs : List (Int × Int × ByteArray)) (w1 : World) (hch : Chs w1 a len cap cs) (hz : ∀ c ∈ cs, c.2.2.size ≤ maxLen) :
    Calls Try.prog 10 #[.agg #[.int .i64 f, .int .i64 t, .int .i64 n, .slice a len cap]] w1 fun e w' => e = .returned (.bool true) ∧ Below w1.heap.size w1 w' := by
  have hb1 := Below.refl w1.heap.size w1
  have GA := Lib.hid hch
  have HZ := Lib.hid hz
  clear hch hz
  obtain ⟨z0, hz0⟩ : ∃ z0, packV f t n cs = z0 := ⟨_, rfl⟩
  have HV := Lib.hid hz0
  clear hz0
  go_enter Try.func10, Try.ntmps10
  go_wp2_with fail
  refine (szPacket_any f t n a len cap cs _ ((GA.out).below (below_box (.cells (List.toArray [.int .i64 f, .int .i64 t, .int .i64 n, .slice a len cap]) 38) (Nat.le_refl _))) HZ.out).mono ?_
  rintro e w2 ⟨⟨z, rfl, hzz⟩, hb2⟩
  have Vp := Lib.hid ((VarN.new_at (w := w1) (d := w1.heap.size) (by simp) [.int .i64 f, .int .i64 t, .int .i64 n, .slice a len cap] 38).below hb2 (by simp))
  have HB2 := Lib.hid (((hb1).alloc (Nat.le_trans hb1.size (by exact Nat.le_refl _)) (.cells (List.toArray [.int .i64 f, .int .i64 t, .int .i64 n, .slice a len cap]) 38)).trans (hb2.mono (Nat.le_trans hb1.size (by simp <;> omega))))
  have ltp : w1.heap.size < w2.heap.size := lt_of_cell (Vp.out 0 _ rfl).1
  have nep : ¬ w1.heap.size = w2.heap.size := by omega
  have GA := Lib.hid (((GA.out).below (below_box (.cells (List.toArray [.int .i64 f, .int .i64 t, .int .i64 n, .slice a len cap]) 38) (Nat.le_refl _))).below hb2)
  clear hb2
  rcases hzz with rfl | ⟨y0, y1⟩
  · go_wp2
    go_ret
    exact ⟨rfl, HB2.out⟩
  · have yn : ¬ z < 0 := by omega
    have HLE := Lib.hid y1
    clear y0 y1
    have p0 := (Vp.out 0 _ rfl).1
    have pf0 := (Vp.out 0 _ rfl).2
    have p1 := (Vp.out 1 _ rfl).1
    have pf1 := (Vp.out 1 _ rfl).2
    have p2 := (Vp.out 2 _ rfl).1
    have pf2 := (Vp.out 2 _ rfl).2
    have p3 := (Vp.out 3 _ rfl).1
    have pf3 := (Vp.out 3 _ rfl).2
    go_wp2_with fail
    refine (toPacket_any f t n a len cap cs _ GA.out HLE.out).mono ?_
    rintro e w3 ⟨⟨d1, rfl, hd1, hg1⟩, hb3⟩
    clear p0 pf0 p1 pf1 p2 pf2 p3 pf3
    have Vp := Lib.hid ((Vp.out).below hb3 ltp)
    have HB3 := Lib.hid (HB2.out.trans (hb3.mono HB2.out.size))
    have ltp : w1.heap.size < w3.heap.size := lt_of_cell (Vp.out 0 _ rfl).1
    have nep : ¬ w1.heap.size = w3.heap.size := by omega
    have GA := Lib.hid ((GA.out).below hb3)
    clear hb3
    have G1 := Lib.hid hg1
    clear hg1 hd1
    go_wp2_with fail
    refine (sPacketValid_any f t n _ len len cs _ G1.out).mono ?_
    rw [HV.out]
    rintro e w4 ⟨rfl, hb4⟩
    have Vp := Lib.hid ((Vp.out).below hb4 ltp)
    have HB4 := Lib.hid (HB3.out.trans (hb4.mono HB3.out.size))
    have ltp : w1.heap.size < w4.heap.size := lt_of_cell (Vp.out 0 _ rfl).1
    have nep : ¬ w1.heap.size = w4.heap.size := by omega
    have GA := Lib.hid ((GA.out).below hb4)
    have G1 := Lib.hid ((G1.out).below hb4)
    clear hb4
    have p0 := (Vp.out 0 _ rfl).1
    have pf0 := (Vp.out 0 _ rfl).2
    have p1 := (Vp.out 1 _ rfl).1
    have pf1 := (Vp.out 1 _ rfl).2
    have p2 := (Vp.out 2 _ rfl).1
    have pf2 := (Vp.out 2 _ rfl).2
    have p3 := (Vp.out 3 _ rfl).1
    have pf3 := (Vp.out 3 _ rfl).2
    go_wp2_with fail
    refine (toPacket_any f t n a len cap cs _ GA.out HLE.out).mono ?_
    rintro e w5 ⟨⟨d2, rfl, hd2, hg2⟩, hb5⟩
    clear p0 pf0 p1 pf1 p2 pf2 p3 pf3
    have Vp := Lib.hid ((Vp.out).below hb5 ltp)
    have HB5 := Lib.hid (HB4.out.trans (hb5.mono HB4.out.size))
    have ltp : w1.heap.size < w5.heap.size := lt_of_cell (Vp.out 0 _ rfl).1
    have nep : ¬ w1.heap.size = w5.heap.size := by omega
    have GA := Lib.hid ((GA.out).below hb5)
    have G1 := Lib.hid ((G1.out).below hb5)
    clear hb5
    have G2 := Lib.hid hg2
    clear hg2 hd2
    go_wp2_with fail
    refine (packetValid_any f t n _ len len cs _ ((G2.out).below (below_box (.cells (List.toArray [.int .i64 f, .int .i64 t, .int .i64 n, .slice (some ⟨d2, 0, none⟩) len len]) 25) (Nat.le_refl _)))).mono ?_
    rw [HV.out]
    rintro e w6 ⟨rfl, hb6⟩
    have Vp := Lib.hid (((Vp.out).alloc (.cells (List.toArray [.int .i64 f, .int .i64 t, .int .i64 n, .slice (some ⟨d2, 0, none⟩) len len]) 25) (by omega)).below hb6 (by simp; omega))
    have Vs := Lib.hid ((VarN.new_at (w := w5) (d := w5.heap.size) (by simp) [.int .i64 f, .int .i64 t, .int .i64 n, .slice (some ⟨d2, 0, none⟩) len len] 25).below hb6 (by simp))
    have HB6 := Lib.hid (((HB5.out).alloc (Nat.le_trans HB5.out.size (by exact Nat.le_refl _)) (.cells (List.toArray [.int .i64 f, .int .i64 t, .int .i64 n, .slice (some ⟨d2, 0, none⟩) len len]) 25)).trans (hb6.mono (Nat.le_trans HB5.out.size (by simp <;> omega))))
    have ltp : w1.heap.size < w6.heap.size := lt_of_cell (Vp.out 0 _ rfl).1
    have lts : w5.heap.size < w6.heap.size := lt_of_cell (Vs.out 0 _ rfl).1
    have nep : ¬ w1.heap.size = w6.heap.size := by omega
    have nes : ¬ w5.heap.size = w6.heap.size := by omega
    have GA := Lib.hid (((GA.out).below (below_box (.cells (List.toArray [.int .i64 f, .int .i64 t, .int .i64 n, .slice (some ⟨d2, 0, none⟩) len len]) 25) (Nat.le_refl _))).below hb6)
    have G1 := Lib.hid (((G1.out).below (below_box (.cells (List.toArray [.int .i64 f, .int .i64 t, .int .i64 n, .slice (some ⟨d2, 0, none⟩) len len]) 25) (Nat.le_refl _))).below hb6)
    have G2 := Lib.hid (((G2.out).below (below_box (.cells (List.toArray [.int .i64 f, .int .i64 t, .int .i64 n, .slice (some ⟨d2, 0, none⟩) len len]) 25) (Nat.le_refl _))).below hb6)
    clear hb6
    have p0 := (Vp.out 0 _ rfl).1
    have pf0 := (Vp.out 0 _ rfl).2
    have p1 := (Vp.out 1 _ rfl).1
    have pf1 := (Vp.out 1 _ rfl).2
    have p2 := (Vp.out 2 _ rfl).1
    have pf2 := (Vp.out 2 _ rfl).2
    have p3 := (Vp.out 3 _ rfl).1
    have pf3 := (Vp.out 3 _ rfl).2
    have s0 := (Vs.out 0 _ rfl).1
    have sf0 := (Vs.out 0 _ rfl).2
    have s1 := (Vs.out 1 _ rfl).1
    have sf1 := (Vs.out 1 _ rfl).2
    have s2 := (Vs.out 2 _ rfl).1
    have sf2 := (Vs.out 2 _ rfl).2
    have s3 := (Vs.out 3 _ rfl).1
    have sf3 := (Vs.out 3 _ rfl).2
    have hS := Lib.hid (keptX (W := w6) (w := w6) ⟨s0, s1, s2, s3, p0, p1, p2, p3, GA.out, G2.out, Below.refl _ _⟩ (Below.drew (Below.refl _ _)))
    clear p0 pf0 p1 pf1 p2 pf2 p3 pf3 s0 sf0 s1 sf1 s2 sf2 s3 sf3
    go_wp2_with fail
    go_region_held_law (fun W => W.cell? ⟨w5.heap.size, 0, none⟩ = some (.int .i64 f) ∧ W.cell? ⟨w5.heap.size, 1, none⟩ = some (.int .i64 t) ∧ W.cell? ⟨w5.heap.size, 2, none⟩ = some (.int .i64 n) ∧ W.cell? ⟨w5.heap.size, 3, none⟩ = some (.slice (some ⟨d2, 0, none⟩) len len) ∧ W.cell? ⟨w1.heap.size, 0, none⟩ = some (.int .i64 f) ∧ W.cell? ⟨w1.heap.size, 1, none⟩ = some (.int .i64 t) ∧ W.cell? ⟨w1.heap.size, 2, none⟩ = some (.int .i64 n) ∧ W.cell? ⟨w1.heap.size, 3, none⟩ = some (.slice a len cap) ∧ Chs W a len cap cs ∧ Chs W (some ⟨d2, 0, none⟩) len len cs ∧ Below w6.heap.size w6 W)
      (first | with_reducible assumption | with_reducible exact hS.out | exact keptX (by assumption) (by assumption))
      (first | (go_simp; go_at_call 27; refine (toPacket_any f t n a len cap cs _ (by go_split_ands; assumption) HLE.out).mono ?_; rintro e w' ⟨⟨d, rfl, hd, hgg⟩, hbn⟩) | (go_simp; go_at_call 28; refine (eqPacket_same f t n _ _ len len len cs _ (by go_split_ands; assumption) (by assumption)).mono ?_; rintro e w' ⟨rfl, hbn⟩))
    all_goals
      rename_i hHeld
      have HW := Lib.hid hHeld.2.2.2.2.2.2.2.2.2.2
      clear hHeld
      go_wp2
      go_ret
      exact ⟨rfl, HB6.out.trans (HW.out.mono HB6.out.size)⟩

set_option maxHeartbeats 4000000 in
theorem walk_fnExactPacketAlone (f t n : Int) (a : Option Addr) (len cap : Nat) (cs : List (Int × Int × ByteArray)) (w1 : World) (hch : Chs w1 a len cap cs) (hz : ∀ c ∈ cs, c.2.2.size ≤ maxLen) :
    Calls Try.prog 12 #[.agg #[.int .i64 f, .int .i64 t, .int .i64 n, .slice a len cap]] w1 fun e w' => e = .returned (.bool true) ∧ Below w1.heap.size w1 w' := by
  have hb1 := Below.refl w1.heap.size w1
  have GA := Lib.hid hch
  have HZ := Lib.hid hz
  clear hch hz
  obtain ⟨z0, hz0⟩ : ∃ z0, aloneV f t n cs = z0 := ⟨_, rfl⟩
  have HV := Lib.hid hz0
  clear hz0
  go_enter Try.func12, Try.ntmps12
  go_wp2_with fail
  refine (szPacket_any f t n a len cap cs _ ((GA.out).below (below_box (.cells (List.toArray [.int .i64 f, .int .i64 t, .int .i64 n, .slice a len cap]) 38) (Nat.le_refl _))) HZ.out).mono ?_
  rintro e w2 ⟨⟨z, rfl, hzz⟩, hb2⟩
  have Vp := Lib.hid ((VarN.new_at (w := w1) (d := w1.heap.size) (by simp) [.int .i64 f, .int .i64 t, .int .i64 n, .slice a len cap] 38).below hb2 (by simp))
  have HB2 := Lib.hid (((hb1).alloc (Nat.le_trans hb1.size (by exact Nat.le_refl _)) (.cells (List.toArray [.int .i64 f, .int .i64 t, .int .i64 n, .slice a len cap]) 38)).trans (hb2.mono (Nat.le_trans hb1.size (by simp <;> omega))))
  have ltp : w1.heap.size < w2.heap.size := lt_of_cell (Vp.out 0 _ rfl).1
  have nep : ¬ w1.heap.size = w2.heap.size := by omega
  have GA := Lib.hid (((GA.out).below (below_box (.cells (List.toArray [.int .i64 f, .int .i64 t, .int .i64 n, .slice a len cap]) 38) (Nat.le_refl _))).below hb2)
  clear hb2
  rcases hzz with rfl | ⟨y0, y1⟩
  · go_wp2
    go_ret
    exact ⟨rfl, HB2.out⟩
  · have yn : ¬ z < 0 := by omega
    have HLE := Lib.hid y1
    clear y0 y1
    have p0 := (Vp.out 0 _ rfl).1
    have pf0 := (Vp.out 0 _ rfl).2
    have p1 := (Vp.out 1 _ rfl).1
    have pf1 := (Vp.out 1 _ rfl).2
    have p2 := (Vp.out 2 _ rfl).1
    have pf2 := (Vp.out 2 _ rfl).2
    have p3 := (Vp.out 3 _ rfl).1
    have pf3 := (Vp.out 3 _ rfl).2
    go_wp2_with fail
    refine (toPacket_any f t n a len cap cs _ GA.out HLE.out).mono ?_
    rintro e w3 ⟨⟨d1, rfl, hd1, hg1⟩, hb3⟩
    clear p0 pf0 p1 pf1 p2 pf2 p3 pf3
    have Vp := Lib.hid ((Vp.out).below hb3 ltp)
    have HB3 := Lib.hid (HB2.out.trans (hb3.mono HB2.out.size))
    have ltp : w1.heap.size < w3.heap.size := lt_of_cell (Vp.out 0 _ rfl).1
    have nep : ¬ w1.heap.size = w3.heap.size := by omega
    have GA := Lib.hid ((GA.out).below hb3)
    clear hb3
    have G1 := Lib.hid hg1
    clear hg1 hd1
    go_wp2_with fail
    refine (sPacketAlone_any f t n _ len len cs _ G1.out).mono ?_
    rw [HV.out]
    rintro e w4 ⟨rfl, hb4⟩
    have Vp := Lib.hid ((Vp.out).below hb4 ltp)
    have HB4 := Lib.hid (HB3.out.trans (hb4.mono HB3.out.size))
    have ltp : w1.heap.size < w4.heap.size := lt_of_cell (Vp.out 0 _ rfl).1
    have nep : ¬ w1.heap.size = w4.heap.size := by omega
    have GA := Lib.hid ((GA.out).below hb4)
    have G1 := Lib.hid ((G1.out).below hb4)
    clear hb4
    have p0 := (Vp.out 0 _ rfl).1
    have pf0 := (Vp.out 0 _ rfl).2
    have p1 := (Vp.out 1 _ rfl).1
    have pf1 := (Vp.out 1 _ rfl).2
    have p2 := (Vp.out 2 _ rfl).1
    have pf2 := (Vp.out 2 _ rfl).2
    have p3 := (Vp.out 3 _ rfl).1
    have pf3 := (Vp.out 3 _ rfl).2
    go_wp2_with fail
    refine (toPacket_any f t n a len cap cs _ GA.out HLE.out).mono ?_
    rintro e w5 ⟨⟨d2, rfl, hd2, hg2⟩, hb5⟩
    clear p0 pf0 p1 pf1 p2 pf2 p3 pf3
    have Vp := Lib.hid ((Vp.out).below hb5 ltp)
    have HB5 := Lib.hid (HB4.out.trans (hb5.mono HB4.out.size))
    have ltp : w1.heap.size < w5.heap.size := lt_of_cell (Vp.out 0 _ rfl).1
    have nep : ¬ w1.heap.size = w5.heap.size := by omega
    have GA := Lib.hid ((GA.out).below hb5)
    have G1 := Lib.hid ((G1.out).below hb5)
    clear hb5
    have G2 := Lib.hid hg2
    clear hg2 hd2
    go_wp2_with fail
    refine (packetAlone_any f t n _ len len cs _ ((G2.out).below (below_box (.cells (List.toArray [.int .i64 f, .int .i64 t, .int .i64 n, .slice (some ⟨d2, 0, none⟩) len len]) 25) (Nat.le_refl _)))).mono ?_
    rw [HV.out]
    rintro e w6 ⟨rfl, hb6⟩
    have Vp := Lib.hid (((Vp.out).alloc (.cells (List.toArray [.int .i64 f, .int .i64 t, .int .i64 n, .slice (some ⟨d2, 0, none⟩) len len]) 25) (by omega)).below hb6 (by simp; omega))
    have Vs := Lib.hid ((VarN.new_at (w := w5) (d := w5.heap.size) (by simp) [.int .i64 f, .int .i64 t, .int .i64 n, .slice (some ⟨d2, 0, none⟩) len len] 25).below hb6 (by simp))
    have HB6 := Lib.hid (((HB5.out).alloc (Nat.le_trans HB5.out.size (by exact Nat.le_refl _)) (.cells (List.toArray [.int .i64 f, .int .i64 t, .int .i64 n, .slice (some ⟨d2, 0, none⟩) len len]) 25)).trans (hb6.mono (Nat.le_trans HB5.out.size (by simp <;> omega))))
    have ltp : w1.heap.size < w6.heap.size := lt_of_cell (Vp.out 0 _ rfl).1
    have lts : w5.heap.size < w6.heap.size := lt_of_cell (Vs.out 0 _ rfl).1
    have nep : ¬ w1.heap.size = w6.heap.size := by omega
    have nes : ¬ w5.heap.size = w6.heap.size := by omega
    have GA := Lib.hid (((GA.out).below (below_box (.cells (List.toArray [.int .i64 f, .int .i64 t, .int .i64 n, .slice (some ⟨d2, 0, none⟩) len len]) 25) (Nat.le_refl _))).below hb6)
    have G1 := Lib.hid (((G1.out).below (below_box (.cells (List.toArray [.int .i64 f, .int .i64 t, .int .i64 n, .slice (some ⟨d2, 0, none⟩) len len]) 25) (Nat.le_refl _))).below hb6)
    have G2 := Lib.hid (((G2.out).below (below_box (.cells (List.toArray [.int .i64 f, .int .i64 t, .int .i64 n, .slice (some ⟨d2, 0, none⟩) len len]) 25) (Nat.le_refl _))).below hb6)
    clear hb6
    have p0 := (Vp.out 0 _ rfl).1
    have pf0 := (Vp.out 0 _ rfl).2
    have p1 := (Vp.out 1 _ rfl).1
    have pf1 := (Vp.out 1 _ rfl).2
    have p2 := (Vp.out 2 _ rfl).1
    have pf2 := (Vp.out 2 _ rfl).2
    have p3 := (Vp.out 3 _ rfl).1
    have pf3 := (Vp.out 3 _ rfl).2
    have s0 := (Vs.out 0 _ rfl).1
    have sf0 := (Vs.out 0 _ rfl).2
    have s1 := (Vs.out 1 _ rfl).1
    have sf1 := (Vs.out 1 _ rfl).2
    have s2 := (Vs.out 2 _ rfl).1
    have sf2 := (Vs.out 2 _ rfl).2
    have s3 := (Vs.out 3 _ rfl).1
    have sf3 := (Vs.out 3 _ rfl).2
    have hS := Lib.hid (keptX (W := w6) (w := w6) ⟨s0, s1, s2, s3, p0, p1, p2, p3, GA.out, G2.out, Below.refl _ _⟩ (Below.drew (Below.refl _ _)))
    clear p0 pf0 p1 pf1 p2 pf2 p3 pf3 s0 sf0 s1 sf1 s2 sf2 s3 sf3
    go_wp2_with fail
    go_region_held_law (fun W => W.cell? ⟨w5.heap.size, 0, none⟩ = some (.int .i64 f) ∧ W.cell? ⟨w5.heap.size, 1, none⟩ = some (.int .i64 t) ∧ W.cell? ⟨w5.heap.size, 2, none⟩ = some (.int .i64 n) ∧ W.cell? ⟨w5.heap.size, 3, none⟩ = some (.slice (some ⟨d2, 0, none⟩) len len) ∧ W.cell? ⟨w1.heap.size, 0, none⟩ = some (.int .i64 f) ∧ W.cell? ⟨w1.heap.size, 1, none⟩ = some (.int .i64 t) ∧ W.cell? ⟨w1.heap.size, 2, none⟩ = some (.int .i64 n) ∧ W.cell? ⟨w1.heap.size, 3, none⟩ = some (.slice a len cap) ∧ Chs W a len cap cs ∧ Chs W (some ⟨d2, 0, none⟩) len len cs ∧ Below w6.heap.size w6 W)
      (first | with_reducible assumption | with_reducible exact hS.out | exact keptX (by assumption) (by assumption))
      (first | (go_simp; go_at_call 27; refine (toPacket_any f t n a len cap cs _ (by go_split_ands; assumption) HLE.out).mono ?_; rintro e w' ⟨⟨d, rfl, hd, hgg⟩, hbn⟩) | (go_simp; go_at_call 28; refine (eqPacket_same f t n _ _ len len len cs _ (by go_split_ands; assumption) (by assumption)).mono ?_; rintro e w' ⟨rfl, hbn⟩))
    all_goals
      rename_i hHeld
      have HW := Lib.hid hHeld.2.2.2.2.2.2.2.2.2.2
      clear hHeld
      go_wp2
      go_ret
      exact ⟨rfl, HB6.out.trans (HW.out.mono HB6.out.size)⟩

set_option maxHeartbeats 4000000 in
theorem walk_fnExactPacketPut (f t n : Int) (a : Option Addr) (len cap : Nat) (cs : List (Int × Int × ByteArray)) (w1 : World) (hch : Chs w1 a len cap cs) (hz : ∀ c ∈ cs, c.2.2.size ≤ maxLen) :
    Calls Try.prog 11 #[.agg #[.int .i64 f, .int .i64 t, .int .i64 n, .slice a len cap]] w1 fun e w' => e = .returned (.bool true) ∧ Below w1.heap.size w1 w' := by
  have hb1 := Below.refl w1.heap.size w1
  have GA := Lib.hid hch
  have HZ := Lib.hid hz
  clear hch hz
  by_cases hc : PackOk f t n cs
  · obtain ⟨S, hS⟩ : ∃ S, packS f t n cs = S := ⟨_, rfl⟩
    have HV := Lib.hid hS
    have HC := Lib.hid hc
    clear hS hc
    go_enter Try.func11, Try.ntmps11
    go_wp2_with fail
    refine (szPacket_any f t n a len cap cs _ ((GA.out).below (below_box (.cells (List.toArray [.int .i64 f, .int .i64 t, .int .i64 n, .slice a len cap]) 38) (Nat.le_refl _))) HZ.out).mono ?_
    rintro e w2 ⟨⟨z, rfl, hzz⟩, hb2⟩
    have Vp := Lib.hid ((VarN.new_at (w := w1) (d := w1.heap.size) (by simp) [.int .i64 f, .int .i64 t, .int .i64 n, .slice a len cap] 38).below hb2 (by simp))
    have HB2 := Lib.hid (((hb1).alloc (Nat.le_trans hb1.size (by exact Nat.le_refl _)) (.cells (List.toArray [.int .i64 f, .int .i64 t, .int .i64 n, .slice a len cap]) 38)).trans (hb2.mono (Nat.le_trans hb1.size (by simp <;> omega))))
    have ltp : w1.heap.size < w2.heap.size := lt_of_cell (Vp.out 0 _ rfl).1
    have nep : ¬ w1.heap.size = w2.heap.size := by omega
    have GA := Lib.hid (((GA.out).below (below_box (.cells (List.toArray [.int .i64 f, .int .i64 t, .int .i64 n, .slice a len cap]) 38) (Nat.le_refl _))).below hb2)
    clear hb2
    rcases hzz with rfl | ⟨y0, y1⟩
    · go_wp2
      go_ret
      exact ⟨rfl, HB2.out⟩
    · have yn : ¬ z < 0 := by omega
      have HLE := Lib.hid y1
      clear y0 y1
      have p0 := (Vp.out 0 _ rfl).1
      have pf0 := (Vp.out 0 _ rfl).2
      have p1 := (Vp.out 1 _ rfl).1
      have pf1 := (Vp.out 1 _ rfl).2
      have p2 := (Vp.out 2 _ rfl).1
      have pf2 := (Vp.out 2 _ rfl).2
      have p3 := (Vp.out 3 _ rfl).1
      have pf3 := (Vp.out 3 _ rfl).2
      go_wp2_with fail
      refine (toPacket_any f t n a len cap cs _ GA.out HLE.out).mono ?_
      rintro e w3 ⟨⟨d1, rfl, hd1, hg1⟩, hb3⟩
      clear p0 pf0 p1 pf1 p2 pf2 p3 pf3
      have Vp := Lib.hid ((Vp.out).below hb3 ltp)
      have HB3 := Lib.hid (HB2.out.trans (hb3.mono HB2.out.size))
      have ltp : w1.heap.size < w3.heap.size := lt_of_cell (Vp.out 0 _ rfl).1
      have nep : ¬ w1.heap.size = w3.heap.size := by omega
      have GA := Lib.hid ((GA.out).below hb3)
      clear hb3
      have G1 := Lib.hid hg1
      clear hg1 hd1
      go_wp2_with fail
      refine (sPacketPut_yes f t n _ len len cs _ G1.out HC.out).mono ?_
      rw [HV.out]
      rintro e w4 ⟨rfl, hb4⟩
      have Vp := Lib.hid ((Vp.out).below hb4 ltp)
      have HB4 := Lib.hid (HB3.out.trans (hb4.mono HB3.out.size))
      have ltp : w1.heap.size < w4.heap.size := lt_of_cell (Vp.out 0 _ rfl).1
      have nep : ¬ w1.heap.size = w4.heap.size := by omega
      have GA := Lib.hid ((GA.out).below hb4)
      have G1 := Lib.hid ((G1.out).below hb4)
      clear hb4
      have p0 := (Vp.out 0 _ rfl).1
      have pf0 := (Vp.out 0 _ rfl).2
      have p1 := (Vp.out 1 _ rfl).1
      have pf1 := (Vp.out 1 _ rfl).2
      have p2 := (Vp.out 2 _ rfl).1
      have pf2 := (Vp.out 2 _ rfl).2
      have p3 := (Vp.out 3 _ rfl).1
      have pf3 := (Vp.out 3 _ rfl).2
      go_wp2_with fail
      refine (toPacket_any f t n a len cap cs _ GA.out HLE.out).mono ?_
      rintro e w5 ⟨⟨d2, rfl, hd2, hg2⟩, hb5⟩
      clear p0 pf0 p1 pf1 p2 pf2 p3 pf3
      have Vp := Lib.hid ((Vp.out).below hb5 ltp)
      have HB5 := Lib.hid (HB4.out.trans (hb5.mono HB4.out.size))
      have ltp : w1.heap.size < w5.heap.size := lt_of_cell (Vp.out 0 _ rfl).1
      have nep : ¬ w1.heap.size = w5.heap.size := by omega
      have GA := Lib.hid ((GA.out).below hb5)
      have G1 := Lib.hid ((G1.out).below hb5)
      clear hb5
      have G2 := Lib.hid hg2
      clear hg2 hd2
      go_wp2_with fail
      refine (packetPut_yes f t n _ len len cs _ ((G2.out).below (below_box (.cells (List.toArray [.int .i64 f, .int .i64 t, .int .i64 n, .slice (some ⟨d2, 0, none⟩) len len]) 25) (Nat.le_refl _))) HC.out).mono ?_
      rw [HV.out]
      rintro e w6 ⟨rfl, hb6⟩
      have Vp := Lib.hid (((Vp.out).alloc (.cells (List.toArray [.int .i64 f, .int .i64 t, .int .i64 n, .slice (some ⟨d2, 0, none⟩) len len]) 25) (by omega)).below hb6 (by simp; omega))
      have Vs := Lib.hid ((VarN.new_at (w := w5) (d := w5.heap.size) (by simp) [.int .i64 f, .int .i64 t, .int .i64 n, .slice (some ⟨d2, 0, none⟩) len len] 25).below hb6 (by simp))
      have HB6 := Lib.hid (((HB5.out).alloc (Nat.le_trans HB5.out.size (by exact Nat.le_refl _)) (.cells (List.toArray [.int .i64 f, .int .i64 t, .int .i64 n, .slice (some ⟨d2, 0, none⟩) len len]) 25)).trans (hb6.mono (Nat.le_trans HB5.out.size (by simp <;> omega))))
      have ltp : w1.heap.size < w6.heap.size := lt_of_cell (Vp.out 0 _ rfl).1
      have lts : w5.heap.size < w6.heap.size := lt_of_cell (Vs.out 0 _ rfl).1
      have nep : ¬ w1.heap.size = w6.heap.size := by omega
      have nes : ¬ w5.heap.size = w6.heap.size := by omega
      have GA := Lib.hid (((GA.out).below (below_box (.cells (List.toArray [.int .i64 f, .int .i64 t, .int .i64 n, .slice (some ⟨d2, 0, none⟩) len len]) 25) (Nat.le_refl _))).below hb6)
      have G1 := Lib.hid (((G1.out).below (below_box (.cells (List.toArray [.int .i64 f, .int .i64 t, .int .i64 n, .slice (some ⟨d2, 0, none⟩) len len]) 25) (Nat.le_refl _))).below hb6)
      have G2 := Lib.hid (((G2.out).below (below_box (.cells (List.toArray [.int .i64 f, .int .i64 t, .int .i64 n, .slice (some ⟨d2, 0, none⟩) len len]) 25) (Nat.le_refl _))).below hb6)
      clear hb6
      have p0 := (Vp.out 0 _ rfl).1
      have pf0 := (Vp.out 0 _ rfl).2
      have p1 := (Vp.out 1 _ rfl).1
      have pf1 := (Vp.out 1 _ rfl).2
      have p2 := (Vp.out 2 _ rfl).1
      have pf2 := (Vp.out 2 _ rfl).2
      have p3 := (Vp.out 3 _ rfl).1
      have pf3 := (Vp.out 3 _ rfl).2
      have s0 := (Vs.out 0 _ rfl).1
      have sf0 := (Vs.out 0 _ rfl).2
      have s1 := (Vs.out 1 _ rfl).1
      have sf1 := (Vs.out 1 _ rfl).2
      have s2 := (Vs.out 2 _ rfl).1
      have sf2 := (Vs.out 2 _ rfl).2
      have s3 := (Vs.out 3 _ rfl).1
      have sf3 := (Vs.out 3 _ rfl).2
      have hS := Lib.hid (keptX (W := w6) (w := w6) ⟨s0, s1, s2, s3, p0, p1, p2, p3, GA.out, G2.out, Below.refl _ _⟩ (Below.drew (Below.refl _ _)))
      clear p0 pf0 p1 pf1 p2 pf2 p3 pf3 s0 sf0 s1 sf1 s2 sf2 s3 sf3
      go_wp2_with fail
      go_region_held_law (fun W => W.cell? ⟨w5.heap.size, 0, none⟩ = some (.int .i64 f) ∧ W.cell? ⟨w5.heap.size, 1, none⟩ = some (.int .i64 t) ∧ W.cell? ⟨w5.heap.size, 2, none⟩ = some (.int .i64 n) ∧ W.cell? ⟨w5.heap.size, 3, none⟩ = some (.slice (some ⟨d2, 0, none⟩) len len) ∧ W.cell? ⟨w1.heap.size, 0, none⟩ = some (.int .i64 f) ∧ W.cell? ⟨w1.heap.size, 1, none⟩ = some (.int .i64 t) ∧ W.cell? ⟨w1.heap.size, 2, none⟩ = some (.int .i64 n) ∧ W.cell? ⟨w1.heap.size, 3, none⟩ = some (.slice a len cap) ∧ Chs W a len cap cs ∧ Chs W (some ⟨d2, 0, none⟩) len len cs ∧ Below w6.heap.size w6 W)
        (first | with_reducible assumption | with_reducible exact hS.out | exact keptX (by assumption) (by assumption))
        (first | (go_simp; go_at_call 27; refine (toPacket_any f t n a len cap cs _ (by go_split_ands; assumption) HLE.out).mono ?_; rintro e w' ⟨⟨d, rfl, hd, hgg⟩, hbn⟩) | (go_simp; go_at_call 28; refine (eqPacket_same f t n _ _ len len len cs _ (by go_split_ands; assumption) (by assumption)).mono ?_; rintro e w' ⟨rfl, hbn⟩))
      all_goals
        rename_i hHeld
        have HW := Lib.hid hHeld.2.2.2.2.2.2.2.2.2.2
        clear hHeld
        go_wp2
        go_ret
        exact ⟨rfl, HB6.out.trans (HW.out.mono HB6.out.size)⟩
  · have HC := Lib.hid hc
    clear hc
    go_enter Try.func11, Try.ntmps11
    go_wp2_with fail
    refine (szPacket_any f t n a len cap cs _ ((GA.out).below (below_box (.cells (List.toArray [.int .i64 f, .int .i64 t, .int .i64 n, .slice a len cap]) 38) (Nat.le_refl _))) HZ.out).mono ?_
    rintro e w2 ⟨⟨z, rfl, hzz⟩, hb2⟩
    have Vp := Lib.hid ((VarN.new_at (w := w1) (d := w1.heap.size) (by simp) [.int .i64 f, .int .i64 t, .int .i64 n, .slice a len cap] 38).below hb2 (by simp))
    have HB2 := Lib.hid (((hb1).alloc (Nat.le_trans hb1.size (by exact Nat.le_refl _)) (.cells (List.toArray [.int .i64 f, .int .i64 t, .int .i64 n, .slice a len cap]) 38)).trans (hb2.mono (Nat.le_trans hb1.size (by simp <;> omega))))
    have ltp : w1.heap.size < w2.heap.size := lt_of_cell (Vp.out 0 _ rfl).1
    have nep : ¬ w1.heap.size = w2.heap.size := by omega
    have GA := Lib.hid (((GA.out).below (below_box (.cells (List.toArray [.int .i64 f, .int .i64 t, .int .i64 n, .slice a len cap]) 38) (Nat.le_refl _))).below hb2)
    clear hb2
    rcases hzz with rfl | ⟨y0, y1⟩
    · go_wp2
      go_ret
      exact ⟨rfl, HB2.out⟩
    · have yn : ¬ z < 0 := by omega
      have HLE := Lib.hid y1
      clear y0 y1
      have p0 := (Vp.out 0 _ rfl).1
      have pf0 := (Vp.out 0 _ rfl).2
      have p1 := (Vp.out 1 _ rfl).1
      have pf1 := (Vp.out 1 _ rfl).2
      have p2 := (Vp.out 2 _ rfl).1
      have pf2 := (Vp.out 2 _ rfl).2
      have p3 := (Vp.out 3 _ rfl).1
      have pf3 := (Vp.out 3 _ rfl).2
      go_wp2_with fail
      refine (toPacket_any f t n a len cap cs _ GA.out HLE.out).mono ?_
      rintro e w3 ⟨⟨d1, rfl, hd1, hg1⟩, hb3⟩
      clear p0 pf0 p1 pf1 p2 pf2 p3 pf3
      have Vp := Lib.hid ((Vp.out).below hb3 ltp)
      have HB3 := Lib.hid (HB2.out.trans (hb3.mono HB2.out.size))
      have ltp : w1.heap.size < w3.heap.size := lt_of_cell (Vp.out 0 _ rfl).1
      have nep : ¬ w1.heap.size = w3.heap.size := by omega
      have GA := Lib.hid ((GA.out).below hb3)
      clear hb3
      have G1 := Lib.hid hg1
      clear hg1 hd1
      go_wp2_with fail
      refine (sPacketPut_no f t n _ len len cs _ G1.out HC.out).mono ?_
      rintro e w4 ⟨rfl, hb4⟩
      have Vp := Lib.hid ((Vp.out).below hb4 ltp)
      have HB4 := Lib.hid (HB3.out.trans (hb4.mono HB3.out.size))
      have ltp : w1.heap.size < w4.heap.size := lt_of_cell (Vp.out 0 _ rfl).1
      have nep : ¬ w1.heap.size = w4.heap.size := by omega
      have GA := Lib.hid ((GA.out).below hb4)
      have G1 := Lib.hid ((G1.out).below hb4)
      clear hb4
      have p0 := (Vp.out 0 _ rfl).1
      have pf0 := (Vp.out 0 _ rfl).2
      have p1 := (Vp.out 1 _ rfl).1
      have pf1 := (Vp.out 1 _ rfl).2
      have p2 := (Vp.out 2 _ rfl).1
      have pf2 := (Vp.out 2 _ rfl).2
      have p3 := (Vp.out 3 _ rfl).1
      have pf3 := (Vp.out 3 _ rfl).2
      go_wp2_with fail
      refine (toPacket_any f t n a len cap cs _ GA.out HLE.out).mono ?_
      rintro e w5 ⟨⟨d2, rfl, hd2, hg2⟩, hb5⟩
      clear p0 pf0 p1 pf1 p2 pf2 p3 pf3
      have Vp := Lib.hid ((Vp.out).below hb5 ltp)
      have HB5 := Lib.hid (HB4.out.trans (hb5.mono HB4.out.size))
      have ltp : w1.heap.size < w5.heap.size := lt_of_cell (Vp.out 0 _ rfl).1
      have nep : ¬ w1.heap.size = w5.heap.size := by omega
      have GA := Lib.hid ((GA.out).below hb5)
      have G1 := Lib.hid ((G1.out).below hb5)
      clear hb5
      have G2 := Lib.hid hg2
      clear hg2 hd2
      go_wp2_with fail
      refine (packetPut_no f t n _ len len cs _ ((G2.out).below (below_box (.cells (List.toArray [.int .i64 f, .int .i64 t, .int .i64 n, .slice (some ⟨d2, 0, none⟩) len len]) 25) (Nat.le_refl _))) HC.out).mono ?_
      rintro e w6 ⟨rfl, hb6⟩
      have Vp := Lib.hid (((Vp.out).alloc (.cells (List.toArray [.int .i64 f, .int .i64 t, .int .i64 n, .slice (some ⟨d2, 0, none⟩) len len]) 25) (by omega)).below hb6 (by simp; omega))
      have Vs := Lib.hid ((VarN.new_at (w := w5) (d := w5.heap.size) (by simp) [.int .i64 f, .int .i64 t, .int .i64 n, .slice (some ⟨d2, 0, none⟩) len len] 25).below hb6 (by simp))
      have HB6 := Lib.hid (((HB5.out).alloc (Nat.le_trans HB5.out.size (by exact Nat.le_refl _)) (.cells (List.toArray [.int .i64 f, .int .i64 t, .int .i64 n, .slice (some ⟨d2, 0, none⟩) len len]) 25)).trans (hb6.mono (Nat.le_trans HB5.out.size (by simp <;> omega))))
      have ltp : w1.heap.size < w6.heap.size := lt_of_cell (Vp.out 0 _ rfl).1
      have lts : w5.heap.size < w6.heap.size := lt_of_cell (Vs.out 0 _ rfl).1
      have nep : ¬ w1.heap.size = w6.heap.size := by omega
      have nes : ¬ w5.heap.size = w6.heap.size := by omega
      have GA := Lib.hid (((GA.out).below (below_box (.cells (List.toArray [.int .i64 f, .int .i64 t, .int .i64 n, .slice (some ⟨d2, 0, none⟩) len len]) 25) (Nat.le_refl _))).below hb6)
      have G1 := Lib.hid (((G1.out).below (below_box (.cells (List.toArray [.int .i64 f, .int .i64 t, .int .i64 n, .slice (some ⟨d2, 0, none⟩) len len]) 25) (Nat.le_refl _))).below hb6)
      have G2 := Lib.hid (((G2.out).below (below_box (.cells (List.toArray [.int .i64 f, .int .i64 t, .int .i64 n, .slice (some ⟨d2, 0, none⟩) len len]) 25) (Nat.le_refl _))).below hb6)
      clear hb6
      have p0 := (Vp.out 0 _ rfl).1
      have pf0 := (Vp.out 0 _ rfl).2
      have p1 := (Vp.out 1 _ rfl).1
      have pf1 := (Vp.out 1 _ rfl).2
      have p2 := (Vp.out 2 _ rfl).1
      have pf2 := (Vp.out 2 _ rfl).2
      have p3 := (Vp.out 3 _ rfl).1
      have pf3 := (Vp.out 3 _ rfl).2
      have s0 := (Vs.out 0 _ rfl).1
      have sf0 := (Vs.out 0 _ rfl).2
      have s1 := (Vs.out 1 _ rfl).1
      have sf1 := (Vs.out 1 _ rfl).2
      have s2 := (Vs.out 2 _ rfl).1
      have sf2 := (Vs.out 2 _ rfl).2
      have s3 := (Vs.out 3 _ rfl).1
      have sf3 := (Vs.out 3 _ rfl).2
      have hS := Lib.hid (keptX (W := w6) (w := w6) ⟨s0, s1, s2, s3, p0, p1, p2, p3, GA.out, G2.out, Below.refl _ _⟩ (Below.drew (Below.refl _ _)))
      clear p0 pf0 p1 pf1 p2 pf2 p3 pf3 s0 sf0 s1 sf1 s2 sf2 s3 sf3
      go_wp2_with fail
      go_region_held_law (fun W => W.cell? ⟨w5.heap.size, 0, none⟩ = some (.int .i64 f) ∧ W.cell? ⟨w5.heap.size, 1, none⟩ = some (.int .i64 t) ∧ W.cell? ⟨w5.heap.size, 2, none⟩ = some (.int .i64 n) ∧ W.cell? ⟨w5.heap.size, 3, none⟩ = some (.slice (some ⟨d2, 0, none⟩) len len) ∧ W.cell? ⟨w1.heap.size, 0, none⟩ = some (.int .i64 f) ∧ W.cell? ⟨w1.heap.size, 1, none⟩ = some (.int .i64 t) ∧ W.cell? ⟨w1.heap.size, 2, none⟩ = some (.int .i64 n) ∧ W.cell? ⟨w1.heap.size, 3, none⟩ = some (.slice a len cap) ∧ Chs W a len cap cs ∧ Chs W (some ⟨d2, 0, none⟩) len len cs ∧ Below w6.heap.size w6 W)
        (first | with_reducible assumption | with_reducible exact hS.out | exact keptX (by assumption) (by assumption))
        (first | (go_simp; go_at_call 27; refine (toPacket_any f t n a len cap cs _ (by go_split_ands; assumption) HLE.out).mono ?_; rintro e w' ⟨⟨d, rfl, hd, hgg⟩, hbn⟩) | (go_simp; go_at_call 28; refine (eqPacket_same f t n _ _ len len len cs _ (by go_split_ands; assumption) (by assumption)).mono ?_; rintro e w' ⟨rfl, hbn⟩))
      all_goals
        rename_i hHeld
        have HW := Lib.hid hHeld.2.2.2.2.2.2.2.2.2.2
        clear hHeld
        go_wp2
        go_ret
        exact ⟨rfl, HB6.out.trans (HW.out.mono HB6.out.size)⟩

end Go.Proofs.Ytcpdpamoddmpaaa
