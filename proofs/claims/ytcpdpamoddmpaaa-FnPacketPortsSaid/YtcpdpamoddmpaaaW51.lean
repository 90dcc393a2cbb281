/- The walk of the law on a packet's ports. -/
import Derived.Test.YtcpdpamoddmpaaaK50
import Derived.Test.YtcpdpamoddmpaaaK47
import Derived.Test.YtcpdpamoddmpaaaK20v
import Derived.Handy
namespace Go.Proofs.Ytcpdpamoddmpaaa
open Go.RowKit Go.PlainAid

theorem past_b {w : World} {b i : Nat} {v : Value} (h : w.cell? ⟨b, i, none⟩ = some v) (o : Obj) : (w.alloc o).cell? ⟨b, i, none⟩ = some v := (World.cell?_alloc_lt _ _ _ (World.block_lt_of_cell? w _ h)).trans h

set_option maxHeartbeats 4000000 in
theorem walk_fnPacketPorts (a0 : Option Addr) (len0 cap0 : Nat) (z0 : List Int) (w : World) (w0 : IsRow .u8 w a0 len0 cap0 z0) :
    Calls Try.prog 7 #[.slice a0 len0 cap0] w fun e w' => e = .returned (.bool true) ∧ Below w.heap.size w w' := by
  have H := Lib.hid w0
  clear w0
  by_cases hl : (1048576 : Int) < len0
  · go_enter Try.func7, Try.ntmps7
    go_wp2
    go_ret
    exact ⟨rfl, Below.refl _ _⟩
  · go_enter Try.func7, Try.ntmps7
    go_wp2_with fail
    refine (drawPacketValid_any a0 len0 cap0 z0 _ H.out).mono ?_
    rintro e w1 ⟨f, t, n, g, k, cap, cs, rfl, ⟨nf0, nf1⟩, ⟨nt0, nt1⟩, ⟨nn0, nn1⟩, nk, ng, hch, hb1⟩
    have hcl := hch.length
    have GA := Lib.hid hch
    clear hch
    by_cases hc : packV f t n cs = true
    · have HC := Lib.hid hc
      clear hc
      go_wp2_with fail
      refine (packetValid_any f t n _ k cap cs _ ((GA.out).below (below_box (.cells (List.toArray [.int .i64 f, .int .i64 t, .int .i64 n, .slice (some ⟨g, 0, none⟩) k cap]) 25) (Nat.le_refl _)))).mono ?_
      rw [HC.out]
      rintro e w2 ⟨rfl, hb2⟩
      have Vv := Lib.hid ((VarN.new_at (w := w1) (d := w1.heap.size) (by simp) [.int .i64 f, .int .i64 t, .int .i64 n, .slice (some ⟨g, 0, none⟩) k cap] 25).below hb2 (by simp))
      have HB2 := Lib.hid (((hb1).alloc (Nat.le_trans hb1.size (by exact Nat.le_refl _)) (.cells (List.toArray [.int .i64 f, .int .i64 t, .int .i64 n, .slice (some ⟨g, 0, none⟩) k cap]) 25)).trans (hb2.mono (Nat.le_trans hb1.size (by simp <;> omega))))
      have ltv : w1.heap.size < w2.heap.size := lt_of_cell (Vv.out 0 _ rfl).1
      have nev : ¬ w1.heap.size = w2.heap.size := by omega
      have GA := Lib.hid (((GA.out).below (below_box (.cells (List.toArray [.int .i64 f, .int .i64 t, .int .i64 n, .slice (some ⟨g, 0, none⟩) k cap]) 25) (Nat.le_refl _))).below hb2)
      clear hb2
      have v0 := (Vv.out 0 _ rfl).1
      have vf0 := (Vv.out 0 _ rfl).2
      have v1 := (Vv.out 1 _ rfl).1
      have vf1 := (Vv.out 1 _ rfl).2
      have v2 := (Vv.out 2 _ rfl).1
      have vf2 := (Vv.out 2 _ rfl).2
      have v3 := (Vv.out 3 _ rfl).1
      have vf3 := (Vv.out 3 _ rfl).2
      go_wp2_with fail
      refine (sPacketValid_any f t n _ k cap cs _ GA.out).mono ?_
      rw [HC.out]
      rintro e w3 ⟨rfl, hb3⟩
      clear v0 vf0 v1 vf1 v2 vf2 v3 vf3
      have Vv := Lib.hid ((Vv.out).below hb3 ltv)
      have HB3 := Lib.hid (HB2.out.trans (hb3.mono HB2.out.size))
      have ltv : w1.heap.size < w3.heap.size := lt_of_cell (Vv.out 0 _ rfl).1
      have nev : ¬ w1.heap.size = w3.heap.size := by omega
      have GA := Lib.hid ((GA.out).below hb3)
      clear hb3
      have Hpa := Lib.hid (packV_no (cs := cs) (show ¬ PackOk 0 t n cs from fun h => by have := h.1.1.1; omega))
      have Hpb := Lib.hid (packV_no (cs := cs) (show ¬ PackOk f 0 n cs from fun h => by have := h.1.2.1.1; omega))
      have Hpc := Lib.hid (packV_no (cs := cs) (show ¬ PackOk f f n cs from fun h => h.1.2.2 rfl))
      have Hpd := Lib.hid (packV_no (cs := cs) (show ¬ PackOk f t (-1) cs from fun h => by have := h.2.1.1; omega))
      have Hpe := Lib.hid (packV_no (cs := cs) (show ¬ PackOk f t 4294967296 cs from fun h => by have := h.2.1.2; omega))
      have v0 := (Vv.out 0 _ rfl).1
      have vf0 := (Vv.out 0 _ rfl).2
      have v1 := (Vv.out 1 _ rfl).1
      have vf1 := (Vv.out 1 _ rfl).2
      have v2 := (Vv.out 2 _ rfl).1
      have vf2 := (Vv.out 2 _ rfl).2
      have v3 := (Vv.out 3 _ rfl).1
      have vf3 := (Vv.out 3 _ rfl).2
      have dd0 := fun o p q => past_b (past_b (past_b v0 o) p) q
      have dd1 := fun o p q => past_b (past_b (past_b v1 o) p) q
      have dd2 := fun o p q => past_b (past_b (past_b v2 o) p) q
      have dd3 := fun o p q => past_b (past_b (past_b v3 o) p) q
      have de0 := fun o p q r => past_b (past_b (past_b (past_b v0 o) p) q) r
      have de1 := fun o p q r => past_b (past_b (past_b (past_b v1 o) p) q) r
      have de2 := fun o p q r => past_b (past_b (past_b (past_b v2 o) p) q) r
      have de3 := fun o p q r => past_b (past_b (past_b (past_b v3 o) p) q) r
      have nev_1 : ¬ w1.heap.size = w3.heap.size + 1 := by omega
      have nev_2 : ¬ w1.heap.size = w3.heap.size + 1 + 1 := by omega
      have nev_3 : ¬ w1.heap.size = w3.heap.size + 1 + 1 + 1 := by omega
      have nev_4 : ¬ w1.heap.size = w3.heap.size + 1 + 1 + 1 + 1 := by omega
      go_wp2_with fail
      refine (packetValid_any 0 t n _ k cap cs _ ((((((GA.out).below (below_box (.cells (List.toArray [.int .i64 0, .int .i64 t, .int .i64 n, .slice (some ⟨g, 0, none⟩) k cap]) 25) (Nat.le_refl _))).below (below_box (.cells (List.toArray [.int .i64 f, .int .i64 0, .int .i64 n, .slice (some ⟨g, 0, none⟩) k cap]) 25) (Nat.le_refl _))).below (below_box (.cells (List.toArray [.int .i64 f, .int .i64 f, .int .i64 n, .slice (some ⟨g, 0, none⟩) k cap]) 25) (Nat.le_refl _))).below (below_box (.cells (List.toArray [.int .i64 f, .int .i64 t, .int .i64 (-1), .slice (some ⟨g, 0, none⟩) k cap]) 25) (Nat.le_refl _))).below (below_box (.cells (List.toArray [.int .i64 f, .int .i64 t, .int .i64 4294967296, .slice (some ⟨g, 0, none⟩) k cap]) 25) (Nat.le_refl _)))).mono ?_
      rw [Hpa.out]
      rintro e w4 ⟨rfl, hb4⟩
      clear v0 vf0 v1 vf1 v2 vf2 v3 vf3
      have Vv := Lib.hid (((((((Vv.out).alloc (.cells (List.toArray [.int .i64 0, .int .i64 t, .int .i64 n, .slice (some ⟨g, 0, none⟩) k cap]) 25) (by omega)).alloc (.cells (List.toArray [.int .i64 f, .int .i64 0, .int .i64 n, .slice (some ⟨g, 0, none⟩) k cap]) 25) (by simp; omega)).alloc (.cells (List.toArray [.int .i64 f, .int .i64 f, .int .i64 n, .slice (some ⟨g, 0, none⟩) k cap]) 25) (by simp; omega)).alloc (.cells (List.toArray [.int .i64 f, .int .i64 t, .int .i64 (-1), .slice (some ⟨g, 0, none⟩) k cap]) 25) (by simp; omega)).alloc (.cells (List.toArray [.int .i64 f, .int .i64 t, .int .i64 4294967296, .slice (some ⟨g, 0, none⟩) k cap]) 25) (by simp; omega)).below hb4 (by simp; omega))
      have Vpa := Lib.hid ((((((VarN.new_at (w := w3) (d := w3.heap.size) (by simp) [.int .i64 0, .int .i64 t, .int .i64 n, .slice (some ⟨g, 0, none⟩) k cap] 25).alloc (.cells (List.toArray [.int .i64 f, .int .i64 0, .int .i64 n, .slice (some ⟨g, 0, none⟩) k cap]) 25) (by first | omega | (simp <;> omega))).alloc (.cells (List.toArray [.int .i64 f, .int .i64 f, .int .i64 n, .slice (some ⟨g, 0, none⟩) k cap]) 25) (by first | omega | (simp <;> omega))).alloc (.cells (List.toArray [.int .i64 f, .int .i64 t, .int .i64 (-1), .slice (some ⟨g, 0, none⟩) k cap]) 25) (by first | omega | (simp <;> omega))).alloc (.cells (List.toArray [.int .i64 f, .int .i64 t, .int .i64 4294967296, .slice (some ⟨g, 0, none⟩) k cap]) 25) (by first | omega | (simp <;> omega))).below hb4 (by simp <;> omega))
      have Vpb := Lib.hid (((((VarN.new_at (w := (w3.alloc (.cells (List.toArray [.int .i64 0, .int .i64 t, .int .i64 n, .slice (some ⟨g, 0, none⟩) k cap]) 25))) (d := w3.heap.size + 1) (by simp) [.int .i64 f, .int .i64 0, .int .i64 n, .slice (some ⟨g, 0, none⟩) k cap] 25).alloc (.cells (List.toArray [.int .i64 f, .int .i64 f, .int .i64 n, .slice (some ⟨g, 0, none⟩) k cap]) 25) (by first | omega | (simp <;> omega))).alloc (.cells (List.toArray [.int .i64 f, .int .i64 t, .int .i64 (-1), .slice (some ⟨g, 0, none⟩) k cap]) 25) (by first | omega | (simp <;> omega))).alloc (.cells (List.toArray [.int .i64 f, .int .i64 t, .int .i64 4294967296, .slice (some ⟨g, 0, none⟩) k cap]) 25) (by first | omega | (simp <;> omega))).below hb4 (by simp <;> omega))
      have Vpc := Lib.hid ((((VarN.new_at (w := ((w3.alloc (.cells (List.toArray [.int .i64 0, .int .i64 t, .int .i64 n, .slice (some ⟨g, 0, none⟩) k cap]) 25)).alloc (.cells (List.toArray [.int .i64 f, .int .i64 0, .int .i64 n, .slice (some ⟨g, 0, none⟩) k cap]) 25))) (d := w3.heap.size + 1 + 1) (by simp) [.int .i64 f, .int .i64 f, .int .i64 n, .slice (some ⟨g, 0, none⟩) k cap] 25).alloc (.cells (List.toArray [.int .i64 f, .int .i64 t, .int .i64 (-1), .slice (some ⟨g, 0, none⟩) k cap]) 25) (by first | omega | (simp <;> omega))).alloc (.cells (List.toArray [.int .i64 f, .int .i64 t, .int .i64 4294967296, .slice (some ⟨g, 0, none⟩) k cap]) 25) (by first | omega | (simp <;> omega))).below hb4 (by simp <;> omega))
      have Vpd := Lib.hid (((VarN.new_at (w := (((w3.alloc (.cells (List.toArray [.int .i64 0, .int .i64 t, .int .i64 n, .slice (some ⟨g, 0, none⟩) k cap]) 25)).alloc (.cells (List.toArray [.int .i64 f, .int .i64 0, .int .i64 n, .slice (some ⟨g, 0, none⟩) k cap]) 25)).alloc (.cells (List.toArray [.int .i64 f, .int .i64 f, .int .i64 n, .slice (some ⟨g, 0, none⟩) k cap]) 25))) (d := w3.heap.size + 1 + 1 + 1) (by simp) [.int .i64 f, .int .i64 t, .int .i64 (-1), .slice (some ⟨g, 0, none⟩) k cap] 25).alloc (.cells (List.toArray [.int .i64 f, .int .i64 t, .int .i64 4294967296, .slice (some ⟨g, 0, none⟩) k cap]) 25) (by first | omega | (simp <;> omega))).below hb4 (by simp <;> omega))
      have Vpe := Lib.hid ((VarN.new_at (w := ((((w3.alloc (.cells (List.toArray [.int .i64 0, .int .i64 t, .int .i64 n, .slice (some ⟨g, 0, none⟩) k cap]) 25)).alloc (.cells (List.toArray [.int .i64 f, .int .i64 0, .int .i64 n, .slice (some ⟨g, 0, none⟩) k cap]) 25)).alloc (.cells (List.toArray [.int .i64 f, .int .i64 f, .int .i64 n, .slice (some ⟨g, 0, none⟩) k cap]) 25)).alloc (.cells (List.toArray [.int .i64 f, .int .i64 t, .int .i64 (-1), .slice (some ⟨g, 0, none⟩) k cap]) 25))) (d := w3.heap.size + 1 + 1 + 1 + 1) (by simp) [.int .i64 f, .int .i64 t, .int .i64 4294967296, .slice (some ⟨g, 0, none⟩) k cap] 25).below hb4 (by simp))
      have HB4 := Lib.hid (((((((HB3.out).alloc (Nat.le_trans HB3.out.size (by exact Nat.le_refl _)) (.cells (List.toArray [.int .i64 0, .int .i64 t, .int .i64 n, .slice (some ⟨g, 0, none⟩) k cap]) 25)).alloc (Nat.le_trans HB3.out.size (by simp <;> omega)) (.cells (List.toArray [.int .i64 f, .int .i64 0, .int .i64 n, .slice (some ⟨g, 0, none⟩) k cap]) 25)).alloc (Nat.le_trans HB3.out.size (by simp <;> omega)) (.cells (List.toArray [.int .i64 f, .int .i64 f, .int .i64 n, .slice (some ⟨g, 0, none⟩) k cap]) 25)).alloc (Nat.le_trans HB3.out.size (by simp <;> omega)) (.cells (List.toArray [.int .i64 f, .int .i64 t, .int .i64 (-1), .slice (some ⟨g, 0, none⟩) k cap]) 25)).alloc (Nat.le_trans HB3.out.size (by simp <;> omega)) (.cells (List.toArray [.int .i64 f, .int .i64 t, .int .i64 4294967296, .slice (some ⟨g, 0, none⟩) k cap]) 25)).trans (hb4.mono (Nat.le_trans HB3.out.size (by simp <;> omega))))
      have ltv : w1.heap.size < w4.heap.size := lt_of_cell (Vv.out 0 _ rfl).1
      have ltpa : w3.heap.size < w4.heap.size := lt_of_cell (Vpa.out 0 _ rfl).1
      have ltpb : w3.heap.size + 1 < w4.heap.size := lt_of_cell (Vpb.out 0 _ rfl).1
      have ltpc : w3.heap.size + 1 + 1 < w4.heap.size := lt_of_cell (Vpc.out 0 _ rfl).1
      have ltpd : w3.heap.size + 1 + 1 + 1 < w4.heap.size := lt_of_cell (Vpd.out 0 _ rfl).1
      have ltpe : w3.heap.size + 1 + 1 + 1 + 1 < w4.heap.size := lt_of_cell (Vpe.out 0 _ rfl).1
      have nev : ¬ w1.heap.size = w4.heap.size := by omega
      have nepa : ¬ w3.heap.size = w4.heap.size := by omega
      have nepb : ¬ w3.heap.size + 1 = w4.heap.size := by omega
      have nepc : ¬ w3.heap.size + 1 + 1 = w4.heap.size := by omega
      have nepd : ¬ w3.heap.size + 1 + 1 + 1 = w4.heap.size := by omega
      have nepe : ¬ w3.heap.size + 1 + 1 + 1 + 1 = w4.heap.size := by omega
      have GA := Lib.hid (((((((GA.out).below (below_box (.cells (List.toArray [.int .i64 0, .int .i64 t, .int .i64 n, .slice (some ⟨g, 0, none⟩) k cap]) 25) (Nat.le_refl _))).below (below_box (.cells (List.toArray [.int .i64 f, .int .i64 0, .int .i64 n, .slice (some ⟨g, 0, none⟩) k cap]) 25) (Nat.le_refl _))).below (below_box (.cells (List.toArray [.int .i64 f, .int .i64 f, .int .i64 n, .slice (some ⟨g, 0, none⟩) k cap]) 25) (Nat.le_refl _))).below (below_box (.cells (List.toArray [.int .i64 f, .int .i64 t, .int .i64 (-1), .slice (some ⟨g, 0, none⟩) k cap]) 25) (Nat.le_refl _))).below (below_box (.cells (List.toArray [.int .i64 f, .int .i64 t, .int .i64 4294967296, .slice (some ⟨g, 0, none⟩) k cap]) 25) (Nat.le_refl _))).below hb4)
      clear hb4
      clear dd0 dd1 dd2 dd3 de0 de1 de2 de3
      have pb0 := (Vpb.out 0 _ rfl).1
      have pbf0 := (Vpb.out 0 _ rfl).2
      have pb1 := (Vpb.out 1 _ rfl).1
      have pbf1 := (Vpb.out 1 _ rfl).2
      have pb2 := (Vpb.out 2 _ rfl).1
      have pbf2 := (Vpb.out 2 _ rfl).2
      have pb3 := (Vpb.out 3 _ rfl).1
      have pbf3 := (Vpb.out 3 _ rfl).2
      go_wp2_with fail
      refine (packetValid_any f 0 n _ k cap cs _ GA.out).mono ?_
      rw [Hpb.out]
      rintro e w5 ⟨rfl, hb5⟩
      clear pb0 pbf0 pb1 pbf1 pb2 pbf2 pb3 pbf3
      have Vv := Lib.hid ((Vv.out).below hb5 ltv)
      have Vpa := Lib.hid ((Vpa.out).below hb5 ltpa)
      have Vpb := Lib.hid ((Vpb.out).below hb5 ltpb)
      have Vpc := Lib.hid ((Vpc.out).below hb5 ltpc)
      have Vpd := Lib.hid ((Vpd.out).below hb5 ltpd)
      have Vpe := Lib.hid ((Vpe.out).below hb5 ltpe)
      have HB5 := Lib.hid (HB4.out.trans (hb5.mono HB4.out.size))
      have ltv : w1.heap.size < w5.heap.size := lt_of_cell (Vv.out 0 _ rfl).1
      have ltpa : w3.heap.size < w5.heap.size := lt_of_cell (Vpa.out 0 _ rfl).1
      have ltpb : w3.heap.size + 1 < w5.heap.size := lt_of_cell (Vpb.out 0 _ rfl).1
      have ltpc : w3.heap.size + 1 + 1 < w5.heap.size := lt_of_cell (Vpc.out 0 _ rfl).1
      have ltpd : w3.heap.size + 1 + 1 + 1 < w5.heap.size := lt_of_cell (Vpd.out 0 _ rfl).1
      have ltpe : w3.heap.size + 1 + 1 + 1 + 1 < w5.heap.size := lt_of_cell (Vpe.out 0 _ rfl).1
      have nev : ¬ w1.heap.size = w5.heap.size := by omega
      have nepa : ¬ w3.heap.size = w5.heap.size := by omega
      have nepb : ¬ w3.heap.size + 1 = w5.heap.size := by omega
      have nepc : ¬ w3.heap.size + 1 + 1 = w5.heap.size := by omega
      have nepd : ¬ w3.heap.size + 1 + 1 + 1 = w5.heap.size := by omega
      have nepe : ¬ w3.heap.size + 1 + 1 + 1 + 1 = w5.heap.size := by omega
      have GA := Lib.hid ((GA.out).below hb5)
      clear hb5
      have pc0 := (Vpc.out 0 _ rfl).1
      have pcf0 := (Vpc.out 0 _ rfl).2
      have pc1 := (Vpc.out 1 _ rfl).1
      have pcf1 := (Vpc.out 1 _ rfl).2
      have pc2 := (Vpc.out 2 _ rfl).1
      have pcf2 := (Vpc.out 2 _ rfl).2
      have pc3 := (Vpc.out 3 _ rfl).1
      have pcf3 := (Vpc.out 3 _ rfl).2
      go_wp2_with fail
      refine (packetValid_any f f n _ k cap cs _ GA.out).mono ?_
      rw [Hpc.out]
      rintro e w6 ⟨rfl, hb6⟩
      clear pc0 pcf0 pc1 pcf1 pc2 pcf2 pc3 pcf3
      have Vv := Lib.hid ((Vv.out).below hb6 ltv)
      have Vpa := Lib.hid ((Vpa.out).below hb6 ltpa)
      have Vpb := Lib.hid ((Vpb.out).below hb6 ltpb)
      have Vpc := Lib.hid ((Vpc.out).below hb6 ltpc)
      have Vpd := Lib.hid ((Vpd.out).below hb6 ltpd)
      have Vpe := Lib.hid ((Vpe.out).below hb6 ltpe)
      have HB6 := Lib.hid (HB5.out.trans (hb6.mono HB5.out.size))
      have ltv : w1.heap.size < w6.heap.size := lt_of_cell (Vv.out 0 _ rfl).1
      have ltpa : w3.heap.size < w6.heap.size := lt_of_cell (Vpa.out 0 _ rfl).1
      have ltpb : w3.heap.size + 1 < w6.heap.size := lt_of_cell (Vpb.out 0 _ rfl).1
      have ltpc : w3.heap.size + 1 + 1 < w6.heap.size := lt_of_cell (Vpc.out 0 _ rfl).1
      have ltpd : w3.heap.size + 1 + 1 + 1 < w6.heap.size := lt_of_cell (Vpd.out 0 _ rfl).1
      have ltpe : w3.heap.size + 1 + 1 + 1 + 1 < w6.heap.size := lt_of_cell (Vpe.out 0 _ rfl).1
      have nev : ¬ w1.heap.size = w6.heap.size := by omega
      have nepa : ¬ w3.heap.size = w6.heap.size := by omega
      have nepb : ¬ w3.heap.size + 1 = w6.heap.size := by omega
      have nepc : ¬ w3.heap.size + 1 + 1 = w6.heap.size := by omega
      have nepd : ¬ w3.heap.size + 1 + 1 + 1 = w6.heap.size := by omega
      have nepe : ¬ w3.heap.size + 1 + 1 + 1 + 1 = w6.heap.size := by omega
      have GA := Lib.hid ((GA.out).below hb6)
      clear hb6
      have pd0 := (Vpd.out 0 _ rfl).1
      have pdf0 := (Vpd.out 0 _ rfl).2
      have pd1 := (Vpd.out 1 _ rfl).1
      have pdf1 := (Vpd.out 1 _ rfl).2
      have pd2 := (Vpd.out 2 _ rfl).1
      have pdf2 := (Vpd.out 2 _ rfl).2
      have pd3 := (Vpd.out 3 _ rfl).1
      have pdf3 := (Vpd.out 3 _ rfl).2
      go_wp2_with fail
      refine (packetValid_any f t (-1) _ k cap cs _ GA.out).mono ?_
      rw [Hpd.out]
      rintro e w7 ⟨rfl, hb7⟩
      clear pd0 pdf0 pd1 pdf1 pd2 pdf2 pd3 pdf3
      have Vv := Lib.hid ((Vv.out).below hb7 ltv)
      have Vpa := Lib.hid ((Vpa.out).below hb7 ltpa)
      have Vpb := Lib.hid ((Vpb.out).below hb7 ltpb)
      have Vpc := Lib.hid ((Vpc.out).below hb7 ltpc)
      have Vpd := Lib.hid ((Vpd.out).below hb7 ltpd)
      have Vpe := Lib.hid ((Vpe.out).below hb7 ltpe)
      have HB7 := Lib.hid (HB6.out.trans (hb7.mono HB6.out.size))
      have ltv : w1.heap.size < w7.heap.size := lt_of_cell (Vv.out 0 _ rfl).1
      have ltpa : w3.heap.size < w7.heap.size := lt_of_cell (Vpa.out 0 _ rfl).1
      have ltpb : w3.heap.size + 1 < w7.heap.size := lt_of_cell (Vpb.out 0 _ rfl).1
      have ltpc : w3.heap.size + 1 + 1 < w7.heap.size := lt_of_cell (Vpc.out 0 _ rfl).1
      have ltpd : w3.heap.size + 1 + 1 + 1 < w7.heap.size := lt_of_cell (Vpd.out 0 _ rfl).1
      have ltpe : w3.heap.size + 1 + 1 + 1 + 1 < w7.heap.size := lt_of_cell (Vpe.out 0 _ rfl).1
      have nev : ¬ w1.heap.size = w7.heap.size := by omega
      have nepa : ¬ w3.heap.size = w7.heap.size := by omega
      have nepb : ¬ w3.heap.size + 1 = w7.heap.size := by omega
      have nepc : ¬ w3.heap.size + 1 + 1 = w7.heap.size := by omega
      have nepd : ¬ w3.heap.size + 1 + 1 + 1 = w7.heap.size := by omega
      have nepe : ¬ w3.heap.size + 1 + 1 + 1 + 1 = w7.heap.size := by omega
      have GA := Lib.hid ((GA.out).below hb7)
      clear hb7
      have pe0 := (Vpe.out 0 _ rfl).1
      have pef0 := (Vpe.out 0 _ rfl).2
      have pe1 := (Vpe.out 1 _ rfl).1
      have pef1 := (Vpe.out 1 _ rfl).2
      have pe2 := (Vpe.out 2 _ rfl).1
      have pef2 := (Vpe.out 2 _ rfl).2
      have pe3 := (Vpe.out 3 _ rfl).1
      have pef3 := (Vpe.out 3 _ rfl).2
      go_wp2_with fail
      refine (packetValid_any f t 4294967296 _ k cap cs _ GA.out).mono ?_
      rw [Hpe.out]
      rintro e w8 ⟨rfl, hb8⟩
      clear pe0 pef0 pe1 pef1 pe2 pef2 pe3 pef3
      have Vv := Lib.hid ((Vv.out).below hb8 ltv)
      have Vpa := Lib.hid ((Vpa.out).below hb8 ltpa)
      have Vpb := Lib.hid ((Vpb.out).below hb8 ltpb)
      have Vpc := Lib.hid ((Vpc.out).below hb8 ltpc)
      have Vpd := Lib.hid ((Vpd.out).below hb8 ltpd)
      have Vpe := Lib.hid ((Vpe.out).below hb8 ltpe)
      have HB8 := Lib.hid (HB7.out.trans (hb8.mono HB7.out.size))
      have ltv : w1.heap.size < w8.heap.size := lt_of_cell (Vv.out 0 _ rfl).1
      have ltpa : w3.heap.size < w8.heap.size := lt_of_cell (Vpa.out 0 _ rfl).1
      have ltpb : w3.heap.size + 1 < w8.heap.size := lt_of_cell (Vpb.out 0 _ rfl).1
      have ltpc : w3.heap.size + 1 + 1 < w8.heap.size := lt_of_cell (Vpc.out 0 _ rfl).1
      have ltpd : w3.heap.size + 1 + 1 + 1 < w8.heap.size := lt_of_cell (Vpd.out 0 _ rfl).1
      have ltpe : w3.heap.size + 1 + 1 + 1 + 1 < w8.heap.size := lt_of_cell (Vpe.out 0 _ rfl).1
      have nev : ¬ w1.heap.size = w8.heap.size := by omega
      have nepa : ¬ w3.heap.size = w8.heap.size := by omega
      have nepb : ¬ w3.heap.size + 1 = w8.heap.size := by omega
      have nepc : ¬ w3.heap.size + 1 + 1 = w8.heap.size := by omega
      have nepd : ¬ w3.heap.size + 1 + 1 + 1 = w8.heap.size := by omega
      have nepe : ¬ w3.heap.size + 1 + 1 + 1 + 1 = w8.heap.size := by omega
      have GA := Lib.hid ((GA.out).below hb8)
      clear hb8
      go_wp2
      go_ret
      exact ⟨rfl, HB8.out⟩
    · have hc : packV f t n cs = false := by simpa using hc
      have HC := Lib.hid hc
      clear hc
      go_wp2_with fail
      refine (packetValid_any f t n _ k cap cs _ ((GA.out).below (below_box (.cells (List.toArray [.int .i64 f, .int .i64 t, .int .i64 n, .slice (some ⟨g, 0, none⟩) k cap]) 25) (Nat.le_refl _)))).mono ?_
      rw [HC.out]
      rintro e w2 ⟨rfl, hb2⟩
      have Vv := Lib.hid ((VarN.new_at (w := w1) (d := w1.heap.size) (by simp) [.int .i64 f, .int .i64 t, .int .i64 n, .slice (some ⟨g, 0, none⟩) k cap] 25).below hb2 (by simp))
      have HB2 := Lib.hid (((hb1).alloc (Nat.le_trans hb1.size (by exact Nat.le_refl _)) (.cells (List.toArray [.int .i64 f, .int .i64 t, .int .i64 n, .slice (some ⟨g, 0, none⟩) k cap]) 25)).trans (hb2.mono (Nat.le_trans hb1.size (by simp <;> omega))))
      have ltv : w1.heap.size < w2.heap.size := lt_of_cell (Vv.out 0 _ rfl).1
      have nev : ¬ w1.heap.size = w2.heap.size := by omega
      have GA := Lib.hid (((GA.out).below (below_box (.cells (List.toArray [.int .i64 f, .int .i64 t, .int .i64 n, .slice (some ⟨g, 0, none⟩) k cap]) 25) (Nat.le_refl _))).below hb2)
      clear hb2
      have v0 := (Vv.out 0 _ rfl).1
      have vf0 := (Vv.out 0 _ rfl).2
      have v1 := (Vv.out 1 _ rfl).1
      have vf1 := (Vv.out 1 _ rfl).2
      have v2 := (Vv.out 2 _ rfl).1
      have vf2 := (Vv.out 2 _ rfl).2
      have v3 := (Vv.out 3 _ rfl).1
      have vf3 := (Vv.out 3 _ rfl).2
      go_wp2_with fail
      refine (sPacketValid_any f t n _ k cap cs _ GA.out).mono ?_
      rw [HC.out]
      rintro e w3 ⟨rfl, hb3⟩
      clear v0 vf0 v1 vf1 v2 vf2 v3 vf3
      have Vv := Lib.hid ((Vv.out).below hb3 ltv)
      have HB3 := Lib.hid (HB2.out.trans (hb3.mono HB2.out.size))
      have ltv : w1.heap.size < w3.heap.size := lt_of_cell (Vv.out 0 _ rfl).1
      have nev : ¬ w1.heap.size = w3.heap.size := by omega
      have GA := Lib.hid ((GA.out).below hb3)
      clear hb3
      go_wp2
      go_ret
      exact ⟨rfl, HB3.out⟩

end Go.Proofs.Ytcpdpamoddmpaaa
