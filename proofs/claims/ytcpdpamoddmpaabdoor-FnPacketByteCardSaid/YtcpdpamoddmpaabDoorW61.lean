/- The walks of the laws on packets with a changed byte, with exchanged bytes. -/
import Derived.Test.YtcpdpamoddmpaabDoorW60
import Derived.Deep.RegionLaw
import Derived.Deep.CutRange
namespace Go.Proofs.YtcpdpamoddmpaabDoor
open Go.RowKit Go.PlainAid

set_option maxHeartbeats 4000000 in
theorem walk_fnPacketByte (a0 : Option Addr) (len0 cap0 : Nat) (z0 : List Int) (a1 : Option Addr) (len1 cap1 : Nat) (z1 : List Int) (w : World) (w0 : IsRow .u8 w a0 len0 cap0 z0) (_w1 : IsRow .u8 w a1 len1 cap1 z1) (hE : ErrsAny w) :
    Calls Tryd.prog 6 #[.slice a0 len0 cap0, .slice a1 len1 cap1] w fun e w' => e = .returned (.bool true) ∧ Below w.heap.size w w' := by
  have H := Lib.hid w0
  clear w0 _w1
  obtain ⟨e0, e1, e2, hE⟩ := hE
  have HE := Lib.hid hE
  clear hE
  by_cases hl : (1048576 : Int) < len0
  · go_enter Tryd.func6, Tryd.ntmps6
    go_wp2
    go_ret
    exact ⟨rfl, Below.refl _ _⟩
  by_cases hl1 : (1048576 : Int) < len1
  · go_enter Tryd.func6, Tryd.ntmps6
    go_wp2
    go_ret
    exact ⟨rfl, Below.refl _ _⟩
  · go_enter Tryd.func6, Tryd.ntmps6
    go_wp2_with fail
    refine (drawPacketGet_any a0 len0 cap0 z0 _ H.out).mono ?_
    rintro e w1 ⟨s, rfl, hsz, hb1⟩
    have EE := Lib.hid (HE.out.below hb1)
    have hs8 : s.size ≤ 100000000 := by omega
    clear HE
    by_cases hc : IsPack s
    · obtain ⟨f, t, n, cs, hp⟩ := hc
      obtain ⟨k, hk⟩ : ∃ k, cs.length = k := ⟨_, rfl⟩
      have HK := Lib.hid hp
      have HL := Lib.hid hk
      clear hp hk
      go_wp2_with fail
      refine (packetGet_is e0 e1 e2 s f t n cs k _ hs8 EE.out HK.out HL.out).mono ?_
      rintro e w2 ⟨x1, cap1, rfl, hg1, hb2⟩
      have HB2 := Lib.hid (hb1.trans (hb2.mono hb1.size))
      have EE := Lib.hid ((EE.out).below hb2)
      clear hb2
      have G1 := Lib.hid hg1
      clear hg1
      go_wp2_with fail
      refine (sPacketGet_is s f t n cs k _ hs8 HK.out HL.out).mono ?_
      rintro e w3 ⟨x2, cap2, rfl, hg2, hb3⟩
      have Vo := Lib.hid ((VarN.new_at (w := w2) (d := w2.heap.size) (by simp) [.int .i64 f, .int .i64 t, .int .i64 n, .slice (some ⟨x1, 0, none⟩) k cap1] 25).below hb3 (by simp))
      have HB3 := Lib.hid (((HB2.out).alloc (Nat.le_trans HB2.out.size (by exact Nat.le_refl _)) (.cells (List.toArray [.int .i64 f, .int .i64 t, .int .i64 n, .slice (some ⟨x1, 0, none⟩) k cap1]) 25)).trans (hb3.mono (Nat.le_trans HB2.out.size (by simp <;> omega))))
      have lto : w2.heap.size < w3.heap.size := lt_of_cell (Vo.out 0 _ rfl).1
      have neo : ¬ w2.heap.size = w3.heap.size := by omega
      have EE := Lib.hid (((EE.out).below (below_box (.cells (List.toArray [.int .i64 f, .int .i64 t, .int .i64 n, .slice (some ⟨x1, 0, none⟩) k cap1]) 25) (Nat.le_refl _))).below hb3)
      have G1 := Lib.hid (((G1.out).below (below_box (.cells (List.toArray [.int .i64 f, .int .i64 t, .int .i64 n, .slice (some ⟨x1, 0, none⟩) k cap1]) 25) (Nat.le_refl _))).below hb3)
      clear hb3
      have G2 := Lib.hid hg2
      clear hg2
      have o0 := (Vo.out 0 _ rfl).1
      have of0 := (Vo.out 0 _ rfl).2
      have o1 := (Vo.out 1 _ rfl).1
      have of1 := (Vo.out 1 _ rfl).2
      have o2 := (Vo.out 2 _ rfl).1
      have of2 := (Vo.out 2 _ rfl).2
      have o3 := (Vo.out 3 _ rfl).1
      have of3 := (Vo.out 3 _ rfl).2
      go_wp2_with fail
      refine (samePacket_same f t n _ _ k cap1 cap2 cs _ ((G1.out).below (below_box (.cells (List.toArray [.int .i64 f, .int .i64 t, .int .i64 n, .slice (some ⟨x2, 0, none⟩) k cap2]) 25) (Nat.le_refl _))) ((G2.out).below (below_box (.cells (List.toArray [.int .i64 f, .int .i64 t, .int .i64 n, .slice (some ⟨x2, 0, none⟩) k cap2]) 25) (Nat.le_refl _)))).mono ?_
      rintro e w4 ⟨rfl, hb4⟩
      clear o0 of0 o1 of1 o2 of2 o3 of3
      have Vo := Lib.hid (((Vo.out).alloc (.cells (List.toArray [.int .i64 f, .int .i64 t, .int .i64 n, .slice (some ⟨x2, 0, none⟩) k cap2]) 25) (by omega)).below hb4 (by simp; omega))
      have Vq := Lib.hid ((VarN.new_at (w := w3) (d := w3.heap.size) (by simp) [.int .i64 f, .int .i64 t, .int .i64 n, .slice (some ⟨x2, 0, none⟩) k cap2] 25).below hb4 (by simp))
      have HB4 := Lib.hid (((HB3.out).alloc (Nat.le_trans HB3.out.size (by exact Nat.le_refl _)) (.cells (List.toArray [.int .i64 f, .int .i64 t, .int .i64 n, .slice (some ⟨x2, 0, none⟩) k cap2]) 25)).trans (hb4.mono (Nat.le_trans HB3.out.size (by simp <;> omega))))
      have lto : w2.heap.size < w4.heap.size := lt_of_cell (Vo.out 0 _ rfl).1
      have ltq : w3.heap.size < w4.heap.size := lt_of_cell (Vq.out 0 _ rfl).1
      have neo : ¬ w2.heap.size = w4.heap.size := by omega
      have neq : ¬ w3.heap.size = w4.heap.size := by omega
      have EE := Lib.hid (((EE.out).below (below_box (.cells (List.toArray [.int .i64 f, .int .i64 t, .int .i64 n, .slice (some ⟨x2, 0, none⟩) k cap2]) 25) (Nat.le_refl _))).below hb4)
      have G1 := Lib.hid (((G1.out).below (below_box (.cells (List.toArray [.int .i64 f, .int .i64 t, .int .i64 n, .slice (some ⟨x2, 0, none⟩) k cap2]) 25) (Nat.le_refl _))).below hb4)
      have G2 := Lib.hid (((G2.out).below (below_box (.cells (List.toArray [.int .i64 f, .int .i64 t, .int .i64 n, .slice (some ⟨x2, 0, none⟩) k cap2]) 25) (Nat.le_refl _))).below hb4)
      clear hb4
      have z16 := isPack_long ⟨f, t, n, cs, HK.out⟩
      have m0 : (0 : Int) ≤ (len1 : Int) % (s.size : Int) := Int.emod_nonneg _ (by omega)
      have m1 : (len1 : Int) % (s.size : Int) < (s.size : Int) := Int.emod_lt_of_pos _ (by omega)
      obtain ⟨K, hK⟩ := Int.eq_ofNat_of_zero_le m0
      have o0 := (Vo.out 0 _ rfl).1
      have of0 := (Vo.out 0 _ rfl).2
      have o1 := (Vo.out 1 _ rfl).1
      have of1 := (Vo.out 1 _ rfl).2
      have o2 := (Vo.out 2 _ rfl).1
      have of2 := (Vo.out 2 _ rfl).2
      have o3 := (Vo.out 3 _ rfl).1
      have of3 := (Vo.out 3 _ rfl).2
      have q0 := (Vq.out 0 _ rfl).1
      have qf0 := (Vq.out 0 _ rfl).2
      have q1 := (Vq.out 1 _ rfl).1
      have qf1 := (Vq.out 1 _ rfl).2
      have q2 := (Vq.out 2 _ rfl).1
      have qf2 := (Vq.out 2 _ rfl).2
      have q3 := (Vq.out 3 _ rfl).1
      have qf3 := (Vq.out 3 _ rfl).2
      go_upto_region 9 with fail
      rw [hK]
      rw [hK] at m1
      clear hK m0
      clear o0 of0 o1 of1 o2 of2 o3 of3 q0 qf0 q1 qf1 q2 qf2 q3 qf3
      have k0 : (0 : Int) ≤ (K : Int) := Int.natCast_nonneg K
      have k2 : K + 1 ≤ s.size := by omega
      have ki : (K : Int) + 1 ≤ s.size := by omega
      have hbt := get_bt s
      have b0 := bt_nonneg s K
      have b1 := bt_le s K
      have hj := sum13_byte HK.out.1 HK.out.2.1 K k2 (IntKind.u8.wrap (bt s K + 1)) (by rw [IntKind.wrap_u8]; omega) (by rw [IntKind.wrap_u8]; omega) (by rw [IntKind.wrap_u8]; omega)
      have HJ := Lib.hid hj
      have hcv := conv_single
      have hz := strOfNums_size [IntKind.u8.wrap (bt s K + 1)]
      have y8 := size_cut s 0 K (by omega)
      have y9 := size_cut s (K + 1) s.size (Nat.le_refl _)
      have hzz : (s.extract 0 K ++ strOfNums [IntKind.u8.wrap (bt s K + 1)] ++ s.extract (K + 1) s.size).size = s.size := by rw [ByteArray.size_append, ByteArray.size_append, hz, y8, y9]; simp; omega
      have HZ8 := Lib.hid (show (s.extract 0 K ++ strOfNums [IntKind.u8.wrap (bt s K + 1)] ++ s.extract (K + 1) s.size).size ≤ 100000000 by omega)
      have HZ12 := Lib.hid (show 12 ≤ (s.extract 0 K ++ strOfNums [IntKind.u8.wrap (bt s K + 1)] ++ s.extract (K + 1) s.size).size by omega)
      have i0 : (0 : Int) ≤ (K : Int) + 1 := by omega
      have i2 : (K : Int) < s.size := by omega
      have iK : (K : Int) ≤ s.size := by omega
      have i3 : IntKind.i64.wrap ((K : Int) + 1) = (K : Int) + 1 := IntWalk.i64_in _ ⟨by omega, by omega⟩
      have i4 : ((K : Int) + 1).toNat = K + 1 := by omega
      have x1' : ¬ 9223372036854775807 < min K s.size + (strOfNums [IntKind.u8.wrap (bt s K + 1)]).size := by rw [hz]; simp; omega
      have x2' : ¬ 9223372036854775807 < min K s.size + (strOfNums [IntKind.u8.wrap (bt s K + 1)]).size + (s.size - (K + 1)) := by rw [hz]; simp; omega
      have y1 : ¬ 9223372036854775807 < K + (strOfNums [IntKind.u8.wrap (bt s K + 1)]).size := by rw [hz]; simp; omega
      have y2 : ¬ 9223372036854775807 < K + (strOfNums [IntKind.u8.wrap (bt s K + 1)]).size + (s.size - (K + 1)) := by rw [hz]; simp; omega
      clear m1 hj hz hzz y8 y9
      go_cut [11, 12] from 59 to 77 (fun _ z wx => z = .int .i64 2 ∧ Below w4.heap.size w4 wx)
      case first =>
        have HBA : Below w4.heap.size w4 (w4.alloc (.cells (List.toArray [.int .u8 (IntKind.u8.wrap (bt s K + 1))]) 5)).drew := Below.drew ((Below.refl w4.heap.size w4).alloc (by first | exact Nat.le_refl _ | (simp <;> omega)) (.cells (List.toArray [.int .u8 (IntKind.u8.wrap (bt s K + 1))]) 5))
        have HEA : Errs e0 e1 e2 (w4.alloc (.cells (List.toArray [.int .u8 (IntKind.u8.wrap (bt s K + 1))]) 5)).drew := EE.out.under (Nat.le_refl _) HBA
        have HBB : Below w4.heap.size w4 ((w4.alloc (.cells (List.toArray [.int .i64 0, .int .i64 0, .int .i64 0, .slice none 0 0]) 25)).alloc (.cells (List.toArray [.int .u8 (IntKind.u8.wrap (bt s K + 1))]) 5)).drew := Below.drew (((Below.refl w4.heap.size w4).alloc (by first | exact Nat.le_refl _ | (simp <;> omega)) (.cells (List.toArray [.int .i64 0, .int .i64 0, .int .i64 0, .slice none 0 0]) 25)).alloc (by first | exact Nat.le_refl _ | (simp <;> omega)) (.cells (List.toArray [.int .u8 (IntKind.u8.wrap (bt s K + 1))]) 5))
        have HEB : Errs e0 e1 e2 ((w4.alloc (.cells (List.toArray [.int .i64 0, .int .i64 0, .int .i64 0, .slice none 0 0]) 25)).alloc (.cells (List.toArray [.int .u8 (IntKind.u8.wrap (bt s K + 1))]) 5)).drew := EE.out.under (Nat.le_refl _) HBB
        have HVB : VarN (w4.heap.size) [.int .i64 0, .int .i64 0, .int .i64 0, .slice none 0 0] ((w4.alloc (.cells (List.toArray [.int .i64 0, .int .i64 0, .int .i64 0, .slice none 0 0]) 25)).alloc (.cells (List.toArray [.int .u8 (IntKind.u8.wrap (bt s K + 1))]) 5)).drew := ((VarN.new_at (w := w4) (d := w4.heap.size) (by simp) [.int .i64 0, .int .i64 0, .int .i64 0, .slice none 0 0] 25).alloc (.cells (List.toArray [.int .u8 (IntKind.u8.wrap (bt s K + 1))]) 5) (by simp)).below (C := w4.heap.size + 2) (Below.drew (Below.refl _ _)) (by omega)
        have hlB : w4.heap.size < ((w4.alloc (.cells (List.toArray [.int .i64 0, .int .i64 0, .int .i64 0, .slice none 0 0]) 25)).alloc (.cells (List.toArray [.int .u8 (IntKind.u8.wrap (bt s K + 1))]) 5)).drew.heap.size := by simp <;> omega
        have HBC : Below w4.heap.size w4 ((w4.alloc (.cells (List.toArray [.int .u8 (IntKind.u8.wrap (bt s K + 1))]) 5)).alloc (.cells (List.toArray [.int .i64 0, .int .i64 0, .int .i64 0, .slice none 0 0]) 25)).drew := Below.drew (((Below.refl w4.heap.size w4).alloc (by first | exact Nat.le_refl _ | (simp <;> omega)) (.cells (List.toArray [.int .u8 (IntKind.u8.wrap (bt s K + 1))]) 5)).alloc (by first | exact Nat.le_refl _ | (simp <;> omega)) (.cells (List.toArray [.int .i64 0, .int .i64 0, .int .i64 0, .slice none 0 0]) 25))
        have HEC : Errs e0 e1 e2 ((w4.alloc (.cells (List.toArray [.int .u8 (IntKind.u8.wrap (bt s K + 1))]) 5)).alloc (.cells (List.toArray [.int .i64 0, .int .i64 0, .int .i64 0, .slice none 0 0]) 25)).drew := EE.out.under (Nat.le_refl _) HBC
        have HVC : VarN (w4.heap.size + 1) [.int .i64 0, .int .i64 0, .int .i64 0, .slice none 0 0] ((w4.alloc (.cells (List.toArray [.int .u8 (IntKind.u8.wrap (bt s K + 1))]) 5)).alloc (.cells (List.toArray [.int .i64 0, .int .i64 0, .int .i64 0, .slice none 0 0]) 25)).drew := (VarN.new_at (w := (w4.alloc (.cells (List.toArray [.int .u8 (IntKind.u8.wrap (bt s K + 1))]) 5))) (d := w4.heap.size + 1) (by simp) [.int .i64 0, .int .i64 0, .int .i64 0, .slice none 0 0] 25).below (C := w4.heap.size + 2) (Below.drew (Below.refl _ _)) (by omega)
        have hlC : w4.heap.size + 1 < ((w4.alloc (.cells (List.toArray [.int .u8 (IntKind.u8.wrap (bt s K + 1))]) 5)).alloc (.cells (List.toArray [.int .i64 0, .int .i64 0, .int .i64 0, .slice none 0 0]) 25)).drew.heap.size := by simp <;> omega
        go_region_law (first | (go_simp; go_at_call 13; refine (packetGet_code e0 e1 e2 (s.extract 0 K ++ strOfNums [IntKind.u8.wrap (bt s K + 1)] ++ s.extract (K + 1) s.size) _ HZ8.out (by assumption)).mono ?_; rintro e w8 ⟨f1, t1, g1, a1, k1, d1, c1, rfl, ⟨hc1, _⟩, hb8⟩; obtain rfl : c1 = 2 := hc1.2 ⟨HZ12.out, HJ.out⟩; (first | have B8 := HBA.trans (hb8.mono HBA.size) | have B8 := HBB.trans (hb8.mono HBB.size) | have B8 := HBC.trans (hb8.mono HBC.size)); (first | (have V8 := HVB.below hb8 hlB; have v0 := (V8 0 _ rfl).1; have g0 := (V8 0 _ rfl).2; have v1 := (V8 1 _ rfl).1; have g1 := (V8 1 _ rfl).2; have v2 := (V8 2 _ rfl).1; have g2 := (V8 2 _ rfl).2; have v3 := (V8 3 _ rfl).1; have g3 := (V8 3 _ rfl).2) | (have V8 := HVC.below hb8 hlC; have v0 := (V8 0 _ rfl).1; have g0 := (V8 0 _ rfl).2; have v1 := (V8 1 _ rfl).1; have g1 := (V8 1 _ rfl).2; have v2 := (V8 2 _ rfl).1; have g2 := (V8 2 _ rfl).2; have v3 := (V8 3 _ rfl).1; have g3 := (V8 3 _ rfl).2) | skip); clear hb8; dsimp only))
        all_goals
          go_wp2_with fail
          go_meet
          refine ⟨rfl, ?_⟩
          repeat (first | with_reducible exact B8 | refine Below.setCell ?_ (by first | exact Nat.le_refl _ | exact Nat.le_succ _) _ | refine Below.alloc ?_ B8.size _)
      case rest =>
        obtain ⟨rfl, b5⟩ := hcut
        go_wp2
        go_ret
        exact ⟨rfl, HB4.out.trans (b5.mono HB4.out.size)⟩
    · have HN := Lib.hid hc
      obtain ⟨c, hcc⟩ : ∃ c, codeOf s = c := ⟨_, rfl⟩
      have HC := Lib.hid hcc
      have cn0 : c ≠ 0 := hcc ▸ codeOf_ne s
      have cn : (c != 0) = true := by simpa using cn0
      have ce : (c == 0) = false := by simpa using cn0
      clear hc hcc cn0
      go_wp2_with fail
      refine (packetGet_not e0 e1 e2 s _ hs8 EE.out HN.out).mono ?_
      rw [HC.out]
      rintro e w2 ⟨rfl, hb2⟩
      have HB2 := Lib.hid (hb1.trans (hb2.mono hb1.size))
      have EE := Lib.hid ((EE.out).below hb2)
      clear hb2
      unfold noPackV
      go_wp2_with fail
      refine (sPacketGet_not s _ hs8 HN.out).mono ?_
      rw [HC.out]
      rintro e w3 ⟨rfl, hb3⟩
      have Vo := Lib.hid ((VarN.new_at (w := w2) (d := w2.heap.size) (by simp) [.int .i64 0, .int .i64 0, .int .i64 0, .slice none 0 0] 25).below hb3 (by simp))
      have HB3 := Lib.hid (((HB2.out).alloc (Nat.le_trans HB2.out.size (by exact Nat.le_refl _)) (.cells (List.toArray [.int .i64 0, .int .i64 0, .int .i64 0, .slice none 0 0]) 25)).trans (hb3.mono (Nat.le_trans HB2.out.size (by simp <;> omega))))
      have lto : w2.heap.size < w3.heap.size := lt_of_cell (Vo.out 0 _ rfl).1
      have neo : ¬ w2.heap.size = w3.heap.size := by omega
      have EE := Lib.hid (((EE.out).below (below_box (.cells (List.toArray [.int .i64 0, .int .i64 0, .int .i64 0, .slice none 0 0]) 25) (Nat.le_refl _))).below hb3)
      clear hb3
      unfold noPackV
      have o0 := (Vo.out 0 _ rfl).1
      have of0 := (Vo.out 0 _ rfl).2
      have o1 := (Vo.out 1 _ rfl).1
      have of1 := (Vo.out 1 _ rfl).2
      have o2 := (Vo.out 2 _ rfl).1
      have of2 := (Vo.out 2 _ rfl).2
      have o3 := (Vo.out 3 _ rfl).1
      have of3 := (Vo.out 3 _ rfl).2
      go_wp2_with fail
      refine (samePacket_none _).mono ?_
      rintro e w4 ⟨rfl, hb4⟩
      clear o0 of0 o1 of1 o2 of2 o3 of3
      have Vo := Lib.hid (((Vo.out).alloc (.cells (List.toArray [.int .i64 0, .int .i64 0, .int .i64 0, .slice none 0 0]) 25) (by omega)).below hb4 (by simp; omega))
      have Vq := Lib.hid ((VarN.new_at (w := w3) (d := w3.heap.size) (by simp) [.int .i64 0, .int .i64 0, .int .i64 0, .slice none 0 0] 25).below hb4 (by simp))
      have HB4 := Lib.hid (((HB3.out).alloc (Nat.le_trans HB3.out.size (by exact Nat.le_refl _)) (.cells (List.toArray [.int .i64 0, .int .i64 0, .int .i64 0, .slice none 0 0]) 25)).trans (hb4.mono (Nat.le_trans HB3.out.size (by simp <;> omega))))
      have lto : w2.heap.size < w4.heap.size := lt_of_cell (Vo.out 0 _ rfl).1
      have ltq : w3.heap.size < w4.heap.size := lt_of_cell (Vq.out 0 _ rfl).1
      have neo : ¬ w2.heap.size = w4.heap.size := by omega
      have neq : ¬ w3.heap.size = w4.heap.size := by omega
      have EE := Lib.hid (((EE.out).below (below_box (.cells (List.toArray [.int .i64 0, .int .i64 0, .int .i64 0, .slice none 0 0]) 25) (Nat.le_refl _))).below hb4)
      clear hb4
      have o0 := (Vo.out 0 _ rfl).1
      have of0 := (Vo.out 0 _ rfl).2
      have o1 := (Vo.out 1 _ rfl).1
      have of1 := (Vo.out 1 _ rfl).2
      have o2 := (Vo.out 2 _ rfl).1
      have of2 := (Vo.out 2 _ rfl).2
      have o3 := (Vo.out 3 _ rfl).1
      have of3 := (Vo.out 3 _ rfl).2
      have q0 := (Vq.out 0 _ rfl).1
      have qf0 := (Vq.out 0 _ rfl).2
      have q1 := (Vq.out 1 _ rfl).1
      have qf1 := (Vq.out 1 _ rfl).2
      have q2 := (Vq.out 2 _ rfl).1
      have qf2 := (Vq.out 2 _ rfl).2
      have q3 := (Vq.out 3 _ rfl).1
      have qf3 := (Vq.out 3 _ rfl).2
      go_wp2_with fail
      refine (samePacket_none _).mono ?_
      rintro e w5 ⟨rfl, hb5⟩
      clear o0 of0 o1 of1 o2 of2 o3 of3 q0 qf0 q1 qf1 q2 qf2 q3 qf3
      have Vo := Lib.hid ((Vo.out).below hb5 lto)
      have Vq := Lib.hid ((Vq.out).below hb5 ltq)
      have HB5 := Lib.hid (HB4.out.trans (hb5.mono HB4.out.size))
      have lto : w2.heap.size < w5.heap.size := lt_of_cell (Vo.out 0 _ rfl).1
      have ltq : w3.heap.size < w5.heap.size := lt_of_cell (Vq.out 0 _ rfl).1
      have neo : ¬ w2.heap.size = w5.heap.size := by omega
      have neq : ¬ w3.heap.size = w5.heap.size := by omega
      have EE := Lib.hid ((EE.out).below hb5)
      clear hb5
      go_wp2
      go_ret
      exact ⟨rfl, HB5.out⟩

set_option maxHeartbeats 4000000 in
theorem walk_fnPacketSwap (a0 : Option Addr) (len0 cap0 : Nat) (z0 : List Int) (a1 : Option Addr) (len1 cap1 : Nat) (z1 : List Int) (w : World) (w0 : IsRow .u8 w a0 len0 cap0 z0) (_w1 : IsRow .u8 w a1 len1 cap1 z1) (hE : ErrsAny w) :
    Calls Tryd.prog 7 #[.slice a0 len0 cap0, .slice a1 len1 cap1] w fun e w' => e = .returned (.bool true) ∧ Below w.heap.size w w' := by
  have H := Lib.hid w0
  clear w0 _w1
  obtain ⟨e0, e1, e2, hE⟩ := hE
  have HE := Lib.hid hE
  clear hE
  by_cases hl : (1048576 : Int) < len0
  · go_enter Tryd.func7, Tryd.ntmps7
    go_wp2
    go_ret
    exact ⟨rfl, Below.refl _ _⟩
  by_cases hl1 : (1048576 : Int) < len1
  · go_enter Tryd.func7, Tryd.ntmps7
    go_wp2
    go_ret
    exact ⟨rfl, Below.refl _ _⟩
  · go_enter Tryd.func7, Tryd.ntmps7
    go_wp2_with fail
    refine (drawPacketGet_any a0 len0 cap0 z0 _ H.out).mono ?_
    rintro e w1 ⟨s, rfl, hsz, hb1⟩
    have EE := Lib.hid (HE.out.below hb1)
    have hs8 : s.size ≤ 100000000 := by omega
    clear HE
    by_cases hc : IsPack s
    · obtain ⟨f, t, n, cs, hp⟩ := hc
      obtain ⟨k, hk⟩ : ∃ k, cs.length = k := ⟨_, rfl⟩
      have HK := Lib.hid hp
      have HL := Lib.hid hk
      clear hp hk
      go_wp2_with fail
      refine (packetGet_is e0 e1 e2 s f t n cs k _ hs8 EE.out HK.out HL.out).mono ?_
      rintro e w2 ⟨x1, cap1, rfl, hg1, hb2⟩
      have HB2 := Lib.hid (hb1.trans (hb2.mono hb1.size))
      have EE := Lib.hid ((EE.out).below hb2)
      clear hb2
      have G1 := Lib.hid hg1
      clear hg1
      go_wp2_with fail
      refine (sPacketGet_is s f t n cs k _ hs8 HK.out HL.out).mono ?_
      rintro e w3 ⟨x2, cap2, rfl, hg2, hb3⟩
      have Vo := Lib.hid ((VarN.new_at (w := w2) (d := w2.heap.size) (by simp) [.int .i64 f, .int .i64 t, .int .i64 n, .slice (some ⟨x1, 0, none⟩) k cap1] 25).below hb3 (by simp))
      have HB3 := Lib.hid (((HB2.out).alloc (Nat.le_trans HB2.out.size (by exact Nat.le_refl _)) (.cells (List.toArray [.int .i64 f, .int .i64 t, .int .i64 n, .slice (some ⟨x1, 0, none⟩) k cap1]) 25)).trans (hb3.mono (Nat.le_trans HB2.out.size (by simp <;> omega))))
      have lto : w2.heap.size < w3.heap.size := lt_of_cell (Vo.out 0 _ rfl).1
      have neo : ¬ w2.heap.size = w3.heap.size := by omega
      have EE := Lib.hid (((EE.out).below (below_box (.cells (List.toArray [.int .i64 f, .int .i64 t, .int .i64 n, .slice (some ⟨x1, 0, none⟩) k cap1]) 25) (Nat.le_refl _))).below hb3)
      have G1 := Lib.hid (((G1.out).below (below_box (.cells (List.toArray [.int .i64 f, .int .i64 t, .int .i64 n, .slice (some ⟨x1, 0, none⟩) k cap1]) 25) (Nat.le_refl _))).below hb3)
      clear hb3
      have G2 := Lib.hid hg2
      clear hg2
      have o0 := (Vo.out 0 _ rfl).1
      have of0 := (Vo.out 0 _ rfl).2
      have o1 := (Vo.out 1 _ rfl).1
      have of1 := (Vo.out 1 _ rfl).2
      have o2 := (Vo.out 2 _ rfl).1
      have of2 := (Vo.out 2 _ rfl).2
      have o3 := (Vo.out 3 _ rfl).1
      have of3 := (Vo.out 3 _ rfl).2
      go_wp2_with fail
      refine (samePacket_same f t n _ _ k cap1 cap2 cs _ ((G1.out).below (below_box (.cells (List.toArray [.int .i64 f, .int .i64 t, .int .i64 n, .slice (some ⟨x2, 0, none⟩) k cap2]) 25) (Nat.le_refl _))) ((G2.out).below (below_box (.cells (List.toArray [.int .i64 f, .int .i64 t, .int .i64 n, .slice (some ⟨x2, 0, none⟩) k cap2]) 25) (Nat.le_refl _)))).mono ?_
      rintro e w4 ⟨rfl, hb4⟩
      clear o0 of0 o1 of1 o2 of2 o3 of3
      have Vo := Lib.hid (((Vo.out).alloc (.cells (List.toArray [.int .i64 f, .int .i64 t, .int .i64 n, .slice (some ⟨x2, 0, none⟩) k cap2]) 25) (by omega)).below hb4 (by simp; omega))
      have Vq := Lib.hid ((VarN.new_at (w := w3) (d := w3.heap.size) (by simp) [.int .i64 f, .int .i64 t, .int .i64 n, .slice (some ⟨x2, 0, none⟩) k cap2] 25).below hb4 (by simp))
      have HB4 := Lib.hid (((HB3.out).alloc (Nat.le_trans HB3.out.size (by exact Nat.le_refl _)) (.cells (List.toArray [.int .i64 f, .int .i64 t, .int .i64 n, .slice (some ⟨x2, 0, none⟩) k cap2]) 25)).trans (hb4.mono (Nat.le_trans HB3.out.size (by simp <;> omega))))
      have lto : w2.heap.size < w4.heap.size := lt_of_cell (Vo.out 0 _ rfl).1
      have ltq : w3.heap.size < w4.heap.size := lt_of_cell (Vq.out 0 _ rfl).1
      have neo : ¬ w2.heap.size = w4.heap.size := by omega
      have neq : ¬ w3.heap.size = w4.heap.size := by omega
      have EE := Lib.hid (((EE.out).below (below_box (.cells (List.toArray [.int .i64 f, .int .i64 t, .int .i64 n, .slice (some ⟨x2, 0, none⟩) k cap2]) 25) (Nat.le_refl _))).below hb4)
      have G1 := Lib.hid (((G1.out).below (below_box (.cells (List.toArray [.int .i64 f, .int .i64 t, .int .i64 n, .slice (some ⟨x2, 0, none⟩) k cap2]) 25) (Nat.le_refl _))).below hb4)
      have G2 := Lib.hid (((G2.out).below (below_box (.cells (List.toArray [.int .i64 f, .int .i64 t, .int .i64 n, .slice (some ⟨x2, 0, none⟩) k cap2]) 25) (Nat.le_refl _))).below hb4)
      clear hb4
      have z16 := isPack_long ⟨f, t, n, cs, HK.out⟩
      have m0 : (0 : Int) ≤ (len1 : Int) % ((s.size : Int) - 13) := Int.emod_nonneg _ (by omega)
      have m1 : (len1 : Int) % ((s.size : Int) - 13) < ((s.size : Int) - 13) := Int.emod_lt_of_pos _ (by omega)
      have w13 : IntKind.i64.wrap ((s.size : Int) - 13) = (s.size : Int) - 13 := IntWalk.i64_in _ ⟨by omega, by omega⟩
      have n13 : ¬ (s.size : Int) - 13 = 0 := by omega
      have wK : IntKind.i64.wrap (12 + (len1 : Int) % ((s.size : Int) - 13)) = 12 + (len1 : Int) % ((s.size : Int) - 13) := IntWalk.i64_in _ ⟨by omega, by omega⟩
      obtain ⟨K, hK⟩ : ∃ K : Nat, 12 + (len1 : Int) % ((s.size : Int) - 13) = K := ⟨(12 + (len1 : Int) % ((s.size : Int) - 13)).toNat, by omega⟩
      have k12 : 12 ≤ K := by omega
      have k2 : K + 2 ≤ s.size := by omega
      have HKK := Lib.hid hK
      clear hK
      have o0 := (Vo.out 0 _ rfl).1
      have of0 := (Vo.out 0 _ rfl).2
      have o1 := (Vo.out 1 _ rfl).1
      have of1 := (Vo.out 1 _ rfl).2
      have o2 := (Vo.out 2 _ rfl).1
      have of2 := (Vo.out 2 _ rfl).2
      have o3 := (Vo.out 3 _ rfl).1
      have of3 := (Vo.out 3 _ rfl).2
      have q0 := (Vq.out 0 _ rfl).1
      have qf0 := (Vq.out 0 _ rfl).2
      have q1 := (Vq.out 1 _ rfl).1
      have qf1 := (Vq.out 1 _ rfl).2
      have q2 := (Vq.out 2 _ rfl).1
      have qf2 := (Vq.out 2 _ rfl).2
      have q3 := (Vq.out 3 _ rfl).1
      have qf3 := (Vq.out 3 _ rfl).2
      go_upto_region 9 with fail
      rw [HKK.out]
      clear m0 m1 w13 n13 wK HKK
      clear o0 of0 o1 of1 o2 of2 o3 of3 q0 qf0 q1 qf1 q2 qf2 q3 qf3
      have k0 : (0 : Int) ≤ (K : Int) := Int.natCast_nonneg K
      have hbt := get_bt s
      have b0 := bt_nonneg s K
      have b1 := bt_le s K
      have b2 := bt_nonneg s (K + 1)
      have b3 := bt_le s (K + 1)
      have hj := sum13_swap HK.out.1 HK.out.2.1 K k12 k2
      have HJ := Lib.hid hj
      have hzz : (s.extract 0 K ++ s.extract (K + 1) (K + 2) ++ s.extract K (K + 1) ++ s.extract (K + 2) s.size).size = s.size := by rw [ByteArray.size_append, ByteArray.size_append, ByteArray.size_append, size_cut s 0 K (by omega), size_cut s (K + 1) (K + 2) (by omega), size_cut s K (K + 1) (by omega), size_cut s (K + 2) s.size (Nat.le_refl _)]; omega
      have HZ8 := Lib.hid (show (s.extract 0 K ++ s.extract (K + 1) (K + 2) ++ s.extract K (K + 1) ++ s.extract (K + 2) s.size).size ≤ 100000000 by omega)
      have HZ12 := Lib.hid (show 12 ≤ (s.extract 0 K ++ s.extract (K + 1) (K + 2) ++ s.extract K (K + 1) ++ s.extract (K + 2) s.size).size by omega)
      have i0 : (0 : Int) ≤ (K : Int) + 1 := by omega
      have i0' : (0 : Int) ≤ (K : Int) + 2 := by omega
      have i1 : (K : Int) + 1 < s.size := by omega
      have i1' : (K : Int) + 1 ≤ s.size := by omega
      have i2 : (K : Int) < s.size := by omega
      have iK : (K : Int) ≤ s.size := by omega
      have i3 : IntKind.i64.wrap ((K : Int) + 1) = (K : Int) + 1 := IntWalk.i64_in _ ⟨by omega, by omega⟩
      have i3' : IntKind.i64.wrap ((K : Int) + 2) = (K : Int) + 2 := IntWalk.i64_in _ ⟨by omega, by omega⟩
      have i4 : ((K : Int) + 1).toNat = K + 1 := by omega
      have i4' : ((K : Int) + 2).toNat = K + 2 := by omega
      have i5 : (K : Int) + 1 ≤ (K : Int) + 2 := by omega
      have i6 : (K : Int) ≤ (K : Int) + 1 := by omega
      have i7 : (K : Int) + 2 ≤ s.size := by omega
      have i8 : K + 1 < s.size := by omega
      have xa : ¬ 9223372036854775807 < min K s.size + 1 := by omega
      have xb : ¬ 9223372036854775807 < min K s.size + 1 + 1 := by omega
      have xb' : ¬ 9223372036854775807 < min K s.size + 1 + (min (K + 1) s.size - K) := by omega
      have xc : ¬ 9223372036854775807 < min K s.size + 1 + 1 + (s.size - (K + 2)) := by omega
      have xc' : ¬ 9223372036854775807 < min K s.size + 1 + (min (K + 1) s.size - K) + (s.size - (K + 2)) := by omega
      have xd : ¬ 9223372036854775807 < min K s.size + 2 := by omega
      have xe : ¬ 9223372036854775807 < min K s.size + 2 + (s.size - (K + 2)) := by omega
      have x1' : ¬ 9223372036854775807 < min K s.size + (min (K + 2) s.size - (K + 1)) := by omega
      have x2' : ¬ 9223372036854775807 < min K s.size + (min (K + 2) s.size - (K + 1)) + (min (K + 1) s.size - K) := by omega
      have x3' : ¬ 9223372036854775807 < min K s.size + (min (K + 2) s.size - (K + 1)) + (min (K + 1) s.size - K) + (s.size - (K + 2)) := by omega
      clear hj hzz
      go_cut [11, 12] from 61 to 85 (fun _ z wx => ∃ c : Int, z = .int .i64 c ∧ (c == 2) = (bt s K != bt s (K + 1)) ∧ Below w4.heap.size w4 wx)
      case first =>
        have HBA : Below w4.heap.size w4 w4.drew := Below.drew (Below.refl w4.heap.size w4)
        have HEA : Errs e0 e1 e2 w4.drew := EE.out.under (Nat.le_refl _) HBA
        have HBB : Below w4.heap.size w4 (w4.alloc (.cells (List.toArray [.int .i64 0, .int .i64 0, .int .i64 0, .slice none 0 0]) 25)).drew := Below.drew ((Below.refl w4.heap.size w4).alloc (by first | exact Nat.le_refl _ | (simp <;> omega)) (.cells (List.toArray [.int .i64 0, .int .i64 0, .int .i64 0, .slice none 0 0]) 25))
        have HEB : Errs e0 e1 e2 (w4.alloc (.cells (List.toArray [.int .i64 0, .int .i64 0, .int .i64 0, .slice none 0 0]) 25)).drew := EE.out.under (Nat.le_refl _) HBB
        have HVB : VarN (w4.heap.size) [.int .i64 0, .int .i64 0, .int .i64 0, .slice none 0 0] (w4.alloc (.cells (List.toArray [.int .i64 0, .int .i64 0, .int .i64 0, .slice none 0 0]) 25)).drew := (VarN.new_at (w := w4) (d := w4.heap.size) (by simp) [.int .i64 0, .int .i64 0, .int .i64 0, .slice none 0 0] 25).below (C := w4.heap.size + 2) (Below.drew (Below.refl _ _)) (by omega)
        have hlB : w4.heap.size < (w4.alloc (.cells (List.toArray [.int .i64 0, .int .i64 0, .int .i64 0, .slice none 0 0]) 25)).drew.heap.size := by simp <;> omega
        go_region_law (first | (go_simp; go_at_call 13; refine (packetGet_code e0 e1 e2 (s.extract 0 K ++ s.extract (K + 1) (K + 2) ++ s.extract K (K + 1) ++ s.extract (K + 2) s.size) _ HZ8.out (by assumption)).mono ?_; rintro e w8 ⟨f1, t1, g1, a1, k1, d1, c1, rfl, ⟨hc1, _⟩, hb8⟩; have hc2 : (c1 == 2) = (bt s K != bt s (K + 1)) := (by by_cases e : bt s K = bt s (K + 1); (have : c1 ≠ 2 := fun h => (hc1.1 h).2 (HJ.out.2 e); rw [e]; simpa using this); (rw [hc1.2 ⟨HZ12.out, fun h => e (HJ.out.1 h)⟩]; simpa using e)); clear hc1; (first | have B8 := HBA.trans (hb8.mono HBA.size) | have B8 := HBB.trans (hb8.mono HBB.size)); (first | (have V8 := HVB.below hb8 hlB; have v0 := (V8 0 _ rfl).1; have g0 := (V8 0 _ rfl).2; have v1 := (V8 1 _ rfl).1; have g1 := (V8 1 _ rfl).2; have v2 := (V8 2 _ rfl).1; have g2 := (V8 2 _ rfl).2; have v3 := (V8 3 _ rfl).1; have g3 := (V8 3 _ rfl).2) | skip); clear hb8; dsimp only))
        all_goals
          go_wp2_with fail
          go_meet
          refine ⟨_, rfl, hc2, ?_⟩
          repeat (first | with_reducible exact B8 | refine Below.setCell ?_ (by first | exact Nat.le_refl _ | exact Nat.le_succ _) _ | refine Below.alloc ?_ B8.size _)
      case rest =>
        obtain ⟨c, rfl, hc, b5⟩ := hcut
        have HC2 := Lib.hid hc
        clear hc
        go_wp2_with fail
        go_quiet (fail)
        go_wp2
        go_ret
        exact ⟨ret_b (by rw [HC2.out]; simp), HB4.out.trans ((below_drewN b5 _).mono HB4.out.size)⟩
    · have HN := Lib.hid hc
      obtain ⟨c, hcc⟩ : ∃ c, codeOf s = c := ⟨_, rfl⟩
      have HC := Lib.hid hcc
      have cn0 : c ≠ 0 := hcc ▸ codeOf_ne s
      have cn : (c != 0) = true := by simpa using cn0
      have ce : (c == 0) = false := by simpa using cn0
      clear hc hcc cn0
      go_wp2_with fail
      refine (packetGet_not e0 e1 e2 s _ hs8 EE.out HN.out).mono ?_
      rw [HC.out]
      rintro e w2 ⟨rfl, hb2⟩
      have HB2 := Lib.hid (hb1.trans (hb2.mono hb1.size))
      have EE := Lib.hid ((EE.out).below hb2)
      clear hb2
      unfold noPackV
      go_wp2_with fail
      refine (sPacketGet_not s _ hs8 HN.out).mono ?_
      rw [HC.out]
      rintro e w3 ⟨rfl, hb3⟩
      have Vo := Lib.hid ((VarN.new_at (w := w2) (d := w2.heap.size) (by simp) [.int .i64 0, .int .i64 0, .int .i64 0, .slice none 0 0] 25).below hb3 (by simp))
      have HB3 := Lib.hid (((HB2.out).alloc (Nat.le_trans HB2.out.size (by exact Nat.le_refl _)) (.cells (List.toArray [.int .i64 0, .int .i64 0, .int .i64 0, .slice none 0 0]) 25)).trans (hb3.mono (Nat.le_trans HB2.out.size (by simp <;> omega))))
      have lto : w2.heap.size < w3.heap.size := lt_of_cell (Vo.out 0 _ rfl).1
      have neo : ¬ w2.heap.size = w3.heap.size := by omega
      have EE := Lib.hid (((EE.out).below (below_box (.cells (List.toArray [.int .i64 0, .int .i64 0, .int .i64 0, .slice none 0 0]) 25) (Nat.le_refl _))).below hb3)
      clear hb3
      unfold noPackV
      have o0 := (Vo.out 0 _ rfl).1
      have of0 := (Vo.out 0 _ rfl).2
      have o1 := (Vo.out 1 _ rfl).1
      have of1 := (Vo.out 1 _ rfl).2
      have o2 := (Vo.out 2 _ rfl).1
      have of2 := (Vo.out 2 _ rfl).2
      have o3 := (Vo.out 3 _ rfl).1
      have of3 := (Vo.out 3 _ rfl).2
      go_wp2_with fail
      refine (samePacket_none _).mono ?_
      rintro e w4 ⟨rfl, hb4⟩
      clear o0 of0 o1 of1 o2 of2 o3 of3
      have Vo := Lib.hid (((Vo.out).alloc (.cells (List.toArray [.int .i64 0, .int .i64 0, .int .i64 0, .slice none 0 0]) 25) (by omega)).below hb4 (by simp; omega))
      have Vq := Lib.hid ((VarN.new_at (w := w3) (d := w3.heap.size) (by simp) [.int .i64 0, .int .i64 0, .int .i64 0, .slice none 0 0] 25).below hb4 (by simp))
      have HB4 := Lib.hid (((HB3.out).alloc (Nat.le_trans HB3.out.size (by exact Nat.le_refl _)) (.cells (List.toArray [.int .i64 0, .int .i64 0, .int .i64 0, .slice none 0 0]) 25)).trans (hb4.mono (Nat.le_trans HB3.out.size (by simp <;> omega))))
      have lto : w2.heap.size < w4.heap.size := lt_of_cell (Vo.out 0 _ rfl).1
      have ltq : w3.heap.size < w4.heap.size := lt_of_cell (Vq.out 0 _ rfl).1
      have neo : ¬ w2.heap.size = w4.heap.size := by omega
      have neq : ¬ w3.heap.size = w4.heap.size := by omega
      have EE := Lib.hid (((EE.out).below (below_box (.cells (List.toArray [.int .i64 0, .int .i64 0, .int .i64 0, .slice none 0 0]) 25) (Nat.le_refl _))).below hb4)
      clear hb4
      have o0 := (Vo.out 0 _ rfl).1
      have of0 := (Vo.out 0 _ rfl).2
      have o1 := (Vo.out 1 _ rfl).1
      have of1 := (Vo.out 1 _ rfl).2
      have o2 := (Vo.out 2 _ rfl).1
      have of2 := (Vo.out 2 _ rfl).2
      have o3 := (Vo.out 3 _ rfl).1
      have of3 := (Vo.out 3 _ rfl).2
      have q0 := (Vq.out 0 _ rfl).1
      have qf0 := (Vq.out 0 _ rfl).2
      have q1 := (Vq.out 1 _ rfl).1
      have qf1 := (Vq.out 1 _ rfl).2
      have q2 := (Vq.out 2 _ rfl).1
      have qf2 := (Vq.out 2 _ rfl).2
      have q3 := (Vq.out 3 _ rfl).1
      have qf3 := (Vq.out 3 _ rfl).2
      go_wp2_with fail
      refine (samePacket_none _).mono ?_
      rintro e w5 ⟨rfl, hb5⟩
      clear o0 of0 o1 of1 o2 of2 o3 of3 q0 qf0 q1 qf1 q2 qf2 q3 qf3
      have Vo := Lib.hid ((Vo.out).below hb5 lto)
      have Vq := Lib.hid ((Vq.out).below hb5 ltq)
      have HB5 := Lib.hid (HB4.out.trans (hb5.mono HB4.out.size))
      have lto : w2.heap.size < w5.heap.size := lt_of_cell (Vo.out 0 _ rfl).1
      have ltq : w3.heap.size < w5.heap.size := lt_of_cell (Vq.out 0 _ rfl).1
      have neo : ¬ w2.heap.size = w5.heap.size := by omega
      have neq : ¬ w3.heap.size = w5.heap.size := by omega
      have EE := Lib.hid ((EE.out).below hb5)
      clear hb5
      go_wp2
      go_ret
      exact ⟨rfl, HB5.out⟩

end Go.Proofs.YtcpdpamoddmpaabDoor
