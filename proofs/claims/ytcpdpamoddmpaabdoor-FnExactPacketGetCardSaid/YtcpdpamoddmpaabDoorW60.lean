/- The walks of the laws on packets that are written and read: Put, Get, Short, Cut. -/
import Derived.Test.YtcpdpamoddmpaabDoorK57
namespace Go.Proofs.YtcpdpamoddmpaabDoor
open Go.RowKit Go.PlainAid

def ErrsAny (w : World) : Prop := ∃ a0 a1 a2, Errs a0 a1 a2 w
theorem pack_isS {f t g : Int} {cs : List (Int × Int × ByteArray)} {S : ByteArray} (h : PackOk f t g cs) (e : packS f t g cs = S) : PackIs S f t g cs := e ▸ pack_is h
theorem pack_ok {s : ByteArray} {f t g : Int} {cs : List (Int × Int × ByteArray)} (h : PackIs s f t g cs) : PackOk f t g cs := h.2.2.2.2

set_option maxHeartbeats 4000000 in
theorem walk_fnPacketPut (a0 : Option Addr) (len0 cap0 : Nat) (z0 : List Int) (w : World) (w0 : IsRow .u8 w a0 len0 cap0 z0) (hE : ErrsAny w) :
    Calls Tryd.prog 3 #[.slice a0 len0 cap0] w fun e w' => e = .returned (.bool true) ∧ Below w.heap.size w w' := by
  have H := Lib.hid w0
  clear w0
  obtain ⟨e0, e1, e2, hE⟩ := hE
  have HE := Lib.hid hE
  clear hE
  by_cases hl : (1048576 : Int) < len0
  · go_enter Tryd.func3, Tryd.ntmps3
    go_wp2
    go_ret
    exact ⟨rfl, Below.refl _ _⟩
  · go_enter Tryd.func3, Tryd.ntmps3
    go_wp2_with fail
    refine (drawPacketPut_any a0 len0 cap0 z0 _ H.out).mono ?_
    rintro e w1 ⟨f, t, n, g, k, cap, cs, rfl, ⟨nf0, nf1⟩, ⟨nt0, nt1⟩, ⟨nn0, nn1⟩, nk, ng, hch, hb1⟩
    have hcl := hch.length
    have GA := Lib.hid hch
    have EE := Lib.hid (HE.out.below hb1)
    clear hch HE
    by_cases hc : PackOk f t n cs
    · have HC := Lib.hid hc
      clear hc
      obtain ⟨S, hS⟩ : ∃ S, packS f t n cs = S := ⟨_, rfl⟩
      have HS := Lib.hid hS
      have sz : S.size ≤ 268 := by rw [← hS]; exact packS_le HC.out
      have sz12 : 12 ≤ S.size := by rw [← hS, packS_size]; omega
      have ne1 := text_some (s := S) (by omega)
      have ne2 : S.toList.isEmpty = false := by simpa using ne1
      clear hS
      go_wp2_with fail
      refine (packetPut_yes f t n _ k cap cs _ ((GA.out).below (below_box (.cells (List.toArray [.int .i64 f, .int .i64 t, .int .i64 n, .slice (some ⟨g, 0, none⟩) k cap]) 25) (Nat.le_refl _))) HC.out).mono ?_
      rw [HS.out]
      rintro e w2 ⟨rfl, hb2⟩
      have Vv := Lib.hid ((VarN.new_at (w := w1) (d := w1.heap.size) (by simp) [.int .i64 f, .int .i64 t, .int .i64 n, .slice (some ⟨g, 0, none⟩) k cap] 25).below hb2 (by simp))
      have HB2 := Lib.hid (((hb1).alloc (Nat.le_trans hb1.size (by exact Nat.le_refl _)) (.cells (List.toArray [.int .i64 f, .int .i64 t, .int .i64 n, .slice (some ⟨g, 0, none⟩) k cap]) 25)).trans (hb2.mono (Nat.le_trans hb1.size (by simp <;> omega))))
      have ltv : w1.heap.size < w2.heap.size := lt_of_cell (Vv.out 0 _ rfl).1
      have nev : ¬ w1.heap.size = w2.heap.size := by omega
      have GA := Lib.hid (((GA.out).below (below_box (.cells (List.toArray [.int .i64 f, .int .i64 t, .int .i64 n, .slice (some ⟨g, 0, none⟩) k cap]) 25) (Nat.le_refl _))).below hb2)
      have EE := Lib.hid (((EE.out).below (below_box (.cells (List.toArray [.int .i64 f, .int .i64 t, .int .i64 n, .slice (some ⟨g, 0, none⟩) k cap]) 25) (Nat.le_refl _))).below hb2)
      clear hb2
      have v0 := (Vv.out 0 _ rfl).1
      have vf0 := (Vv.out 0 _ rfl).2
      have v1 := (Vv.out 1 _ rfl).1
      have vf1 := (Vv.out 1 _ rfl).2
      have v2 := (Vv.out 2 _ rfl).1
      have vf2 := (Vv.out 2 _ rfl).2
      have v3 := (Vv.out 3 _ rfl).1
      have vf3 := (Vv.out 3 _ rfl).2
      go_wp2_with fail
      refine (sPacketPut_yes f t n _ k cap cs _ GA.out HC.out).mono ?_
      rw [HS.out]
      rintro e w3 ⟨rfl, hb3⟩
      clear v0 vf0 v1 vf1 v2 vf2 v3 vf3
      have Vv := Lib.hid ((Vv.out).below hb3 ltv)
      have HB3 := Lib.hid (HB2.out.trans (hb3.mono HB2.out.size))
      have ltv : w1.heap.size < w3.heap.size := lt_of_cell (Vv.out 0 _ rfl).1
      have nev : ¬ w1.heap.size = w3.heap.size := by omega
      have GA := Lib.hid ((GA.out).below hb3)
      have EE := Lib.hid ((EE.out).below hb3)
      clear hb3
      go_wp2_with fail
      refine (packetGet_is e0 e1 e2 S f t n cs k _ (by omega) EE.out (pack_isS HC.out HS.out) hcl).mono ?_
      rintro e w4 ⟨x2, cap2, rfl, hg2, hb4⟩
      have Vv := Lib.hid ((Vv.out).below hb4 ltv)
      have HB4 := Lib.hid (HB3.out.trans (hb4.mono HB3.out.size))
      have ltv : w1.heap.size < w4.heap.size := lt_of_cell (Vv.out 0 _ rfl).1
      have nev : ¬ w1.heap.size = w4.heap.size := by omega
      have GA := Lib.hid ((GA.out).below hb4)
      have EE := Lib.hid ((EE.out).below hb4)
      clear hb4
      have G2 := Lib.hid hg2
      clear hg2
      have v0 := (Vv.out 0 _ rfl).1
      have vf0 := (Vv.out 0 _ rfl).2
      have v1 := (Vv.out 1 _ rfl).1
      have vf1 := (Vv.out 1 _ rfl).2
      have v2 := (Vv.out 2 _ rfl).1
      have vf2 := (Vv.out 2 _ rfl).2
      have v3 := (Vv.out 3 _ rfl).1
      have vf3 := (Vv.out 3 _ rfl).2
      go_wp2_with fail
      refine (samePacket_same f t n _ _ k cap2 cap cs _ ((G2.out).below (below_box (.cells (List.toArray [.int .i64 f, .int .i64 t, .int .i64 n, .slice (some ⟨x2, 0, none⟩) k cap2]) 25) (Nat.le_refl _))) ((GA.out).below (below_box (.cells (List.toArray [.int .i64 f, .int .i64 t, .int .i64 n, .slice (some ⟨x2, 0, none⟩) k cap2]) 25) (Nat.le_refl _)))).mono ?_
      rintro e w5 ⟨rfl, hb5⟩
      clear v0 vf0 v1 vf1 v2 vf2 v3 vf3
      have Vv := Lib.hid (((Vv.out).alloc (.cells (List.toArray [.int .i64 f, .int .i64 t, .int .i64 n, .slice (some ⟨x2, 0, none⟩) k cap2]) 25) (by omega)).below hb5 (by simp; omega))
      have Vx := Lib.hid ((VarN.new_at (w := w4) (d := w4.heap.size) (by simp) [.int .i64 f, .int .i64 t, .int .i64 n, .slice (some ⟨x2, 0, none⟩) k cap2] 25).below hb5 (by simp))
      have HB5 := Lib.hid (((HB4.out).alloc (Nat.le_trans HB4.out.size (by exact Nat.le_refl _)) (.cells (List.toArray [.int .i64 f, .int .i64 t, .int .i64 n, .slice (some ⟨x2, 0, none⟩) k cap2]) 25)).trans (hb5.mono (Nat.le_trans HB4.out.size (by simp <;> omega))))
      have ltv : w1.heap.size < w5.heap.size := lt_of_cell (Vv.out 0 _ rfl).1
      have ltx : w4.heap.size < w5.heap.size := lt_of_cell (Vx.out 0 _ rfl).1
      have nev : ¬ w1.heap.size = w5.heap.size := by omega
      have nex : ¬ w4.heap.size = w5.heap.size := by omega
      have GA := Lib.hid (((GA.out).below (below_box (.cells (List.toArray [.int .i64 f, .int .i64 t, .int .i64 n, .slice (some ⟨x2, 0, none⟩) k cap2]) 25) (Nat.le_refl _))).below hb5)
      have EE := Lib.hid (((EE.out).below (below_box (.cells (List.toArray [.int .i64 f, .int .i64 t, .int .i64 n, .slice (some ⟨x2, 0, none⟩) k cap2]) 25) (Nat.le_refl _))).below hb5)
      have G2 := Lib.hid (((G2.out).below (below_box (.cells (List.toArray [.int .i64 f, .int .i64 t, .int .i64 n, .slice (some ⟨x2, 0, none⟩) k cap2]) 25) (Nat.le_refl _))).below hb5)
      clear hb5
      go_wp2
      go_ret
      exact ⟨rfl, HB5.out⟩
    · have HC := Lib.hid hc
      clear hc
      go_wp2_with fail
      refine (packetPut_no f t n _ k cap cs _ ((GA.out).below (below_box (.cells (List.toArray [.int .i64 f, .int .i64 t, .int .i64 n, .slice (some ⟨g, 0, none⟩) k cap]) 25) (Nat.le_refl _))) HC.out).mono ?_
      rintro e w2 ⟨rfl, hb2⟩
      have Vv := Lib.hid ((VarN.new_at (w := w1) (d := w1.heap.size) (by simp) [.int .i64 f, .int .i64 t, .int .i64 n, .slice (some ⟨g, 0, none⟩) k cap] 25).below hb2 (by simp))
      have HB2 := Lib.hid (((hb1).alloc (Nat.le_trans hb1.size (by exact Nat.le_refl _)) (.cells (List.toArray [.int .i64 f, .int .i64 t, .int .i64 n, .slice (some ⟨g, 0, none⟩) k cap]) 25)).trans (hb2.mono (Nat.le_trans hb1.size (by simp <;> omega))))
      have ltv : w1.heap.size < w2.heap.size := lt_of_cell (Vv.out 0 _ rfl).1
      have nev : ¬ w1.heap.size = w2.heap.size := by omega
      have GA := Lib.hid (((GA.out).below (below_box (.cells (List.toArray [.int .i64 f, .int .i64 t, .int .i64 n, .slice (some ⟨g, 0, none⟩) k cap]) 25) (Nat.le_refl _))).below hb2)
      have EE := Lib.hid (((EE.out).below (below_box (.cells (List.toArray [.int .i64 f, .int .i64 t, .int .i64 n, .slice (some ⟨g, 0, none⟩) k cap]) 25) (Nat.le_refl _))).below hb2)
      clear hb2
      have v0 := (Vv.out 0 _ rfl).1
      have vf0 := (Vv.out 0 _ rfl).2
      have v1 := (Vv.out 1 _ rfl).1
      have vf1 := (Vv.out 1 _ rfl).2
      have v2 := (Vv.out 2 _ rfl).1
      have vf2 := (Vv.out 2 _ rfl).2
      have v3 := (Vv.out 3 _ rfl).1
      have vf3 := (Vv.out 3 _ rfl).2
      go_wp2_with fail
      refine (sPacketPut_no f t n _ k cap cs _ GA.out HC.out).mono ?_
      rintro e w3 ⟨rfl, hb3⟩
      clear v0 vf0 v1 vf1 v2 vf2 v3 vf3
      have Vv := Lib.hid ((Vv.out).below hb3 ltv)
      have HB3 := Lib.hid (HB2.out.trans (hb3.mono HB2.out.size))
      have ltv : w1.heap.size < w3.heap.size := lt_of_cell (Vv.out 0 _ rfl).1
      have nev : ¬ w1.heap.size = w3.heap.size := by omega
      have GA := Lib.hid ((GA.out).below hb3)
      have EE := Lib.hid ((EE.out).below hb3)
      clear hb3
      go_wp2
      go_ret
      exact ⟨rfl, HB3.out⟩

set_option maxHeartbeats 4000000 in
theorem walk_fnPacketGet (a0 : Option Addr) (len0 cap0 : Nat) (z0 : List Int) (w : World) (w0 : IsRow .u8 w a0 len0 cap0 z0) (hE : ErrsAny w) :
    Calls Tryd.prog 4 #[.slice a0 len0 cap0] w fun e w' => e = .returned (.bool true) ∧ Below w.heap.size w w' := by
  have H := Lib.hid w0
  clear w0
  obtain ⟨e0, e1, e2, hE⟩ := hE
  have HE := Lib.hid hE
  clear hE
  by_cases hl : (1048576 : Int) < len0
  · go_enter Tryd.func4, Tryd.ntmps4
    go_wp2
    go_ret
    exact ⟨rfl, Below.refl _ _⟩
  · go_enter Tryd.func4, Tryd.ntmps4
    go_wp2_with fail
    refine (drawPacketGet_any a0 len0 cap0 z0 _ H.out).mono ?_
    rintro e w1 ⟨s, rfl, hsz, hb1⟩
    have EE := Lib.hid (HE.out.below hb1)
    have hs8 : s.size ≤ 100000000 := by omega
    clear HE
    by_cases hc : IsPack s
    · obtain ⟨f, t, n, cs, hp⟩ := hc
      obtain ⟨k, hk⟩ : ∃ k, cs.length = k := ⟨_, rfl⟩
      have HK := Lib.hid hp
      have HL := Lib.hid hk
      clear hp hk
      go_wp2_with fail
      refine (packetGet_is e0 e1 e2 s f t n cs k _ hs8 EE.out HK.out HL.out).mono ?_
      rintro e w2 ⟨x1, cap1, rfl, hg1, hb2⟩
      have HB2 := Lib.hid (hb1.trans (hb2.mono hb1.size))
      have EE := Lib.hid ((EE.out).below hb2)
      clear hb2
      have G1 := Lib.hid hg1
      clear hg1
      go_wp2_with fail
      refine (sPacketGet_is s f t n cs k _ hs8 HK.out HL.out).mono ?_
      rintro e w3 ⟨x2, cap2, rfl, hg2, hb3⟩
      have Vo := Lib.hid ((VarN.new_at (w := w2) (d := w2.heap.size) (by simp) [.int .i64 f, .int .i64 t, .int .i64 n, .slice (some ⟨x1, 0, none⟩) k cap1] 25).below hb3 (by simp))
      have HB3 := Lib.hid (((HB2.out).alloc (Nat.le_trans HB2.out.size (by exact Nat.le_refl _)) (.cells (List.toArray [.int .i64 f, .int .i64 t, .int .i64 n, .slice (some ⟨x1, 0, none⟩) k cap1]) 25)).trans (hb3.mono (Nat.le_trans HB2.out.size (by simp <;> omega))))
      have lto : w2.heap.size < w3.heap.size := lt_of_cell (Vo.out 0 _ rfl).1
      have neo : ¬ w2.heap.size = w3.heap.size := by omega
      have EE := Lib.hid (((EE.out).below (below_box (.cells (List.toArray [.int .i64 f, .int .i64 t, .int .i64 n, .slice (some ⟨x1, 0, none⟩) k cap1]) 25) (Nat.le_refl _))).below hb3)
      have G1 := Lib.hid (((G1.out).below (below_box (.cells (List.toArray [.int .i64 f, .int .i64 t, .int .i64 n, .slice (some ⟨x1, 0, none⟩) k cap1]) 25) (Nat.le_refl _))).below hb3)
      clear hb3
      have G2 := Lib.hid hg2
      clear hg2
      have o0 := (Vo.out 0 _ rfl).1
      have of0 := (Vo.out 0 _ rfl).2
      have o1 := (Vo.out 1 _ rfl).1
      have of1 := (Vo.out 1 _ rfl).2
      have o2 := (Vo.out 2 _ rfl).1
      have of2 := (Vo.out 2 _ rfl).2
      have o3 := (Vo.out 3 _ rfl).1
      have of3 := (Vo.out 3 _ rfl).2
      go_wp2_with fail
      refine (samePacket_same f t n _ _ k cap1 cap2 cs _ ((G1.out).below (below_box (.cells (List.toArray [.int .i64 f, .int .i64 t, .int .i64 n, .slice (some ⟨x2, 0, none⟩) k cap2]) 25) (Nat.le_refl _))) ((G2.out).below (below_box (.cells (List.toArray [.int .i64 f, .int .i64 t, .int .i64 n, .slice (some ⟨x2, 0, none⟩) k cap2]) 25) (Nat.le_refl _)))).mono ?_
      rintro e w4 ⟨rfl, hb4⟩
      clear o0 of0 o1 of1 o2 of2 o3 of3
      have Vo := Lib.hid (((Vo.out).alloc (.cells (List.toArray [.int .i64 f, .int .i64 t, .int .i64 n, .slice (some ⟨x2, 0, none⟩) k cap2]) 25) (by omega)).below hb4 (by simp; omega))
      have Vq := Lib.hid ((VarN.new_at (w := w3) (d := w3.heap.size) (by simp) [.int .i64 f, .int .i64 t, .int .i64 n, .slice (some ⟨x2, 0, none⟩) k cap2] 25).below hb4 (by simp))
      have HB4 := Lib.hid (((HB3.out).alloc (Nat.le_trans HB3.out.size (by exact Nat.le_refl _)) (.cells (List.toArray [.int .i64 f, .int .i64 t, .int .i64 n, .slice (some ⟨x2, 0, none⟩) k cap2]) 25)).trans (hb4.mono (Nat.le_trans HB3.out.size (by simp <;> omega))))
      have lto : w2.heap.size < w4.heap.size := lt_of_cell (Vo.out 0 _ rfl).1
      have ltq : w3.heap.size < w4.heap.size := lt_of_cell (Vq.out 0 _ rfl).1
      have neo : ¬ w2.heap.size = w4.heap.size := by omega
      have neq : ¬ w3.heap.size = w4.heap.size := by omega
      have EE := Lib.hid (((EE.out).below (below_box (.cells (List.toArray [.int .i64 f, .int .i64 t, .int .i64 n, .slice (some ⟨x2, 0, none⟩) k cap2]) 25) (Nat.le_refl _))).below hb4)
      have G1 := Lib.hid (((G1.out).below (below_box (.cells (List.toArray [.int .i64 f, .int .i64 t, .int .i64 n, .slice (some ⟨x2, 0, none⟩) k cap2]) 25) (Nat.le_refl _))).below hb4)
      have G2 := Lib.hid (((G2.out).below (below_box (.cells (List.toArray [.int .i64 f, .int .i64 t, .int .i64 n, .slice (some ⟨x2, 0, none⟩) k cap2]) 25) (Nat.le_refl _))).below hb4)
      clear hb4
      have HB := Lib.hid (pack_back HK.out).symm
      have o0 := (Vo.out 0 _ rfl).1
      have of0 := (Vo.out 0 _ rfl).2
      have o1 := (Vo.out 1 _ rfl).1
      have of1 := (Vo.out 1 _ rfl).2
      have o2 := (Vo.out 2 _ rfl).1
      have of2 := (Vo.out 2 _ rfl).2
      have o3 := (Vo.out 3 _ rfl).1
      have of3 := (Vo.out 3 _ rfl).2
      have q0 := (Vq.out 0 _ rfl).1
      have qf0 := (Vq.out 0 _ rfl).2
      have q1 := (Vq.out 1 _ rfl).1
      have qf1 := (Vq.out 1 _ rfl).2
      have q2 := (Vq.out 2 _ rfl).1
      have qf2 := (Vq.out 2 _ rfl).2
      have q3 := (Vq.out 3 _ rfl).1
      have qf3 := (Vq.out 3 _ rfl).2
      go_wp2_with fail
      refine (packetPut_yes f t n _ k cap1 cs _ G1.out (pack_ok HK.out)).mono ?_
      rw [HB.out]
      rintro e w5 ⟨rfl, hb5⟩
      clear o0 of0 o1 of1 o2 of2 o3 of3 q0 qf0 q1 qf1 q2 qf2 q3 qf3
      have Vo := Lib.hid ((Vo.out).below hb5 lto)
      have Vq := Lib.hid ((Vq.out).below hb5 ltq)
      have HB5 := Lib.hid (HB4.out.trans (hb5.mono HB4.out.size))
      have lto : w2.heap.size < w5.heap.size := lt_of_cell (Vo.out 0 _ rfl).1
      have ltq : w3.heap.size < w5.heap.size := lt_of_cell (Vq.out 0 _ rfl).1
      have neo : ¬ w2.heap.size = w5.heap.size := by omega
      have neq : ¬ w3.heap.size = w5.heap.size := by omega
      have EE := Lib.hid ((EE.out).below hb5)
      have G1 := Lib.hid ((G1.out).below hb5)
      have G2 := Lib.hid ((G2.out).below hb5)
      clear hb5
      go_wp2
      go_ret
      exact ⟨rfl, HB5.out⟩
    · have HN := Lib.hid hc
      obtain ⟨c, hcc⟩ : ∃ c, codeOf s = c := ⟨_, rfl⟩
      have HC := Lib.hid hcc
      have cn0 : c ≠ 0 := hcc ▸ codeOf_ne s
      have cn : (c != 0) = true := by simpa using cn0
      have ce : (c == 0) = false := by simpa using cn0
      clear hc hcc cn0
      go_wp2_with fail
      refine (packetGet_not e0 e1 e2 s _ hs8 EE.out HN.out).mono ?_
      rw [HC.out]
      rintro e w2 ⟨rfl, hb2⟩
      have HB2 := Lib.hid (hb1.trans (hb2.mono hb1.size))
      have EE := Lib.hid ((EE.out).below hb2)
      clear hb2
      unfold noPackV
      go_wp2_with fail
      refine (sPacketGet_not s _ hs8 HN.out).mono ?_
      rw [HC.out]
      rintro e w3 ⟨rfl, hb3⟩
      have Vo := Lib.hid ((VarN.new_at (w := w2) (d := w2.heap.size) (by simp) [.int .i64 0, .int .i64 0, .int .i64 0, .slice none 0 0] 25).below hb3 (by simp))
      have HB3 := Lib.hid (((HB2.out).alloc (Nat.le_trans HB2.out.size (by exact Nat.le_refl _)) (.cells (List.toArray [.int .i64 0, .int .i64 0, .int .i64 0, .slice none 0 0]) 25)).trans (hb3.mono (Nat.le_trans HB2.out.size (by simp <;> omega))))
      have lto : w2.heap.size < w3.heap.size := lt_of_cell (Vo.out 0 _ rfl).1
      have neo : ¬ w2.heap.size = w3.heap.size := by omega
      have EE := Lib.hid (((EE.out).below (below_box (.cells (List.toArray [.int .i64 0, .int .i64 0, .int .i64 0, .slice none 0 0]) 25) (Nat.le_refl _))).below hb3)
      clear hb3
      unfold noPackV
      have o0 := (Vo.out 0 _ rfl).1
      have of0 := (Vo.out 0 _ rfl).2
      have o1 := (Vo.out 1 _ rfl).1
      have of1 := (Vo.out 1 _ rfl).2
      have o2 := (Vo.out 2 _ rfl).1
      have of2 := (Vo.out 2 _ rfl).2
      have o3 := (Vo.out 3 _ rfl).1
      have of3 := (Vo.out 3 _ rfl).2
      go_wp2_with fail
      refine (samePacket_none _).mono ?_
      rintro e w4 ⟨rfl, hb4⟩
      clear o0 of0 o1 of1 o2 of2 o3 of3
      have Vo := Lib.hid (((Vo.out).alloc (.cells (List.toArray [.int .i64 0, .int .i64 0, .int .i64 0, .slice none 0 0]) 25) (by omega)).below hb4 (by simp; omega))
      have Vq := Lib.hid ((VarN.new_at (w := w3) (d := w3.heap.size) (by simp) [.int .i64 0, .int .i64 0, .int .i64 0, .slice none 0 0] 25).below hb4 (by simp))
      have HB4 := Lib.hid (((HB3.out).alloc (Nat.le_trans HB3.out.size (by exact Nat.le_refl _)) (.cells (List.toArray [.int .i64 0, .int .i64 0, .int .i64 0, .slice none 0 0]) 25)).trans (hb4.mono (Nat.le_trans HB3.out.size (by simp <;> omega))))
      have lto : w2.heap.size < w4.heap.size := lt_of_cell (Vo.out 0 _ rfl).1
      have ltq : w3.heap.size < w4.heap.size := lt_of_cell (Vq.out 0 _ rfl).1
      have neo : ¬ w2.heap.size = w4.heap.size := by omega
      have neq : ¬ w3.heap.size = w4.heap.size := by omega
      have EE := Lib.hid (((EE.out).below (below_box (.cells (List.toArray [.int .i64 0, .int .i64 0, .int .i64 0, .slice none 0 0]) 25) (Nat.le_refl _))).below hb4)
      clear hb4
      have o0 := (Vo.out 0 _ rfl).1
      have of0 := (Vo.out 0 _ rfl).2
      have o1 := (Vo.out 1 _ rfl).1
      have of1 := (Vo.out 1 _ rfl).2
      have o2 := (Vo.out 2 _ rfl).1
      have of2 := (Vo.out 2 _ rfl).2
      have o3 := (Vo.out 3 _ rfl).1
      have of3 := (Vo.out 3 _ rfl).2
      have q0 := (Vq.out 0 _ rfl).1
      have qf0 := (Vq.out 0 _ rfl).2
      have q1 := (Vq.out 1 _ rfl).1
      have qf1 := (Vq.out 1 _ rfl).2
      have q2 := (Vq.out 2 _ rfl).1
      have qf2 := (Vq.out 2 _ rfl).2
      have q3 := (Vq.out 3 _ rfl).1
      have qf3 := (Vq.out 3 _ rfl).2
      go_wp2_with fail
      refine (samePacket_none _).mono ?_
      rintro e w5 ⟨rfl, hb5⟩
      clear o0 of0 o1 of1 o2 of2 o3 of3 q0 qf0 q1 qf1 q2 qf2 q3 qf3
      have Vo := Lib.hid ((Vo.out).below hb5 lto)
      have Vq := Lib.hid ((Vq.out).below hb5 ltq)
      have HB5 := Lib.hid (HB4.out.trans (hb5.mono HB4.out.size))
      have lto : w2.heap.size < w5.heap.size := lt_of_cell (Vo.out 0 _ rfl).1
      have ltq : w3.heap.size < w5.heap.size := lt_of_cell (Vq.out 0 _ rfl).1
      have neo : ¬ w2.heap.size = w5.heap.size := by omega
      have neq : ¬ w3.heap.size = w5.heap.size := by omega
      have EE := Lib.hid ((EE.out).below hb5)
      clear hb5
      go_wp2
      go_ret
      exact ⟨rfl, HB5.out⟩

set_option maxHeartbeats 4000000 in
theorem walk_fnPacketShort (a0 : Option Addr) (len0 cap0 : Nat) (z0 : List Int) (w : World) (w0 : IsRow .u8 w a0 len0 cap0 z0) (hE : ErrsAny w) :
    Calls Tryd.prog 5 #[.slice a0 len0 cap0] w fun e w' => e = .returned (.bool true) ∧ Below w.heap.size w w' := by
  have H := Lib.hid w0
  clear w0
  obtain ⟨e0, e1, e2, hE⟩ := hE
  have HE := Lib.hid hE
  clear hE
  by_cases hl : (1048576 : Int) < len0
  · go_enter Tryd.func5, Tryd.ntmps5
    go_wp2
    go_ret
    exact ⟨rfl, Below.refl _ _⟩
  · go_enter Tryd.func5, Tryd.ntmps5
    go_wp2_with fail
    refine (drawPacketGet_any a0 len0 cap0 z0 _ H.out).mono ?_
    rintro e w1 ⟨s, rfl, hsz, hb1⟩
    have EE := Lib.hid (HE.out.below hb1)
    have hs8 : s.size ≤ 100000000 := by omega
    clear HE
    by_cases hc : IsPack s
    · obtain ⟨f, t, n, cs, hp⟩ := hc
      obtain ⟨k, hk⟩ : ∃ k, cs.length = k := ⟨_, rfl⟩
      have HK := Lib.hid hp
      have HL := Lib.hid hk
      clear hp hk
      go_wp2_with fail
      refine (packetGet_is e0 e1 e2 s f t n cs k _ hs8 EE.out HK.out HL.out).mono ?_
      rintro e w2 ⟨x1, cap1, rfl, hg1, hb2⟩
      have HB2 := Lib.hid (hb1.trans (hb2.mono hb1.size))
      have EE := Lib.hid ((EE.out).below hb2)
      clear hb2
      have G1 := Lib.hid hg1
      clear hg1
      go_wp2_with fail
      refine (sPacketGet_is s f t n cs k _ hs8 HK.out HL.out).mono ?_
      rintro e w3 ⟨x2, cap2, rfl, hg2, hb3⟩
      have Vo := Lib.hid ((VarN.new_at (w := w2) (d := w2.heap.size) (by simp) [.int .i64 f, .int .i64 t, .int .i64 n, .slice (some ⟨x1, 0, none⟩) k cap1] 25).below hb3 (by simp))
      have HB3 := Lib.hid (((HB2.out).alloc (Nat.le_trans HB2.out.size (by exact Nat.le_refl _)) (.cells (List.toArray [.int .i64 f, .int .i64 t, .int .i64 n, .slice (some ⟨x1, 0, none⟩) k cap1]) 25)).trans (hb3.mono (Nat.le_trans HB2.out.size (by simp <;> omega))))
      have lto : w2.heap.size < w3.heap.size := lt_of_cell (Vo.out 0 _ rfl).1
      have neo : ¬ w2.heap.size = w3.heap.size := by omega
      have EE := Lib.hid (((EE.out).below (below_box (.cells (List.toArray [.int .i64 f, .int .i64 t, .int .i64 n, .slice (some ⟨x1, 0, none⟩) k cap1]) 25) (Nat.le_refl _))).below hb3)
      have G1 := Lib.hid (((G1.out).below (below_box (.cells (List.toArray [.int .i64 f, .int .i64 t, .int .i64 n, .slice (some ⟨x1, 0, none⟩) k cap1]) 25) (Nat.le_refl _))).below hb3)
      clear hb3
      have G2 := Lib.hid hg2
      clear hg2
      have o0 := (Vo.out 0 _ rfl).1
      have of0 := (Vo.out 0 _ rfl).2
      have o1 := (Vo.out 1 _ rfl).1
      have of1 := (Vo.out 1 _ rfl).2
      have o2 := (Vo.out 2 _ rfl).1
      have of2 := (Vo.out 2 _ rfl).2
      have o3 := (Vo.out 3 _ rfl).1
      have of3 := (Vo.out 3 _ rfl).2
      go_wp2_with fail
      refine (samePacket_same f t n _ _ k cap1 cap2 cs _ ((G1.out).below (below_box (.cells (List.toArray [.int .i64 f, .int .i64 t, .int .i64 n, .slice (some ⟨x2, 0, none⟩) k cap2]) 25) (Nat.le_refl _))) ((G2.out).below (below_box (.cells (List.toArray [.int .i64 f, .int .i64 t, .int .i64 n, .slice (some ⟨x2, 0, none⟩) k cap2]) 25) (Nat.le_refl _)))).mono ?_
      rintro e w4 ⟨rfl, hb4⟩
      clear o0 of0 o1 of1 o2 of2 o3 of3
      have Vo := Lib.hid (((Vo.out).alloc (.cells (List.toArray [.int .i64 f, .int .i64 t, .int .i64 n, .slice (some ⟨x2, 0, none⟩) k cap2]) 25) (by omega)).below hb4 (by simp; omega))
      have Vq := Lib.hid ((VarN.new_at (w := w3) (d := w3.heap.size) (by simp) [.int .i64 f, .int .i64 t, .int .i64 n, .slice (some ⟨x2, 0, none⟩) k cap2] 25).below hb4 (by simp))
      have HB4 := Lib.hid (((HB3.out).alloc (Nat.le_trans HB3.out.size (by exact Nat.le_refl _)) (.cells (List.toArray [.int .i64 f, .int .i64 t, .int .i64 n, .slice (some ⟨x2, 0, none⟩) k cap2]) 25)).trans (hb4.mono (Nat.le_trans HB3.out.size (by simp <;> omega))))
      have lto : w2.heap.size < w4.heap.size := lt_of_cell (Vo.out 0 _ rfl).1
      have ltq : w3.heap.size < w4.heap.size := lt_of_cell (Vq.out 0 _ rfl).1
      have neo : ¬ w2.heap.size = w4.heap.size := by omega
      have neq : ¬ w3.heap.size = w4.heap.size := by omega
      have EE := Lib.hid (((EE.out).below (below_box (.cells (List.toArray [.int .i64 f, .int .i64 t, .int .i64 n, .slice (some ⟨x2, 0, none⟩) k cap2]) 25) (Nat.le_refl _))).below hb4)
      have G1 := Lib.hid (((G1.out).below (below_box (.cells (List.toArray [.int .i64 f, .int .i64 t, .int .i64 n, .slice (some ⟨x2, 0, none⟩) k cap2]) 25) (Nat.le_refl _))).below hb4)
      have G2 := Lib.hid (((G2.out).below (below_box (.cells (List.toArray [.int .i64 f, .int .i64 t, .int .i64 n, .slice (some ⟨x2, 0, none⟩) k cap2]) 25) (Nat.le_refl _))).below hb4)
      clear hb4
      have o0 := (Vo.out 0 _ rfl).1
      have of0 := (Vo.out 0 _ rfl).2
      have o1 := (Vo.out 1 _ rfl).1
      have of1 := (Vo.out 1 _ rfl).2
      have o2 := (Vo.out 2 _ rfl).1
      have of2 := (Vo.out 2 _ rfl).2
      have o3 := (Vo.out 3 _ rfl).1
      have of3 := (Vo.out 3 _ rfl).2
      have q0 := (Vq.out 0 _ rfl).1
      have qf0 := (Vq.out 0 _ rfl).2
      have q1 := (Vq.out 1 _ rfl).1
      have qf1 := (Vq.out 1 _ rfl).2
      have q2 := (Vq.out 2 _ rfl).1
      have qf2 := (Vq.out 2 _ rfl).2
      have q3 := (Vq.out 3 _ rfl).1
      have qf3 := (Vq.out 3 _ rfl).2
      have c12 : decide ((s.size : Int) < 12) = false := decide_eq_false (by have := HK.out.1; omega)
      go_wp2
      go_ret
      exact ⟨rfl, HB4.out⟩
    · by_cases h12 : s.size < 12
      · have HN := Lib.hid hc
        have HC := Lib.hid (codeOf_short h12)
        have c12 : (s.size : Int) < 12 := by omega
        clear hc h12
        go_wp2_with fail
        refine (packetGet_not e0 e1 e2 s _ hs8 EE.out HN.out).mono ?_
        rw [HC.out]
        rintro e w2 ⟨rfl, hb2⟩
        have HB2 := Lib.hid (hb1.trans (hb2.mono hb1.size))
        have EE := Lib.hid ((EE.out).below hb2)
        clear hb2
        unfold noPackV
        go_wp2_with fail
        refine (sPacketGet_not s _ hs8 HN.out).mono ?_
        rw [HC.out]
        rintro e w3 ⟨rfl, hb3⟩
        have Vo := Lib.hid ((VarN.new_at (w := w2) (d := w2.heap.size) (by simp) [.int .i64 0, .int .i64 0, .int .i64 0, .slice none 0 0] 25).below hb3 (by simp))
        have HB3 := Lib.hid (((HB2.out).alloc (Nat.le_trans HB2.out.size (by exact Nat.le_refl _)) (.cells (List.toArray [.int .i64 0, .int .i64 0, .int .i64 0, .slice none 0 0]) 25)).trans (hb3.mono (Nat.le_trans HB2.out.size (by simp <;> omega))))
        have lto : w2.heap.size < w3.heap.size := lt_of_cell (Vo.out 0 _ rfl).1
        have neo : ¬ w2.heap.size = w3.heap.size := by omega
        have EE := Lib.hid (((EE.out).below (below_box (.cells (List.toArray [.int .i64 0, .int .i64 0, .int .i64 0, .slice none 0 0]) 25) (Nat.le_refl _))).below hb3)
        clear hb3
        unfold noPackV
        have o0 := (Vo.out 0 _ rfl).1
        have of0 := (Vo.out 0 _ rfl).2
        have o1 := (Vo.out 1 _ rfl).1
        have of1 := (Vo.out 1 _ rfl).2
        have o2 := (Vo.out 2 _ rfl).1
        have of2 := (Vo.out 2 _ rfl).2
        have o3 := (Vo.out 3 _ rfl).1
        have of3 := (Vo.out 3 _ rfl).2
        go_wp2_with fail
        refine (samePacket_none _).mono ?_
        rintro e w4 ⟨rfl, hb4⟩
        clear o0 of0 o1 of1 o2 of2 o3 of3
        have Vo := Lib.hid (((Vo.out).alloc (.cells (List.toArray [.int .i64 0, .int .i64 0, .int .i64 0, .slice none 0 0]) 25) (by omega)).below hb4 (by simp; omega))
        have Vq := Lib.hid ((VarN.new_at (w := w3) (d := w3.heap.size) (by simp) [.int .i64 0, .int .i64 0, .int .i64 0, .slice none 0 0] 25).below hb4 (by simp))
        have HB4 := Lib.hid (((HB3.out).alloc (Nat.le_trans HB3.out.size (by exact Nat.le_refl _)) (.cells (List.toArray [.int .i64 0, .int .i64 0, .int .i64 0, .slice none 0 0]) 25)).trans (hb4.mono (Nat.le_trans HB3.out.size (by simp <;> omega))))
        have lto : w2.heap.size < w4.heap.size := lt_of_cell (Vo.out 0 _ rfl).1
        have ltq : w3.heap.size < w4.heap.size := lt_of_cell (Vq.out 0 _ rfl).1
        have neo : ¬ w2.heap.size = w4.heap.size := by omega
        have neq : ¬ w3.heap.size = w4.heap.size := by omega
        have EE := Lib.hid (((EE.out).below (below_box (.cells (List.toArray [.int .i64 0, .int .i64 0, .int .i64 0, .slice none 0 0]) 25) (Nat.le_refl _))).below hb4)
        clear hb4
        have o0 := (Vo.out 0 _ rfl).1
        have of0 := (Vo.out 0 _ rfl).2
        have o1 := (Vo.out 1 _ rfl).1
        have of1 := (Vo.out 1 _ rfl).2
        have o2 := (Vo.out 2 _ rfl).1
        have of2 := (Vo.out 2 _ rfl).2
        have o3 := (Vo.out 3 _ rfl).1
        have of3 := (Vo.out 3 _ rfl).2
        have q0 := (Vq.out 0 _ rfl).1
        have qf0 := (Vq.out 0 _ rfl).2
        have q1 := (Vq.out 1 _ rfl).1
        have qf1 := (Vq.out 1 _ rfl).2
        have q2 := (Vq.out 2 _ rfl).1
        have qf2 := (Vq.out 2 _ rfl).2
        have q3 := (Vq.out 3 _ rfl).1
        have qf3 := (Vq.out 3 _ rfl).2
        go_wp2_with fail
        refine (samePacket_none _).mono ?_
        rintro e w5 ⟨rfl, hb5⟩
        clear o0 of0 o1 of1 o2 of2 o3 of3 q0 qf0 q1 qf1 q2 qf2 q3 qf3
        have Vo := Lib.hid ((Vo.out).below hb5 lto)
        have Vq := Lib.hid ((Vq.out).below hb5 ltq)
        have HB5 := Lib.hid (HB4.out.trans (hb5.mono HB4.out.size))
        have lto : w2.heap.size < w5.heap.size := lt_of_cell (Vo.out 0 _ rfl).1
        have ltq : w3.heap.size < w5.heap.size := lt_of_cell (Vq.out 0 _ rfl).1
        have neo : ¬ w2.heap.size = w5.heap.size := by omega
        have neq : ¬ w3.heap.size = w5.heap.size := by omega
        have EE := Lib.hid ((EE.out).below hb5)
        clear hb5
        go_wp2
        go_ret
        exact ⟨rfl, HB5.out⟩
      · have HN := Lib.hid hc
        obtain ⟨c, hcc⟩ : ∃ c, codeOf s = c := ⟨_, rfl⟩
        have HC := Lib.hid hcc
        have cn0 : c ≠ 0 := hcc ▸ codeOf_ne s
        have cn : (c != 0) = true := by simpa using cn0
        have ce : (c == 0) = false := by simpa using cn0
        have HC3 : (c == 1) = false := by rw [← hcc]; unfold codeOf; rw [if_neg h12]; split <;> decide
        have c12 : decide ((s.size : Int) < 12) = false := decide_eq_false (by omega)
        clear hc hcc cn0 h12
        go_wp2_with fail
        refine (packetGet_not e0 e1 e2 s _ hs8 EE.out HN.out).mono ?_
        rw [HC.out]
        rintro e w2 ⟨rfl, hb2⟩
        have HB2 := Lib.hid (hb1.trans (hb2.mono hb1.size))
        have EE := Lib.hid ((EE.out).below hb2)
        clear hb2
        unfold noPackV
        go_wp2_with fail
        refine (sPacketGet_not s _ hs8 HN.out).mono ?_
        rw [HC.out]
        rintro e w3 ⟨rfl, hb3⟩
        have Vo := Lib.hid ((VarN.new_at (w := w2) (d := w2.heap.size) (by simp) [.int .i64 0, .int .i64 0, .int .i64 0, .slice none 0 0] 25).below hb3 (by simp))
        have HB3 := Lib.hid (((HB2.out).alloc (Nat.le_trans HB2.out.size (by exact Nat.le_refl _)) (.cells (List.toArray [.int .i64 0, .int .i64 0, .int .i64 0, .slice none 0 0]) 25)).trans (hb3.mono (Nat.le_trans HB2.out.size (by simp <;> omega))))
        have lto : w2.heap.size < w3.heap.size := lt_of_cell (Vo.out 0 _ rfl).1
        have neo : ¬ w2.heap.size = w3.heap.size := by omega
        have EE := Lib.hid (((EE.out).below (below_box (.cells (List.toArray [.int .i64 0, .int .i64 0, .int .i64 0, .slice none 0 0]) 25) (Nat.le_refl _))).below hb3)
        clear hb3
        unfold noPackV
        have o0 := (Vo.out 0 _ rfl).1
        have of0 := (Vo.out 0 _ rfl).2
        have o1 := (Vo.out 1 _ rfl).1
        have of1 := (Vo.out 1 _ rfl).2
        have o2 := (Vo.out 2 _ rfl).1
        have of2 := (Vo.out 2 _ rfl).2
        have o3 := (Vo.out 3 _ rfl).1
        have of3 := (Vo.out 3 _ rfl).2
        go_wp2_with fail
        refine (samePacket_none _).mono ?_
        rintro e w4 ⟨rfl, hb4⟩
        clear o0 of0 o1 of1 o2 of2 o3 of3
        have Vo := Lib.hid (((Vo.out).alloc (.cells (List.toArray [.int .i64 0, .int .i64 0, .int .i64 0, .slice none 0 0]) 25) (by omega)).below hb4 (by simp; omega))
        have Vq := Lib.hid ((VarN.new_at (w := w3) (d := w3.heap.size) (by simp) [.int .i64 0, .int .i64 0, .int .i64 0, .slice none 0 0] 25).below hb4 (by simp))
        have HB4 := Lib.hid (((HB3.out).alloc (Nat.le_trans HB3.out.size (by exact Nat.le_refl _)) (.cells (List.toArray [.int .i64 0, .int .i64 0, .int .i64 0, .slice none 0 0]) 25)).trans (hb4.mono (Nat.le_trans HB3.out.size (by simp <;> omega))))
        have lto : w2.heap.size < w4.heap.size := lt_of_cell (Vo.out 0 _ rfl).1
        have ltq : w3.heap.size < w4.heap.size := lt_of_cell (Vq.out 0 _ rfl).1
        have neo : ¬ w2.heap.size = w4.heap.size := by omega
        have neq : ¬ w3.heap.size = w4.heap.size := by omega
        have EE := Lib.hid (((EE.out).below (below_box (.cells (List.toArray [.int .i64 0, .int .i64 0, .int .i64 0, .slice none 0 0]) 25) (Nat.le_refl _))).below hb4)
        clear hb4
        have o0 := (Vo.out 0 _ rfl).1
        have of0 := (Vo.out 0 _ rfl).2
        have o1 := (Vo.out 1 _ rfl).1
        have of1 := (Vo.out 1 _ rfl).2
        have o2 := (Vo.out 2 _ rfl).1
        have of2 := (Vo.out 2 _ rfl).2
        have o3 := (Vo.out 3 _ rfl).1
        have of3 := (Vo.out 3 _ rfl).2
        have q0 := (Vq.out 0 _ rfl).1
        have qf0 := (Vq.out 0 _ rfl).2
        have q1 := (Vq.out 1 _ rfl).1
        have qf1 := (Vq.out 1 _ rfl).2
        have q2 := (Vq.out 2 _ rfl).1
        have qf2 := (Vq.out 2 _ rfl).2
        have q3 := (Vq.out 3 _ rfl).1
        have qf3 := (Vq.out 3 _ rfl).2
        go_wp2_with fail
        refine (samePacket_none _).mono ?_
        rintro e w5 ⟨rfl, hb5⟩
        clear o0 of0 o1 of1 o2 of2 o3 of3 q0 qf0 q1 qf1 q2 qf2 q3 qf3
        have Vo := Lib.hid ((Vo.out).below hb5 lto)
        have Vq := Lib.hid ((Vq.out).below hb5 ltq)
        have HB5 := Lib.hid (HB4.out.trans (hb5.mono HB4.out.size))
        have lto : w2.heap.size < w5.heap.size := lt_of_cell (Vo.out 0 _ rfl).1
        have ltq : w3.heap.size < w5.heap.size := lt_of_cell (Vq.out 0 _ rfl).1
        have neo : ¬ w2.heap.size = w5.heap.size := by omega
        have neq : ¬ w3.heap.size = w5.heap.size := by omega
        have EE := Lib.hid ((EE.out).below hb5)
        clear hb5
        go_wp2
        go_ret
        exact ⟨rfl, HB5.out⟩

set_option maxHeartbeats 4000000 in
theorem walk_fnPacketCut (a0 : Option Addr) (len0 cap0 : Nat) (z0 : List Int) (w : World) (w0 : IsRow .u8 w a0 len0 cap0 z0) (hE : ErrsAny w) :
    Calls Tryd.prog 8 #[.slice a0 len0 cap0] w fun e w' => e = .returned (.bool true) ∧ Below w.heap.size w w' := by
  have H := Lib.hid w0
  clear w0
  obtain ⟨e0, e1, e2, hE⟩ := hE
  have HE := Lib.hid hE
  clear hE
  by_cases hl : (1048576 : Int) < len0
  · go_enter Tryd.func8, Tryd.ntmps8
    go_wp2
    go_ret
    exact ⟨rfl, Below.refl _ _⟩
  · go_enter Tryd.func8, Tryd.ntmps8
    go_wp2_with fail
    refine (drawPacketGet_any a0 len0 cap0 z0 _ H.out).mono ?_
    rintro e w1 ⟨s, rfl, hsz, hb1⟩
    have EE := Lib.hid (HE.out.below hb1)
    have hs8 : s.size ≤ 100000000 := by omega
    clear HE
    by_cases hc : IsPack s
    · obtain ⟨f, t, n, cs, hp⟩ := hc
      obtain ⟨k, hk⟩ : ∃ k, cs.length = k := ⟨_, rfl⟩
      have HK := Lib.hid hp
      have HL := Lib.hid hk
      clear hp hk
      go_wp2_with fail
      refine (packetGet_is e0 e1 e2 s f t n cs k _ hs8 EE.out HK.out HL.out).mono ?_
      rintro e w2 ⟨x1, cap1, rfl, hg1, hb2⟩
      have HB2 := Lib.hid (hb1.trans (hb2.mono hb1.size))
      have EE := Lib.hid ((EE.out).below hb2)
      clear hb2
      have G1 := Lib.hid hg1
      clear hg1
      go_wp2_with fail
      refine (sPacketGet_is s f t n cs k _ hs8 HK.out HL.out).mono ?_
      rintro e w3 ⟨x2, cap2, rfl, hg2, hb3⟩
      have Vo := Lib.hid ((VarN.new_at (w := w2) (d := w2.heap.size) (by simp) [.int .i64 f, .int .i64 t, .int .i64 n, .slice (some ⟨x1, 0, none⟩) k cap1] 25).below hb3 (by simp))
      have HB3 := Lib.hid (((HB2.out).alloc (Nat.le_trans HB2.out.size (by exact Nat.le_refl _)) (.cells (List.toArray [.int .i64 f, .int .i64 t, .int .i64 n, .slice (some ⟨x1, 0, none⟩) k cap1]) 25)).trans (hb3.mono (Nat.le_trans HB2.out.size (by simp <;> omega))))
      have lto : w2.heap.size < w3.heap.size := lt_of_cell (Vo.out 0 _ rfl).1
      have neo : ¬ w2.heap.size = w3.heap.size := by omega
      have EE := Lib.hid (((EE.out).below (below_box (.cells (List.toArray [.int .i64 f, .int .i64 t, .int .i64 n, .slice (some ⟨x1, 0, none⟩) k cap1]) 25) (Nat.le_refl _))).below hb3)
      have G1 := Lib.hid (((G1.out).below (below_box (.cells (List.toArray [.int .i64 f, .int .i64 t, .int .i64 n, .slice (some ⟨x1, 0, none⟩) k cap1]) 25) (Nat.le_refl _))).below hb3)
      clear hb3
      have G2 := Lib.hid hg2
      clear hg2
      have o0 := (Vo.out 0 _ rfl).1
      have of0 := (Vo.out 0 _ rfl).2
      have o1 := (Vo.out 1 _ rfl).1
      have of1 := (Vo.out 1 _ rfl).2
      have o2 := (Vo.out 2 _ rfl).1
      have of2 := (Vo.out 2 _ rfl).2
      have o3 := (Vo.out 3 _ rfl).1
      have of3 := (Vo.out 3 _ rfl).2
      go_wp2_with fail
      refine (samePacket_same f t n _ _ k cap1 cap2 cs _ ((G1.out).below (below_box (.cells (List.toArray [.int .i64 f, .int .i64 t, .int .i64 n, .slice (some ⟨x2, 0, none⟩) k cap2]) 25) (Nat.le_refl _))) ((G2.out).below (below_box (.cells (List.toArray [.int .i64 f, .int .i64 t, .int .i64 n, .slice (some ⟨x2, 0, none⟩) k cap2]) 25) (Nat.le_refl _)))).mono ?_
      rintro e w4 ⟨rfl, hb4⟩
      clear o0 of0 o1 of1 o2 of2 o3 of3
      have Vo := Lib.hid (((Vo.out).alloc (.cells (List.toArray [.int .i64 f, .int .i64 t, .int .i64 n, .slice (some ⟨x2, 0, none⟩) k cap2]) 25) (by omega)).below hb4 (by simp; omega))
      have Vq := Lib.hid ((VarN.new_at (w := w3) (d := w3.heap.size) (by simp) [.int .i64 f, .int .i64 t, .int .i64 n, .slice (some ⟨x2, 0, none⟩) k cap2] 25).below hb4 (by simp))
      have HB4 := Lib.hid (((HB3.out).alloc (Nat.le_trans HB3.out.size (by exact Nat.le_refl _)) (.cells (List.toArray [.int .i64 f, .int .i64 t, .int .i64 n, .slice (some ⟨x2, 0, none⟩) k cap2]) 25)).trans (hb4.mono (Nat.le_trans HB3.out.size (by simp <;> omega))))
      have lto : w2.heap.size < w4.heap.size := lt_of_cell (Vo.out 0 _ rfl).1
      have ltq : w3.heap.size < w4.heap.size := lt_of_cell (Vq.out 0 _ rfl).1
      have neo : ¬ w2.heap.size = w4.heap.size := by omega
      have neq : ¬ w3.heap.size = w4.heap.size := by omega
      have EE := Lib.hid (((EE.out).below (below_box (.cells (List.toArray [.int .i64 f, .int .i64 t, .int .i64 n, .slice (some ⟨x2, 0, none⟩) k cap2]) 25) (Nat.le_refl _))).below hb4)
      have G1 := Lib.hid (((G1.out).below (below_box (.cells (List.toArray [.int .i64 f, .int .i64 t, .int .i64 n, .slice (some ⟨x2, 0, none⟩) k cap2]) 25) (Nat.le_refl _))).below hb4)
      have G2 := Lib.hid (((G2.out).below (below_box (.cells (List.toArray [.int .i64 f, .int .i64 t, .int .i64 n, .slice (some ⟨x2, 0, none⟩) k cap2]) 25) (Nat.le_refl _))).below hb4)
      clear hb4
      have z0 := isPack_mod ⟨f, t, n, cs, HK.out⟩
      have z1 := isPack_long ⟨f, t, n, cs, HK.out⟩
      have b0 : (0 : Int) ≤ (s.size : Int) - 1 := by omega
      have b1 : (s.size : Int) - 1 ≤ (s.size : Int) := by omega
      have b2 : IntKind.i64.wrap ((s.size : Int) - 1) = (s.size : Int) - 1 := IntWalk.i64_in _ ⟨by omega, by omega⟩
      have b3 : ((s.size : Int) - 1).toNat = s.size - 1 := by omega
      have y0 := size_cut s 0 (s.size - 1) (by omega)
      have HN1 := Lib.hid (show ¬ IsPack (s.extract 0 (s.size - 1)) from fun h => by have := isPack_mod h; omega)
      have y1 : (s ++ ByteArray.mk #[0]).size = s.size + 1 := ByteArray.size_append ..
      have HN2 := Lib.hid (show ¬ IsPack (s ++ ByteArray.mk #[0]) from fun h => by have := isPack_mod h; omega)
      have y2 : ¬ 9223372036854775807 < s.size + 1 := by omega
      have y3 : (s.extract 0 (s.size - 1)).size ≤ 100000000 := by omega
      have y4 : (s ++ ByteArray.mk #[0]).size ≤ 100000000 := by omega
      clear y0 y1 z0
      have o0 := (Vo.out 0 _ rfl).1
      have of0 := (Vo.out 0 _ rfl).2
      have o1 := (Vo.out 1 _ rfl).1
      have of1 := (Vo.out 1 _ rfl).2
      have o2 := (Vo.out 2 _ rfl).1
      have of2 := (Vo.out 2 _ rfl).2
      have o3 := (Vo.out 3 _ rfl).1
      have of3 := (Vo.out 3 _ rfl).2
      have q0 := (Vq.out 0 _ rfl).1
      have qf0 := (Vq.out 0 _ rfl).2
      have q1 := (Vq.out 1 _ rfl).1
      have qf1 := (Vq.out 1 _ rfl).2
      have q2 := (Vq.out 2 _ rfl).1
      have qf2 := (Vq.out 2 _ rfl).2
      have q3 := (Vq.out 3 _ rfl).1
      have qf3 := (Vq.out 3 _ rfl).2
      go_wp2_with fail
      refine (packetGet_code e0 e1 e2 (s.extract 0 (s.size - 1)) _ y3 EE.out).mono ?_
      rintro e w5 ⟨f1, t1, g1, m1, k1, d1, c1, rfl, ⟨_, hc1⟩, hb5⟩
      clear o0 of0 o1 of1 o2 of2 o3 of3 q0 qf0 q1 qf1 q2 qf2 q3 qf3
      have Vo := Lib.hid ((Vo.out).below hb5 lto)
      have Vq := Lib.hid ((Vq.out).below hb5 ltq)
      have HB5 := Lib.hid (HB4.out.trans (hb5.mono HB4.out.size))
      have lto : w2.heap.size < w5.heap.size := lt_of_cell (Vo.out 0 _ rfl).1
      have ltq : w3.heap.size < w5.heap.size := lt_of_cell (Vq.out 0 _ rfl).1
      have neo : ¬ w2.heap.size = w5.heap.size := by omega
      have neq : ¬ w3.heap.size = w5.heap.size := by omega
      have EE := Lib.hid ((EE.out).below hb5)
      have G1 := Lib.hid ((G1.out).below hb5)
      have G2 := Lib.hid ((G2.out).below hb5)
      clear hb5
      have cn1 : (c1 != 0) = true := by simpa using fun h => HN1.out (hc1 h)
      clear hc1
      go_wp2_with fail
      refine (packetGet_code e0 e1 e2 (s ++ ByteArray.mk #[0]) _ y4 ((EE.out).below (below_box (.cells (List.toArray [.int .i64 f1, .int .i64 t1, .int .i64 g1, .slice m1 k1 d1]) 25) (Nat.le_refl _)))).mono ?_
      rintro e w6 ⟨f2, t2, g2, m2, k2, d2, c2, rfl, ⟨_, hc2⟩, hb6⟩
      have Vo := Lib.hid (((Vo.out).alloc (.cells (List.toArray [.int .i64 f1, .int .i64 t1, .int .i64 g1, .slice m1 k1 d1]) 25) (by omega)).below hb6 (by simp; omega))
      have Vq := Lib.hid (((Vq.out).alloc (.cells (List.toArray [.int .i64 f1, .int .i64 t1, .int .i64 g1, .slice m1 k1 d1]) 25) (by omega)).below hb6 (by simp; omega))
      have Va := Lib.hid ((VarN.new_at (w := w5) (d := w5.heap.size) (by simp) [.int .i64 f1, .int .i64 t1, .int .i64 g1, .slice m1 k1 d1] 25).below hb6 (by simp))
      have HB6 := Lib.hid (((HB5.out).alloc (Nat.le_trans HB5.out.size (by exact Nat.le_refl _)) (.cells (List.toArray [.int .i64 f1, .int .i64 t1, .int .i64 g1, .slice m1 k1 d1]) 25)).trans (hb6.mono (Nat.le_trans HB5.out.size (by simp <;> omega))))
      have lto : w2.heap.size < w6.heap.size := lt_of_cell (Vo.out 0 _ rfl).1
      have ltq : w3.heap.size < w6.heap.size := lt_of_cell (Vq.out 0 _ rfl).1
      have lta : w5.heap.size < w6.heap.size := lt_of_cell (Va.out 0 _ rfl).1
      have neo : ¬ w2.heap.size = w6.heap.size := by omega
      have neq : ¬ w3.heap.size = w6.heap.size := by omega
      have nea : ¬ w5.heap.size = w6.heap.size := by omega
      have EE := Lib.hid (((EE.out).below (below_box (.cells (List.toArray [.int .i64 f1, .int .i64 t1, .int .i64 g1, .slice m1 k1 d1]) 25) (Nat.le_refl _))).below hb6)
      have G1 := Lib.hid (((G1.out).below (below_box (.cells (List.toArray [.int .i64 f1, .int .i64 t1, .int .i64 g1, .slice m1 k1 d1]) 25) (Nat.le_refl _))).below hb6)
      have G2 := Lib.hid (((G2.out).below (below_box (.cells (List.toArray [.int .i64 f1, .int .i64 t1, .int .i64 g1, .slice m1 k1 d1]) 25) (Nat.le_refl _))).below hb6)
      clear hb6
      have cn2 : (c2 != 0) = true := by simpa using fun h => HN2.out (hc2 h)
      clear hc2
      go_wp2
      go_ret
      exact ⟨rfl, (HB6.out).alloc (Nat.le_trans HB6.out.size (by exact Nat.le_refl _)) _⟩
    · have HN := Lib.hid hc
      obtain ⟨c, hcc⟩ : ∃ c, codeOf s = c := ⟨_, rfl⟩
      have HC := Lib.hid hcc
      have cn0 : c ≠ 0 := hcc ▸ codeOf_ne s
      have cn : (c != 0) = true := by simpa using cn0
      have ce : (c == 0) = false := by simpa using cn0
      clear hc hcc cn0
      go_wp2_with fail
      refine (packetGet_not e0 e1 e2 s _ hs8 EE.out HN.out).mono ?_
      rw [HC.out]
      rintro e w2 ⟨rfl, hb2⟩
      have HB2 := Lib.hid (hb1.trans (hb2.mono hb1.size))
      have EE := Lib.hid ((EE.out).below hb2)
      clear hb2
      unfold noPackV
      go_wp2_with fail
      refine (sPacketGet_not s _ hs8 HN.out).mono ?_
      rw [HC.out]
      rintro e w3 ⟨rfl, hb3⟩
      have Vo := Lib.hid ((VarN.new_at (w := w2) (d := w2.heap.size) (by simp) [.int .i64 0, .int .i64 0, .int .i64 0, .slice none 0 0] 25).below hb3 (by simp))
      have HB3 := Lib.hid (((HB2.out).alloc (Nat.le_trans HB2.out.size (by exact Nat.le_refl _)) (.cells (List.toArray [.int .i64 0, .int .i64 0, .int .i64 0, .slice none 0 0]) 25)).trans (hb3.mono (Nat.le_trans HB2.out.size (by simp <;> omega))))
      have lto : w2.heap.size < w3.heap.size := lt_of_cell (Vo.out 0 _ rfl).1
      have neo : ¬ w2.heap.size = w3.heap.size := by omega
      have EE := Lib.hid (((EE.out).below (below_box (.cells (List.toArray [.int .i64 0, .int .i64 0, .int .i64 0, .slice none 0 0]) 25) (Nat.le_refl _))).below hb3)
      clear hb3
      unfold noPackV
      have o0 := (Vo.out 0 _ rfl).1
      have of0 := (Vo.out 0 _ rfl).2
      have o1 := (Vo.out 1 _ rfl).1
      have of1 := (Vo.out 1 _ rfl).2
      have o2 := (Vo.out 2 _ rfl).1
      have of2 := (Vo.out 2 _ rfl).2
      have o3 := (Vo.out 3 _ rfl).1
      have of3 := (Vo.out 3 _ rfl).2
      go_wp2_with fail
      refine (samePacket_none _).mono ?_
      rintro e w4 ⟨rfl, hb4⟩
      clear o0 of0 o1 of1 o2 of2 o3 of3
      have Vo := Lib.hid (((Vo.out).alloc (.cells (List.toArray [.int .i64 0, .int .i64 0, .int .i64 0, .slice none 0 0]) 25) (by omega)).below hb4 (by simp; omega))
      have Vq := Lib.hid ((VarN.new_at (w := w3) (d := w3.heap.size) (by simp) [.int .i64 0, .int .i64 0, .int .i64 0, .slice none 0 0] 25).below hb4 (by simp))
      have HB4 := Lib.hid (((HB3.out).alloc (Nat.le_trans HB3.out.size (by exact Nat.le_refl _)) (.cells (List.toArray [.int .i64 0, .int .i64 0, .int .i64 0, .slice none 0 0]) 25)).trans (hb4.mono (Nat.le_trans HB3.out.size (by simp <;> omega))))
      have lto : w2.heap.size < w4.heap.size := lt_of_cell (Vo.out 0 _ rfl).1
      have ltq : w3.heap.size < w4.heap.size := lt_of_cell (Vq.out 0 _ rfl).1
      have neo : ¬ w2.heap.size = w4.heap.size := by omega
      have neq : ¬ w3.heap.size = w4.heap.size := by omega
      have EE := Lib.hid (((EE.out).below (below_box (.cells (List.toArray [.int .i64 0, .int .i64 0, .int .i64 0, .slice none 0 0]) 25) (Nat.le_refl _))).below hb4)
      clear hb4
      have o0 := (Vo.out 0 _ rfl).1
      have of0 := (Vo.out 0 _ rfl).2
      have o1 := (Vo.out 1 _ rfl).1
      have of1 := (Vo.out 1 _ rfl).2
      have o2 := (Vo.out 2 _ rfl).1
      have of2 := (Vo.out 2 _ rfl).2
      have o3 := (Vo.out 3 _ rfl).1
      have of3 := (Vo.out 3 _ rfl).2
      have q0 := (Vq.out 0 _ rfl).1
      have qf0 := (Vq.out 0 _ rfl).2
      have q1 := (Vq.out 1 _ rfl).1
      have qf1 := (Vq.out 1 _ rfl).2
      have q2 := (Vq.out 2 _ rfl).1
      have qf2 := (Vq.out 2 _ rfl).2
      have q3 := (Vq.out 3 _ rfl).1
      have qf3 := (Vq.out 3 _ rfl).2
      go_wp2_with fail
      refine (samePacket_none _).mono ?_
      rintro e w5 ⟨rfl, hb5⟩
      clear o0 of0 o1 of1 o2 of2 o3 of3 q0 qf0 q1 qf1 q2 qf2 q3 qf3
      have Vo := Lib.hid ((Vo.out).below hb5 lto)
      have Vq := Lib.hid ((Vq.out).below hb5 ltq)
      have HB5 := Lib.hid (HB4.out.trans (hb5.mono HB4.out.size))
      have lto : w2.heap.size < w5.heap.size := lt_of_cell (Vo.out 0 _ rfl).1
      have ltq : w3.heap.size < w5.heap.size := lt_of_cell (Vq.out 0 _ rfl).1
      have neo : ¬ w2.heap.size = w5.heap.size := by omega
      have neq : ¬ w3.heap.size = w5.heap.size := by omega
      have EE := Lib.hid ((EE.out).below hb5)
      clear hb5
      go_wp2
      go_ret
      exact ⟨rfl, HB5.out⟩

end Go.Proofs.YtcpdpamoddmpaabDoor
