/- The walks of the laws on a part that is added: Add, Twice, Full, Again. -/
import Derived.Handy
import Derived.Test.YtncbgejggfkdmaaM12
namespace Go.Proofs.Ytncbgejggfkdmaa
open Go.RowKit Go.PlainAid

set_option maxHeartbeats 4000000 in
theorem walk_fnAsmAdd (a0 : Option Addr) (len0 cap0 : Nat) (z0 : List Int) (w : World) (w0 : IsRow .u8 w a0 len0 cap0 z0) :
    Calls Try.prog 3 #[.slice a0 len0 cap0] w fun e w' => e = .returned (.bool true) ∧ Below w.heap.size w w' := by
  have H := Lib.hid w0
  clear w0
  by_cases hl : (1048576 : Int) < len0
  · go_enter Try.func3, Try.ntmps3
    go_wp2
    go_ret
    exact ⟨rfl, Below.refl _ _⟩
  · go_enter Try.func3, Try.ntmps3
    go_wp2_with fail
    refine (drawAsmAdd_any a0 len0 cap0 z0 _ H.out).mono ?_
    rintro e w1 ⟨a1, n1, c1, a2, n2, c2, es, qs, ⟨dt, ds, dq, dfi, dla, dlo, dtx⟩, rfl, hn1, hn2, hsm, hsp, hns, hpt, hb1⟩
    rw [partV_eq]
    have NA := Lib.hid hns
    have PA := Lib.hid hpt
    have KY := Lib.hid (smally_keys hsm)
    have SM := Lib.hid hsm
    have SP := Lib.hid hsp
    have LNA := Lib.hid hns.length
    have LPA := Lib.hid hpt.length
    clear hns hpt hsm hsp
    obtain ⟨⟨rn, rp, rm⟩, hr⟩ : ∃ r, ansR es qs ⟨dt, ds, dq, dfi, dla, dlo, dtx⟩ = r := ⟨_, rfl⟩
    obtain ⟨code, hc⟩ : ∃ c, ansC es qs ⟨dt, ds, dq, dfi, dla, dlo, dtx⟩ = c := ⟨_, rfl⟩
    have few := ansR_few hr
    obtain ⟨m1, hm1⟩ : ∃ n, rn.length = n := ⟨_, rfl⟩
    obtain ⟨m2, hm2⟩ : ∃ n, rp.length = n := ⟨_, rfl⟩
    obtain ⟨m3, hm3⟩ : ∃ n, rm.length = n := ⟨_, rfl⟩
    rw [hm1, hm2, hm3] at few
    have HR := Lib.hid hr
    have HC := Lib.hid hc
    have HLN := Lib.hid (And.intro hm1 (And.intro hm2 hm3))
    clear hr hc hm1 hm2 hm3
    go_wp2_with fail
    refine (asmAdd_is a1 n1 c1 es a2 n2 c2 qs dt ds dq dfi dla dlo dtx _ (((NA.out).below (below_box (.cells (List.toArray [.slice a1 n1 c1, .slice a2 n2 c2]) 26) (Nat.le_refl _))).below (below_box (.cells (List.toArray [.int .i64 dt, .int .i64 ds, .int .i64 dq, .bool dfi, .bool dla, .bool dlo, .string dtx]) 28) (Nat.le_refl _))) (((PA.out).below (below_box (.cells (List.toArray [.slice a1 n1 c1, .slice a2 n2 c2]) 26) (Nat.le_refl _))).below (below_box (.cells (List.toArray [.int .i64 dt, .int .i64 ds, .int .i64 dq, .bool dfi, .bool dla, .bool dlo, .string dtx]) 28) (Nat.le_refl _))) KY.out HR.out HC.out HLN.out).mono ?_
    rintro e w2 ⟨b1, k1, b2, k2, b3, k3, rfl, ⟨o1, o2, o3⟩, hb2⟩
    have Vxa := Lib.hid (((VarN.new_at (w := w1) (d := w1.heap.size) (by simp) [.slice a1 n1 c1, .slice a2 n2 c2] 26).alloc (.cells (List.toArray [.int .i64 dt, .int .i64 ds, .int .i64 dq, .bool dfi, .bool dla, .bool dlo, .string dtx]) 28) (by first | omega | (simp <;> omega))).below hb2 (by simp <;> omega))
    have Vxd := Lib.hid ((VarN.new_at (w := (w1.alloc (.cells (List.toArray [.slice a1 n1 c1, .slice a2 n2 c2]) 26))) (d := w1.heap.size + 1) (by simp) [.int .i64 dt, .int .i64 ds, .int .i64 dq, .bool dfi, .bool dla, .bool dlo, .string dtx] 28).below hb2 (by simp))
    have HB2 := Lib.hid ((((hb1).alloc (Nat.le_trans hb1.size (by exact Nat.le_refl _)) (.cells (List.toArray [.slice a1 n1 c1, .slice a2 n2 c2]) 26)).alloc (Nat.le_trans hb1.size (by simp <;> omega)) (.cells (List.toArray [.int .i64 dt, .int .i64 ds, .int .i64 dq, .bool dfi, .bool dla, .bool dlo, .string dtx]) 28)).trans (hb2.mono (Nat.le_trans hb1.size (by simp <;> omega))))
    have ltxa : w1.heap.size < w2.heap.size := lt_of_cell (Vxa.out 0 _ rfl).1
    have ltxd : w1.heap.size + 1 < w2.heap.size := lt_of_cell (Vxd.out 0 _ rfl).1
    have nexa : ¬ w1.heap.size = w2.heap.size := by omega
    have nexd : ¬ w1.heap.size + 1 = w2.heap.size := by omega
    have NA := Lib.hid ((((NA.out).below (below_box (.cells (List.toArray [.slice a1 n1 c1, .slice a2 n2 c2]) 26) (Nat.le_refl _))).below (below_box (.cells (List.toArray [.int .i64 dt, .int .i64 ds, .int .i64 dq, .bool dfi, .bool dla, .bool dlo, .string dtx]) 28) (Nat.le_refl _))).below hb2)
    have PA := Lib.hid ((((PA.out).below (below_box (.cells (List.toArray [.slice a1 n1 c1, .slice a2 n2 c2]) 26) (Nat.le_refl _))).below (below_box (.cells (List.toArray [.int .i64 dt, .int .i64 ds, .int .i64 dq, .bool dfi, .bool dla, .bool dlo, .string dtx]) 28) (Nat.le_refl _))).below hb2)
    clear hb2
    have ON := Lib.hid (own_ns o1)
    have OP := Lib.hid (own_pts o2)
    have OM := Lib.hid (own_mgs o3)
    clear o1 o2 o3
    have xa0 := (Vxa.out 0 _ rfl).1
    have xaf0 := (Vxa.out 0 _ rfl).2
    have xa1 := (Vxa.out 1 _ rfl).1
    have xaf1 := (Vxa.out 1 _ rfl).2
    have xd0 := (Vxd.out 0 _ rfl).1
    have xdf0 := (Vxd.out 0 _ rfl).2
    have xd1 := (Vxd.out 1 _ rfl).1
    have xdf1 := (Vxd.out 1 _ rfl).2
    have xd2 := (Vxd.out 2 _ rfl).1
    have xdf2 := (Vxd.out 2 _ rfl).2
    have xd3 := (Vxd.out 3 _ rfl).1
    have xdf3 := (Vxd.out 3 _ rfl).2
    have xd4 := (Vxd.out 4 _ rfl).1
    have xdf4 := (Vxd.out 4 _ rfl).2
    have xd5 := (Vxd.out 5 _ rfl).1
    have xdf5 := (Vxd.out 5 _ rfl).2
    have xd6 := (Vxd.out 6 _ rfl).1
    have xdf6 := (Vxd.out 6 _ rfl).2
    go_wp2_with fail
    refine (sAsmAdd_is a1 n1 c1 es a2 n2 c2 qs dt ds dq dfi dla dlo dtx _ ((NA.out).below (below_box (.cells (List.toArray [.slice b1 m1 k1, .slice b2 m2 k2]) 26) (Nat.le_refl _))) ((PA.out).below (below_box (.cells (List.toArray [.slice b1 m1 k1, .slice b2 m2 k2]) 26) (Nat.le_refl _))) HR.out HC.out HLN.out).mono ?_
    rintro e w3 ⟨g1, j1, g2, j2, g3, j3, rfl, ⟨o1, o2, o3⟩, hb3⟩
    clear xa0 xaf0 xa1 xaf1 xd0 xdf0 xd1 xdf1 xd2 xdf2 xd3 xdf3 xd4 xdf4 xd5 xdf5 xd6 xdf6
    have Vxa := Lib.hid (((Vxa.out).alloc (.cells (List.toArray [.slice b1 m1 k1, .slice b2 m2 k2]) 26) (by omega)).below hb3 (by simp; omega))
    have Vxd := Lib.hid (((Vxd.out).alloc (.cells (List.toArray [.slice b1 m1 k1, .slice b2 m2 k2]) 26) (by omega)).below hb3 (by simp; omega))
    have Vxo := Lib.hid ((VarN.new_at (w := w2) (d := w2.heap.size) (by simp) [.slice b1 m1 k1, .slice b2 m2 k2] 26).below hb3 (by simp))
    have HB3 := Lib.hid (((HB2.out).alloc (Nat.le_trans HB2.out.size (by exact Nat.le_refl _)) (.cells (List.toArray [.slice b1 m1 k1, .slice b2 m2 k2]) 26)).trans (hb3.mono (Nat.le_trans HB2.out.size (by simp <;> omega))))
    have ltxa : w1.heap.size < w3.heap.size := lt_of_cell (Vxa.out 0 _ rfl).1
    have ltxd : w1.heap.size + 1 < w3.heap.size := lt_of_cell (Vxd.out 0 _ rfl).1
    have ltxo : w2.heap.size < w3.heap.size := lt_of_cell (Vxo.out 0 _ rfl).1
    have nexa : ¬ w1.heap.size = w3.heap.size := by omega
    have nexd : ¬ w1.heap.size + 1 = w3.heap.size := by omega
    have nexo : ¬ w2.heap.size = w3.heap.size := by omega
    have NA := Lib.hid (((NA.out).below (below_box (.cells (List.toArray [.slice b1 m1 k1, .slice b2 m2 k2]) 26) (Nat.le_refl _))).below hb3)
    have PA := Lib.hid (((PA.out).below (below_box (.cells (List.toArray [.slice b1 m1 k1, .slice b2 m2 k2]) 26) (Nat.le_refl _))).below hb3)
    have ON := Lib.hid (((ON.out).below (below_box (.cells (List.toArray [.slice b1 m1 k1, .slice b2 m2 k2]) 26) (Nat.le_refl _))).below hb3)
    have OP := Lib.hid (((OP.out).below (below_box (.cells (List.toArray [.slice b1 m1 k1, .slice b2 m2 k2]) 26) (Nat.le_refl _))).below hb3)
    have OM := Lib.hid (((OM.out).below (below_box (.cells (List.toArray [.slice b1 m1 k1, .slice b2 m2 k2]) 26) (Nat.le_refl _))).below hb3)
    clear hb3
    have VN := Lib.hid (own_ns o1)
    have VP := Lib.hid (own_pts o2)
    have VM := Lib.hid (own_mgs o3)
    clear o1 o2 o3
    have xa0 := (Vxa.out 0 _ rfl).1
    have xaf0 := (Vxa.out 0 _ rfl).2
    have xa1 := (Vxa.out 1 _ rfl).1
    have xaf1 := (Vxa.out 1 _ rfl).2
    have xd0 := (Vxd.out 0 _ rfl).1
    have xdf0 := (Vxd.out 0 _ rfl).2
    have xd1 := (Vxd.out 1 _ rfl).1
    have xdf1 := (Vxd.out 1 _ rfl).2
    have xd2 := (Vxd.out 2 _ rfl).1
    have xdf2 := (Vxd.out 2 _ rfl).2
    have xd3 := (Vxd.out 3 _ rfl).1
    have xdf3 := (Vxd.out 3 _ rfl).2
    have xd4 := (Vxd.out 4 _ rfl).1
    have xdf4 := (Vxd.out 4 _ rfl).2
    have xd5 := (Vxd.out 5 _ rfl).1
    have xdf5 := (Vxd.out 5 _ rfl).2
    have xd6 := (Vxd.out 6 _ rfl).1
    have xdf6 := (Vxd.out 6 _ rfl).2
    have xo0 := (Vxo.out 0 _ rfl).1
    have xof0 := (Vxo.out 0 _ rfl).2
    have xo1 := (Vxo.out 1 _ rfl).1
    have xof1 := (Vxo.out 1 _ rfl).2
    go_wp2_with fail
    refine (sameAsm_same _ _ _ _ m1 k1 j1 m2 k2 j2 rn rp _ ((ON.out).below (below_box (.cells (List.toArray [.slice g1 m1 j1, .slice g2 m2 j2]) 26) (Nat.le_refl _))) ((VN.out).below (below_box (.cells (List.toArray [.slice g1 m1 j1, .slice g2 m2 j2]) 26) (Nat.le_refl _))) ((OP.out).below (below_box (.cells (List.toArray [.slice g1 m1 j1, .slice g2 m2 j2]) 26) (Nat.le_refl _))) ((VP.out).below (below_box (.cells (List.toArray [.slice g1 m1 j1, .slice g2 m2 j2]) 26) (Nat.le_refl _)))).mono ?_
    rintro e w4 ⟨rfl, hb4⟩
    clear xa0 xaf0 xa1 xaf1 xd0 xdf0 xd1 xdf1 xd2 xdf2 xd3 xdf3 xd4 xdf4 xd5 xdf5 xd6 xdf6 xo0 xof0 xo1 xof1
    have Vxa := Lib.hid (((Vxa.out).alloc (.cells (List.toArray [.slice g1 m1 j1, .slice g2 m2 j2]) 26) (by omega)).below hb4 (by simp; omega))
    have Vxd := Lib.hid (((Vxd.out).alloc (.cells (List.toArray [.slice g1 m1 j1, .slice g2 m2 j2]) 26) (by omega)).below hb4 (by simp; omega))
    have Vxo := Lib.hid (((Vxo.out).alloc (.cells (List.toArray [.slice g1 m1 j1, .slice g2 m2 j2]) 26) (by omega)).below hb4 (by simp; omega))
    have Vxv := Lib.hid ((VarN.new_at (w := w3) (d := w3.heap.size) (by simp) [.slice g1 m1 j1, .slice g2 m2 j2] 26).below hb4 (by simp))
    have HB4 := Lib.hid (((HB3.out).alloc (Nat.le_trans HB3.out.size (by exact Nat.le_refl _)) (.cells (List.toArray [.slice g1 m1 j1, .slice g2 m2 j2]) 26)).trans (hb4.mono (Nat.le_trans HB3.out.size (by simp <;> omega))))
    have ltxa : w1.heap.size < w4.heap.size := lt_of_cell (Vxa.out 0 _ rfl).1
    have ltxd : w1.heap.size + 1 < w4.heap.size := lt_of_cell (Vxd.out 0 _ rfl).1
    have ltxo : w2.heap.size < w4.heap.size := lt_of_cell (Vxo.out 0 _ rfl).1
    have ltxv : w3.heap.size < w4.heap.size := lt_of_cell (Vxv.out 0 _ rfl).1
    have nexa : ¬ w1.heap.size = w4.heap.size := by omega
    have nexd : ¬ w1.heap.size + 1 = w4.heap.size := by omega
    have nexo : ¬ w2.heap.size = w4.heap.size := by omega
    have nexv : ¬ w3.heap.size = w4.heap.size := by omega
    have NA := Lib.hid (((NA.out).below (below_box (.cells (List.toArray [.slice g1 m1 j1, .slice g2 m2 j2]) 26) (Nat.le_refl _))).below hb4)
    have PA := Lib.hid (((PA.out).below (below_box (.cells (List.toArray [.slice g1 m1 j1, .slice g2 m2 j2]) 26) (Nat.le_refl _))).below hb4)
    have ON := Lib.hid (((ON.out).below (below_box (.cells (List.toArray [.slice g1 m1 j1, .slice g2 m2 j2]) 26) (Nat.le_refl _))).below hb4)
    have OP := Lib.hid (((OP.out).below (below_box (.cells (List.toArray [.slice g1 m1 j1, .slice g2 m2 j2]) 26) (Nat.le_refl _))).below hb4)
    have OM := Lib.hid (((OM.out).below (below_box (.cells (List.toArray [.slice g1 m1 j1, .slice g2 m2 j2]) 26) (Nat.le_refl _))).below hb4)
    have VN := Lib.hid (((VN.out).below (below_box (.cells (List.toArray [.slice g1 m1 j1, .slice g2 m2 j2]) 26) (Nat.le_refl _))).below hb4)
    have VP := Lib.hid (((VP.out).below (below_box (.cells (List.toArray [.slice g1 m1 j1, .slice g2 m2 j2]) 26) (Nat.le_refl _))).below hb4)
    have VM := Lib.hid (((VM.out).below (below_box (.cells (List.toArray [.slice g1 m1 j1, .slice g2 m2 j2]) 26) (Nat.le_refl _))).below hb4)
    clear hb4
    have xa0 := (Vxa.out 0 _ rfl).1
    have xaf0 := (Vxa.out 0 _ rfl).2
    have xa1 := (Vxa.out 1 _ rfl).1
    have xaf1 := (Vxa.out 1 _ rfl).2
    have xd0 := (Vxd.out 0 _ rfl).1
    have xdf0 := (Vxd.out 0 _ rfl).2
    have xd1 := (Vxd.out 1 _ rfl).1
    have xdf1 := (Vxd.out 1 _ rfl).2
    have xd2 := (Vxd.out 2 _ rfl).1
    have xdf2 := (Vxd.out 2 _ rfl).2
    have xd3 := (Vxd.out 3 _ rfl).1
    have xdf3 := (Vxd.out 3 _ rfl).2
    have xd4 := (Vxd.out 4 _ rfl).1
    have xdf4 := (Vxd.out 4 _ rfl).2
    have xd5 := (Vxd.out 5 _ rfl).1
    have xdf5 := (Vxd.out 5 _ rfl).2
    have xd6 := (Vxd.out 6 _ rfl).1
    have xdf6 := (Vxd.out 6 _ rfl).2
    have xo0 := (Vxo.out 0 _ rfl).1
    have xof0 := (Vxo.out 0 _ rfl).2
    have xo1 := (Vxo.out 1 _ rfl).1
    have xof1 := (Vxo.out 1 _ rfl).2
    have xv0 := (Vxv.out 0 _ rfl).1
    have xvf0 := (Vxv.out 0 _ rfl).2
    have xv1 := (Vxv.out 1 _ rfl).1
    have xvf1 := (Vxv.out 1 _ rfl).2
    go_wp2_with fail
    refine (sameMessages_same _ _ m3 k3 j3 rm _ OM.out VM.out).mono ?_
    rintro e w5 ⟨rfl, hb5⟩
    clear xa0 xaf0 xa1 xaf1 xd0 xdf0 xd1 xdf1 xd2 xdf2 xd3 xdf3 xd4 xdf4 xd5 xdf5 xd6 xdf6 xo0 xof0 xo1 xof1 xv0 xvf0 xv1 xvf1
    have Vxa := Lib.hid ((Vxa.out).below hb5 ltxa)
    have Vxd := Lib.hid ((Vxd.out).below hb5 ltxd)
    have Vxo := Lib.hid ((Vxo.out).below hb5 ltxo)
    have Vxv := Lib.hid ((Vxv.out).below hb5 ltxv)
    have HB5 := Lib.hid (HB4.out.trans (hb5.mono HB4.out.size))
    have ltxa : w1.heap.size < w5.heap.size := lt_of_cell (Vxa.out 0 _ rfl).1
    have ltxd : w1.heap.size + 1 < w5.heap.size := lt_of_cell (Vxd.out 0 _ rfl).1
    have ltxo : w2.heap.size < w5.heap.size := lt_of_cell (Vxo.out 0 _ rfl).1
    have ltxv : w3.heap.size < w5.heap.size := lt_of_cell (Vxv.out 0 _ rfl).1
    have nexa : ¬ w1.heap.size = w5.heap.size := by omega
    have nexd : ¬ w1.heap.size + 1 = w5.heap.size := by omega
    have nexo : ¬ w2.heap.size = w5.heap.size := by omega
    have nexv : ¬ w3.heap.size = w5.heap.size := by omega
    have NA := Lib.hid ((NA.out).below hb5)
    have PA := Lib.hid ((PA.out).below hb5)
    have ON := Lib.hid ((ON.out).below hb5)
    have OP := Lib.hid ((OP.out).below hb5)
    have OM := Lib.hid ((OM.out).below hb5)
    have VN := Lib.hid ((VN.out).below hb5)
    have VP := Lib.hid ((VP.out).below hb5)
    have VM := Lib.hid ((VM.out).below hb5)
    clear hb5
    by_cases hc0 : code = 0
    · subst hc0
      have DF := Lib.hid (done_facts HR.out HC.out)
      have xa0 := (Vxa.out 0 _ rfl).1
      have xaf0 := (Vxa.out 0 _ rfl).2
      have xa1 := (Vxa.out 1 _ rfl).1
      have xaf1 := (Vxa.out 1 _ rfl).2
      have xd0 := (Vxd.out 0 _ rfl).1
      have xdf0 := (Vxd.out 0 _ rfl).2
      have xd1 := (Vxd.out 1 _ rfl).1
      have xdf1 := (Vxd.out 1 _ rfl).2
      have xd2 := (Vxd.out 2 _ rfl).1
      have xdf2 := (Vxd.out 2 _ rfl).2
      have xd3 := (Vxd.out 3 _ rfl).1
      have xdf3 := (Vxd.out 3 _ rfl).2
      have xd4 := (Vxd.out 4 _ rfl).1
      have xdf4 := (Vxd.out 4 _ rfl).2
      have xd5 := (Vxd.out 5 _ rfl).1
      have xdf5 := (Vxd.out 5 _ rfl).2
      have xd6 := (Vxd.out 6 _ rfl).1
      have xdf6 := (Vxd.out 6 _ rfl).2
      have xo0 := (Vxo.out 0 _ rfl).1
      have xof0 := (Vxo.out 0 _ rfl).2
      have xo1 := (Vxo.out 1 _ rfl).1
      have xof1 := (Vxo.out 1 _ rfl).2
      have xv0 := (Vxv.out 0 _ rfl).1
      have xvf0 := (Vxv.out 0 _ rfl).2
      have xv1 := (Vxv.out 1 _ rfl).1
      have xvf1 := (Vxv.out 1 _ rfl).2
      go_wp2_with fail
      refine (asmValid_any b1 m1 k1 rn b2 m2 k2 rp _ ON.out OP.out (ok_keys DF.out.ok2)).mono ?_
      rw [asmV_yes DF.out.ok2]
      rintro e w6 ⟨rfl, hb6⟩
      clear xa0 xaf0 xa1 xaf1 xd0 xdf0 xd1 xdf1 xd2 xdf2 xd3 xdf3 xd4 xdf4 xd5 xdf5 xd6 xdf6 xo0 xof0 xo1 xof1 xv0 xvf0 xv1 xvf1
      have Vxa := Lib.hid ((Vxa.out).below hb6 ltxa)
      have Vxd := Lib.hid ((Vxd.out).below hb6 ltxd)
      have Vxo := Lib.hid ((Vxo.out).below hb6 ltxo)
      have Vxv := Lib.hid ((Vxv.out).below hb6 ltxv)
      have HB6 := Lib.hid (HB5.out.trans (hb6.mono HB5.out.size))
      have ltxa : w1.heap.size < w6.heap.size := lt_of_cell (Vxa.out 0 _ rfl).1
      have ltxd : w1.heap.size + 1 < w6.heap.size := lt_of_cell (Vxd.out 0 _ rfl).1
      have ltxo : w2.heap.size < w6.heap.size := lt_of_cell (Vxo.out 0 _ rfl).1
      have ltxv : w3.heap.size < w6.heap.size := lt_of_cell (Vxv.out 0 _ rfl).1
      have nexa : ¬ w1.heap.size = w6.heap.size := by omega
      have nexd : ¬ w1.heap.size + 1 = w6.heap.size := by omega
      have nexo : ¬ w2.heap.size = w6.heap.size := by omega
      have nexv : ¬ w3.heap.size = w6.heap.size := by omega
      have NA := Lib.hid ((NA.out).below hb6)
      have PA := Lib.hid ((PA.out).below hb6)
      have ON := Lib.hid ((ON.out).below hb6)
      have OP := Lib.hid ((OP.out).below hb6)
      have OM := Lib.hid ((OM.out).below hb6)
      have VN := Lib.hid ((VN.out).below hb6)
      have VP := Lib.hid ((VP.out).below hb6)
      have VM := Lib.hid ((VM.out).below hb6)
      clear hb6
      by_cases hHT : hasT rp dt = true
      · have HT := Lib.hid hHT
        clear hHT
        have xa0 := (Vxa.out 0 _ rfl).1
        have xaf0 := (Vxa.out 0 _ rfl).2
        have xa1 := (Vxa.out 1 _ rfl).1
        have xaf1 := (Vxa.out 1 _ rfl).2
        have xd0 := (Vxd.out 0 _ rfl).1
        have xdf0 := (Vxd.out 0 _ rfl).2
        have xd1 := (Vxd.out 1 _ rfl).1
        have xdf1 := (Vxd.out 1 _ rfl).2
        have xd2 := (Vxd.out 2 _ rfl).1
        have xdf2 := (Vxd.out 2 _ rfl).2
        have xd3 := (Vxd.out 3 _ rfl).1
        have xdf3 := (Vxd.out 3 _ rfl).2
        have xd4 := (Vxd.out 4 _ rfl).1
        have xdf4 := (Vxd.out 4 _ rfl).2
        have xd5 := (Vxd.out 5 _ rfl).1
        have xdf5 := (Vxd.out 5 _ rfl).2
        have xd6 := (Vxd.out 6 _ rfl).1
        have xdf6 := (Vxd.out 6 _ rfl).2
        have xo0 := (Vxo.out 0 _ rfl).1
        have xof0 := (Vxo.out 0 _ rfl).2
        have xo1 := (Vxo.out 1 _ rfl).1
        have xof1 := (Vxo.out 1 _ rfl).2
        have xv0 := (Vxv.out 0 _ rfl).1
        have xvf0 := (Vxv.out 0 _ rfl).2
        have xv1 := (Vxv.out 1 _ rfl).1
        have xvf1 := (Vxv.out 1 _ rfl).2
        go_wp2_with fail
        refine (hasTsn_any b2 m2 k2 rp dt _ OP.out).mono ?_
        rw [HT.out]
        rintro e w7 ⟨rfl, hb7⟩
        clear xa0 xaf0 xa1 xaf1 xd0 xdf0 xd1 xdf1 xd2 xdf2 xd3 xdf3 xd4 xdf4 xd5 xdf5 xd6 xdf6 xo0 xof0 xo1 xof1 xv0 xvf0 xv1 xvf1
        have Vxa := Lib.hid ((Vxa.out).below hb7 ltxa)
        have Vxd := Lib.hid ((Vxd.out).below hb7 ltxd)
        have Vxo := Lib.hid ((Vxo.out).below hb7 ltxo)
        have Vxv := Lib.hid ((Vxv.out).below hb7 ltxv)
        have HB7 := Lib.hid (HB6.out.trans (hb7.mono HB6.out.size))
        have ltxa : w1.heap.size < w7.heap.size := lt_of_cell (Vxa.out 0 _ rfl).1
        have ltxd : w1.heap.size + 1 < w7.heap.size := lt_of_cell (Vxd.out 0 _ rfl).1
        have ltxo : w2.heap.size < w7.heap.size := lt_of_cell (Vxo.out 0 _ rfl).1
        have ltxv : w3.heap.size < w7.heap.size := lt_of_cell (Vxv.out 0 _ rfl).1
        have nexa : ¬ w1.heap.size = w7.heap.size := by omega
        have nexd : ¬ w1.heap.size + 1 = w7.heap.size := by omega
        have nexo : ¬ w2.heap.size = w7.heap.size := by omega
        have nexv : ¬ w3.heap.size = w7.heap.size := by omega
        have NA := Lib.hid ((NA.out).below hb7)
        have PA := Lib.hid ((PA.out).below hb7)
        have ON := Lib.hid ((ON.out).below hb7)
        have OP := Lib.hid ((OP.out).below hb7)
        have OM := Lib.hid ((OM.out).below hb7)
        have VN := Lib.hid ((VN.out).below hb7)
        have VP := Lib.hid ((VP.out).below hb7)
        have VM := Lib.hid ((VM.out).below hb7)
        clear hb7
        have xa0 := (Vxa.out 0 _ rfl).1
        have xaf0 := (Vxa.out 0 _ rfl).2
        have xa1 := (Vxa.out 1 _ rfl).1
        have xaf1 := (Vxa.out 1 _ rfl).2
        have xd0 := (Vxd.out 0 _ rfl).1
        have xdf0 := (Vxd.out 0 _ rfl).2
        have xd1 := (Vxd.out 1 _ rfl).1
        have xdf1 := (Vxd.out 1 _ rfl).2
        have xd2 := (Vxd.out 2 _ rfl).1
        have xdf2 := (Vxd.out 2 _ rfl).2
        have xd3 := (Vxd.out 3 _ rfl).1
        have xdf3 := (Vxd.out 3 _ rfl).2
        have xd4 := (Vxd.out 4 _ rfl).1
        have xdf4 := (Vxd.out 4 _ rfl).2
        have xd5 := (Vxd.out 5 _ rfl).1
        have xdf5 := (Vxd.out 5 _ rfl).2
        have xd6 := (Vxd.out 6 _ rfl).1
        have xdf6 := (Vxd.out 6 _ rfl).2
        have xo0 := (Vxo.out 0 _ rfl).1
        have xof0 := (Vxo.out 0 _ rfl).2
        have xo1 := (Vxo.out 1 _ rfl).1
        have xof1 := (Vxo.out 1 _ rfl).2
        have xv0 := (Vxv.out 0 _ rfl).1
        have xvf0 := (Vxv.out 0 _ rfl).2
        have xv1 := (Vxv.out 1 _ rfl).1
        have xvf1 := (Vxv.out 1 _ rfl).2
        go_wp2
        go_ret
        exact ⟨rfl, HB7.out⟩
      · have HT := Lib.hid (show hasT rp dt = false by simpa using hHT)
        clear hHT
        have mq : 0 < m3 := by have := DF.out.told HT.out; have := HLN.out.2.2; omega
        have mp : (0 : Int) < (m3 : Int) := by omega
        have mr : decide (0 < m3) = true := decide_eq_true mq
        have xa0 := (Vxa.out 0 _ rfl).1
        have xaf0 := (Vxa.out 0 _ rfl).2
        have xa1 := (Vxa.out 1 _ rfl).1
        have xaf1 := (Vxa.out 1 _ rfl).2
        have xd0 := (Vxd.out 0 _ rfl).1
        have xdf0 := (Vxd.out 0 _ rfl).2
        have xd1 := (Vxd.out 1 _ rfl).1
        have xdf1 := (Vxd.out 1 _ rfl).2
        have xd2 := (Vxd.out 2 _ rfl).1
        have xdf2 := (Vxd.out 2 _ rfl).2
        have xd3 := (Vxd.out 3 _ rfl).1
        have xdf3 := (Vxd.out 3 _ rfl).2
        have xd4 := (Vxd.out 4 _ rfl).1
        have xdf4 := (Vxd.out 4 _ rfl).2
        have xd5 := (Vxd.out 5 _ rfl).1
        have xdf5 := (Vxd.out 5 _ rfl).2
        have xd6 := (Vxd.out 6 _ rfl).1
        have xdf6 := (Vxd.out 6 _ rfl).2
        have xo0 := (Vxo.out 0 _ rfl).1
        have xof0 := (Vxo.out 0 _ rfl).2
        have xo1 := (Vxo.out 1 _ rfl).1
        have xof1 := (Vxo.out 1 _ rfl).2
        have xv0 := (Vxv.out 0 _ rfl).1
        have xvf0 := (Vxv.out 0 _ rfl).2
        have xv1 := (Vxv.out 1 _ rfl).1
        have xvf1 := (Vxv.out 1 _ rfl).2
        go_wp2_with fail
        refine (hasTsn_any b2 m2 k2 rp dt _ OP.out).mono ?_
        rw [HT.out]
        rintro e w7 ⟨rfl, hb7⟩
        clear xa0 xaf0 xa1 xaf1 xd0 xdf0 xd1 xdf1 xd2 xdf2 xd3 xdf3 xd4 xdf4 xd5 xdf5 xd6 xdf6 xo0 xof0 xo1 xof1 xv0 xvf0 xv1 xvf1
        have Vxa := Lib.hid ((Vxa.out).below hb7 ltxa)
        have Vxd := Lib.hid ((Vxd.out).below hb7 ltxd)
        have Vxo := Lib.hid ((Vxo.out).below hb7 ltxo)
        have Vxv := Lib.hid ((Vxv.out).below hb7 ltxv)
        have HB7 := Lib.hid (HB6.out.trans (hb7.mono HB6.out.size))
        have ltxa : w1.heap.size < w7.heap.size := lt_of_cell (Vxa.out 0 _ rfl).1
        have ltxd : w1.heap.size + 1 < w7.heap.size := lt_of_cell (Vxd.out 0 _ rfl).1
        have ltxo : w2.heap.size < w7.heap.size := lt_of_cell (Vxo.out 0 _ rfl).1
        have ltxv : w3.heap.size < w7.heap.size := lt_of_cell (Vxv.out 0 _ rfl).1
        have nexa : ¬ w1.heap.size = w7.heap.size := by omega
        have nexd : ¬ w1.heap.size + 1 = w7.heap.size := by omega
        have nexo : ¬ w2.heap.size = w7.heap.size := by omega
        have nexv : ¬ w3.heap.size = w7.heap.size := by omega
        have NA := Lib.hid ((NA.out).below hb7)
        have PA := Lib.hid ((PA.out).below hb7)
        have ON := Lib.hid ((ON.out).below hb7)
        have OP := Lib.hid ((OP.out).below hb7)
        have OM := Lib.hid ((OM.out).below hb7)
        have VN := Lib.hid ((VN.out).below hb7)
        have VP := Lib.hid ((VP.out).below hb7)
        have VM := Lib.hid ((VM.out).below hb7)
        clear hb7
        have xa0 := (Vxa.out 0 _ rfl).1
        have xaf0 := (Vxa.out 0 _ rfl).2
        have xa1 := (Vxa.out 1 _ rfl).1
        have xaf1 := (Vxa.out 1 _ rfl).2
        have xd0 := (Vxd.out 0 _ rfl).1
        have xdf0 := (Vxd.out 0 _ rfl).2
        have xd1 := (Vxd.out 1 _ rfl).1
        have xdf1 := (Vxd.out 1 _ rfl).2
        have xd2 := (Vxd.out 2 _ rfl).1
        have xdf2 := (Vxd.out 2 _ rfl).2
        have xd3 := (Vxd.out 3 _ rfl).1
        have xdf3 := (Vxd.out 3 _ rfl).2
        have xd4 := (Vxd.out 4 _ rfl).1
        have xdf4 := (Vxd.out 4 _ rfl).2
        have xd5 := (Vxd.out 5 _ rfl).1
        have xdf5 := (Vxd.out 5 _ rfl).2
        have xd6 := (Vxd.out 6 _ rfl).1
        have xdf6 := (Vxd.out 6 _ rfl).2
        have xo0 := (Vxo.out 0 _ rfl).1
        have xof0 := (Vxo.out 0 _ rfl).2
        have xo1 := (Vxo.out 1 _ rfl).1
        have xof1 := (Vxo.out 1 _ rfl).2
        have xv0 := (Vxv.out 0 _ rfl).1
        have xvf0 := (Vxv.out 0 _ rfl).2
        have xv1 := (Vxv.out 1 _ rfl).1
        have xvf1 := (Vxv.out 1 _ rfl).2
        go_wp2
        go_ret
        exact ⟨rfl, HB7.out⟩
    · have xa0 := (Vxa.out 0 _ rfl).1
      have xaf0 := (Vxa.out 0 _ rfl).2
      have xa1 := (Vxa.out 1 _ rfl).1
      have xaf1 := (Vxa.out 1 _ rfl).2
      have xd0 := (Vxd.out 0 _ rfl).1
      have xdf0 := (Vxd.out 0 _ rfl).2
      have xd1 := (Vxd.out 1 _ rfl).1
      have xdf1 := (Vxd.out 1 _ rfl).2
      have xd2 := (Vxd.out 2 _ rfl).1
      have xdf2 := (Vxd.out 2 _ rfl).2
      have xd3 := (Vxd.out 3 _ rfl).1
      have xdf3 := (Vxd.out 3 _ rfl).2
      have xd4 := (Vxd.out 4 _ rfl).1
      have xdf4 := (Vxd.out 4 _ rfl).2
      have xd5 := (Vxd.out 5 _ rfl).1
      have xdf5 := (Vxd.out 5 _ rfl).2
      have xd6 := (Vxd.out 6 _ rfl).1
      have xdf6 := (Vxd.out 6 _ rfl).2
      have xo0 := (Vxo.out 0 _ rfl).1
      have xof0 := (Vxo.out 0 _ rfl).2
      have xo1 := (Vxo.out 1 _ rfl).1
      have xof1 := (Vxo.out 1 _ rfl).2
      have xv0 := (Vxv.out 0 _ rfl).1
      have xvf0 := (Vxv.out 0 _ rfl).2
      have xv1 := (Vxv.out 1 _ rfl).1
      have xvf1 := (Vxv.out 1 _ rfl).2
      go_wp2_with fail
      refine (sameAsm_same _ _ _ _ m1 k1 j1 m2 k2 j2 rn rp _ ON.out VN.out OP.out VP.out).mono ?_
      rintro e w6 ⟨rfl, hb6⟩
      clear xa0 xaf0 xa1 xaf1 xd0 xdf0 xd1 xdf1 xd2 xdf2 xd3 xdf3 xd4 xdf4 xd5 xdf5 xd6 xdf6 xo0 xof0 xo1 xof1 xv0 xvf0 xv1 xvf1
      have Vxa := Lib.hid ((Vxa.out).below hb6 ltxa)
      have Vxd := Lib.hid ((Vxd.out).below hb6 ltxd)
      have Vxo := Lib.hid ((Vxo.out).below hb6 ltxo)
      have Vxv := Lib.hid ((Vxv.out).below hb6 ltxv)
      have HB6 := Lib.hid (HB5.out.trans (hb6.mono HB5.out.size))
      have ltxa : w1.heap.size < w6.heap.size := lt_of_cell (Vxa.out 0 _ rfl).1
      have ltxd : w1.heap.size + 1 < w6.heap.size := lt_of_cell (Vxd.out 0 _ rfl).1
      have ltxo : w2.heap.size < w6.heap.size := lt_of_cell (Vxo.out 0 _ rfl).1
      have ltxv : w3.heap.size < w6.heap.size := lt_of_cell (Vxv.out 0 _ rfl).1
      have nexa : ¬ w1.heap.size = w6.heap.size := by omega
      have nexd : ¬ w1.heap.size + 1 = w6.heap.size := by omega
      have nexo : ¬ w2.heap.size = w6.heap.size := by omega
      have nexv : ¬ w3.heap.size = w6.heap.size := by omega
      have NA := Lib.hid ((NA.out).below hb6)
      have PA := Lib.hid ((PA.out).below hb6)
      have ON := Lib.hid ((ON.out).below hb6)
      have OP := Lib.hid ((OP.out).below hb6)
      have OM := Lib.hid ((OM.out).below hb6)
      have VN := Lib.hid ((VN.out).below hb6)
      have VP := Lib.hid ((VP.out).below hb6)
      have VM := Lib.hid ((VM.out).below hb6)
      clear hb6
      have xa0 := (Vxa.out 0 _ rfl).1
      have xaf0 := (Vxa.out 0 _ rfl).2
      have xa1 := (Vxa.out 1 _ rfl).1
      have xaf1 := (Vxa.out 1 _ rfl).2
      have xd0 := (Vxd.out 0 _ rfl).1
      have xdf0 := (Vxd.out 0 _ rfl).2
      have xd1 := (Vxd.out 1 _ rfl).1
      have xdf1 := (Vxd.out 1 _ rfl).2
      have xd2 := (Vxd.out 2 _ rfl).1
      have xdf2 := (Vxd.out 2 _ rfl).2
      have xd3 := (Vxd.out 3 _ rfl).1
      have xdf3 := (Vxd.out 3 _ rfl).2
      have xd4 := (Vxd.out 4 _ rfl).1
      have xdf4 := (Vxd.out 4 _ rfl).2
      have xd5 := (Vxd.out 5 _ rfl).1
      have xdf5 := (Vxd.out 5 _ rfl).2
      have xd6 := (Vxd.out 6 _ rfl).1
      have xdf6 := (Vxd.out 6 _ rfl).2
      have xo0 := (Vxo.out 0 _ rfl).1
      have xof0 := (Vxo.out 0 _ rfl).2
      have xo1 := (Vxo.out 1 _ rfl).1
      have xof1 := (Vxo.out 1 _ rfl).2
      have xv0 := (Vxv.out 0 _ rfl).1
      have xvf0 := (Vxv.out 0 _ rfl).2
      have xv1 := (Vxv.out 1 _ rfl).1
      have xvf1 := (Vxv.out 1 _ rfl).2
      go_wp2_with fail
      refine (sameMessages_same _ _ m3 k3 j3 rm _ OM.out VM.out).mono ?_
      rintro e w7 ⟨rfl, hb7⟩
      clear xa0 xaf0 xa1 xaf1 xd0 xdf0 xd1 xdf1 xd2 xdf2 xd3 xdf3 xd4 xdf4 xd5 xdf5 xd6 xdf6 xo0 xof0 xo1 xof1 xv0 xvf0 xv1 xvf1
      have Vxa := Lib.hid ((Vxa.out).below hb7 ltxa)
      have Vxd := Lib.hid ((Vxd.out).below hb7 ltxd)
      have Vxo := Lib.hid ((Vxo.out).below hb7 ltxo)
      have Vxv := Lib.hid ((Vxv.out).below hb7 ltxv)
      have HB7 := Lib.hid (HB6.out.trans (hb7.mono HB6.out.size))
      have ltxa : w1.heap.size < w7.heap.size := lt_of_cell (Vxa.out 0 _ rfl).1
      have ltxd : w1.heap.size + 1 < w7.heap.size := lt_of_cell (Vxd.out 0 _ rfl).1
      have ltxo : w2.heap.size < w7.heap.size := lt_of_cell (Vxo.out 0 _ rfl).1
      have ltxv : w3.heap.size < w7.heap.size := lt_of_cell (Vxv.out 0 _ rfl).1
      have nexa : ¬ w1.heap.size = w7.heap.size := by omega
      have nexd : ¬ w1.heap.size + 1 = w7.heap.size := by omega
      have nexo : ¬ w2.heap.size = w7.heap.size := by omega
      have nexv : ¬ w3.heap.size = w7.heap.size := by omega
      have NA := Lib.hid ((NA.out).below hb7)
      have PA := Lib.hid ((PA.out).below hb7)
      have ON := Lib.hid ((ON.out).below hb7)
      have OP := Lib.hid ((OP.out).below hb7)
      have OM := Lib.hid ((OM.out).below hb7)
      have VN := Lib.hid ((VN.out).below hb7)
      have VP := Lib.hid ((VP.out).below hb7)
      have VM := Lib.hid ((VM.out).below hb7)
      clear hb7
      have xa0 := (Vxa.out 0 _ rfl).1
      have xaf0 := (Vxa.out 0 _ rfl).2
      have xa1 := (Vxa.out 1 _ rfl).1
      have xaf1 := (Vxa.out 1 _ rfl).2
      have xd0 := (Vxd.out 0 _ rfl).1
      have xdf0 := (Vxd.out 0 _ rfl).2
      have xd1 := (Vxd.out 1 _ rfl).1
      have xdf1 := (Vxd.out 1 _ rfl).2
      have xd2 := (Vxd.out 2 _ rfl).1
      have xdf2 := (Vxd.out 2 _ rfl).2
      have xd3 := (Vxd.out 3 _ rfl).1
      have xdf3 := (Vxd.out 3 _ rfl).2
      have xd4 := (Vxd.out 4 _ rfl).1
      have xdf4 := (Vxd.out 4 _ rfl).2
      have xd5 := (Vxd.out 5 _ rfl).1
      have xdf5 := (Vxd.out 5 _ rfl).2
      have xd6 := (Vxd.out 6 _ rfl).1
      have xdf6 := (Vxd.out 6 _ rfl).2
      have xo0 := (Vxo.out 0 _ rfl).1
      have xof0 := (Vxo.out 0 _ rfl).2
      have xo1 := (Vxo.out 1 _ rfl).1
      have xof1 := (Vxo.out 1 _ rfl).2
      have xv0 := (Vxv.out 0 _ rfl).1
      have xvf0 := (Vxv.out 0 _ rfl).2
      have xv1 := (Vxv.out 1 _ rfl).1
      have xvf1 := (Vxv.out 1 _ rfl).2
      go_wp2
      go_ret
      exact ⟨rfl, HB7.out⟩

set_option maxHeartbeats 4000000 in
theorem walk_fnAsmAgain (a0 : Option Addr) (len0 cap0 : Nat) (z0 : List Int) (w : World) (w0 : IsRow .u8 w a0 len0 cap0 z0) :
    Calls Try.prog 7 #[.slice a0 len0 cap0] w fun e w' => e = .returned (.bool true) ∧ Below w.heap.size w w' := by
  have H := Lib.hid w0
  clear w0
  by_cases hl : (1048576 : Int) < len0
  · go_enter Try.func7, Try.ntmps7
    go_wp2
    go_ret
    exact ⟨rfl, Below.refl _ _⟩
  · go_enter Try.func7, Try.ntmps7
    go_wp2_with fail
    refine (drawAsmAdd_any a0 len0 cap0 z0 _ H.out).mono ?_
    rintro e w1 ⟨a1, n1, c1, a2, n2, c2, es, qs, ⟨dt, ds, dq, dfi, dla, dlo, dtx⟩, rfl, hn1, hn2, hsm, hsp, hns, hpt, hb1⟩
    rw [partV_eq]
    have NA := Lib.hid hns
    have PA := Lib.hid hpt
    have KY := Lib.hid (smally_keys hsm)
    have SM := Lib.hid hsm
    have SP := Lib.hid hsp
    have LNA := Lib.hid hns.length
    have LPA := Lib.hid hpt.length
    clear hns hpt hsm hsp
    obtain ⟨⟨rn, rp, rm⟩, hr⟩ : ∃ r, ansR es qs ⟨dt, ds, dq, dfi, dla, dlo, dtx⟩ = r := ⟨_, rfl⟩
    obtain ⟨code, hc⟩ : ∃ c, ansC es qs ⟨dt, ds, dq, dfi, dla, dlo, dtx⟩ = c := ⟨_, rfl⟩
    have few := ansR_few hr
    obtain ⟨m1, hm1⟩ : ∃ n, rn.length = n := ⟨_, rfl⟩
    obtain ⟨m2, hm2⟩ : ∃ n, rp.length = n := ⟨_, rfl⟩
    obtain ⟨m3, hm3⟩ : ∃ n, rm.length = n := ⟨_, rfl⟩
    rw [hm1, hm2, hm3] at few
    have HR := Lib.hid hr
    have HC := Lib.hid hc
    have HLN := Lib.hid (And.intro hm1 (And.intro hm2 hm3))
    clear hr hc hm1 hm2 hm3
    go_wp2_with fail
    refine (asmAdd_is a1 n1 c1 es a2 n2 c2 qs dt ds dq dfi dla dlo dtx _ (((NA.out).below (below_box (.cells (List.toArray [.slice a1 n1 c1, .slice a2 n2 c2]) 26) (Nat.le_refl _))).below (below_box (.cells (List.toArray [.int .i64 dt, .int .i64 ds, .int .i64 dq, .bool dfi, .bool dla, .bool dlo, .string dtx]) 28) (Nat.le_refl _))) (((PA.out).below (below_box (.cells (List.toArray [.slice a1 n1 c1, .slice a2 n2 c2]) 26) (Nat.le_refl _))).below (below_box (.cells (List.toArray [.int .i64 dt, .int .i64 ds, .int .i64 dq, .bool dfi, .bool dla, .bool dlo, .string dtx]) 28) (Nat.le_refl _))) KY.out HR.out HC.out HLN.out).mono ?_
    rintro e w2 ⟨b1, k1, b2, k2, b3, k3, rfl, ⟨o1, o2, o3⟩, hb2⟩
    have Vxa := Lib.hid (((VarN.new_at (w := w1) (d := w1.heap.size) (by simp) [.slice a1 n1 c1, .slice a2 n2 c2] 26).alloc (.cells (List.toArray [.int .i64 dt, .int .i64 ds, .int .i64 dq, .bool dfi, .bool dla, .bool dlo, .string dtx]) 28) (by first | omega | (simp <;> omega))).below hb2 (by simp <;> omega))
    have Vxd := Lib.hid ((VarN.new_at (w := (w1.alloc (.cells (List.toArray [.slice a1 n1 c1, .slice a2 n2 c2]) 26))) (d := w1.heap.size + 1) (by simp) [.int .i64 dt, .int .i64 ds, .int .i64 dq, .bool dfi, .bool dla, .bool dlo, .string dtx] 28).below hb2 (by simp))
    have HB2 := Lib.hid ((((hb1).alloc (Nat.le_trans hb1.size (by exact Nat.le_refl _)) (.cells (List.toArray [.slice a1 n1 c1, .slice a2 n2 c2]) 26)).alloc (Nat.le_trans hb1.size (by simp <;> omega)) (.cells (List.toArray [.int .i64 dt, .int .i64 ds, .int .i64 dq, .bool dfi, .bool dla, .bool dlo, .string dtx]) 28)).trans (hb2.mono (Nat.le_trans hb1.size (by simp <;> omega))))
    have ltxa : w1.heap.size < w2.heap.size := lt_of_cell (Vxa.out 0 _ rfl).1
    have ltxd : w1.heap.size + 1 < w2.heap.size := lt_of_cell (Vxd.out 0 _ rfl).1
    have nexa : ¬ w1.heap.size = w2.heap.size := by omega
    have nexd : ¬ w1.heap.size + 1 = w2.heap.size := by omega
    have NA := Lib.hid ((((NA.out).below (below_box (.cells (List.toArray [.slice a1 n1 c1, .slice a2 n2 c2]) 26) (Nat.le_refl _))).below (below_box (.cells (List.toArray [.int .i64 dt, .int .i64 ds, .int .i64 dq, .bool dfi, .bool dla, .bool dlo, .string dtx]) 28) (Nat.le_refl _))).below hb2)
    have PA := Lib.hid ((((PA.out).below (below_box (.cells (List.toArray [.slice a1 n1 c1, .slice a2 n2 c2]) 26) (Nat.le_refl _))).below (below_box (.cells (List.toArray [.int .i64 dt, .int .i64 ds, .int .i64 dq, .bool dfi, .bool dla, .bool dlo, .string dtx]) 28) (Nat.le_refl _))).below hb2)
    clear hb2
    have ON := Lib.hid (own_ns o1)
    have OP := Lib.hid (own_pts o2)
    have OM := Lib.hid (own_mgs o3)
    clear o1 o2 o3
    have xa0 := (Vxa.out 0 _ rfl).1
    have xaf0 := (Vxa.out 0 _ rfl).2
    have xa1 := (Vxa.out 1 _ rfl).1
    have xaf1 := (Vxa.out 1 _ rfl).2
    have xd0 := (Vxd.out 0 _ rfl).1
    have xdf0 := (Vxd.out 0 _ rfl).2
    have xd1 := (Vxd.out 1 _ rfl).1
    have xdf1 := (Vxd.out 1 _ rfl).2
    have xd2 := (Vxd.out 2 _ rfl).1
    have xdf2 := (Vxd.out 2 _ rfl).2
    have xd3 := (Vxd.out 3 _ rfl).1
    have xdf3 := (Vxd.out 3 _ rfl).2
    have xd4 := (Vxd.out 4 _ rfl).1
    have xdf4 := (Vxd.out 4 _ rfl).2
    have xd5 := (Vxd.out 5 _ rfl).1
    have xdf5 := (Vxd.out 5 _ rfl).2
    have xd6 := (Vxd.out 6 _ rfl).1
    have xdf6 := (Vxd.out 6 _ rfl).2
    go_wp2_with fail
    refine (sAsmAdd_is a1 n1 c1 es a2 n2 c2 qs dt ds dq dfi dla dlo dtx _ ((NA.out).below (below_box (.cells (List.toArray [.slice b1 m1 k1, .slice b2 m2 k2]) 26) (Nat.le_refl _))) ((PA.out).below (below_box (.cells (List.toArray [.slice b1 m1 k1, .slice b2 m2 k2]) 26) (Nat.le_refl _))) HR.out HC.out HLN.out).mono ?_
    rintro e w3 ⟨g1, j1, g2, j2, g3, j3, rfl, ⟨o1, o2, o3⟩, hb3⟩
    clear xa0 xaf0 xa1 xaf1 xd0 xdf0 xd1 xdf1 xd2 xdf2 xd3 xdf3 xd4 xdf4 xd5 xdf5 xd6 xdf6
    have Vxa := Lib.hid (((Vxa.out).alloc (.cells (List.toArray [.slice b1 m1 k1, .slice b2 m2 k2]) 26) (by omega)).below hb3 (by simp; omega))
    have Vxd := Lib.hid (((Vxd.out).alloc (.cells (List.toArray [.slice b1 m1 k1, .slice b2 m2 k2]) 26) (by omega)).below hb3 (by simp; omega))
    have Vxo := Lib.hid ((VarN.new_at (w := w2) (d := w2.heap.size) (by simp) [.slice b1 m1 k1, .slice b2 m2 k2] 26).below hb3 (by simp))
    have HB3 := Lib.hid (((HB2.out).alloc (Nat.le_trans HB2.out.size (by exact Nat.le_refl _)) (.cells (List.toArray [.slice b1 m1 k1, .slice b2 m2 k2]) 26)).trans (hb3.mono (Nat.le_trans HB2.out.size (by simp <;> omega))))
    have ltxa : w1.heap.size < w3.heap.size := lt_of_cell (Vxa.out 0 _ rfl).1
    have ltxd : w1.heap.size + 1 < w3.heap.size := lt_of_cell (Vxd.out 0 _ rfl).1
    have ltxo : w2.heap.size < w3.heap.size := lt_of_cell (Vxo.out 0 _ rfl).1
    have nexa : ¬ w1.heap.size = w3.heap.size := by omega
    have nexd : ¬ w1.heap.size + 1 = w3.heap.size := by omega
    have nexo : ¬ w2.heap.size = w3.heap.size := by omega
    have NA := Lib.hid (((NA.out).below (below_box (.cells (List.toArray [.slice b1 m1 k1, .slice b2 m2 k2]) 26) (Nat.le_refl _))).below hb3)
    have PA := Lib.hid (((PA.out).below (below_box (.cells (List.toArray [.slice b1 m1 k1, .slice b2 m2 k2]) 26) (Nat.le_refl _))).below hb3)
    have ON := Lib.hid (((ON.out).below (below_box (.cells (List.toArray [.slice b1 m1 k1, .slice b2 m2 k2]) 26) (Nat.le_refl _))).below hb3)
    have OP := Lib.hid (((OP.out).below (below_box (.cells (List.toArray [.slice b1 m1 k1, .slice b2 m2 k2]) 26) (Nat.le_refl _))).below hb3)
    have OM := Lib.hid (((OM.out).below (below_box (.cells (List.toArray [.slice b1 m1 k1, .slice b2 m2 k2]) 26) (Nat.le_refl _))).below hb3)
    clear hb3
    have VN := Lib.hid (own_ns o1)
    have VP := Lib.hid (own_pts o2)
    have VM := Lib.hid (own_mgs o3)
    clear o1 o2 o3
    have xa0 := (Vxa.out 0 _ rfl).1
    have xaf0 := (Vxa.out 0 _ rfl).2
    have xa1 := (Vxa.out 1 _ rfl).1
    have xaf1 := (Vxa.out 1 _ rfl).2
    have xd0 := (Vxd.out 0 _ rfl).1
    have xdf0 := (Vxd.out 0 _ rfl).2
    have xd1 := (Vxd.out 1 _ rfl).1
    have xdf1 := (Vxd.out 1 _ rfl).2
    have xd2 := (Vxd.out 2 _ rfl).1
    have xdf2 := (Vxd.out 2 _ rfl).2
    have xd3 := (Vxd.out 3 _ rfl).1
    have xdf3 := (Vxd.out 3 _ rfl).2
    have xd4 := (Vxd.out 4 _ rfl).1
    have xdf4 := (Vxd.out 4 _ rfl).2
    have xd5 := (Vxd.out 5 _ rfl).1
    have xdf5 := (Vxd.out 5 _ rfl).2
    have xd6 := (Vxd.out 6 _ rfl).1
    have xdf6 := (Vxd.out 6 _ rfl).2
    have xo0 := (Vxo.out 0 _ rfl).1
    have xof0 := (Vxo.out 0 _ rfl).2
    have xo1 := (Vxo.out 1 _ rfl).1
    have xof1 := (Vxo.out 1 _ rfl).2
    go_wp2_with fail
    refine (sameAsm_same _ _ _ _ m1 k1 j1 m2 k2 j2 rn rp _ ((ON.out).below (below_box (.cells (List.toArray [.slice g1 m1 j1, .slice g2 m2 j2]) 26) (Nat.le_refl _))) ((VN.out).below (below_box (.cells (List.toArray [.slice g1 m1 j1, .slice g2 m2 j2]) 26) (Nat.le_refl _))) ((OP.out).below (below_box (.cells (List.toArray [.slice g1 m1 j1, .slice g2 m2 j2]) 26) (Nat.le_refl _))) ((VP.out).below (below_box (.cells (List.toArray [.slice g1 m1 j1, .slice g2 m2 j2]) 26) (Nat.le_refl _)))).mono ?_
    rintro e w4 ⟨rfl, hb4⟩
    clear xa0 xaf0 xa1 xaf1 xd0 xdf0 xd1 xdf1 xd2 xdf2 xd3 xdf3 xd4 xdf4 xd5 xdf5 xd6 xdf6 xo0 xof0 xo1 xof1
    have Vxa := Lib.hid (((Vxa.out).alloc (.cells (List.toArray [.slice g1 m1 j1, .slice g2 m2 j2]) 26) (by omega)).below hb4 (by simp; omega))
    have Vxd := Lib.hid (((Vxd.out).alloc (.cells (List.toArray [.slice g1 m1 j1, .slice g2 m2 j2]) 26) (by omega)).below hb4 (by simp; omega))
    have Vxo := Lib.hid (((Vxo.out).alloc (.cells (List.toArray [.slice g1 m1 j1, .slice g2 m2 j2]) 26) (by omega)).below hb4 (by simp; omega))
    have Vxv := Lib.hid ((VarN.new_at (w := w3) (d := w3.heap.size) (by simp) [.slice g1 m1 j1, .slice g2 m2 j2] 26).below hb4 (by simp))
    have HB4 := Lib.hid (((HB3.out).alloc (Nat.le_trans HB3.out.size (by exact Nat.le_refl _)) (.cells (List.toArray [.slice g1 m1 j1, .slice g2 m2 j2]) 26)).trans (hb4.mono (Nat.le_trans HB3.out.size (by simp <;> omega))))
    have ltxa : w1.heap.size < w4.heap.size := lt_of_cell (Vxa.out 0 _ rfl).1
    have ltxd : w1.heap.size + 1 < w4.heap.size := lt_of_cell (Vxd.out 0 _ rfl).1
    have ltxo : w2.heap.size < w4.heap.size := lt_of_cell (Vxo.out 0 _ rfl).1
    have ltxv : w3.heap.size < w4.heap.size := lt_of_cell (Vxv.out 0 _ rfl).1
    have nexa : ¬ w1.heap.size = w4.heap.size := by omega
    have nexd : ¬ w1.heap.size + 1 = w4.heap.size := by omega
    have nexo : ¬ w2.heap.size = w4.heap.size := by omega
    have nexv : ¬ w3.heap.size = w4.heap.size := by omega
    have NA := Lib.hid (((NA.out).below (below_box (.cells (List.toArray [.slice g1 m1 j1, .slice g2 m2 j2]) 26) (Nat.le_refl _))).below hb4)
    have PA := Lib.hid (((PA.out).below (below_box (.cells (List.toArray [.slice g1 m1 j1, .slice g2 m2 j2]) 26) (Nat.le_refl _))).below hb4)
    have ON := Lib.hid (((ON.out).below (below_box (.cells (List.toArray [.slice g1 m1 j1, .slice g2 m2 j2]) 26) (Nat.le_refl _))).below hb4)
    have OP := Lib.hid (((OP.out).below (below_box (.cells (List.toArray [.slice g1 m1 j1, .slice g2 m2 j2]) 26) (Nat.le_refl _))).below hb4)
    have OM := Lib.hid (((OM.out).below (below_box (.cells (List.toArray [.slice g1 m1 j1, .slice g2 m2 j2]) 26) (Nat.le_refl _))).below hb4)
    have VN := Lib.hid (((VN.out).below (below_box (.cells (List.toArray [.slice g1 m1 j1, .slice g2 m2 j2]) 26) (Nat.le_refl _))).below hb4)
    have VP := Lib.hid (((VP.out).below (below_box (.cells (List.toArray [.slice g1 m1 j1, .slice g2 m2 j2]) 26) (Nat.le_refl _))).below hb4)
    have VM := Lib.hid (((VM.out).below (below_box (.cells (List.toArray [.slice g1 m1 j1, .slice g2 m2 j2]) 26) (Nat.le_refl _))).below hb4)
    clear hb4
    have xa0 := (Vxa.out 0 _ rfl).1
    have xaf0 := (Vxa.out 0 _ rfl).2
    have xa1 := (Vxa.out 1 _ rfl).1
    have xaf1 := (Vxa.out 1 _ rfl).2
    have xd0 := (Vxd.out 0 _ rfl).1
    have xdf0 := (Vxd.out 0 _ rfl).2
    have xd1 := (Vxd.out 1 _ rfl).1
    have xdf1 := (Vxd.out 1 _ rfl).2
    have xd2 := (Vxd.out 2 _ rfl).1
    have xdf2 := (Vxd.out 2 _ rfl).2
    have xd3 := (Vxd.out 3 _ rfl).1
    have xdf3 := (Vxd.out 3 _ rfl).2
    have xd4 := (Vxd.out 4 _ rfl).1
    have xdf4 := (Vxd.out 4 _ rfl).2
    have xd5 := (Vxd.out 5 _ rfl).1
    have xdf5 := (Vxd.out 5 _ rfl).2
    have xd6 := (Vxd.out 6 _ rfl).1
    have xdf6 := (Vxd.out 6 _ rfl).2
    have xo0 := (Vxo.out 0 _ rfl).1
    have xof0 := (Vxo.out 0 _ rfl).2
    have xo1 := (Vxo.out 1 _ rfl).1
    have xof1 := (Vxo.out 1 _ rfl).2
    have xv0 := (Vxv.out 0 _ rfl).1
    have xvf0 := (Vxv.out 0 _ rfl).2
    have xv1 := (Vxv.out 1 _ rfl).1
    have xvf1 := (Vxv.out 1 _ rfl).2
    go_wp2_with fail
    refine (sameMessages_same _ _ m3 k3 j3 rm _ OM.out VM.out).mono ?_
    rintro e w5 ⟨rfl, hb5⟩
    clear xa0 xaf0 xa1 xaf1 xd0 xdf0 xd1 xdf1 xd2 xdf2 xd3 xdf3 xd4 xdf4 xd5 xdf5 xd6 xdf6 xo0 xof0 xo1 xof1 xv0 xvf0 xv1 xvf1
    have Vxa := Lib.hid ((Vxa.out).below hb5 ltxa)
    have Vxd := Lib.hid ((Vxd.out).below hb5 ltxd)
    have Vxo := Lib.hid ((Vxo.out).below hb5 ltxo)
    have Vxv := Lib.hid ((Vxv.out).below hb5 ltxv)
    have HB5 := Lib.hid (HB4.out.trans (hb5.mono HB4.out.size))
    have ltxa : w1.heap.size < w5.heap.size := lt_of_cell (Vxa.out 0 _ rfl).1
    have ltxd : w1.heap.size + 1 < w5.heap.size := lt_of_cell (Vxd.out 0 _ rfl).1
    have ltxo : w2.heap.size < w5.heap.size := lt_of_cell (Vxo.out 0 _ rfl).1
    have ltxv : w3.heap.size < w5.heap.size := lt_of_cell (Vxv.out 0 _ rfl).1
    have nexa : ¬ w1.heap.size = w5.heap.size := by omega
    have nexd : ¬ w1.heap.size + 1 = w5.heap.size := by omega
    have nexo : ¬ w2.heap.size = w5.heap.size := by omega
    have nexv : ¬ w3.heap.size = w5.heap.size := by omega
    have NA := Lib.hid ((NA.out).below hb5)
    have PA := Lib.hid ((PA.out).below hb5)
    have ON := Lib.hid ((ON.out).below hb5)
    have OP := Lib.hid ((OP.out).below hb5)
    have OM := Lib.hid ((OM.out).below hb5)
    have VN := Lib.hid ((VN.out).below hb5)
    have VP := Lib.hid ((VP.out).below hb5)
    have VM := Lib.hid ((VM.out).below hb5)
    clear hb5
    by_cases hc0 : code = 0
    · subst hc0
      have DF := Lib.hid (done_facts HR.out HC.out)
      obtain ⟨⟨sn, sp, sm⟩, hr2⟩ : ∃ r, ansR rn rp ⟨dt, ds, dq, dfi, dla, dlo, dtx⟩ = r := ⟨_, rfl⟩
      obtain ⟨code2, hc2⟩ : ∃ c, ansC rn rp ⟨dt, ds, dq, dfi, dla, dlo, dtx⟩ = c := ⟨_, rfl⟩
      obtain ⟨l1, hl1⟩ : ∃ n, sn.length = n := ⟨_, rfl⟩
      obtain ⟨l2, hl2⟩ : ∃ n, sp.length = n := ⟨_, rfl⟩
      obtain ⟨l3, hl3⟩ : ∃ n, sm.length = n := ⟨_, rfl⟩
      have HR2 := Lib.hid hr2
      have HC2 := Lib.hid hc2
      have HL2 := Lib.hid (And.intro hl1 (And.intro hl2 hl3))
      clear hr2 hc2 hl1 hl2 hl3
      have xa0 := (Vxa.out 0 _ rfl).1
      have xaf0 := (Vxa.out 0 _ rfl).2
      have xa1 := (Vxa.out 1 _ rfl).1
      have xaf1 := (Vxa.out 1 _ rfl).2
      have xd0 := (Vxd.out 0 _ rfl).1
      have xdf0 := (Vxd.out 0 _ rfl).2
      have xd1 := (Vxd.out 1 _ rfl).1
      have xdf1 := (Vxd.out 1 _ rfl).2
      have xd2 := (Vxd.out 2 _ rfl).1
      have xdf2 := (Vxd.out 2 _ rfl).2
      have xd3 := (Vxd.out 3 _ rfl).1
      have xdf3 := (Vxd.out 3 _ rfl).2
      have xd4 := (Vxd.out 4 _ rfl).1
      have xdf4 := (Vxd.out 4 _ rfl).2
      have xd5 := (Vxd.out 5 _ rfl).1
      have xdf5 := (Vxd.out 5 _ rfl).2
      have xd6 := (Vxd.out 6 _ rfl).1
      have xdf6 := (Vxd.out 6 _ rfl).2
      have xo0 := (Vxo.out 0 _ rfl).1
      have xof0 := (Vxo.out 0 _ rfl).2
      have xo1 := (Vxo.out 1 _ rfl).1
      have xof1 := (Vxo.out 1 _ rfl).2
      have xv0 := (Vxv.out 0 _ rfl).1
      have xvf0 := (Vxv.out 0 _ rfl).2
      have xv1 := (Vxv.out 1 _ rfl).1
      have xvf1 := (Vxv.out 1 _ rfl).2
      go_wp2_with fail
      refine (asmAdd_is b1 m1 k1 rn b2 m2 k2 rp dt ds dq dfi dla dlo dtx _ ON.out OP.out (ok_keys DF.out.ok2) HR2.out HC2.out HL2.out).mono ?_
      rintro e w6 ⟨p1, q1, p2, q2, p3, q3, rfl, ⟨o1, o2, o3⟩, hb6⟩
      clear xa0 xaf0 xa1 xaf1 xd0 xdf0 xd1 xdf1 xd2 xdf2 xd3 xdf3 xd4 xdf4 xd5 xdf5 xd6 xdf6 xo0 xof0 xo1 xof1 xv0 xvf0 xv1 xvf1
      have Vxa := Lib.hid ((Vxa.out).below hb6 ltxa)
      have Vxd := Lib.hid ((Vxd.out).below hb6 ltxd)
      have Vxo := Lib.hid ((Vxo.out).below hb6 ltxo)
      have Vxv := Lib.hid ((Vxv.out).below hb6 ltxv)
      have HB6 := Lib.hid (HB5.out.trans (hb6.mono HB5.out.size))
      have ltxa : w1.heap.size < w6.heap.size := lt_of_cell (Vxa.out 0 _ rfl).1
      have ltxd : w1.heap.size + 1 < w6.heap.size := lt_of_cell (Vxd.out 0 _ rfl).1
      have ltxo : w2.heap.size < w6.heap.size := lt_of_cell (Vxo.out 0 _ rfl).1
      have ltxv : w3.heap.size < w6.heap.size := lt_of_cell (Vxv.out 0 _ rfl).1
      have nexa : ¬ w1.heap.size = w6.heap.size := by omega
      have nexd : ¬ w1.heap.size + 1 = w6.heap.size := by omega
      have nexo : ¬ w2.heap.size = w6.heap.size := by omega
      have nexv : ¬ w3.heap.size = w6.heap.size := by omega
      have NA := Lib.hid ((NA.out).below hb6)
      have PA := Lib.hid ((PA.out).below hb6)
      have ON := Lib.hid ((ON.out).below hb6)
      have OP := Lib.hid ((OP.out).below hb6)
      have OM := Lib.hid ((OM.out).below hb6)
      have VN := Lib.hid ((VN.out).below hb6)
      have VP := Lib.hid ((VP.out).below hb6)
      have VM := Lib.hid ((VM.out).below hb6)
      clear hb6
      clear o1 o2 o3
      by_cases hHT : hasT rp dt = true
      · have HT := Lib.hid hHT
        clear hHT
        obtain rfl : code2 = 1 := HC2.out.symm.trans (DF.out.again HT.out)
        have xa0 := (Vxa.out 0 _ rfl).1
        have xaf0 := (Vxa.out 0 _ rfl).2
        have xa1 := (Vxa.out 1 _ rfl).1
        have xaf1 := (Vxa.out 1 _ rfl).2
        have xd0 := (Vxd.out 0 _ rfl).1
        have xdf0 := (Vxd.out 0 _ rfl).2
        have xd1 := (Vxd.out 1 _ rfl).1
        have xdf1 := (Vxd.out 1 _ rfl).2
        have xd2 := (Vxd.out 2 _ rfl).1
        have xdf2 := (Vxd.out 2 _ rfl).2
        have xd3 := (Vxd.out 3 _ rfl).1
        have xdf3 := (Vxd.out 3 _ rfl).2
        have xd4 := (Vxd.out 4 _ rfl).1
        have xdf4 := (Vxd.out 4 _ rfl).2
        have xd5 := (Vxd.out 5 _ rfl).1
        have xdf5 := (Vxd.out 5 _ rfl).2
        have xd6 := (Vxd.out 6 _ rfl).1
        have xdf6 := (Vxd.out 6 _ rfl).2
        have xo0 := (Vxo.out 0 _ rfl).1
        have xof0 := (Vxo.out 0 _ rfl).2
        have xo1 := (Vxo.out 1 _ rfl).1
        have xof1 := (Vxo.out 1 _ rfl).2
        have xv0 := (Vxv.out 0 _ rfl).1
        have xvf0 := (Vxv.out 0 _ rfl).2
        have xv1 := (Vxv.out 1 _ rfl).1
        have xvf1 := (Vxv.out 1 _ rfl).2
        go_wp2_with fail
        refine (hasTsn_any b2 m2 k2 rp dt _ ((OP.out).below (below_box (.cells (List.toArray [.slice p1 l1 q1, .slice p2 l2 q2]) 26) (Nat.le_refl _)))).mono ?_
        rw [HT.out]
        rintro e w7 ⟨rfl, hb7⟩
        clear xa0 xaf0 xa1 xaf1 xd0 xdf0 xd1 xdf1 xd2 xdf2 xd3 xdf3 xd4 xdf4 xd5 xdf5 xd6 xdf6 xo0 xof0 xo1 xof1 xv0 xvf0 xv1 xvf1
        have Vxa := Lib.hid (((Vxa.out).alloc (.cells (List.toArray [.slice p1 l1 q1, .slice p2 l2 q2]) 26) (by omega)).below hb7 (by simp; omega))
        have Vxd := Lib.hid (((Vxd.out).alloc (.cells (List.toArray [.slice p1 l1 q1, .slice p2 l2 q2]) 26) (by omega)).below hb7 (by simp; omega))
        have Vxo := Lib.hid (((Vxo.out).alloc (.cells (List.toArray [.slice p1 l1 q1, .slice p2 l2 q2]) 26) (by omega)).below hb7 (by simp; omega))
        have Vxv := Lib.hid (((Vxv.out).alloc (.cells (List.toArray [.slice p1 l1 q1, .slice p2 l2 q2]) 26) (by omega)).below hb7 (by simp; omega))
        have Vxz := Lib.hid ((VarN.new_at (w := w6) (d := w6.heap.size) (by simp) [.slice p1 l1 q1, .slice p2 l2 q2] 26).below hb7 (by simp))
        have HB7 := Lib.hid (((HB6.out).alloc (Nat.le_trans HB6.out.size (by exact Nat.le_refl _)) (.cells (List.toArray [.slice p1 l1 q1, .slice p2 l2 q2]) 26)).trans (hb7.mono (Nat.le_trans HB6.out.size (by simp <;> omega))))
        have ltxa : w1.heap.size < w7.heap.size := lt_of_cell (Vxa.out 0 _ rfl).1
        have ltxd : w1.heap.size + 1 < w7.heap.size := lt_of_cell (Vxd.out 0 _ rfl).1
        have ltxo : w2.heap.size < w7.heap.size := lt_of_cell (Vxo.out 0 _ rfl).1
        have ltxv : w3.heap.size < w7.heap.size := lt_of_cell (Vxv.out 0 _ rfl).1
        have ltxz : w6.heap.size < w7.heap.size := lt_of_cell (Vxz.out 0 _ rfl).1
        have nexa : ¬ w1.heap.size = w7.heap.size := by omega
        have nexd : ¬ w1.heap.size + 1 = w7.heap.size := by omega
        have nexo : ¬ w2.heap.size = w7.heap.size := by omega
        have nexv : ¬ w3.heap.size = w7.heap.size := by omega
        have nexz : ¬ w6.heap.size = w7.heap.size := by omega
        have NA := Lib.hid (((NA.out).below (below_box (.cells (List.toArray [.slice p1 l1 q1, .slice p2 l2 q2]) 26) (Nat.le_refl _))).below hb7)
        have PA := Lib.hid (((PA.out).below (below_box (.cells (List.toArray [.slice p1 l1 q1, .slice p2 l2 q2]) 26) (Nat.le_refl _))).below hb7)
        have ON := Lib.hid (((ON.out).below (below_box (.cells (List.toArray [.slice p1 l1 q1, .slice p2 l2 q2]) 26) (Nat.le_refl _))).below hb7)
        have OP := Lib.hid (((OP.out).below (below_box (.cells (List.toArray [.slice p1 l1 q1, .slice p2 l2 q2]) 26) (Nat.le_refl _))).below hb7)
        have OM := Lib.hid (((OM.out).below (below_box (.cells (List.toArray [.slice p1 l1 q1, .slice p2 l2 q2]) 26) (Nat.le_refl _))).below hb7)
        have VN := Lib.hid (((VN.out).below (below_box (.cells (List.toArray [.slice p1 l1 q1, .slice p2 l2 q2]) 26) (Nat.le_refl _))).below hb7)
        have VP := Lib.hid (((VP.out).below (below_box (.cells (List.toArray [.slice p1 l1 q1, .slice p2 l2 q2]) 26) (Nat.le_refl _))).below hb7)
        have VM := Lib.hid (((VM.out).below (below_box (.cells (List.toArray [.slice p1 l1 q1, .slice p2 l2 q2]) 26) (Nat.le_refl _))).below hb7)
        clear hb7
        have xa0 := (Vxa.out 0 _ rfl).1
        have xaf0 := (Vxa.out 0 _ rfl).2
        have xa1 := (Vxa.out 1 _ rfl).1
        have xaf1 := (Vxa.out 1 _ rfl).2
        have xd0 := (Vxd.out 0 _ rfl).1
        have xdf0 := (Vxd.out 0 _ rfl).2
        have xd1 := (Vxd.out 1 _ rfl).1
        have xdf1 := (Vxd.out 1 _ rfl).2
        have xd2 := (Vxd.out 2 _ rfl).1
        have xdf2 := (Vxd.out 2 _ rfl).2
        have xd3 := (Vxd.out 3 _ rfl).1
        have xdf3 := (Vxd.out 3 _ rfl).2
        have xd4 := (Vxd.out 4 _ rfl).1
        have xdf4 := (Vxd.out 4 _ rfl).2
        have xd5 := (Vxd.out 5 _ rfl).1
        have xdf5 := (Vxd.out 5 _ rfl).2
        have xd6 := (Vxd.out 6 _ rfl).1
        have xdf6 := (Vxd.out 6 _ rfl).2
        have xo0 := (Vxo.out 0 _ rfl).1
        have xof0 := (Vxo.out 0 _ rfl).2
        have xo1 := (Vxo.out 1 _ rfl).1
        have xof1 := (Vxo.out 1 _ rfl).2
        have xv0 := (Vxv.out 0 _ rfl).1
        have xvf0 := (Vxv.out 0 _ rfl).2
        have xv1 := (Vxv.out 1 _ rfl).1
        have xvf1 := (Vxv.out 1 _ rfl).2
        have xz0 := (Vxz.out 0 _ rfl).1
        have xzf0 := (Vxz.out 0 _ rfl).2
        have xz1 := (Vxz.out 1 _ rfl).1
        have xzf1 := (Vxz.out 1 _ rfl).2
        go_wp2
        go_ret
        exact ⟨rfl, HB7.out⟩
      · have HT := Lib.hid (show hasT rp dt = false by simpa using hHT)
        clear hHT
        have xa0 := (Vxa.out 0 _ rfl).1
        have xaf0 := (Vxa.out 0 _ rfl).2
        have xa1 := (Vxa.out 1 _ rfl).1
        have xaf1 := (Vxa.out 1 _ rfl).2
        have xd0 := (Vxd.out 0 _ rfl).1
        have xdf0 := (Vxd.out 0 _ rfl).2
        have xd1 := (Vxd.out 1 _ rfl).1
        have xdf1 := (Vxd.out 1 _ rfl).2
        have xd2 := (Vxd.out 2 _ rfl).1
        have xdf2 := (Vxd.out 2 _ rfl).2
        have xd3 := (Vxd.out 3 _ rfl).1
        have xdf3 := (Vxd.out 3 _ rfl).2
        have xd4 := (Vxd.out 4 _ rfl).1
        have xdf4 := (Vxd.out 4 _ rfl).2
        have xd5 := (Vxd.out 5 _ rfl).1
        have xdf5 := (Vxd.out 5 _ rfl).2
        have xd6 := (Vxd.out 6 _ rfl).1
        have xdf6 := (Vxd.out 6 _ rfl).2
        have xo0 := (Vxo.out 0 _ rfl).1
        have xof0 := (Vxo.out 0 _ rfl).2
        have xo1 := (Vxo.out 1 _ rfl).1
        have xof1 := (Vxo.out 1 _ rfl).2
        have xv0 := (Vxv.out 0 _ rfl).1
        have xvf0 := (Vxv.out 0 _ rfl).2
        have xv1 := (Vxv.out 1 _ rfl).1
        have xvf1 := (Vxv.out 1 _ rfl).2
        go_wp2_with fail
        refine (hasTsn_any b2 m2 k2 rp dt _ ((OP.out).below (below_box (.cells (List.toArray [.slice p1 l1 q1, .slice p2 l2 q2]) 26) (Nat.le_refl _)))).mono ?_
        rw [HT.out]
        rintro e w7 ⟨rfl, hb7⟩
        clear xa0 xaf0 xa1 xaf1 xd0 xdf0 xd1 xdf1 xd2 xdf2 xd3 xdf3 xd4 xdf4 xd5 xdf5 xd6 xdf6 xo0 xof0 xo1 xof1 xv0 xvf0 xv1 xvf1
        have Vxa := Lib.hid (((Vxa.out).alloc (.cells (List.toArray [.slice p1 l1 q1, .slice p2 l2 q2]) 26) (by omega)).below hb7 (by simp; omega))
        have Vxd := Lib.hid (((Vxd.out).alloc (.cells (List.toArray [.slice p1 l1 q1, .slice p2 l2 q2]) 26) (by omega)).below hb7 (by simp; omega))
        have Vxo := Lib.hid (((Vxo.out).alloc (.cells (List.toArray [.slice p1 l1 q1, .slice p2 l2 q2]) 26) (by omega)).below hb7 (by simp; omega))
        have Vxv := Lib.hid (((Vxv.out).alloc (.cells (List.toArray [.slice p1 l1 q1, .slice p2 l2 q2]) 26) (by omega)).below hb7 (by simp; omega))
        have Vxz := Lib.hid ((VarN.new_at (w := w6) (d := w6.heap.size) (by simp) [.slice p1 l1 q1, .slice p2 l2 q2] 26).below hb7 (by simp))
        have HB7 := Lib.hid (((HB6.out).alloc (Nat.le_trans HB6.out.size (by exact Nat.le_refl _)) (.cells (List.toArray [.slice p1 l1 q1, .slice p2 l2 q2]) 26)).trans (hb7.mono (Nat.le_trans HB6.out.size (by simp <;> omega))))
        have ltxa : w1.heap.size < w7.heap.size := lt_of_cell (Vxa.out 0 _ rfl).1
        have ltxd : w1.heap.size + 1 < w7.heap.size := lt_of_cell (Vxd.out 0 _ rfl).1
        have ltxo : w2.heap.size < w7.heap.size := lt_of_cell (Vxo.out 0 _ rfl).1
        have ltxv : w3.heap.size < w7.heap.size := lt_of_cell (Vxv.out 0 _ rfl).1
        have ltxz : w6.heap.size < w7.heap.size := lt_of_cell (Vxz.out 0 _ rfl).1
        have nexa : ¬ w1.heap.size = w7.heap.size := by omega
        have nexd : ¬ w1.heap.size + 1 = w7.heap.size := by omega
        have nexo : ¬ w2.heap.size = w7.heap.size := by omega
        have nexv : ¬ w3.heap.size = w7.heap.size := by omega
        have nexz : ¬ w6.heap.size = w7.heap.size := by omega
        have NA := Lib.hid (((NA.out).below (below_box (.cells (List.toArray [.slice p1 l1 q1, .slice p2 l2 q2]) 26) (Nat.le_refl _))).below hb7)
        have PA := Lib.hid (((PA.out).below (below_box (.cells (List.toArray [.slice p1 l1 q1, .slice p2 l2 q2]) 26) (Nat.le_refl _))).below hb7)
        have ON := Lib.hid (((ON.out).below (below_box (.cells (List.toArray [.slice p1 l1 q1, .slice p2 l2 q2]) 26) (Nat.le_refl _))).below hb7)
        have OP := Lib.hid (((OP.out).below (below_box (.cells (List.toArray [.slice p1 l1 q1, .slice p2 l2 q2]) 26) (Nat.le_refl _))).below hb7)
        have OM := Lib.hid (((OM.out).below (below_box (.cells (List.toArray [.slice p1 l1 q1, .slice p2 l2 q2]) 26) (Nat.le_refl _))).below hb7)
        have VN := Lib.hid (((VN.out).below (below_box (.cells (List.toArray [.slice p1 l1 q1, .slice p2 l2 q2]) 26) (Nat.le_refl _))).below hb7)
        have VP := Lib.hid (((VP.out).below (below_box (.cells (List.toArray [.slice p1 l1 q1, .slice p2 l2 q2]) 26) (Nat.le_refl _))).below hb7)
        have VM := Lib.hid (((VM.out).below (below_box (.cells (List.toArray [.slice p1 l1 q1, .slice p2 l2 q2]) 26) (Nat.le_refl _))).below hb7)
        clear hb7
        have xa0 := (Vxa.out 0 _ rfl).1
        have xaf0 := (Vxa.out 0 _ rfl).2
        have xa1 := (Vxa.out 1 _ rfl).1
        have xaf1 := (Vxa.out 1 _ rfl).2
        have xd0 := (Vxd.out 0 _ rfl).1
        have xdf0 := (Vxd.out 0 _ rfl).2
        have xd1 := (Vxd.out 1 _ rfl).1
        have xdf1 := (Vxd.out 1 _ rfl).2
        have xd2 := (Vxd.out 2 _ rfl).1
        have xdf2 := (Vxd.out 2 _ rfl).2
        have xd3 := (Vxd.out 3 _ rfl).1
        have xdf3 := (Vxd.out 3 _ rfl).2
        have xd4 := (Vxd.out 4 _ rfl).1
        have xdf4 := (Vxd.out 4 _ rfl).2
        have xd5 := (Vxd.out 5 _ rfl).1
        have xdf5 := (Vxd.out 5 _ rfl).2
        have xd6 := (Vxd.out 6 _ rfl).1
        have xdf6 := (Vxd.out 6 _ rfl).2
        have xo0 := (Vxo.out 0 _ rfl).1
        have xof0 := (Vxo.out 0 _ rfl).2
        have xo1 := (Vxo.out 1 _ rfl).1
        have xof1 := (Vxo.out 1 _ rfl).2
        have xv0 := (Vxv.out 0 _ rfl).1
        have xvf0 := (Vxv.out 0 _ rfl).2
        have xv1 := (Vxv.out 1 _ rfl).1
        have xvf1 := (Vxv.out 1 _ rfl).2
        have xz0 := (Vxz.out 0 _ rfl).1
        have xzf0 := (Vxz.out 0 _ rfl).2
        have xz1 := (Vxz.out 1 _ rfl).1
        have xzf1 := (Vxz.out 1 _ rfl).2
        go_wp2
        go_ret
        exact ⟨rfl, HB7.out⟩
    · have xa0 := (Vxa.out 0 _ rfl).1
      have xaf0 := (Vxa.out 0 _ rfl).2
      have xa1 := (Vxa.out 1 _ rfl).1
      have xaf1 := (Vxa.out 1 _ rfl).2
      have xd0 := (Vxd.out 0 _ rfl).1
      have xdf0 := (Vxd.out 0 _ rfl).2
      have xd1 := (Vxd.out 1 _ rfl).1
      have xdf1 := (Vxd.out 1 _ rfl).2
      have xd2 := (Vxd.out 2 _ rfl).1
      have xdf2 := (Vxd.out 2 _ rfl).2
      have xd3 := (Vxd.out 3 _ rfl).1
      have xdf3 := (Vxd.out 3 _ rfl).2
      have xd4 := (Vxd.out 4 _ rfl).1
      have xdf4 := (Vxd.out 4 _ rfl).2
      have xd5 := (Vxd.out 5 _ rfl).1
      have xdf5 := (Vxd.out 5 _ rfl).2
      have xd6 := (Vxd.out 6 _ rfl).1
      have xdf6 := (Vxd.out 6 _ rfl).2
      have xo0 := (Vxo.out 0 _ rfl).1
      have xof0 := (Vxo.out 0 _ rfl).2
      have xo1 := (Vxo.out 1 _ rfl).1
      have xof1 := (Vxo.out 1 _ rfl).2
      have xv0 := (Vxv.out 0 _ rfl).1
      have xvf0 := (Vxv.out 0 _ rfl).2
      have xv1 := (Vxv.out 1 _ rfl).1
      have xvf1 := (Vxv.out 1 _ rfl).2
      go_wp2_with fail
      refine (sameAsm_same _ _ _ _ m1 k1 j1 m2 k2 j2 rn rp _ ON.out VN.out OP.out VP.out).mono ?_
      rintro e w6 ⟨rfl, hb6⟩
      clear xa0 xaf0 xa1 xaf1 xd0 xdf0 xd1 xdf1 xd2 xdf2 xd3 xdf3 xd4 xdf4 xd5 xdf5 xd6 xdf6 xo0 xof0 xo1 xof1 xv0 xvf0 xv1 xvf1
      have Vxa := Lib.hid ((Vxa.out).below hb6 ltxa)
      have Vxd := Lib.hid ((Vxd.out).below hb6 ltxd)
      have Vxo := Lib.hid ((Vxo.out).below hb6 ltxo)
      have Vxv := Lib.hid ((Vxv.out).below hb6 ltxv)
      have HB6 := Lib.hid (HB5.out.trans (hb6.mono HB5.out.size))
      have ltxa : w1.heap.size < w6.heap.size := lt_of_cell (Vxa.out 0 _ rfl).1
      have ltxd : w1.heap.size + 1 < w6.heap.size := lt_of_cell (Vxd.out 0 _ rfl).1
      have ltxo : w2.heap.size < w6.heap.size := lt_of_cell (Vxo.out 0 _ rfl).1
      have ltxv : w3.heap.size < w6.heap.size := lt_of_cell (Vxv.out 0 _ rfl).1
      have nexa : ¬ w1.heap.size = w6.heap.size := by omega
      have nexd : ¬ w1.heap.size + 1 = w6.heap.size := by omega
      have nexo : ¬ w2.heap.size = w6.heap.size := by omega
      have nexv : ¬ w3.heap.size = w6.heap.size := by omega
      have NA := Lib.hid ((NA.out).below hb6)
      have PA := Lib.hid ((PA.out).below hb6)
      have ON := Lib.hid ((ON.out).below hb6)
      have OP := Lib.hid ((OP.out).below hb6)
      have OM := Lib.hid ((OM.out).below hb6)
      have VN := Lib.hid ((VN.out).below hb6)
      have VP := Lib.hid ((VP.out).below hb6)
      have VM := Lib.hid ((VM.out).below hb6)
      clear hb6
      have xa0 := (Vxa.out 0 _ rfl).1
      have xaf0 := (Vxa.out 0 _ rfl).2
      have xa1 := (Vxa.out 1 _ rfl).1
      have xaf1 := (Vxa.out 1 _ rfl).2
      have xd0 := (Vxd.out 0 _ rfl).1
      have xdf0 := (Vxd.out 0 _ rfl).2
      have xd1 := (Vxd.out 1 _ rfl).1
      have xdf1 := (Vxd.out 1 _ rfl).2
      have xd2 := (Vxd.out 2 _ rfl).1
      have xdf2 := (Vxd.out 2 _ rfl).2
      have xd3 := (Vxd.out 3 _ rfl).1
      have xdf3 := (Vxd.out 3 _ rfl).2
      have xd4 := (Vxd.out 4 _ rfl).1
      have xdf4 := (Vxd.out 4 _ rfl).2
      have xd5 := (Vxd.out 5 _ rfl).1
      have xdf5 := (Vxd.out 5 _ rfl).2
      have xd6 := (Vxd.out 6 _ rfl).1
      have xdf6 := (Vxd.out 6 _ rfl).2
      have xo0 := (Vxo.out 0 _ rfl).1
      have xof0 := (Vxo.out 0 _ rfl).2
      have xo1 := (Vxo.out 1 _ rfl).1
      have xof1 := (Vxo.out 1 _ rfl).2
      have xv0 := (Vxv.out 0 _ rfl).1
      have xvf0 := (Vxv.out 0 _ rfl).2
      have xv1 := (Vxv.out 1 _ rfl).1
      have xvf1 := (Vxv.out 1 _ rfl).2
      go_wp2_with fail
      refine (sameMessages_same _ _ m3 k3 j3 rm _ OM.out VM.out).mono ?_
      rintro e w7 ⟨rfl, hb7⟩
      clear xa0 xaf0 xa1 xaf1 xd0 xdf0 xd1 xdf1 xd2 xdf2 xd3 xdf3 xd4 xdf4 xd5 xdf5 xd6 xdf6 xo0 xof0 xo1 xof1 xv0 xvf0 xv1 xvf1
      have Vxa := Lib.hid ((Vxa.out).below hb7 ltxa)
      have Vxd := Lib.hid ((Vxd.out).below hb7 ltxd)
      have Vxo := Lib.hid ((Vxo.out).below hb7 ltxo)
      have Vxv := Lib.hid ((Vxv.out).below hb7 ltxv)
      have HB7 := Lib.hid (HB6.out.trans (hb7.mono HB6.out.size))
      have ltxa : w1.heap.size < w7.heap.size := lt_of_cell (Vxa.out 0 _ rfl).1
      have ltxd : w1.heap.size + 1 < w7.heap.size := lt_of_cell (Vxd.out 0 _ rfl).1
      have ltxo : w2.heap.size < w7.heap.size := lt_of_cell (Vxo.out 0 _ rfl).1
      have ltxv : w3.heap.size < w7.heap.size := lt_of_cell (Vxv.out 0 _ rfl).1
      have nexa : ¬ w1.heap.size = w7.heap.size := by omega
      have nexd : ¬ w1.heap.size + 1 = w7.heap.size := by omega
      have nexo : ¬ w2.heap.size = w7.heap.size := by omega
      have nexv : ¬ w3.heap.size = w7.heap.size := by omega
      have NA := Lib.hid ((NA.out).below hb7)
      have PA := Lib.hid ((PA.out).below hb7)
      have ON := Lib.hid ((ON.out).below hb7)
      have OP := Lib.hid ((OP.out).below hb7)
      have OM := Lib.hid ((OM.out).below hb7)
      have VN := Lib.hid ((VN.out).below hb7)
      have VP := Lib.hid ((VP.out).below hb7)
      have VM := Lib.hid ((VM.out).below hb7)
      clear hb7
      have xa0 := (Vxa.out 0 _ rfl).1
      have xaf0 := (Vxa.out 0 _ rfl).2
      have xa1 := (Vxa.out 1 _ rfl).1
      have xaf1 := (Vxa.out 1 _ rfl).2
      have xd0 := (Vxd.out 0 _ rfl).1
      have xdf0 := (Vxd.out 0 _ rfl).2
      have xd1 := (Vxd.out 1 _ rfl).1
      have xdf1 := (Vxd.out 1 _ rfl).2
      have xd2 := (Vxd.out 2 _ rfl).1
      have xdf2 := (Vxd.out 2 _ rfl).2
      have xd3 := (Vxd.out 3 _ rfl).1
      have xdf3 := (Vxd.out 3 _ rfl).2
      have xd4 := (Vxd.out 4 _ rfl).1
      have xdf4 := (Vxd.out 4 _ rfl).2
      have xd5 := (Vxd.out 5 _ rfl).1
      have xdf5 := (Vxd.out 5 _ rfl).2
      have xd6 := (Vxd.out 6 _ rfl).1
      have xdf6 := (Vxd.out 6 _ rfl).2
      have xo0 := (Vxo.out 0 _ rfl).1
      have xof0 := (Vxo.out 0 _ rfl).2
      have xo1 := (Vxo.out 1 _ rfl).1
      have xof1 := (Vxo.out 1 _ rfl).2
      have xv0 := (Vxv.out 0 _ rfl).1
      have xvf0 := (Vxv.out 0 _ rfl).2
      have xv1 := (Vxv.out 1 _ rfl).1
      have xvf1 := (Vxv.out 1 _ rfl).2
      go_wp2
      go_ret
      exact ⟨rfl, HB7.out⟩

set_option maxHeartbeats 4000000 in
theorem walk_fnAsmTwice (a0 : Option Addr) (len0 cap0 : Nat) (z0 : List Int) (w : World) (w0 : IsRow .u8 w a0 len0 cap0 z0) :
    Calls Try.prog 5 #[.slice a0 len0 cap0] w fun e w' => e = .returned (.bool true) ∧ Below w.heap.size w w' := by
  have H := Lib.hid w0
  clear w0
  by_cases hl : (1048576 : Int) < len0
  · go_enter Try.func5, Try.ntmps5
    go_wp2
    go_ret
    exact ⟨rfl, Below.refl _ _⟩
  · go_enter Try.func5, Try.ntmps5
    go_wp2_with fail
    refine (drawAsmAdd_any a0 len0 cap0 z0 _ H.out).mono ?_
    rintro e w1 ⟨a1, n1, c1, a2, n2, c2, es, qs, ⟨dt, ds, dq, dfi, dla, dlo, dtx⟩, rfl, hn1, hn2, hsm, hsp, hns, hpt, hb1⟩
    rw [partV_eq]
    have NA := Lib.hid hns
    have PA := Lib.hid hpt
    have KY := Lib.hid (smally_keys hsm)
    have SM := Lib.hid hsm
    have SP := Lib.hid hsp
    have LNA := Lib.hid hns.length
    have LPA := Lib.hid hpt.length
    clear hns hpt hsm hsp
    obtain ⟨⟨rn, rp, rm⟩, hr⟩ : ∃ r, ansR es qs ⟨dt, ds, dq, dfi, dla, dlo, dtx⟩ = r := ⟨_, rfl⟩
    obtain ⟨code, hc⟩ : ∃ c, ansC es qs ⟨dt, ds, dq, dfi, dla, dlo, dtx⟩ = c := ⟨_, rfl⟩
    have few := ansR_few hr
    obtain ⟨m1, hm1⟩ : ∃ n, rn.length = n := ⟨_, rfl⟩
    obtain ⟨m2, hm2⟩ : ∃ n, rp.length = n := ⟨_, rfl⟩
    obtain ⟨m3, hm3⟩ : ∃ n, rm.length = n := ⟨_, rfl⟩
    rw [hm1, hm2, hm3] at few
    have HR := Lib.hid hr
    have HC := Lib.hid hc
    have HLN := Lib.hid (And.intro hm1 (And.intro hm2 hm3))
    clear hr hc hm1 hm2 hm3
    go_wp2_with fail
    refine (asmAdd_is a1 n1 c1 es a2 n2 c2 qs dt ds dq dfi dla dlo dtx _ (((NA.out).below (below_box (.cells (List.toArray [.slice a1 n1 c1, .slice a2 n2 c2]) 26) (Nat.le_refl _))).below (below_box (.cells (List.toArray [.int .i64 dt, .int .i64 ds, .int .i64 dq, .bool dfi, .bool dla, .bool dlo, .string dtx]) 28) (Nat.le_refl _))) (((PA.out).below (below_box (.cells (List.toArray [.slice a1 n1 c1, .slice a2 n2 c2]) 26) (Nat.le_refl _))).below (below_box (.cells (List.toArray [.int .i64 dt, .int .i64 ds, .int .i64 dq, .bool dfi, .bool dla, .bool dlo, .string dtx]) 28) (Nat.le_refl _))) KY.out HR.out HC.out HLN.out).mono ?_
    rintro e w2 ⟨b1, k1, b2, k2, b3, k3, rfl, ⟨o1, o2, o3⟩, hb2⟩
    have Vxa := Lib.hid (((VarN.new_at (w := w1) (d := w1.heap.size) (by simp) [.slice a1 n1 c1, .slice a2 n2 c2] 26).alloc (.cells (List.toArray [.int .i64 dt, .int .i64 ds, .int .i64 dq, .bool dfi, .bool dla, .bool dlo, .string dtx]) 28) (by first | omega | (simp <;> omega))).below hb2 (by simp <;> omega))
    have Vxd := Lib.hid ((VarN.new_at (w := (w1.alloc (.cells (List.toArray [.slice a1 n1 c1, .slice a2 n2 c2]) 26))) (d := w1.heap.size + 1) (by simp) [.int .i64 dt, .int .i64 ds, .int .i64 dq, .bool dfi, .bool dla, .bool dlo, .string dtx] 28).below hb2 (by simp))
    have HB2 := Lib.hid ((((hb1).alloc (Nat.le_trans hb1.size (by exact Nat.le_refl _)) (.cells (List.toArray [.slice a1 n1 c1, .slice a2 n2 c2]) 26)).alloc (Nat.le_trans hb1.size (by simp <;> omega)) (.cells (List.toArray [.int .i64 dt, .int .i64 ds, .int .i64 dq, .bool dfi, .bool dla, .bool dlo, .string dtx]) 28)).trans (hb2.mono (Nat.le_trans hb1.size (by simp <;> omega))))
    have ltxa : w1.heap.size < w2.heap.size := lt_of_cell (Vxa.out 0 _ rfl).1
    have ltxd : w1.heap.size + 1 < w2.heap.size := lt_of_cell (Vxd.out 0 _ rfl).1
    have nexa : ¬ w1.heap.size = w2.heap.size := by omega
    have nexd : ¬ w1.heap.size + 1 = w2.heap.size := by omega
    have NA := Lib.hid ((((NA.out).below (below_box (.cells (List.toArray [.slice a1 n1 c1, .slice a2 n2 c2]) 26) (Nat.le_refl _))).below (below_box (.cells (List.toArray [.int .i64 dt, .int .i64 ds, .int .i64 dq, .bool dfi, .bool dla, .bool dlo, .string dtx]) 28) (Nat.le_refl _))).below hb2)
    have PA := Lib.hid ((((PA.out).below (below_box (.cells (List.toArray [.slice a1 n1 c1, .slice a2 n2 c2]) 26) (Nat.le_refl _))).below (below_box (.cells (List.toArray [.int .i64 dt, .int .i64 ds, .int .i64 dq, .bool dfi, .bool dla, .bool dlo, .string dtx]) 28) (Nat.le_refl _))).below hb2)
    clear hb2
    have ON := Lib.hid (own_ns o1)
    have OP := Lib.hid (own_pts o2)
    have OM := Lib.hid (own_mgs o3)
    clear o1 o2 o3
    have xa0 := (Vxa.out 0 _ rfl).1
    have xaf0 := (Vxa.out 0 _ rfl).2
    have xa1 := (Vxa.out 1 _ rfl).1
    have xaf1 := (Vxa.out 1 _ rfl).2
    have xd0 := (Vxd.out 0 _ rfl).1
    have xdf0 := (Vxd.out 0 _ rfl).2
    have xd1 := (Vxd.out 1 _ rfl).1
    have xdf1 := (Vxd.out 1 _ rfl).2
    have xd2 := (Vxd.out 2 _ rfl).1
    have xdf2 := (Vxd.out 2 _ rfl).2
    have xd3 := (Vxd.out 3 _ rfl).1
    have xdf3 := (Vxd.out 3 _ rfl).2
    have xd4 := (Vxd.out 4 _ rfl).1
    have xdf4 := (Vxd.out 4 _ rfl).2
    have xd5 := (Vxd.out 5 _ rfl).1
    have xdf5 := (Vxd.out 5 _ rfl).2
    have xd6 := (Vxd.out 6 _ rfl).1
    have xdf6 := (Vxd.out 6 _ rfl).2
    go_wp2_with fail
    refine (sAsmAdd_is a1 n1 c1 es a2 n2 c2 qs dt ds dq dfi dla dlo dtx _ ((NA.out).below (below_box (.cells (List.toArray [.slice b1 m1 k1, .slice b2 m2 k2]) 26) (Nat.le_refl _))) ((PA.out).below (below_box (.cells (List.toArray [.slice b1 m1 k1, .slice b2 m2 k2]) 26) (Nat.le_refl _))) HR.out HC.out HLN.out).mono ?_
    rintro e w3 ⟨g1, j1, g2, j2, g3, j3, rfl, ⟨o1, o2, o3⟩, hb3⟩
    clear xa0 xaf0 xa1 xaf1 xd0 xdf0 xd1 xdf1 xd2 xdf2 xd3 xdf3 xd4 xdf4 xd5 xdf5 xd6 xdf6
    have Vxa := Lib.hid (((Vxa.out).alloc (.cells (List.toArray [.slice b1 m1 k1, .slice b2 m2 k2]) 26) (by omega)).below hb3 (by simp; omega))
    have Vxd := Lib.hid (((Vxd.out).alloc (.cells (List.toArray [.slice b1 m1 k1, .slice b2 m2 k2]) 26) (by omega)).below hb3 (by simp; omega))
    have Vxo := Lib.hid ((VarN.new_at (w := w2) (d := w2.heap.size) (by simp) [.slice b1 m1 k1, .slice b2 m2 k2] 26).below hb3 (by simp))
    have HB3 := Lib.hid (((HB2.out).alloc (Nat.le_trans HB2.out.size (by exact Nat.le_refl _)) (.cells (List.toArray [.slice b1 m1 k1, .slice b2 m2 k2]) 26)).trans (hb3.mono (Nat.le_trans HB2.out.size (by simp <;> omega))))
    have ltxa : w1.heap.size < w3.heap.size := lt_of_cell (Vxa.out 0 _ rfl).1
    have ltxd : w1.heap.size + 1 < w3.heap.size := lt_of_cell (Vxd.out 0 _ rfl).1
    have ltxo : w2.heap.size < w3.heap.size := lt_of_cell (Vxo.out 0 _ rfl).1
    have nexa : ¬ w1.heap.size = w3.heap.size := by omega
    have nexd : ¬ w1.heap.size + 1 = w3.heap.size := by omega
    have nexo : ¬ w2.heap.size = w3.heap.size := by omega
    have NA := Lib.hid (((NA.out).below (below_box (.cells (List.toArray [.slice b1 m1 k1, .slice b2 m2 k2]) 26) (Nat.le_refl _))).below hb3)
    have PA := Lib.hid (((PA.out).below (below_box (.cells (List.toArray [.slice b1 m1 k1, .slice b2 m2 k2]) 26) (Nat.le_refl _))).below hb3)
    have ON := Lib.hid (((ON.out).below (below_box (.cells (List.toArray [.slice b1 m1 k1, .slice b2 m2 k2]) 26) (Nat.le_refl _))).below hb3)
    have OP := Lib.hid (((OP.out).below (below_box (.cells (List.toArray [.slice b1 m1 k1, .slice b2 m2 k2]) 26) (Nat.le_refl _))).below hb3)
    have OM := Lib.hid (((OM.out).below (below_box (.cells (List.toArray [.slice b1 m1 k1, .slice b2 m2 k2]) 26) (Nat.le_refl _))).below hb3)
    clear hb3
    have VN := Lib.hid (own_ns o1)
    have VP := Lib.hid (own_pts o2)
    have VM := Lib.hid (own_mgs o3)
    clear o1 o2 o3
    have xa0 := (Vxa.out 0 _ rfl).1
    have xaf0 := (Vxa.out 0 _ rfl).2
    have xa1 := (Vxa.out 1 _ rfl).1
    have xaf1 := (Vxa.out 1 _ rfl).2
    have xd0 := (Vxd.out 0 _ rfl).1
    have xdf0 := (Vxd.out 0 _ rfl).2
    have xd1 := (Vxd.out 1 _ rfl).1
    have xdf1 := (Vxd.out 1 _ rfl).2
    have xd2 := (Vxd.out 2 _ rfl).1
    have xdf2 := (Vxd.out 2 _ rfl).2
    have xd3 := (Vxd.out 3 _ rfl).1
    have xdf3 := (Vxd.out 3 _ rfl).2
    have xd4 := (Vxd.out 4 _ rfl).1
    have xdf4 := (Vxd.out 4 _ rfl).2
    have xd5 := (Vxd.out 5 _ rfl).1
    have xdf5 := (Vxd.out 5 _ rfl).2
    have xd6 := (Vxd.out 6 _ rfl).1
    have xdf6 := (Vxd.out 6 _ rfl).2
    have xo0 := (Vxo.out 0 _ rfl).1
    have xof0 := (Vxo.out 0 _ rfl).2
    have xo1 := (Vxo.out 1 _ rfl).1
    have xof1 := (Vxo.out 1 _ rfl).2
    go_wp2_with fail
    refine (sameAsm_same _ _ _ _ m1 k1 j1 m2 k2 j2 rn rp _ ((ON.out).below (below_box (.cells (List.toArray [.slice g1 m1 j1, .slice g2 m2 j2]) 26) (Nat.le_refl _))) ((VN.out).below (below_box (.cells (List.toArray [.slice g1 m1 j1, .slice g2 m2 j2]) 26) (Nat.le_refl _))) ((OP.out).below (below_box (.cells (List.toArray [.slice g1 m1 j1, .slice g2 m2 j2]) 26) (Nat.le_refl _))) ((VP.out).below (below_box (.cells (List.toArray [.slice g1 m1 j1, .slice g2 m2 j2]) 26) (Nat.le_refl _)))).mono ?_
    rintro e w4 ⟨rfl, hb4⟩
    clear xa0 xaf0 xa1 xaf1 xd0 xdf0 xd1 xdf1 xd2 xdf2 xd3 xdf3 xd4 xdf4 xd5 xdf5 xd6 xdf6 xo0 xof0 xo1 xof1
    have Vxa := Lib.hid (((Vxa.out).alloc (.cells (List.toArray [.slice g1 m1 j1, .slice g2 m2 j2]) 26) (by omega)).below hb4 (by simp; omega))
    have Vxd := Lib.hid (((Vxd.out).alloc (.cells (List.toArray [.slice g1 m1 j1, .slice g2 m2 j2]) 26) (by omega)).below hb4 (by simp; omega))
    have Vxo := Lib.hid (((Vxo.out).alloc (.cells (List.toArray [.slice g1 m1 j1, .slice g2 m2 j2]) 26) (by omega)).below hb4 (by simp; omega))
    have Vxv := Lib.hid ((VarN.new_at (w := w3) (d := w3.heap.size) (by simp) [.slice g1 m1 j1, .slice g2 m2 j2] 26).below hb4 (by simp))
    have HB4 := Lib.hid (((HB3.out).alloc (Nat.le_trans HB3.out.size (by exact Nat.le_refl _)) (.cells (List.toArray [.slice g1 m1 j1, .slice g2 m2 j2]) 26)).trans (hb4.mono (Nat.le_trans HB3.out.size (by simp <;> omega))))
    have ltxa : w1.heap.size < w4.heap.size := lt_of_cell (Vxa.out 0 _ rfl).1
    have ltxd : w1.heap.size + 1 < w4.heap.size := lt_of_cell (Vxd.out 0 _ rfl).1
    have ltxo : w2.heap.size < w4.heap.size := lt_of_cell (Vxo.out 0 _ rfl).1
    have ltxv : w3.heap.size < w4.heap.size := lt_of_cell (Vxv.out 0 _ rfl).1
    have nexa : ¬ w1.heap.size = w4.heap.size := by omega
    have nexd : ¬ w1.heap.size + 1 = w4.heap.size := by omega
    have nexo : ¬ w2.heap.size = w4.heap.size := by omega
    have nexv : ¬ w3.heap.size = w4.heap.size := by omega
    have NA := Lib.hid (((NA.out).below (below_box (.cells (List.toArray [.slice g1 m1 j1, .slice g2 m2 j2]) 26) (Nat.le_refl _))).below hb4)
    have PA := Lib.hid (((PA.out).below (below_box (.cells (List.toArray [.slice g1 m1 j1, .slice g2 m2 j2]) 26) (Nat.le_refl _))).below hb4)
    have ON := Lib.hid (((ON.out).below (below_box (.cells (List.toArray [.slice g1 m1 j1, .slice g2 m2 j2]) 26) (Nat.le_refl _))).below hb4)
    have OP := Lib.hid (((OP.out).below (below_box (.cells (List.toArray [.slice g1 m1 j1, .slice g2 m2 j2]) 26) (Nat.le_refl _))).below hb4)
    have OM := Lib.hid (((OM.out).below (below_box (.cells (List.toArray [.slice g1 m1 j1, .slice g2 m2 j2]) 26) (Nat.le_refl _))).below hb4)
    have VN := Lib.hid (((VN.out).below (below_box (.cells (List.toArray [.slice g1 m1 j1, .slice g2 m2 j2]) 26) (Nat.le_refl _))).below hb4)
    have VP := Lib.hid (((VP.out).below (below_box (.cells (List.toArray [.slice g1 m1 j1, .slice g2 m2 j2]) 26) (Nat.le_refl _))).below hb4)
    have VM := Lib.hid (((VM.out).below (below_box (.cells (List.toArray [.slice g1 m1 j1, .slice g2 m2 j2]) 26) (Nat.le_refl _))).below hb4)
    clear hb4
    have xa0 := (Vxa.out 0 _ rfl).1
    have xaf0 := (Vxa.out 0 _ rfl).2
    have xa1 := (Vxa.out 1 _ rfl).1
    have xaf1 := (Vxa.out 1 _ rfl).2
    have xd0 := (Vxd.out 0 _ rfl).1
    have xdf0 := (Vxd.out 0 _ rfl).2
    have xd1 := (Vxd.out 1 _ rfl).1
    have xdf1 := (Vxd.out 1 _ rfl).2
    have xd2 := (Vxd.out 2 _ rfl).1
    have xdf2 := (Vxd.out 2 _ rfl).2
    have xd3 := (Vxd.out 3 _ rfl).1
    have xdf3 := (Vxd.out 3 _ rfl).2
    have xd4 := (Vxd.out 4 _ rfl).1
    have xdf4 := (Vxd.out 4 _ rfl).2
    have xd5 := (Vxd.out 5 _ rfl).1
    have xdf5 := (Vxd.out 5 _ rfl).2
    have xd6 := (Vxd.out 6 _ rfl).1
    have xdf6 := (Vxd.out 6 _ rfl).2
    have xo0 := (Vxo.out 0 _ rfl).1
    have xof0 := (Vxo.out 0 _ rfl).2
    have xo1 := (Vxo.out 1 _ rfl).1
    have xof1 := (Vxo.out 1 _ rfl).2
    have xv0 := (Vxv.out 0 _ rfl).1
    have xvf0 := (Vxv.out 0 _ rfl).2
    have xv1 := (Vxv.out 1 _ rfl).1
    have xvf1 := (Vxv.out 1 _ rfl).2
    go_wp2_with fail
    refine (sameMessages_same _ _ m3 k3 j3 rm _ OM.out VM.out).mono ?_
    rintro e w5 ⟨rfl, hb5⟩
    clear xa0 xaf0 xa1 xaf1 xd0 xdf0 xd1 xdf1 xd2 xdf2 xd3 xdf3 xd4 xdf4 xd5 xdf5 xd6 xdf6 xo0 xof0 xo1 xof1 xv0 xvf0 xv1 xvf1
    have Vxa := Lib.hid ((Vxa.out).below hb5 ltxa)
    have Vxd := Lib.hid ((Vxd.out).below hb5 ltxd)
    have Vxo := Lib.hid ((Vxo.out).below hb5 ltxo)
    have Vxv := Lib.hid ((Vxv.out).below hb5 ltxv)
    have HB5 := Lib.hid (HB4.out.trans (hb5.mono HB4.out.size))
    have ltxa : w1.heap.size < w5.heap.size := lt_of_cell (Vxa.out 0 _ rfl).1
    have ltxd : w1.heap.size + 1 < w5.heap.size := lt_of_cell (Vxd.out 0 _ rfl).1
    have ltxo : w2.heap.size < w5.heap.size := lt_of_cell (Vxo.out 0 _ rfl).1
    have ltxv : w3.heap.size < w5.heap.size := lt_of_cell (Vxv.out 0 _ rfl).1
    have nexa : ¬ w1.heap.size = w5.heap.size := by omega
    have nexd : ¬ w1.heap.size + 1 = w5.heap.size := by omega
    have nexo : ¬ w2.heap.size = w5.heap.size := by omega
    have nexv : ¬ w3.heap.size = w5.heap.size := by omega
    have NA := Lib.hid ((NA.out).below hb5)
    have PA := Lib.hid ((PA.out).below hb5)
    have ON := Lib.hid ((ON.out).below hb5)
    have OP := Lib.hid ((OP.out).below hb5)
    have OM := Lib.hid ((OM.out).below hb5)
    have VN := Lib.hid ((VN.out).below hb5)
    have VP := Lib.hid ((VP.out).below hb5)
    have VM := Lib.hid ((VM.out).below hb5)
    clear hb5
    by_cases hc3 : ¬ code = 3
    · have CT := Lib.hid (code_twice HR.out HC.out hc3)
      by_cases hc1 : code = 1
      · subst hc1
        have HT := Lib.hid (CT.out.1.1 rfl)
        obtain ⟨e1, e2, e3⟩ := CT.out.2 (by decide)
        have xa0 := (Vxa.out 0 _ rfl).1
        have xaf0 := (Vxa.out 0 _ rfl).2
        have xa1 := (Vxa.out 1 _ rfl).1
        have xaf1 := (Vxa.out 1 _ rfl).2
        have xd0 := (Vxd.out 0 _ rfl).1
        have xdf0 := (Vxd.out 0 _ rfl).2
        have xd1 := (Vxd.out 1 _ rfl).1
        have xdf1 := (Vxd.out 1 _ rfl).2
        have xd2 := (Vxd.out 2 _ rfl).1
        have xdf2 := (Vxd.out 2 _ rfl).2
        have xd3 := (Vxd.out 3 _ rfl).1
        have xdf3 := (Vxd.out 3 _ rfl).2
        have xd4 := (Vxd.out 4 _ rfl).1
        have xdf4 := (Vxd.out 4 _ rfl).2
        have xd5 := (Vxd.out 5 _ rfl).1
        have xdf5 := (Vxd.out 5 _ rfl).2
        have xd6 := (Vxd.out 6 _ rfl).1
        have xdf6 := (Vxd.out 6 _ rfl).2
        have xo0 := (Vxo.out 0 _ rfl).1
        have xof0 := (Vxo.out 0 _ rfl).2
        have xo1 := (Vxo.out 1 _ rfl).1
        have xof1 := (Vxo.out 1 _ rfl).2
        have xv0 := (Vxv.out 0 _ rfl).1
        have xvf0 := (Vxv.out 0 _ rfl).2
        have xv1 := (Vxv.out 1 _ rfl).1
        have xvf1 := (Vxv.out 1 _ rfl).2
        go_wp2_with fail
        refine (hasTsn_any a2 n2 c2 qs dt _ PA.out).mono ?_
        rw [HT.out]
        rintro e w6 ⟨rfl, hb6⟩
        clear xa0 xaf0 xa1 xaf1 xd0 xdf0 xd1 xdf1 xd2 xdf2 xd3 xdf3 xd4 xdf4 xd5 xdf5 xd6 xdf6 xo0 xof0 xo1 xof1 xv0 xvf0 xv1 xvf1
        have Vxa := Lib.hid ((Vxa.out).below hb6 ltxa)
        have Vxd := Lib.hid ((Vxd.out).below hb6 ltxd)
        have Vxo := Lib.hid ((Vxo.out).below hb6 ltxo)
        have Vxv := Lib.hid ((Vxv.out).below hb6 ltxv)
        have HB6 := Lib.hid (HB5.out.trans (hb6.mono HB5.out.size))
        have ltxa : w1.heap.size < w6.heap.size := lt_of_cell (Vxa.out 0 _ rfl).1
        have ltxd : w1.heap.size + 1 < w6.heap.size := lt_of_cell (Vxd.out 0 _ rfl).1
        have ltxo : w2.heap.size < w6.heap.size := lt_of_cell (Vxo.out 0 _ rfl).1
        have ltxv : w3.heap.size < w6.heap.size := lt_of_cell (Vxv.out 0 _ rfl).1
        have nexa : ¬ w1.heap.size = w6.heap.size := by omega
        have nexd : ¬ w1.heap.size + 1 = w6.heap.size := by omega
        have nexo : ¬ w2.heap.size = w6.heap.size := by omega
        have nexv : ¬ w3.heap.size = w6.heap.size := by omega
        have NA := Lib.hid ((NA.out).below hb6)
        have PA := Lib.hid ((PA.out).below hb6)
        have ON := Lib.hid ((ON.out).below hb6)
        have OP := Lib.hid ((OP.out).below hb6)
        have OM := Lib.hid ((OM.out).below hb6)
        have VN := Lib.hid ((VN.out).below hb6)
        have VP := Lib.hid ((VP.out).below hb6)
        have VM := Lib.hid ((VM.out).below hb6)
        clear hb6
        subst e1
        subst e2
        subst e3
        obtain rfl : n1 = m1 := by have := LNA.out; have := HLN.out.1; omega
        obtain rfl : n2 = m2 := by have := LPA.out; have := HLN.out.2.1; omega
        obtain rfl : m3 = 0 := by have := HLN.out.2.2; simpa using this.symm
        have xa0 := (Vxa.out 0 _ rfl).1
        have xaf0 := (Vxa.out 0 _ rfl).2
        have xa1 := (Vxa.out 1 _ rfl).1
        have xaf1 := (Vxa.out 1 _ rfl).2
        have xd0 := (Vxd.out 0 _ rfl).1
        have xdf0 := (Vxd.out 0 _ rfl).2
        have xd1 := (Vxd.out 1 _ rfl).1
        have xdf1 := (Vxd.out 1 _ rfl).2
        have xd2 := (Vxd.out 2 _ rfl).1
        have xdf2 := (Vxd.out 2 _ rfl).2
        have xd3 := (Vxd.out 3 _ rfl).1
        have xdf3 := (Vxd.out 3 _ rfl).2
        have xd4 := (Vxd.out 4 _ rfl).1
        have xdf4 := (Vxd.out 4 _ rfl).2
        have xd5 := (Vxd.out 5 _ rfl).1
        have xdf5 := (Vxd.out 5 _ rfl).2
        have xd6 := (Vxd.out 6 _ rfl).1
        have xdf6 := (Vxd.out 6 _ rfl).2
        have xo0 := (Vxo.out 0 _ rfl).1
        have xof0 := (Vxo.out 0 _ rfl).2
        have xo1 := (Vxo.out 1 _ rfl).1
        have xof1 := (Vxo.out 1 _ rfl).2
        have xv0 := (Vxv.out 0 _ rfl).1
        have xvf0 := (Vxv.out 0 _ rfl).2
        have xv1 := (Vxv.out 1 _ rfl).1
        have xvf1 := (Vxv.out 1 _ rfl).2
        go_wp2_with fail
        refine (sameAsm_same _ _ _ _ n1 k1 c1 n2 k2 c2 rn rp _ ON.out NA.out OP.out PA.out).mono ?_
        rintro e w7 ⟨rfl, hb7⟩
        clear xa0 xaf0 xa1 xaf1 xd0 xdf0 xd1 xdf1 xd2 xdf2 xd3 xdf3 xd4 xdf4 xd5 xdf5 xd6 xdf6 xo0 xof0 xo1 xof1 xv0 xvf0 xv1 xvf1
        have Vxa := Lib.hid ((Vxa.out).below hb7 ltxa)
        have Vxd := Lib.hid ((Vxd.out).below hb7 ltxd)
        have Vxo := Lib.hid ((Vxo.out).below hb7 ltxo)
        have Vxv := Lib.hid ((Vxv.out).below hb7 ltxv)
        have HB7 := Lib.hid (HB6.out.trans (hb7.mono HB6.out.size))
        have ltxa : w1.heap.size < w7.heap.size := lt_of_cell (Vxa.out 0 _ rfl).1
        have ltxd : w1.heap.size + 1 < w7.heap.size := lt_of_cell (Vxd.out 0 _ rfl).1
        have ltxo : w2.heap.size < w7.heap.size := lt_of_cell (Vxo.out 0 _ rfl).1
        have ltxv : w3.heap.size < w7.heap.size := lt_of_cell (Vxv.out 0 _ rfl).1
        have nexa : ¬ w1.heap.size = w7.heap.size := by omega
        have nexd : ¬ w1.heap.size + 1 = w7.heap.size := by omega
        have nexo : ¬ w2.heap.size = w7.heap.size := by omega
        have nexv : ¬ w3.heap.size = w7.heap.size := by omega
        have NA := Lib.hid ((NA.out).below hb7)
        have PA := Lib.hid ((PA.out).below hb7)
        have ON := Lib.hid ((ON.out).below hb7)
        have OP := Lib.hid ((OP.out).below hb7)
        have OM := Lib.hid ((OM.out).below hb7)
        have VN := Lib.hid ((VN.out).below hb7)
        have VP := Lib.hid ((VP.out).below hb7)
        have VM := Lib.hid ((VM.out).below hb7)
        clear hb7
        have xa0 := (Vxa.out 0 _ rfl).1
        have xaf0 := (Vxa.out 0 _ rfl).2
        have xa1 := (Vxa.out 1 _ rfl).1
        have xaf1 := (Vxa.out 1 _ rfl).2
        have xd0 := (Vxd.out 0 _ rfl).1
        have xdf0 := (Vxd.out 0 _ rfl).2
        have xd1 := (Vxd.out 1 _ rfl).1
        have xdf1 := (Vxd.out 1 _ rfl).2
        have xd2 := (Vxd.out 2 _ rfl).1
        have xdf2 := (Vxd.out 2 _ rfl).2
        have xd3 := (Vxd.out 3 _ rfl).1
        have xdf3 := (Vxd.out 3 _ rfl).2
        have xd4 := (Vxd.out 4 _ rfl).1
        have xdf4 := (Vxd.out 4 _ rfl).2
        have xd5 := (Vxd.out 5 _ rfl).1
        have xdf5 := (Vxd.out 5 _ rfl).2
        have xd6 := (Vxd.out 6 _ rfl).1
        have xdf6 := (Vxd.out 6 _ rfl).2
        have xo0 := (Vxo.out 0 _ rfl).1
        have xof0 := (Vxo.out 0 _ rfl).2
        have xo1 := (Vxo.out 1 _ rfl).1
        have xof1 := (Vxo.out 1 _ rfl).2
        have xv0 := (Vxv.out 0 _ rfl).1
        have xvf0 := (Vxv.out 0 _ rfl).2
        have xv1 := (Vxv.out 1 _ rfl).1
        have xvf1 := (Vxv.out 1 _ rfl).2
        go_wp2
        go_ret
        exact ⟨rfl, HB7.out⟩
      · by_cases hc0 : code = 0
        · subst hc0
          have HT := Lib.hid (show hasT qs dt = false by have := CT.out.1; simpa using this)
          have xa0 := (Vxa.out 0 _ rfl).1
          have xaf0 := (Vxa.out 0 _ rfl).2
          have xa1 := (Vxa.out 1 _ rfl).1
          have xaf1 := (Vxa.out 1 _ rfl).2
          have xd0 := (Vxd.out 0 _ rfl).1
          have xdf0 := (Vxd.out 0 _ rfl).2
          have xd1 := (Vxd.out 1 _ rfl).1
          have xdf1 := (Vxd.out 1 _ rfl).2
          have xd2 := (Vxd.out 2 _ rfl).1
          have xdf2 := (Vxd.out 2 _ rfl).2
          have xd3 := (Vxd.out 3 _ rfl).1
          have xdf3 := (Vxd.out 3 _ rfl).2
          have xd4 := (Vxd.out 4 _ rfl).1
          have xdf4 := (Vxd.out 4 _ rfl).2
          have xd5 := (Vxd.out 5 _ rfl).1
          have xdf5 := (Vxd.out 5 _ rfl).2
          have xd6 := (Vxd.out 6 _ rfl).1
          have xdf6 := (Vxd.out 6 _ rfl).2
          have xo0 := (Vxo.out 0 _ rfl).1
          have xof0 := (Vxo.out 0 _ rfl).2
          have xo1 := (Vxo.out 1 _ rfl).1
          have xof1 := (Vxo.out 1 _ rfl).2
          have xv0 := (Vxv.out 0 _ rfl).1
          have xvf0 := (Vxv.out 0 _ rfl).2
          have xv1 := (Vxv.out 1 _ rfl).1
          have xvf1 := (Vxv.out 1 _ rfl).2
          go_wp2_with fail
          refine (hasTsn_any a2 n2 c2 qs dt _ PA.out).mono ?_
          rw [HT.out]
          rintro e w6 ⟨rfl, hb6⟩
          clear xa0 xaf0 xa1 xaf1 xd0 xdf0 xd1 xdf1 xd2 xdf2 xd3 xdf3 xd4 xdf4 xd5 xdf5 xd6 xdf6 xo0 xof0 xo1 xof1 xv0 xvf0 xv1 xvf1
          have Vxa := Lib.hid ((Vxa.out).below hb6 ltxa)
          have Vxd := Lib.hid ((Vxd.out).below hb6 ltxd)
          have Vxo := Lib.hid ((Vxo.out).below hb6 ltxo)
          have Vxv := Lib.hid ((Vxv.out).below hb6 ltxv)
          have HB6 := Lib.hid (HB5.out.trans (hb6.mono HB5.out.size))
          have ltxa : w1.heap.size < w6.heap.size := lt_of_cell (Vxa.out 0 _ rfl).1
          have ltxd : w1.heap.size + 1 < w6.heap.size := lt_of_cell (Vxd.out 0 _ rfl).1
          have ltxo : w2.heap.size < w6.heap.size := lt_of_cell (Vxo.out 0 _ rfl).1
          have ltxv : w3.heap.size < w6.heap.size := lt_of_cell (Vxv.out 0 _ rfl).1
          have nexa : ¬ w1.heap.size = w6.heap.size := by omega
          have nexd : ¬ w1.heap.size + 1 = w6.heap.size := by omega
          have nexo : ¬ w2.heap.size = w6.heap.size := by omega
          have nexv : ¬ w3.heap.size = w6.heap.size := by omega
          have NA := Lib.hid ((NA.out).below hb6)
          have PA := Lib.hid ((PA.out).below hb6)
          have ON := Lib.hid ((ON.out).below hb6)
          have OP := Lib.hid ((OP.out).below hb6)
          have OM := Lib.hid ((OM.out).below hb6)
          have VN := Lib.hid ((VN.out).below hb6)
          have VP := Lib.hid ((VP.out).below hb6)
          have VM := Lib.hid ((VM.out).below hb6)
          clear hb6
          have xa0 := (Vxa.out 0 _ rfl).1
          have xaf0 := (Vxa.out 0 _ rfl).2
          have xa1 := (Vxa.out 1 _ rfl).1
          have xaf1 := (Vxa.out 1 _ rfl).2
          have xd0 := (Vxd.out 0 _ rfl).1
          have xdf0 := (Vxd.out 0 _ rfl).2
          have xd1 := (Vxd.out 1 _ rfl).1
          have xdf1 := (Vxd.out 1 _ rfl).2
          have xd2 := (Vxd.out 2 _ rfl).1
          have xdf2 := (Vxd.out 2 _ rfl).2
          have xd3 := (Vxd.out 3 _ rfl).1
          have xdf3 := (Vxd.out 3 _ rfl).2
          have xd4 := (Vxd.out 4 _ rfl).1
          have xdf4 := (Vxd.out 4 _ rfl).2
          have xd5 := (Vxd.out 5 _ rfl).1
          have xdf5 := (Vxd.out 5 _ rfl).2
          have xd6 := (Vxd.out 6 _ rfl).1
          have xdf6 := (Vxd.out 6 _ rfl).2
          have xo0 := (Vxo.out 0 _ rfl).1
          have xof0 := (Vxo.out 0 _ rfl).2
          have xo1 := (Vxo.out 1 _ rfl).1
          have xof1 := (Vxo.out 1 _ rfl).2
          have xv0 := (Vxv.out 0 _ rfl).1
          have xvf0 := (Vxv.out 0 _ rfl).2
          have xv1 := (Vxv.out 1 _ rfl).1
          have xvf1 := (Vxv.out 1 _ rfl).2
          go_wp2
          go_ret
          exact ⟨rfl, HB6.out⟩
        · have HT := Lib.hid (show hasT qs dt = false by have := CT.out.1; simpa [hc1] using this)
          obtain ⟨e1, e2, e3⟩ := CT.out.2 hc0
          have d1 : (code == 1) = false := beq_eq_false_iff_ne.2 hc1
          have d0 : (code == 0) = false := beq_eq_false_iff_ne.2 hc0
          have d1' : decide (code = 1) = false := decide_eq_false hc1
          have d0' : decide (code = 0) = false := decide_eq_false hc0
          have xa0 := (Vxa.out 0 _ rfl).1
          have xaf0 := (Vxa.out 0 _ rfl).2
          have xa1 := (Vxa.out 1 _ rfl).1
          have xaf1 := (Vxa.out 1 _ rfl).2
          have xd0 := (Vxd.out 0 _ rfl).1
          have xdf0 := (Vxd.out 0 _ rfl).2
          have xd1 := (Vxd.out 1 _ rfl).1
          have xdf1 := (Vxd.out 1 _ rfl).2
          have xd2 := (Vxd.out 2 _ rfl).1
          have xdf2 := (Vxd.out 2 _ rfl).2
          have xd3 := (Vxd.out 3 _ rfl).1
          have xdf3 := (Vxd.out 3 _ rfl).2
          have xd4 := (Vxd.out 4 _ rfl).1
          have xdf4 := (Vxd.out 4 _ rfl).2
          have xd5 := (Vxd.out 5 _ rfl).1
          have xdf5 := (Vxd.out 5 _ rfl).2
          have xd6 := (Vxd.out 6 _ rfl).1
          have xdf6 := (Vxd.out 6 _ rfl).2
          have xo0 := (Vxo.out 0 _ rfl).1
          have xof0 := (Vxo.out 0 _ rfl).2
          have xo1 := (Vxo.out 1 _ rfl).1
          have xof1 := (Vxo.out 1 _ rfl).2
          have xv0 := (Vxv.out 0 _ rfl).1
          have xvf0 := (Vxv.out 0 _ rfl).2
          have xv1 := (Vxv.out 1 _ rfl).1
          have xvf1 := (Vxv.out 1 _ rfl).2
          go_wp2_with fail
          refine (hasTsn_any a2 n2 c2 qs dt _ PA.out).mono ?_
          rw [HT.out]
          rintro e w6 ⟨rfl, hb6⟩
          clear xa0 xaf0 xa1 xaf1 xd0 xdf0 xd1 xdf1 xd2 xdf2 xd3 xdf3 xd4 xdf4 xd5 xdf5 xd6 xdf6 xo0 xof0 xo1 xof1 xv0 xvf0 xv1 xvf1
          have Vxa := Lib.hid ((Vxa.out).below hb6 ltxa)
          have Vxd := Lib.hid ((Vxd.out).below hb6 ltxd)
          have Vxo := Lib.hid ((Vxo.out).below hb6 ltxo)
          have Vxv := Lib.hid ((Vxv.out).below hb6 ltxv)
          have HB6 := Lib.hid (HB5.out.trans (hb6.mono HB5.out.size))
          have ltxa : w1.heap.size < w6.heap.size := lt_of_cell (Vxa.out 0 _ rfl).1
          have ltxd : w1.heap.size + 1 < w6.heap.size := lt_of_cell (Vxd.out 0 _ rfl).1
          have ltxo : w2.heap.size < w6.heap.size := lt_of_cell (Vxo.out 0 _ rfl).1
          have ltxv : w3.heap.size < w6.heap.size := lt_of_cell (Vxv.out 0 _ rfl).1
          have nexa : ¬ w1.heap.size = w6.heap.size := by omega
          have nexd : ¬ w1.heap.size + 1 = w6.heap.size := by omega
          have nexo : ¬ w2.heap.size = w6.heap.size := by omega
          have nexv : ¬ w3.heap.size = w6.heap.size := by omega
          have NA := Lib.hid ((NA.out).below hb6)
          have PA := Lib.hid ((PA.out).below hb6)
          have ON := Lib.hid ((ON.out).below hb6)
          have OP := Lib.hid ((OP.out).below hb6)
          have OM := Lib.hid ((OM.out).below hb6)
          have VN := Lib.hid ((VN.out).below hb6)
          have VP := Lib.hid ((VP.out).below hb6)
          have VM := Lib.hid ((VM.out).below hb6)
          clear hb6
          subst e1
          subst e2
          subst e3
          obtain rfl : n1 = m1 := by have := LNA.out; have := HLN.out.1; omega
          obtain rfl : n2 = m2 := by have := LPA.out; have := HLN.out.2.1; omega
          obtain rfl : m3 = 0 := by have := HLN.out.2.2; simpa using this.symm
          have xa0 := (Vxa.out 0 _ rfl).1
          have xaf0 := (Vxa.out 0 _ rfl).2
          have xa1 := (Vxa.out 1 _ rfl).1
          have xaf1 := (Vxa.out 1 _ rfl).2
          have xd0 := (Vxd.out 0 _ rfl).1
          have xdf0 := (Vxd.out 0 _ rfl).2
          have xd1 := (Vxd.out 1 _ rfl).1
          have xdf1 := (Vxd.out 1 _ rfl).2
          have xd2 := (Vxd.out 2 _ rfl).1
          have xdf2 := (Vxd.out 2 _ rfl).2
          have xd3 := (Vxd.out 3 _ rfl).1
          have xdf3 := (Vxd.out 3 _ rfl).2
          have xd4 := (Vxd.out 4 _ rfl).1
          have xdf4 := (Vxd.out 4 _ rfl).2
          have xd5 := (Vxd.out 5 _ rfl).1
          have xdf5 := (Vxd.out 5 _ rfl).2
          have xd6 := (Vxd.out 6 _ rfl).1
          have xdf6 := (Vxd.out 6 _ rfl).2
          have xo0 := (Vxo.out 0 _ rfl).1
          have xof0 := (Vxo.out 0 _ rfl).2
          have xo1 := (Vxo.out 1 _ rfl).1
          have xof1 := (Vxo.out 1 _ rfl).2
          have xv0 := (Vxv.out 0 _ rfl).1
          have xvf0 := (Vxv.out 0 _ rfl).2
          have xv1 := (Vxv.out 1 _ rfl).1
          have xvf1 := (Vxv.out 1 _ rfl).2
          go_wp2_with fail
          refine (sameAsm_same _ _ _ _ n1 k1 c1 n2 k2 c2 rn rp _ ON.out NA.out OP.out PA.out).mono ?_
          rintro e w7 ⟨rfl, hb7⟩
          clear xa0 xaf0 xa1 xaf1 xd0 xdf0 xd1 xdf1 xd2 xdf2 xd3 xdf3 xd4 xdf4 xd5 xdf5 xd6 xdf6 xo0 xof0 xo1 xof1 xv0 xvf0 xv1 xvf1
          have Vxa := Lib.hid ((Vxa.out).below hb7 ltxa)
          have Vxd := Lib.hid ((Vxd.out).below hb7 ltxd)
          have Vxo := Lib.hid ((Vxo.out).below hb7 ltxo)
          have Vxv := Lib.hid ((Vxv.out).below hb7 ltxv)
          have HB7 := Lib.hid (HB6.out.trans (hb7.mono HB6.out.size))
          have ltxa : w1.heap.size < w7.heap.size := lt_of_cell (Vxa.out 0 _ rfl).1
          have ltxd : w1.heap.size + 1 < w7.heap.size := lt_of_cell (Vxd.out 0 _ rfl).1
          have ltxo : w2.heap.size < w7.heap.size := lt_of_cell (Vxo.out 0 _ rfl).1
          have ltxv : w3.heap.size < w7.heap.size := lt_of_cell (Vxv.out 0 _ rfl).1
          have nexa : ¬ w1.heap.size = w7.heap.size := by omega
          have nexd : ¬ w1.heap.size + 1 = w7.heap.size := by omega
          have nexo : ¬ w2.heap.size = w7.heap.size := by omega
          have nexv : ¬ w3.heap.size = w7.heap.size := by omega
          have NA := Lib.hid ((NA.out).below hb7)
          have PA := Lib.hid ((PA.out).below hb7)
          have ON := Lib.hid ((ON.out).below hb7)
          have OP := Lib.hid ((OP.out).below hb7)
          have OM := Lib.hid ((OM.out).below hb7)
          have VN := Lib.hid ((VN.out).below hb7)
          have VP := Lib.hid ((VP.out).below hb7)
          have VM := Lib.hid ((VM.out).below hb7)
          clear hb7
          have xa0 := (Vxa.out 0 _ rfl).1
          have xaf0 := (Vxa.out 0 _ rfl).2
          have xa1 := (Vxa.out 1 _ rfl).1
          have xaf1 := (Vxa.out 1 _ rfl).2
          have xd0 := (Vxd.out 0 _ rfl).1
          have xdf0 := (Vxd.out 0 _ rfl).2
          have xd1 := (Vxd.out 1 _ rfl).1
          have xdf1 := (Vxd.out 1 _ rfl).2
          have xd2 := (Vxd.out 2 _ rfl).1
          have xdf2 := (Vxd.out 2 _ rfl).2
          have xd3 := (Vxd.out 3 _ rfl).1
          have xdf3 := (Vxd.out 3 _ rfl).2
          have xd4 := (Vxd.out 4 _ rfl).1
          have xdf4 := (Vxd.out 4 _ rfl).2
          have xd5 := (Vxd.out 5 _ rfl).1
          have xdf5 := (Vxd.out 5 _ rfl).2
          have xd6 := (Vxd.out 6 _ rfl).1
          have xdf6 := (Vxd.out 6 _ rfl).2
          have xo0 := (Vxo.out 0 _ rfl).1
          have xof0 := (Vxo.out 0 _ rfl).2
          have xo1 := (Vxo.out 1 _ rfl).1
          have xof1 := (Vxo.out 1 _ rfl).2
          have xv0 := (Vxv.out 0 _ rfl).1
          have xvf0 := (Vxv.out 0 _ rfl).2
          have xv1 := (Vxv.out 1 _ rfl).1
          have xvf1 := (Vxv.out 1 _ rfl).2
          go_wp2
          go_ret
          exact ⟨rfl, HB7.out⟩
    · have hc4 : code = 3 := Classical.byContradiction hc3
      subst hc4
      clear hc3
      have xa0 := (Vxa.out 0 _ rfl).1
      have xaf0 := (Vxa.out 0 _ rfl).2
      have xa1 := (Vxa.out 1 _ rfl).1
      have xaf1 := (Vxa.out 1 _ rfl).2
      have xd0 := (Vxd.out 0 _ rfl).1
      have xdf0 := (Vxd.out 0 _ rfl).2
      have xd1 := (Vxd.out 1 _ rfl).1
      have xdf1 := (Vxd.out 1 _ rfl).2
      have xd2 := (Vxd.out 2 _ rfl).1
      have xdf2 := (Vxd.out 2 _ rfl).2
      have xd3 := (Vxd.out 3 _ rfl).1
      have xdf3 := (Vxd.out 3 _ rfl).2
      have xd4 := (Vxd.out 4 _ rfl).1
      have xdf4 := (Vxd.out 4 _ rfl).2
      have xd5 := (Vxd.out 5 _ rfl).1
      have xdf5 := (Vxd.out 5 _ rfl).2
      have xd6 := (Vxd.out 6 _ rfl).1
      have xdf6 := (Vxd.out 6 _ rfl).2
      have xo0 := (Vxo.out 0 _ rfl).1
      have xof0 := (Vxo.out 0 _ rfl).2
      have xo1 := (Vxo.out 1 _ rfl).1
      have xof1 := (Vxo.out 1 _ rfl).2
      have xv0 := (Vxv.out 0 _ rfl).1
      have xvf0 := (Vxv.out 0 _ rfl).2
      have xv1 := (Vxv.out 1 _ rfl).1
      have xvf1 := (Vxv.out 1 _ rfl).2
      go_wp2_with fail
      refine (sameAsm_same _ _ _ _ m1 k1 j1 m2 k2 j2 rn rp _ ON.out VN.out OP.out VP.out).mono ?_
      rintro e w6 ⟨rfl, hb6⟩
      clear xa0 xaf0 xa1 xaf1 xd0 xdf0 xd1 xdf1 xd2 xdf2 xd3 xdf3 xd4 xdf4 xd5 xdf5 xd6 xdf6 xo0 xof0 xo1 xof1 xv0 xvf0 xv1 xvf1
      have Vxa := Lib.hid ((Vxa.out).below hb6 ltxa)
      have Vxd := Lib.hid ((Vxd.out).below hb6 ltxd)
      have Vxo := Lib.hid ((Vxo.out).below hb6 ltxo)
      have Vxv := Lib.hid ((Vxv.out).below hb6 ltxv)
      have HB6 := Lib.hid (HB5.out.trans (hb6.mono HB5.out.size))
      have ltxa : w1.heap.size < w6.heap.size := lt_of_cell (Vxa.out 0 _ rfl).1
      have ltxd : w1.heap.size + 1 < w6.heap.size := lt_of_cell (Vxd.out 0 _ rfl).1
      have ltxo : w2.heap.size < w6.heap.size := lt_of_cell (Vxo.out 0 _ rfl).1
      have ltxv : w3.heap.size < w6.heap.size := lt_of_cell (Vxv.out 0 _ rfl).1
      have nexa : ¬ w1.heap.size = w6.heap.size := by omega
      have nexd : ¬ w1.heap.size + 1 = w6.heap.size := by omega
      have nexo : ¬ w2.heap.size = w6.heap.size := by omega
      have nexv : ¬ w3.heap.size = w6.heap.size := by omega
      have NA := Lib.hid ((NA.out).below hb6)
      have PA := Lib.hid ((PA.out).below hb6)
      have ON := Lib.hid ((ON.out).below hb6)
      have OP := Lib.hid ((OP.out).below hb6)
      have OM := Lib.hid ((OM.out).below hb6)
      have VN := Lib.hid ((VN.out).below hb6)
      have VP := Lib.hid ((VP.out).below hb6)
      have VM := Lib.hid ((VM.out).below hb6)
      clear hb6
      have xa0 := (Vxa.out 0 _ rfl).1
      have xaf0 := (Vxa.out 0 _ rfl).2
      have xa1 := (Vxa.out 1 _ rfl).1
      have xaf1 := (Vxa.out 1 _ rfl).2
      have xd0 := (Vxd.out 0 _ rfl).1
      have xdf0 := (Vxd.out 0 _ rfl).2
      have xd1 := (Vxd.out 1 _ rfl).1
      have xdf1 := (Vxd.out 1 _ rfl).2
      have xd2 := (Vxd.out 2 _ rfl).1
      have xdf2 := (Vxd.out 2 _ rfl).2
      have xd3 := (Vxd.out 3 _ rfl).1
      have xdf3 := (Vxd.out 3 _ rfl).2
      have xd4 := (Vxd.out 4 _ rfl).1
      have xdf4 := (Vxd.out 4 _ rfl).2
      have xd5 := (Vxd.out 5 _ rfl).1
      have xdf5 := (Vxd.out 5 _ rfl).2
      have xd6 := (Vxd.out 6 _ rfl).1
      have xdf6 := (Vxd.out 6 _ rfl).2
      have xo0 := (Vxo.out 0 _ rfl).1
      have xof0 := (Vxo.out 0 _ rfl).2
      have xo1 := (Vxo.out 1 _ rfl).1
      have xof1 := (Vxo.out 1 _ rfl).2
      have xv0 := (Vxv.out 0 _ rfl).1
      have xvf0 := (Vxv.out 0 _ rfl).2
      have xv1 := (Vxv.out 1 _ rfl).1
      have xvf1 := (Vxv.out 1 _ rfl).2
      go_wp2_with fail
      refine (sameMessages_same _ _ m3 k3 j3 rm _ OM.out VM.out).mono ?_
      rintro e w7 ⟨rfl, hb7⟩
      clear xa0 xaf0 xa1 xaf1 xd0 xdf0 xd1 xdf1 xd2 xdf2 xd3 xdf3 xd4 xdf4 xd5 xdf5 xd6 xdf6 xo0 xof0 xo1 xof1 xv0 xvf0 xv1 xvf1
      have Vxa := Lib.hid ((Vxa.out).below hb7 ltxa)
      have Vxd := Lib.hid ((Vxd.out).below hb7 ltxd)
      have Vxo := Lib.hid ((Vxo.out).below hb7 ltxo)
      have Vxv := Lib.hid ((Vxv.out).below hb7 ltxv)
      have HB7 := Lib.hid (HB6.out.trans (hb7.mono HB6.out.size))
      have ltxa : w1.heap.size < w7.heap.size := lt_of_cell (Vxa.out 0 _ rfl).1
      have ltxd : w1.heap.size + 1 < w7.heap.size := lt_of_cell (Vxd.out 0 _ rfl).1
      have ltxo : w2.heap.size < w7.heap.size := lt_of_cell (Vxo.out 0 _ rfl).1
      have ltxv : w3.heap.size < w7.heap.size := lt_of_cell (Vxv.out 0 _ rfl).1
      have nexa : ¬ w1.heap.size = w7.heap.size := by omega
      have nexd : ¬ w1.heap.size + 1 = w7.heap.size := by omega
      have nexo : ¬ w2.heap.size = w7.heap.size := by omega
      have nexv : ¬ w3.heap.size = w7.heap.size := by omega
      have NA := Lib.hid ((NA.out).below hb7)
      have PA := Lib.hid ((PA.out).below hb7)
      have ON := Lib.hid ((ON.out).below hb7)
      have OP := Lib.hid ((OP.out).below hb7)
      have OM := Lib.hid ((OM.out).below hb7)
      have VN := Lib.hid ((VN.out).below hb7)
      have VP := Lib.hid ((VP.out).below hb7)
      have VM := Lib.hid ((VM.out).below hb7)
      clear hb7
      have xa0 := (Vxa.out 0 _ rfl).1
      have xaf0 := (Vxa.out 0 _ rfl).2
      have xa1 := (Vxa.out 1 _ rfl).1
      have xaf1 := (Vxa.out 1 _ rfl).2
      have xd0 := (Vxd.out 0 _ rfl).1
      have xdf0 := (Vxd.out 0 _ rfl).2
      have xd1 := (Vxd.out 1 _ rfl).1
      have xdf1 := (Vxd.out 1 _ rfl).2
      have xd2 := (Vxd.out 2 _ rfl).1
      have xdf2 := (Vxd.out 2 _ rfl).2
      have xd3 := (Vxd.out 3 _ rfl).1
      have xdf3 := (Vxd.out 3 _ rfl).2
      have xd4 := (Vxd.out 4 _ rfl).1
      have xdf4 := (Vxd.out 4 _ rfl).2
      have xd5 := (Vxd.out 5 _ rfl).1
      have xdf5 := (Vxd.out 5 _ rfl).2
      have xd6 := (Vxd.out 6 _ rfl).1
      have xdf6 := (Vxd.out 6 _ rfl).2
      have xo0 := (Vxo.out 0 _ rfl).1
      have xof0 := (Vxo.out 0 _ rfl).2
      have xo1 := (Vxo.out 1 _ rfl).1
      have xof1 := (Vxo.out 1 _ rfl).2
      have xv0 := (Vxv.out 0 _ rfl).1
      have xvf0 := (Vxv.out 0 _ rfl).2
      have xv1 := (Vxv.out 1 _ rfl).1
      have xvf1 := (Vxv.out 1 _ rfl).2
      go_wp2
      go_ret
      exact ⟨rfl, HB7.out⟩

set_option maxHeartbeats 4000000 in
theorem walk_fnAsmFull (a0 : Option Addr) (len0 cap0 : Nat) (z0 : List Int) (w : World) (w0 : IsRow .u8 w a0 len0 cap0 z0) :
    Calls Try.prog 6 #[.slice a0 len0 cap0] w fun e w' => e = .returned (.bool true) ∧ Below w.heap.size w w' := by
  have H := Lib.hid w0
  clear w0
  by_cases hl : (1048576 : Int) < len0
  · go_enter Try.func6, Try.ntmps6
    go_wp2
    go_ret
    exact ⟨rfl, Below.refl _ _⟩
  · go_enter Try.func6, Try.ntmps6
    go_wp2_with fail
    refine (drawAsmAdd_any a0 len0 cap0 z0 _ H.out).mono ?_
    rintro e w1 ⟨a1, n1, c1, a2, n2, c2, es, qs, ⟨dt, ds, dq, dfi, dla, dlo, dtx⟩, rfl, hn1, hn2, hsm, hsp, hns, hpt, hb1⟩
    rw [partV_eq]
    have NA := Lib.hid hns
    have PA := Lib.hid hpt
    have KY := Lib.hid (smally_keys hsm)
    have SM := Lib.hid hsm
    have SP := Lib.hid hsp
    have LNA := Lib.hid hns.length
    have LPA := Lib.hid hpt.length
    clear hns hpt hsm hsp
    obtain ⟨⟨rn, rp, rm⟩, hr⟩ : ∃ r, ansR es qs ⟨dt, ds, dq, dfi, dla, dlo, dtx⟩ = r := ⟨_, rfl⟩
    obtain ⟨code, hc⟩ : ∃ c, ansC es qs ⟨dt, ds, dq, dfi, dla, dlo, dtx⟩ = c := ⟨_, rfl⟩
    have few := ansR_few hr
    obtain ⟨m1, hm1⟩ : ∃ n, rn.length = n := ⟨_, rfl⟩
    obtain ⟨m2, hm2⟩ : ∃ n, rp.length = n := ⟨_, rfl⟩
    obtain ⟨m3, hm3⟩ : ∃ n, rm.length = n := ⟨_, rfl⟩
    rw [hm1, hm2, hm3] at few
    have HR := Lib.hid hr
    have HC := Lib.hid hc
    have HLN := Lib.hid (And.intro hm1 (And.intro hm2 hm3))
    clear hr hc hm1 hm2 hm3
    go_wp2_with fail
    refine (asmAdd_is a1 n1 c1 es a2 n2 c2 qs dt ds dq dfi dla dlo dtx _ (((NA.out).below (below_box (.cells (List.toArray [.slice a1 n1 c1, .slice a2 n2 c2]) 26) (Nat.le_refl _))).below (below_box (.cells (List.toArray [.int .i64 dt, .int .i64 ds, .int .i64 dq, .bool dfi, .bool dla, .bool dlo, .string dtx]) 28) (Nat.le_refl _))) (((PA.out).below (below_box (.cells (List.toArray [.slice a1 n1 c1, .slice a2 n2 c2]) 26) (Nat.le_refl _))).below (below_box (.cells (List.toArray [.int .i64 dt, .int .i64 ds, .int .i64 dq, .bool dfi, .bool dla, .bool dlo, .string dtx]) 28) (Nat.le_refl _))) KY.out HR.out HC.out HLN.out).mono ?_
    rintro e w2 ⟨b1, k1, b2, k2, b3, k3, rfl, ⟨o1, o2, o3⟩, hb2⟩
    have Vxa := Lib.hid (((VarN.new_at (w := w1) (d := w1.heap.size) (by simp) [.slice a1 n1 c1, .slice a2 n2 c2] 26).alloc (.cells (List.toArray [.int .i64 dt, .int .i64 ds, .int .i64 dq, .bool dfi, .bool dla, .bool dlo, .string dtx]) 28) (by first | omega | (simp <;> omega))).below hb2 (by simp <;> omega))
    have Vxd := Lib.hid ((VarN.new_at (w := (w1.alloc (.cells (List.toArray [.slice a1 n1 c1, .slice a2 n2 c2]) 26))) (d := w1.heap.size + 1) (by simp) [.int .i64 dt, .int .i64 ds, .int .i64 dq, .bool dfi, .bool dla, .bool dlo, .string dtx] 28).below hb2 (by simp))
    have HB2 := Lib.hid ((((hb1).alloc (Nat.le_trans hb1.size (by exact Nat.le_refl _)) (.cells (List.toArray [.slice a1 n1 c1, .slice a2 n2 c2]) 26)).alloc (Nat.le_trans hb1.size (by simp <;> omega)) (.cells (List.toArray [.int .i64 dt, .int .i64 ds, .int .i64 dq, .bool dfi, .bool dla, .bool dlo, .string dtx]) 28)).trans (hb2.mono (Nat.le_trans hb1.size (by simp <;> omega))))
    have ltxa : w1.heap.size < w2.heap.size := lt_of_cell (Vxa.out 0 _ rfl).1
    have ltxd : w1.heap.size + 1 < w2.heap.size := lt_of_cell (Vxd.out 0 _ rfl).1
    have nexa : ¬ w1.heap.size = w2.heap.size := by omega
    have nexd : ¬ w1.heap.size + 1 = w2.heap.size := by omega
    have NA := Lib.hid ((((NA.out).below (below_box (.cells (List.toArray [.slice a1 n1 c1, .slice a2 n2 c2]) 26) (Nat.le_refl _))).below (below_box (.cells (List.toArray [.int .i64 dt, .int .i64 ds, .int .i64 dq, .bool dfi, .bool dla, .bool dlo, .string dtx]) 28) (Nat.le_refl _))).below hb2)
    have PA := Lib.hid ((((PA.out).below (below_box (.cells (List.toArray [.slice a1 n1 c1, .slice a2 n2 c2]) 26) (Nat.le_refl _))).below (below_box (.cells (List.toArray [.int .i64 dt, .int .i64 ds, .int .i64 dq, .bool dfi, .bool dla, .bool dlo, .string dtx]) 28) (Nat.le_refl _))).below hb2)
    clear hb2
    have ON := Lib.hid (own_ns o1)
    have OP := Lib.hid (own_pts o2)
    have OM := Lib.hid (own_mgs o3)
    clear o1 o2 o3
    have xa0 := (Vxa.out 0 _ rfl).1
    have xaf0 := (Vxa.out 0 _ rfl).2
    have xa1 := (Vxa.out 1 _ rfl).1
    have xaf1 := (Vxa.out 1 _ rfl).2
    have xd0 := (Vxd.out 0 _ rfl).1
    have xdf0 := (Vxd.out 0 _ rfl).2
    have xd1 := (Vxd.out 1 _ rfl).1
    have xdf1 := (Vxd.out 1 _ rfl).2
    have xd2 := (Vxd.out 2 _ rfl).1
    have xdf2 := (Vxd.out 2 _ rfl).2
    have xd3 := (Vxd.out 3 _ rfl).1
    have xdf3 := (Vxd.out 3 _ rfl).2
    have xd4 := (Vxd.out 4 _ rfl).1
    have xdf4 := (Vxd.out 4 _ rfl).2
    have xd5 := (Vxd.out 5 _ rfl).1
    have xdf5 := (Vxd.out 5 _ rfl).2
    have xd6 := (Vxd.out 6 _ rfl).1
    have xdf6 := (Vxd.out 6 _ rfl).2
    go_wp2_with fail
    refine (sAsmAdd_is a1 n1 c1 es a2 n2 c2 qs dt ds dq dfi dla dlo dtx _ ((NA.out).below (below_box (.cells (List.toArray [.slice b1 m1 k1, .slice b2 m2 k2]) 26) (Nat.le_refl _))) ((PA.out).below (below_box (.cells (List.toArray [.slice b1 m1 k1, .slice b2 m2 k2]) 26) (Nat.le_refl _))) HR.out HC.out HLN.out).mono ?_
    rintro e w3 ⟨g1, j1, g2, j2, g3, j3, rfl, ⟨o1, o2, o3⟩, hb3⟩
    clear xa0 xaf0 xa1 xaf1 xd0 xdf0 xd1 xdf1 xd2 xdf2 xd3 xdf3 xd4 xdf4 xd5 xdf5 xd6 xdf6
    have Vxa := Lib.hid (((Vxa.out).alloc (.cells (List.toArray [.slice b1 m1 k1, .slice b2 m2 k2]) 26) (by omega)).below hb3 (by simp; omega))
    have Vxd := Lib.hid (((Vxd.out).alloc (.cells (List.toArray [.slice b1 m1 k1, .slice b2 m2 k2]) 26) (by omega)).below hb3 (by simp; omega))
    have Vxo := Lib.hid ((VarN.new_at (w := w2) (d := w2.heap.size) (by simp) [.slice b1 m1 k1, .slice b2 m2 k2] 26).below hb3 (by simp))
    have HB3 := Lib.hid (((HB2.out).alloc (Nat.le_trans HB2.out.size (by exact Nat.le_refl _)) (.cells (List.toArray [.slice b1 m1 k1, .slice b2 m2 k2]) 26)).trans (hb3.mono (Nat.le_trans HB2.out.size (by simp <;> omega))))
    have ltxa : w1.heap.size < w3.heap.size := lt_of_cell (Vxa.out 0 _ rfl).1
    have ltxd : w1.heap.size + 1 < w3.heap.size := lt_of_cell (Vxd.out 0 _ rfl).1
    have ltxo : w2.heap.size < w3.heap.size := lt_of_cell (Vxo.out 0 _ rfl).1
    have nexa : ¬ w1.heap.size = w3.heap.size := by omega
    have nexd : ¬ w1.heap.size + 1 = w3.heap.size := by omega
    have nexo : ¬ w2.heap.size = w3.heap.size := by omega
    have NA := Lib.hid (((NA.out).below (below_box (.cells (List.toArray [.slice b1 m1 k1, .slice b2 m2 k2]) 26) (Nat.le_refl _))).below hb3)
    have PA := Lib.hid (((PA.out).below (below_box (.cells (List.toArray [.slice b1 m1 k1, .slice b2 m2 k2]) 26) (Nat.le_refl _))).below hb3)
    have ON := Lib.hid (((ON.out).below (below_box (.cells (List.toArray [.slice b1 m1 k1, .slice b2 m2 k2]) 26) (Nat.le_refl _))).below hb3)
    have OP := Lib.hid (((OP.out).below (below_box (.cells (List.toArray [.slice b1 m1 k1, .slice b2 m2 k2]) 26) (Nat.le_refl _))).below hb3)
    have OM := Lib.hid (((OM.out).below (below_box (.cells (List.toArray [.slice b1 m1 k1, .slice b2 m2 k2]) 26) (Nat.le_refl _))).below hb3)
    clear hb3
    have VN := Lib.hid (own_ns o1)
    have VP := Lib.hid (own_pts o2)
    have VM := Lib.hid (own_mgs o3)
    clear o1 o2 o3
    have xa0 := (Vxa.out 0 _ rfl).1
    have xaf0 := (Vxa.out 0 _ rfl).2
    have xa1 := (Vxa.out 1 _ rfl).1
    have xaf1 := (Vxa.out 1 _ rfl).2
    have xd0 := (Vxd.out 0 _ rfl).1
    have xdf0 := (Vxd.out 0 _ rfl).2
    have xd1 := (Vxd.out 1 _ rfl).1
    have xdf1 := (Vxd.out 1 _ rfl).2
    have xd2 := (Vxd.out 2 _ rfl).1
    have xdf2 := (Vxd.out 2 _ rfl).2
    have xd3 := (Vxd.out 3 _ rfl).1
    have xdf3 := (Vxd.out 3 _ rfl).2
    have xd4 := (Vxd.out 4 _ rfl).1
    have xdf4 := (Vxd.out 4 _ rfl).2
    have xd5 := (Vxd.out 5 _ rfl).1
    have xdf5 := (Vxd.out 5 _ rfl).2
    have xd6 := (Vxd.out 6 _ rfl).1
    have xdf6 := (Vxd.out 6 _ rfl).2
    have xo0 := (Vxo.out 0 _ rfl).1
    have xof0 := (Vxo.out 0 _ rfl).2
    have xo1 := (Vxo.out 1 _ rfl).1
    have xof1 := (Vxo.out 1 _ rfl).2
    go_wp2_with fail
    refine (sameAsm_same _ _ _ _ m1 k1 j1 m2 k2 j2 rn rp _ ((ON.out).below (below_box (.cells (List.toArray [.slice g1 m1 j1, .slice g2 m2 j2]) 26) (Nat.le_refl _))) ((VN.out).below (below_box (.cells (List.toArray [.slice g1 m1 j1, .slice g2 m2 j2]) 26) (Nat.le_refl _))) ((OP.out).below (below_box (.cells (List.toArray [.slice g1 m1 j1, .slice g2 m2 j2]) 26) (Nat.le_refl _))) ((VP.out).below (below_box (.cells (List.toArray [.slice g1 m1 j1, .slice g2 m2 j2]) 26) (Nat.le_refl _)))).mono ?_
    rintro e w4 ⟨rfl, hb4⟩
    clear xa0 xaf0 xa1 xaf1 xd0 xdf0 xd1 xdf1 xd2 xdf2 xd3 xdf3 xd4 xdf4 xd5 xdf5 xd6 xdf6 xo0 xof0 xo1 xof1
    have Vxa := Lib.hid (((Vxa.out).alloc (.cells (List.toArray [.slice g1 m1 j1, .slice g2 m2 j2]) 26) (by omega)).below hb4 (by simp; omega))
    have Vxd := Lib.hid (((Vxd.out).alloc (.cells (List.toArray [.slice g1 m1 j1, .slice g2 m2 j2]) 26) (by omega)).below hb4 (by simp; omega))
    have Vxo := Lib.hid (((Vxo.out).alloc (.cells (List.toArray [.slice g1 m1 j1, .slice g2 m2 j2]) 26) (by omega)).below hb4 (by simp; omega))
    have Vxv := Lib.hid ((VarN.new_at (w := w3) (d := w3.heap.size) (by simp) [.slice g1 m1 j1, .slice g2 m2 j2] 26).below hb4 (by simp))
    have HB4 := Lib.hid (((HB3.out).alloc (Nat.le_trans HB3.out.size (by exact Nat.le_refl _)) (.cells (List.toArray [.slice g1 m1 j1, .slice g2 m2 j2]) 26)).trans (hb4.mono (Nat.le_trans HB3.out.size (by simp <;> omega))))
    have ltxa : w1.heap.size < w4.heap.size := lt_of_cell (Vxa.out 0 _ rfl).1
    have ltxd : w1.heap.size + 1 < w4.heap.size := lt_of_cell (Vxd.out 0 _ rfl).1
    have ltxo : w2.heap.size < w4.heap.size := lt_of_cell (Vxo.out 0 _ rfl).1
    have ltxv : w3.heap.size < w4.heap.size := lt_of_cell (Vxv.out 0 _ rfl).1
    have nexa : ¬ w1.heap.size = w4.heap.size := by omega
    have nexd : ¬ w1.heap.size + 1 = w4.heap.size := by omega
    have nexo : ¬ w2.heap.size = w4.heap.size := by omega
    have nexv : ¬ w3.heap.size = w4.heap.size := by omega
    have NA := Lib.hid (((NA.out).below (below_box (.cells (List.toArray [.slice g1 m1 j1, .slice g2 m2 j2]) 26) (Nat.le_refl _))).below hb4)
    have PA := Lib.hid (((PA.out).below (below_box (.cells (List.toArray [.slice g1 m1 j1, .slice g2 m2 j2]) 26) (Nat.le_refl _))).below hb4)
    have ON := Lib.hid (((ON.out).below (below_box (.cells (List.toArray [.slice g1 m1 j1, .slice g2 m2 j2]) 26) (Nat.le_refl _))).below hb4)
    have OP := Lib.hid (((OP.out).below (below_box (.cells (List.toArray [.slice g1 m1 j1, .slice g2 m2 j2]) 26) (Nat.le_refl _))).below hb4)
    have OM := Lib.hid (((OM.out).below (below_box (.cells (List.toArray [.slice g1 m1 j1, .slice g2 m2 j2]) 26) (Nat.le_refl _))).below hb4)
    have VN := Lib.hid (((VN.out).below (below_box (.cells (List.toArray [.slice g1 m1 j1, .slice g2 m2 j2]) 26) (Nat.le_refl _))).below hb4)
    have VP := Lib.hid (((VP.out).below (below_box (.cells (List.toArray [.slice g1 m1 j1, .slice g2 m2 j2]) 26) (Nat.le_refl _))).below hb4)
    have VM := Lib.hid (((VM.out).below (below_box (.cells (List.toArray [.slice g1 m1 j1, .slice g2 m2 j2]) 26) (Nat.le_refl _))).below hb4)
    clear hb4
    have xa0 := (Vxa.out 0 _ rfl).1
    have xaf0 := (Vxa.out 0 _ rfl).2
    have xa1 := (Vxa.out 1 _ rfl).1
    have xaf1 := (Vxa.out 1 _ rfl).2
    have xd0 := (Vxd.out 0 _ rfl).1
    have xdf0 := (Vxd.out 0 _ rfl).2
    have xd1 := (Vxd.out 1 _ rfl).1
    have xdf1 := (Vxd.out 1 _ rfl).2
    have xd2 := (Vxd.out 2 _ rfl).1
    have xdf2 := (Vxd.out 2 _ rfl).2
    have xd3 := (Vxd.out 3 _ rfl).1
    have xdf3 := (Vxd.out 3 _ rfl).2
    have xd4 := (Vxd.out 4 _ rfl).1
    have xdf4 := (Vxd.out 4 _ rfl).2
    have xd5 := (Vxd.out 5 _ rfl).1
    have xdf5 := (Vxd.out 5 _ rfl).2
    have xd6 := (Vxd.out 6 _ rfl).1
    have xdf6 := (Vxd.out 6 _ rfl).2
    have xo0 := (Vxo.out 0 _ rfl).1
    have xof0 := (Vxo.out 0 _ rfl).2
    have xo1 := (Vxo.out 1 _ rfl).1
    have xof1 := (Vxo.out 1 _ rfl).2
    have xv0 := (Vxv.out 0 _ rfl).1
    have xvf0 := (Vxv.out 0 _ rfl).2
    have xv1 := (Vxv.out 1 _ rfl).1
    have xvf1 := (Vxv.out 1 _ rfl).2
    go_wp2_with fail
    refine (sameMessages_same _ _ m3 k3 j3 rm _ OM.out VM.out).mono ?_
    rintro e w5 ⟨rfl, hb5⟩
    clear xa0 xaf0 xa1 xaf1 xd0 xdf0 xd1 xdf1 xd2 xdf2 xd3 xdf3 xd4 xdf4 xd5 xdf5 xd6 xdf6 xo0 xof0 xo1 xof1 xv0 xvf0 xv1 xvf1
    have Vxa := Lib.hid ((Vxa.out).below hb5 ltxa)
    have Vxd := Lib.hid ((Vxd.out).below hb5 ltxd)
    have Vxo := Lib.hid ((Vxo.out).below hb5 ltxo)
    have Vxv := Lib.hid ((Vxv.out).below hb5 ltxv)
    have HB5 := Lib.hid (HB4.out.trans (hb5.mono HB4.out.size))
    have ltxa : w1.heap.size < w5.heap.size := lt_of_cell (Vxa.out 0 _ rfl).1
    have ltxd : w1.heap.size + 1 < w5.heap.size := lt_of_cell (Vxd.out 0 _ rfl).1
    have ltxo : w2.heap.size < w5.heap.size := lt_of_cell (Vxo.out 0 _ rfl).1
    have ltxv : w3.heap.size < w5.heap.size := lt_of_cell (Vxv.out 0 _ rfl).1
    have nexa : ¬ w1.heap.size = w5.heap.size := by omega
    have nexd : ¬ w1.heap.size + 1 = w5.heap.size := by omega
    have nexo : ¬ w2.heap.size = w5.heap.size := by omega
    have nexv : ¬ w3.heap.size = w5.heap.size := by omega
    have NA := Lib.hid ((NA.out).below hb5)
    have PA := Lib.hid ((PA.out).below hb5)
    have ON := Lib.hid ((ON.out).below hb5)
    have OP := Lib.hid ((OP.out).below hb5)
    have OM := Lib.hid ((OM.out).below hb5)
    have VN := Lib.hid ((VN.out).below hb5)
    have VP := Lib.hid ((VP.out).below hb5)
    have VM := Lib.hid ((VM.out).below hb5)
    clear hb5
    have CF := Lib.hid (code_full HC.out)
    by_cases hc2 : code = 2
    · subst hc2
      have nb : n2 = 12 := by have := CF.out.1 rfl; have := LPA.out; omega
      subst nb
      have xa0 := (Vxa.out 0 _ rfl).1
      have xaf0 := (Vxa.out 0 _ rfl).2
      have xa1 := (Vxa.out 1 _ rfl).1
      have xaf1 := (Vxa.out 1 _ rfl).2
      have xd0 := (Vxd.out 0 _ rfl).1
      have xdf0 := (Vxd.out 0 _ rfl).2
      have xd1 := (Vxd.out 1 _ rfl).1
      have xdf1 := (Vxd.out 1 _ rfl).2
      have xd2 := (Vxd.out 2 _ rfl).1
      have xdf2 := (Vxd.out 2 _ rfl).2
      have xd3 := (Vxd.out 3 _ rfl).1
      have xdf3 := (Vxd.out 3 _ rfl).2
      have xd4 := (Vxd.out 4 _ rfl).1
      have xdf4 := (Vxd.out 4 _ rfl).2
      have xd5 := (Vxd.out 5 _ rfl).1
      have xdf5 := (Vxd.out 5 _ rfl).2
      have xd6 := (Vxd.out 6 _ rfl).1
      have xdf6 := (Vxd.out 6 _ rfl).2
      have xo0 := (Vxo.out 0 _ rfl).1
      have xof0 := (Vxo.out 0 _ rfl).2
      have xo1 := (Vxo.out 1 _ rfl).1
      have xof1 := (Vxo.out 1 _ rfl).2
      have xv0 := (Vxv.out 0 _ rfl).1
      have xvf0 := (Vxv.out 0 _ rfl).2
      have xv1 := (Vxv.out 1 _ rfl).1
      have xvf1 := (Vxv.out 1 _ rfl).2
      go_wp2
      go_ret
      exact ⟨rfl, HB5.out⟩
    · by_cases hc0 : code = 0
      · subst hc0
        have nb : (n2 : Int) < 12 := by have := CF.out.2.1 rfl; have := LPA.out; omega
        have xa0 := (Vxa.out 0 _ rfl).1
        have xaf0 := (Vxa.out 0 _ rfl).2
        have xa1 := (Vxa.out 1 _ rfl).1
        have xaf1 := (Vxa.out 1 _ rfl).2
        have xd0 := (Vxd.out 0 _ rfl).1
        have xdf0 := (Vxd.out 0 _ rfl).2
        have xd1 := (Vxd.out 1 _ rfl).1
        have xdf1 := (Vxd.out 1 _ rfl).2
        have xd2 := (Vxd.out 2 _ rfl).1
        have xdf2 := (Vxd.out 2 _ rfl).2
        have xd3 := (Vxd.out 3 _ rfl).1
        have xdf3 := (Vxd.out 3 _ rfl).2
        have xd4 := (Vxd.out 4 _ rfl).1
        have xdf4 := (Vxd.out 4 _ rfl).2
        have xd5 := (Vxd.out 5 _ rfl).1
        have xdf5 := (Vxd.out 5 _ rfl).2
        have xd6 := (Vxd.out 6 _ rfl).1
        have xdf6 := (Vxd.out 6 _ rfl).2
        have xo0 := (Vxo.out 0 _ rfl).1
        have xof0 := (Vxo.out 0 _ rfl).2
        have xo1 := (Vxo.out 1 _ rfl).1
        have xof1 := (Vxo.out 1 _ rfl).2
        have xv0 := (Vxv.out 0 _ rfl).1
        have xvf0 := (Vxv.out 0 _ rfl).2
        have xv1 := (Vxv.out 1 _ rfl).1
        have xvf1 := (Vxv.out 1 _ rfl).2
        go_wp2
        go_ret
        exact ⟨rfl, HB5.out⟩
      · have d1 : (code == 2) = false := beq_eq_false_iff_ne.2 hc2
        have d0 : (code == 0) = false := beq_eq_false_iff_ne.2 hc0
        have d1' : decide (code = 2) = false := decide_eq_false hc2
        have d0' : decide (code = 0) = false := decide_eq_false hc0
        have xa0 := (Vxa.out 0 _ rfl).1
        have xaf0 := (Vxa.out 0 _ rfl).2
        have xa1 := (Vxa.out 1 _ rfl).1
        have xaf1 := (Vxa.out 1 _ rfl).2
        have xd0 := (Vxd.out 0 _ rfl).1
        have xdf0 := (Vxd.out 0 _ rfl).2
        have xd1 := (Vxd.out 1 _ rfl).1
        have xdf1 := (Vxd.out 1 _ rfl).2
        have xd2 := (Vxd.out 2 _ rfl).1
        have xdf2 := (Vxd.out 2 _ rfl).2
        have xd3 := (Vxd.out 3 _ rfl).1
        have xdf3 := (Vxd.out 3 _ rfl).2
        have xd4 := (Vxd.out 4 _ rfl).1
        have xdf4 := (Vxd.out 4 _ rfl).2
        have xd5 := (Vxd.out 5 _ rfl).1
        have xdf5 := (Vxd.out 5 _ rfl).2
        have xd6 := (Vxd.out 6 _ rfl).1
        have xdf6 := (Vxd.out 6 _ rfl).2
        have xo0 := (Vxo.out 0 _ rfl).1
        have xof0 := (Vxo.out 0 _ rfl).2
        have xo1 := (Vxo.out 1 _ rfl).1
        have xof1 := (Vxo.out 1 _ rfl).2
        have xv0 := (Vxv.out 0 _ rfl).1
        have xvf0 := (Vxv.out 0 _ rfl).2
        have xv1 := (Vxv.out 1 _ rfl).1
        have xvf1 := (Vxv.out 1 _ rfl).2
        go_wp2
        go_ret
        exact ⟨rfl, HB5.out⟩

end Go.Proofs.Ytncbgejggfkdmaa
