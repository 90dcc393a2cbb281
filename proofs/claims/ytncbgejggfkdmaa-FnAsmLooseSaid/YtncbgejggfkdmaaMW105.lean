/- The walk of the law on a whole message without order. -/
import Derived.Handy
import Derived.Test.YtncbgejggfkdmaaM12
namespace Go.Proofs.Ytncbgejggfkdmaa
open Go.RowKit Go.PlainAid

theorem msg_eq (s q : Int) (lo : Bool) (tx : ByteArray) : ∀ w, (binOp .eql 45 (.agg #[.int .i64 s, .int .i64 q, .bool lo, .string tx]) (.agg #[.int .i64 s, .int .i64 q, .bool lo, .string tx])).run Try.prog w = .ok (.bool true) w := fun w => by go_simp
theorem msg_ne {s q s2 q2 : Int} {lo lo2 : Bool} {tx tx2 : ByteArray} (h : ¬ (s = s2 ∧ q = q2 ∧ lo = lo2 ∧ tx = tx2)) : ∀ w, (binOp .eql 45 (.agg #[.int .i64 s, .int .i64 q, .bool lo, .string tx]) (.agg #[.int .i64 s2, .int .i64 q2, .bool lo2, .string tx2])).run Try.prog w = .ok (.bool false) w := fun w => by
  go_simp
  intro e1 e2 e3 e4
  rw [ByteArray.toList_eq, ByteArray.toList_eq] at e4
  exact h ⟨e1, e2, e3, ByteArray.ext (Array.toList_inj.1 e4)⟩

set_option maxHeartbeats 4000000 in
theorem walk_fnAsmLoose (a0 : Option Addr) (len0 cap0 : Nat) (z0 : List Int) (w : World) (w0 : IsRow .u8 w a0 len0 cap0 z0) :
    Calls Try.prog 11 #[.slice a0 len0 cap0] w fun e w' => e = .returned (.bool true) ∧ Below w.heap.size w w' := by
  have H := Lib.hid w0
  clear w0
  by_cases hl : (1048576 : Int) < len0
  · go_enter Try.func11, Try.ntmps11
    go_wp2
    go_ret
    exact ⟨rfl, Below.refl _ _⟩
  · go_enter Try.func11, Try.ntmps11
    go_wp2_with fail
    refine (drawAsmAdd_any a0 len0 cap0 z0 _ H.out).mono ?_
    rintro e w1 ⟨a1, n1, c1, a2, n2, c2, es, qs, ⟨dt, ds, dq, dfi, dla, dlo, dtx⟩, rfl, hn1, hn2, hsm, hsp, hns, hpt, hb1⟩
    rw [partV_eq]
    have NA := Lib.hid hns
    have PA := Lib.hid hpt
    have KY := Lib.hid (smally_keys hsm)
    have SM := Lib.hid hsm
    have SP := Lib.hid hsp
    have LNA := Lib.hid hns.length
    have LPA := Lib.hid hpt.length
    clear hns hpt hsm hsp
    obtain ⟨⟨rn, rp, rm⟩, hr⟩ : ∃ r, ansR es qs ⟨dt, ds, dq, dfi, dla, dlo, dtx⟩ = r := ⟨_, rfl⟩
    obtain ⟨code, hc⟩ : ∃ c, ansC es qs ⟨dt, ds, dq, dfi, dla, dlo, dtx⟩ = c := ⟨_, rfl⟩
    have few := ansR_few hr
    obtain ⟨m1, hm1⟩ : ∃ n, rn.length = n := ⟨_, rfl⟩
    obtain ⟨m2, hm2⟩ : ∃ n, rp.length = n := ⟨_, rfl⟩
    obtain ⟨m3, hm3⟩ : ∃ n, rm.length = n := ⟨_, rfl⟩
    rw [hm1, hm2, hm3] at few
    have HR := Lib.hid hr
    have HC := Lib.hid hc
    have HLN := Lib.hid (And.intro hm1 (And.intro hm2 hm3))
    clear hr hc hm1 hm2 hm3
    go_wp2_with fail
    refine (asmAdd_is a1 n1 c1 es a2 n2 c2 qs dt ds dq dfi dla dlo dtx _ (((NA.out).below (below_box (.cells (List.toArray [.slice a1 n1 c1, .slice a2 n2 c2]) 26) (Nat.le_refl _))).below (below_box (.cells (List.toArray [.int .i64 dt, .int .i64 ds, .int .i64 dq, .bool dfi, .bool dla, .bool dlo, .string dtx]) 28) (Nat.le_refl _))) (((PA.out).below (below_box (.cells (List.toArray [.slice a1 n1 c1, .slice a2 n2 c2]) 26) (Nat.le_refl _))).below (below_box (.cells (List.toArray [.int .i64 dt, .int .i64 ds, .int .i64 dq, .bool dfi, .bool dla, .bool dlo, .string dtx]) 28) (Nat.le_refl _))) KY.out HR.out HC.out HLN.out).mono ?_
    rintro e w2 ⟨b1, k1, b2, k2, b3, k3, rfl, ⟨o1, o2, o3⟩, hb2⟩
    have Vxa := Lib.hid (((VarN.new_at (w := w1) (d := w1.heap.size) (by simp) [.slice a1 n1 c1, .slice a2 n2 c2] 26).alloc (.cells (List.toArray [.int .i64 dt, .int .i64 ds, .int .i64 dq, .bool dfi, .bool dla, .bool dlo, .string dtx]) 28) (by first | omega | (simp <;> omega))).below hb2 (by simp <;> omega))
    have Vxd := Lib.hid ((VarN.new_at (w := (w1.alloc (.cells (List.toArray [.slice a1 n1 c1, .slice a2 n2 c2]) 26))) (d := w1.heap.size + 1) (by simp) [.int .i64 dt, .int .i64 ds, .int .i64 dq, .bool dfi, .bool dla, .bool dlo, .string dtx] 28).below hb2 (by simp))
    have HB2 := Lib.hid ((((hb1).alloc (Nat.le_trans hb1.size (by exact Nat.le_refl _)) (.cells (List.toArray [.slice a1 n1 c1, .slice a2 n2 c2]) 26)).alloc (Nat.le_trans hb1.size (by simp <;> omega)) (.cells (List.toArray [.int .i64 dt, .int .i64 ds, .int .i64 dq, .bool dfi, .bool dla, .bool dlo, .string dtx]) 28)).trans (hb2.mono (Nat.le_trans hb1.size (by simp <;> omega))))
    have ltxa : w1.heap.size < w2.heap.size := lt_of_cell (Vxa.out 0 _ rfl).1
    have ltxd : w1.heap.size + 1 < w2.heap.size := lt_of_cell (Vxd.out 0 _ rfl).1
    have nexa : ¬ w1.heap.size = w2.heap.size := by omega
    have nexd : ¬ w1.heap.size + 1 = w2.heap.size := by omega
    have NA := Lib.hid ((((NA.out).below (below_box (.cells (List.toArray [.slice a1 n1 c1, .slice a2 n2 c2]) 26) (Nat.le_refl _))).below (below_box (.cells (List.toArray [.int .i64 dt, .int .i64 ds, .int .i64 dq, .bool dfi, .bool dla, .bool dlo, .string dtx]) 28) (Nat.le_refl _))).below hb2)
    have PA := Lib.hid ((((PA.out).below (below_box (.cells (List.toArray [.slice a1 n1 c1, .slice a2 n2 c2]) 26) (Nat.le_refl _))).below (below_box (.cells (List.toArray [.int .i64 dt, .int .i64 ds, .int .i64 dq, .bool dfi, .bool dla, .bool dlo, .string dtx]) 28) (Nat.le_refl _))).below hb2)
    clear hb2
    have ON := Lib.hid (own_ns o1)
    have OP := Lib.hid (own_pts o2)
    have OM := Lib.hid (own_mgs o3)
    clear o1 o2 o3
    have xa0 := (Vxa.out 0 _ rfl).1
    have xaf0 := (Vxa.out 0 _ rfl).2
    have xa1 := (Vxa.out 1 _ rfl).1
    have xaf1 := (Vxa.out 1 _ rfl).2
    have xd0 := (Vxd.out 0 _ rfl).1
    have xdf0 := (Vxd.out 0 _ rfl).2
    have xd1 := (Vxd.out 1 _ rfl).1
    have xdf1 := (Vxd.out 1 _ rfl).2
    have xd2 := (Vxd.out 2 _ rfl).1
    have xdf2 := (Vxd.out 2 _ rfl).2
    have xd3 := (Vxd.out 3 _ rfl).1
    have xdf3 := (Vxd.out 3 _ rfl).2
    have xd4 := (Vxd.out 4 _ rfl).1
    have xdf4 := (Vxd.out 4 _ rfl).2
    have xd5 := (Vxd.out 5 _ rfl).1
    have xdf5 := (Vxd.out 5 _ rfl).2
    have xd6 := (Vxd.out 6 _ rfl).1
    have xdf6 := (Vxd.out 6 _ rfl).2
    go_wp2_with fail
    refine (sAsmAdd_is a1 n1 c1 es a2 n2 c2 qs dt ds dq dfi dla dlo dtx _ ((NA.out).below (below_box (.cells (List.toArray [.slice b1 m1 k1, .slice b2 m2 k2]) 26) (Nat.le_refl _))) ((PA.out).below (below_box (.cells (List.toArray [.slice b1 m1 k1, .slice b2 m2 k2]) 26) (Nat.le_refl _))) HR.out HC.out HLN.out).mono ?_
    rintro e w3 ⟨g1, j1, g2, j2, g3, j3, rfl, ⟨o1, o2, o3⟩, hb3⟩
    clear xa0 xaf0 xa1 xaf1 xd0 xdf0 xd1 xdf1 xd2 xdf2 xd3 xdf3 xd4 xdf4 xd5 xdf5 xd6 xdf6
    have Vxa := Lib.hid (((Vxa.out).alloc (.cells (List.toArray [.slice b1 m1 k1, .slice b2 m2 k2]) 26) (by omega)).below hb3 (by simp; omega))
    have Vxd := Lib.hid (((Vxd.out).alloc (.cells (List.toArray [.slice b1 m1 k1, .slice b2 m2 k2]) 26) (by omega)).below hb3 (by simp; omega))
    have Vxo := Lib.hid ((VarN.new_at (w := w2) (d := w2.heap.size) (by simp) [.slice b1 m1 k1, .slice b2 m2 k2] 26).below hb3 (by simp))
    have HB3 := Lib.hid (((HB2.out).alloc (Nat.le_trans HB2.out.size (by exact Nat.le_refl _)) (.cells (List.toArray [.slice b1 m1 k1, .slice b2 m2 k2]) 26)).trans (hb3.mono (Nat.le_trans HB2.out.size (by simp <;> omega))))
    have ltxa : w1.heap.size < w3.heap.size := lt_of_cell (Vxa.out 0 _ rfl).1
    have ltxd : w1.heap.size + 1 < w3.heap.size := lt_of_cell (Vxd.out 0 _ rfl).1
    have ltxo : w2.heap.size < w3.heap.size := lt_of_cell (Vxo.out 0 _ rfl).1
    have nexa : ¬ w1.heap.size = w3.heap.size := by omega
    have nexd : ¬ w1.heap.size + 1 = w3.heap.size := by omega
    have nexo : ¬ w2.heap.size = w3.heap.size := by omega
    have NA := Lib.hid (((NA.out).below (below_box (.cells (List.toArray [.slice b1 m1 k1, .slice b2 m2 k2]) 26) (Nat.le_refl _))).below hb3)
    have PA := Lib.hid (((PA.out).below (below_box (.cells (List.toArray [.slice b1 m1 k1, .slice b2 m2 k2]) 26) (Nat.le_refl _))).below hb3)
    have ON := Lib.hid (((ON.out).below (below_box (.cells (List.toArray [.slice b1 m1 k1, .slice b2 m2 k2]) 26) (Nat.le_refl _))).below hb3)
    have OP := Lib.hid (((OP.out).below (below_box (.cells (List.toArray [.slice b1 m1 k1, .slice b2 m2 k2]) 26) (Nat.le_refl _))).below hb3)
    have OM := Lib.hid (((OM.out).below (below_box (.cells (List.toArray [.slice b1 m1 k1, .slice b2 m2 k2]) 26) (Nat.le_refl _))).below hb3)
    clear hb3
    have VN := Lib.hid (own_ns o1)
    have VP := Lib.hid (own_pts o2)
    have VM := Lib.hid (own_mgs o3)
    clear o1 o2 o3
    have xa0 := (Vxa.out 0 _ rfl).1
    have xaf0 := (Vxa.out 0 _ rfl).2
    have xa1 := (Vxa.out 1 _ rfl).1
    have xaf1 := (Vxa.out 1 _ rfl).2
    have xd0 := (Vxd.out 0 _ rfl).1
    have xdf0 := (Vxd.out 0 _ rfl).2
    have xd1 := (Vxd.out 1 _ rfl).1
    have xdf1 := (Vxd.out 1 _ rfl).2
    have xd2 := (Vxd.out 2 _ rfl).1
    have xdf2 := (Vxd.out 2 _ rfl).2
    have xd3 := (Vxd.out 3 _ rfl).1
    have xdf3 := (Vxd.out 3 _ rfl).2
    have xd4 := (Vxd.out 4 _ rfl).1
    have xdf4 := (Vxd.out 4 _ rfl).2
    have xd5 := (Vxd.out 5 _ rfl).1
    have xdf5 := (Vxd.out 5 _ rfl).2
    have xd6 := (Vxd.out 6 _ rfl).1
    have xdf6 := (Vxd.out 6 _ rfl).2
    have xo0 := (Vxo.out 0 _ rfl).1
    have xof0 := (Vxo.out 0 _ rfl).2
    have xo1 := (Vxo.out 1 _ rfl).1
    have xof1 := (Vxo.out 1 _ rfl).2
    go_wp2_with fail
    refine (sameAsm_same _ _ _ _ m1 k1 j1 m2 k2 j2 rn rp _ ((ON.out).below (below_box (.cells (List.toArray [.slice g1 m1 j1, .slice g2 m2 j2]) 26) (Nat.le_refl _))) ((VN.out).below (below_box (.cells (List.toArray [.slice g1 m1 j1, .slice g2 m2 j2]) 26) (Nat.le_refl _))) ((OP.out).below (below_box (.cells (List.toArray [.slice g1 m1 j1, .slice g2 m2 j2]) 26) (Nat.le_refl _))) ((VP.out).below (below_box (.cells (List.toArray [.slice g1 m1 j1, .slice g2 m2 j2]) 26) (Nat.le_refl _)))).mono ?_
    rintro e w4 ⟨rfl, hb4⟩
    clear xa0 xaf0 xa1 xaf1 xd0 xdf0 xd1 xdf1 xd2 xdf2 xd3 xdf3 xd4 xdf4 xd5 xdf5 xd6 xdf6 xo0 xof0 xo1 xof1
    have Vxa := Lib.hid (((Vxa.out).alloc (.cells (List.toArray [.slice g1 m1 j1, .slice g2 m2 j2]) 26) (by omega)).below hb4 (by simp; omega))
    have Vxd := Lib.hid (((Vxd.out).alloc (.cells (List.toArray [.slice g1 m1 j1, .slice g2 m2 j2]) 26) (by omega)).below hb4 (by simp; omega))
    have Vxo := Lib.hid (((Vxo.out).alloc (.cells (List.toArray [.slice g1 m1 j1, .slice g2 m2 j2]) 26) (by omega)).below hb4 (by simp; omega))
    have Vxv := Lib.hid ((VarN.new_at (w := w3) (d := w3.heap.size) (by simp) [.slice g1 m1 j1, .slice g2 m2 j2] 26).below hb4 (by simp))
    have HB4 := Lib.hid (((HB3.out).alloc (Nat.le_trans HB3.out.size (by exact Nat.le_refl _)) (.cells (List.toArray [.slice g1 m1 j1, .slice g2 m2 j2]) 26)).trans (hb4.mono (Nat.le_trans HB3.out.size (by simp <;> omega))))
    have ltxa : w1.heap.size < w4.heap.size := lt_of_cell (Vxa.out 0 _ rfl).1
    have ltxd : w1.heap.size + 1 < w4.heap.size := lt_of_cell (Vxd.out 0 _ rfl).1
    have ltxo : w2.heap.size < w4.heap.size := lt_of_cell (Vxo.out 0 _ rfl).1
    have ltxv : w3.heap.size < w4.heap.size := lt_of_cell (Vxv.out 0 _ rfl).1
    have nexa : ¬ w1.heap.size = w4.heap.size := by omega
    have nexd : ¬ w1.heap.size + 1 = w4.heap.size := by omega
    have nexo : ¬ w2.heap.size = w4.heap.size := by omega
    have nexv : ¬ w3.heap.size = w4.heap.size := by omega
    have NA := Lib.hid (((NA.out).below (below_box (.cells (List.toArray [.slice g1 m1 j1, .slice g2 m2 j2]) 26) (Nat.le_refl _))).below hb4)
    have PA := Lib.hid (((PA.out).below (below_box (.cells (List.toArray [.slice g1 m1 j1, .slice g2 m2 j2]) 26) (Nat.le_refl _))).below hb4)
    have ON := Lib.hid (((ON.out).below (below_box (.cells (List.toArray [.slice g1 m1 j1, .slice g2 m2 j2]) 26) (Nat.le_refl _))).below hb4)
    have OP := Lib.hid (((OP.out).below (below_box (.cells (List.toArray [.slice g1 m1 j1, .slice g2 m2 j2]) 26) (Nat.le_refl _))).below hb4)
    have OM := Lib.hid (((OM.out).below (below_box (.cells (List.toArray [.slice g1 m1 j1, .slice g2 m2 j2]) 26) (Nat.le_refl _))).below hb4)
    have VN := Lib.hid (((VN.out).below (below_box (.cells (List.toArray [.slice g1 m1 j1, .slice g2 m2 j2]) 26) (Nat.le_refl _))).below hb4)
    have VP := Lib.hid (((VP.out).below (below_box (.cells (List.toArray [.slice g1 m1 j1, .slice g2 m2 j2]) 26) (Nat.le_refl _))).below hb4)
    have VM := Lib.hid (((VM.out).below (below_box (.cells (List.toArray [.slice g1 m1 j1, .slice g2 m2 j2]) 26) (Nat.le_refl _))).below hb4)
    clear hb4
    have xa0 := (Vxa.out 0 _ rfl).1
    have xaf0 := (Vxa.out 0 _ rfl).2
    have xa1 := (Vxa.out 1 _ rfl).1
    have xaf1 := (Vxa.out 1 _ rfl).2
    have xd0 := (Vxd.out 0 _ rfl).1
    have xdf0 := (Vxd.out 0 _ rfl).2
    have xd1 := (Vxd.out 1 _ rfl).1
    have xdf1 := (Vxd.out 1 _ rfl).2
    have xd2 := (Vxd.out 2 _ rfl).1
    have xdf2 := (Vxd.out 2 _ rfl).2
    have xd3 := (Vxd.out 3 _ rfl).1
    have xdf3 := (Vxd.out 3 _ rfl).2
    have xd4 := (Vxd.out 4 _ rfl).1
    have xdf4 := (Vxd.out 4 _ rfl).2
    have xd5 := (Vxd.out 5 _ rfl).1
    have xdf5 := (Vxd.out 5 _ rfl).2
    have xd6 := (Vxd.out 6 _ rfl).1
    have xdf6 := (Vxd.out 6 _ rfl).2
    have xo0 := (Vxo.out 0 _ rfl).1
    have xof0 := (Vxo.out 0 _ rfl).2
    have xo1 := (Vxo.out 1 _ rfl).1
    have xof1 := (Vxo.out 1 _ rfl).2
    have xv0 := (Vxv.out 0 _ rfl).1
    have xvf0 := (Vxv.out 0 _ rfl).2
    have xv1 := (Vxv.out 1 _ rfl).1
    have xvf1 := (Vxv.out 1 _ rfl).2
    go_wp2_with fail
    refine (sameMessages_same _ _ m3 k3 j3 rm _ OM.out VM.out).mono ?_
    rintro e w5 ⟨rfl, hb5⟩
    clear xa0 xaf0 xa1 xaf1 xd0 xdf0 xd1 xdf1 xd2 xdf2 xd3 xdf3 xd4 xdf4 xd5 xdf5 xd6 xdf6 xo0 xof0 xo1 xof1 xv0 xvf0 xv1 xvf1
    have Vxa := Lib.hid ((Vxa.out).below hb5 ltxa)
    have Vxd := Lib.hid ((Vxd.out).below hb5 ltxd)
    have Vxo := Lib.hid ((Vxo.out).below hb5 ltxo)
    have Vxv := Lib.hid ((Vxv.out).below hb5 ltxv)
    have HB5 := Lib.hid (HB4.out.trans (hb5.mono HB4.out.size))
    have ltxa : w1.heap.size < w5.heap.size := lt_of_cell (Vxa.out 0 _ rfl).1
    have ltxd : w1.heap.size + 1 < w5.heap.size := lt_of_cell (Vxd.out 0 _ rfl).1
    have ltxo : w2.heap.size < w5.heap.size := lt_of_cell (Vxo.out 0 _ rfl).1
    have ltxv : w3.heap.size < w5.heap.size := lt_of_cell (Vxv.out 0 _ rfl).1
    have nexa : ¬ w1.heap.size = w5.heap.size := by omega
    have nexd : ¬ w1.heap.size + 1 = w5.heap.size := by omega
    have nexo : ¬ w2.heap.size = w5.heap.size := by omega
    have nexv : ¬ w3.heap.size = w5.heap.size := by omega
    have NA := Lib.hid ((NA.out).below hb5)
    have PA := Lib.hid ((PA.out).below hb5)
    have ON := Lib.hid ((ON.out).below hb5)
    have OP := Lib.hid ((OP.out).below hb5)
    have OM := Lib.hid ((OM.out).below hb5)
    have VN := Lib.hid ((VN.out).below hb5)
    have VP := Lib.hid ((VP.out).below hb5)
    have VM := Lib.hid ((VM.out).below hb5)
    clear hb5
    by_cases hc0 : code = 0
    · subst hc0
      have DF := Lib.hid (done_facts HR.out HC.out)
      cases dfi
      · have xa0 := (Vxa.out 0 _ rfl).1
        have xaf0 := (Vxa.out 0 _ rfl).2
        have xa1 := (Vxa.out 1 _ rfl).1
        have xaf1 := (Vxa.out 1 _ rfl).2
        have xd0 := (Vxd.out 0 _ rfl).1
        have xdf0 := (Vxd.out 0 _ rfl).2
        have xd1 := (Vxd.out 1 _ rfl).1
        have xdf1 := (Vxd.out 1 _ rfl).2
        have xd2 := (Vxd.out 2 _ rfl).1
        have xdf2 := (Vxd.out 2 _ rfl).2
        have xd3 := (Vxd.out 3 _ rfl).1
        have xdf3 := (Vxd.out 3 _ rfl).2
        have xd4 := (Vxd.out 4 _ rfl).1
        have xdf4 := (Vxd.out 4 _ rfl).2
        have xd5 := (Vxd.out 5 _ rfl).1
        have xdf5 := (Vxd.out 5 _ rfl).2
        have xd6 := (Vxd.out 6 _ rfl).1
        have xdf6 := (Vxd.out 6 _ rfl).2
        have xo0 := (Vxo.out 0 _ rfl).1
        have xof0 := (Vxo.out 0 _ rfl).2
        have xo1 := (Vxo.out 1 _ rfl).1
        have xof1 := (Vxo.out 1 _ rfl).2
        have xv0 := (Vxv.out 0 _ rfl).1
        have xvf0 := (Vxv.out 0 _ rfl).2
        have xv1 := (Vxv.out 1 _ rfl).1
        have xvf1 := (Vxv.out 1 _ rfl).2
        go_wp2_with fail
        refine (sameAsm_same _ _ _ _ m1 k1 j1 m2 k2 j2 rn rp _ ON.out VN.out OP.out VP.out).mono ?_
        rintro e w6 ⟨rfl, hb6⟩
        clear xa0 xaf0 xa1 xaf1 xd0 xdf0 xd1 xdf1 xd2 xdf2 xd3 xdf3 xd4 xdf4 xd5 xdf5 xd6 xdf6 xo0 xof0 xo1 xof1 xv0 xvf0 xv1 xvf1
        have Vxa := Lib.hid ((Vxa.out).below hb6 ltxa)
        have Vxd := Lib.hid ((Vxd.out).below hb6 ltxd)
        have Vxo := Lib.hid ((Vxo.out).below hb6 ltxo)
        have Vxv := Lib.hid ((Vxv.out).below hb6 ltxv)
        have HB6 := Lib.hid (HB5.out.trans (hb6.mono HB5.out.size))
        have ltxa : w1.heap.size < w6.heap.size := lt_of_cell (Vxa.out 0 _ rfl).1
        have ltxd : w1.heap.size + 1 < w6.heap.size := lt_of_cell (Vxd.out 0 _ rfl).1
        have ltxo : w2.heap.size < w6.heap.size := lt_of_cell (Vxo.out 0 _ rfl).1
        have ltxv : w3.heap.size < w6.heap.size := lt_of_cell (Vxv.out 0 _ rfl).1
        have nexa : ¬ w1.heap.size = w6.heap.size := by omega
        have nexd : ¬ w1.heap.size + 1 = w6.heap.size := by omega
        have nexo : ¬ w2.heap.size = w6.heap.size := by omega
        have nexv : ¬ w3.heap.size = w6.heap.size := by omega
        have NA := Lib.hid ((NA.out).below hb6)
        have PA := Lib.hid ((PA.out).below hb6)
        have ON := Lib.hid ((ON.out).below hb6)
        have OP := Lib.hid ((OP.out).below hb6)
        have OM := Lib.hid ((OM.out).below hb6)
        have VN := Lib.hid ((VN.out).below hb6)
        have VP := Lib.hid ((VP.out).below hb6)
        have VM := Lib.hid ((VM.out).below hb6)
        clear hb6
        have xa0 := (Vxa.out 0 _ rfl).1
        have xaf0 := (Vxa.out 0 _ rfl).2
        have xa1 := (Vxa.out 1 _ rfl).1
        have xaf1 := (Vxa.out 1 _ rfl).2
        have xd0 := (Vxd.out 0 _ rfl).1
        have xdf0 := (Vxd.out 0 _ rfl).2
        have xd1 := (Vxd.out 1 _ rfl).1
        have xdf1 := (Vxd.out 1 _ rfl).2
        have xd2 := (Vxd.out 2 _ rfl).1
        have xdf2 := (Vxd.out 2 _ rfl).2
        have xd3 := (Vxd.out 3 _ rfl).1
        have xdf3 := (Vxd.out 3 _ rfl).2
        have xd4 := (Vxd.out 4 _ rfl).1
        have xdf4 := (Vxd.out 4 _ rfl).2
        have xd5 := (Vxd.out 5 _ rfl).1
        have xdf5 := (Vxd.out 5 _ rfl).2
        have xd6 := (Vxd.out 6 _ rfl).1
        have xdf6 := (Vxd.out 6 _ rfl).2
        have xo0 := (Vxo.out 0 _ rfl).1
        have xof0 := (Vxo.out 0 _ rfl).2
        have xo1 := (Vxo.out 1 _ rfl).1
        have xof1 := (Vxo.out 1 _ rfl).2
        have xv0 := (Vxv.out 0 _ rfl).1
        have xvf0 := (Vxv.out 0 _ rfl).2
        have xv1 := (Vxv.out 1 _ rfl).1
        have xvf1 := (Vxv.out 1 _ rfl).2
        go_wp2_with fail
        refine (sameMessages_same _ _ m3 k3 j3 rm _ OM.out VM.out).mono ?_
        rintro e w7 ⟨rfl, hb7⟩
        clear xa0 xaf0 xa1 xaf1 xd0 xdf0 xd1 xdf1 xd2 xdf2 xd3 xdf3 xd4 xdf4 xd5 xdf5 xd6 xdf6 xo0 xof0 xo1 xof1 xv0 xvf0 xv1 xvf1
        have Vxa := Lib.hid ((Vxa.out).below hb7 ltxa)
        have Vxd := Lib.hid ((Vxd.out).below hb7 ltxd)
        have Vxo := Lib.hid ((Vxo.out).below hb7 ltxo)
        have Vxv := Lib.hid ((Vxv.out).below hb7 ltxv)
        have HB7 := Lib.hid (HB6.out.trans (hb7.mono HB6.out.size))
        have ltxa : w1.heap.size < w7.heap.size := lt_of_cell (Vxa.out 0 _ rfl).1
        have ltxd : w1.heap.size + 1 < w7.heap.size := lt_of_cell (Vxd.out 0 _ rfl).1
        have ltxo : w2.heap.size < w7.heap.size := lt_of_cell (Vxo.out 0 _ rfl).1
        have ltxv : w3.heap.size < w7.heap.size := lt_of_cell (Vxv.out 0 _ rfl).1
        have nexa : ¬ w1.heap.size = w7.heap.size := by omega
        have nexd : ¬ w1.heap.size + 1 = w7.heap.size := by omega
        have nexo : ¬ w2.heap.size = w7.heap.size := by omega
        have nexv : ¬ w3.heap.size = w7.heap.size := by omega
        have NA := Lib.hid ((NA.out).below hb7)
        have PA := Lib.hid ((PA.out).below hb7)
        have ON := Lib.hid ((ON.out).below hb7)
        have OP := Lib.hid ((OP.out).below hb7)
        have OM := Lib.hid ((OM.out).below hb7)
        have VN := Lib.hid ((VN.out).below hb7)
        have VP := Lib.hid ((VP.out).below hb7)
        have VM := Lib.hid ((VM.out).below hb7)
        clear hb7
        have xa0 := (Vxa.out 0 _ rfl).1
        have xaf0 := (Vxa.out 0 _ rfl).2
        have xa1 := (Vxa.out 1 _ rfl).1
        have xaf1 := (Vxa.out 1 _ rfl).2
        have xd0 := (Vxd.out 0 _ rfl).1
        have xdf0 := (Vxd.out 0 _ rfl).2
        have xd1 := (Vxd.out 1 _ rfl).1
        have xdf1 := (Vxd.out 1 _ rfl).2
        have xd2 := (Vxd.out 2 _ rfl).1
        have xdf2 := (Vxd.out 2 _ rfl).2
        have xd3 := (Vxd.out 3 _ rfl).1
        have xdf3 := (Vxd.out 3 _ rfl).2
        have xd4 := (Vxd.out 4 _ rfl).1
        have xdf4 := (Vxd.out 4 _ rfl).2
        have xd5 := (Vxd.out 5 _ rfl).1
        have xdf5 := (Vxd.out 5 _ rfl).2
        have xd6 := (Vxd.out 6 _ rfl).1
        have xdf6 := (Vxd.out 6 _ rfl).2
        have xo0 := (Vxo.out 0 _ rfl).1
        have xof0 := (Vxo.out 0 _ rfl).2
        have xo1 := (Vxo.out 1 _ rfl).1
        have xof1 := (Vxo.out 1 _ rfl).2
        have xv0 := (Vxv.out 0 _ rfl).1
        have xvf0 := (Vxv.out 0 _ rfl).2
        have xv1 := (Vxv.out 1 _ rfl).1
        have xvf1 := (Vxv.out 1 _ rfl).2
        go_wp2
        go_ret
        exact ⟨rfl, HB7.out⟩
      · cases dla
        · have xa0 := (Vxa.out 0 _ rfl).1
          have xaf0 := (Vxa.out 0 _ rfl).2
          have xa1 := (Vxa.out 1 _ rfl).1
          have xaf1 := (Vxa.out 1 _ rfl).2
          have xd0 := (Vxd.out 0 _ rfl).1
          have xdf0 := (Vxd.out 0 _ rfl).2
          have xd1 := (Vxd.out 1 _ rfl).1
          have xdf1 := (Vxd.out 1 _ rfl).2
          have xd2 := (Vxd.out 2 _ rfl).1
          have xdf2 := (Vxd.out 2 _ rfl).2
          have xd3 := (Vxd.out 3 _ rfl).1
          have xdf3 := (Vxd.out 3 _ rfl).2
          have xd4 := (Vxd.out 4 _ rfl).1
          have xdf4 := (Vxd.out 4 _ rfl).2
          have xd5 := (Vxd.out 5 _ rfl).1
          have xdf5 := (Vxd.out 5 _ rfl).2
          have xd6 := (Vxd.out 6 _ rfl).1
          have xdf6 := (Vxd.out 6 _ rfl).2
          have xo0 := (Vxo.out 0 _ rfl).1
          have xof0 := (Vxo.out 0 _ rfl).2
          have xo1 := (Vxo.out 1 _ rfl).1
          have xof1 := (Vxo.out 1 _ rfl).2
          have xv0 := (Vxv.out 0 _ rfl).1
          have xvf0 := (Vxv.out 0 _ rfl).2
          have xv1 := (Vxv.out 1 _ rfl).1
          have xvf1 := (Vxv.out 1 _ rfl).2
          go_wp2_with fail
          refine (sameAsm_same _ _ _ _ m1 k1 j1 m2 k2 j2 rn rp _ ON.out VN.out OP.out VP.out).mono ?_
          rintro e w6 ⟨rfl, hb6⟩
          clear xa0 xaf0 xa1 xaf1 xd0 xdf0 xd1 xdf1 xd2 xdf2 xd3 xdf3 xd4 xdf4 xd5 xdf5 xd6 xdf6 xo0 xof0 xo1 xof1 xv0 xvf0 xv1 xvf1
          have Vxa := Lib.hid ((Vxa.out).below hb6 ltxa)
          have Vxd := Lib.hid ((Vxd.out).below hb6 ltxd)
          have Vxo := Lib.hid ((Vxo.out).below hb6 ltxo)
          have Vxv := Lib.hid ((Vxv.out).below hb6 ltxv)
          have HB6 := Lib.hid (HB5.out.trans (hb6.mono HB5.out.size))
          have ltxa : w1.heap.size < w6.heap.size := lt_of_cell (Vxa.out 0 _ rfl).1
          have ltxd : w1.heap.size + 1 < w6.heap.size := lt_of_cell (Vxd.out 0 _ rfl).1
          have ltxo : w2.heap.size < w6.heap.size := lt_of_cell (Vxo.out 0 _ rfl).1
          have ltxv : w3.heap.size < w6.heap.size := lt_of_cell (Vxv.out 0 _ rfl).1
          have nexa : ¬ w1.heap.size = w6.heap.size := by omega
          have nexd : ¬ w1.heap.size + 1 = w6.heap.size := by omega
          have nexo : ¬ w2.heap.size = w6.heap.size := by omega
          have nexv : ¬ w3.heap.size = w6.heap.size := by omega
          have NA := Lib.hid ((NA.out).below hb6)
          have PA := Lib.hid ((PA.out).below hb6)
          have ON := Lib.hid ((ON.out).below hb6)
          have OP := Lib.hid ((OP.out).below hb6)
          have OM := Lib.hid ((OM.out).below hb6)
          have VN := Lib.hid ((VN.out).below hb6)
          have VP := Lib.hid ((VP.out).below hb6)
          have VM := Lib.hid ((VM.out).below hb6)
          clear hb6
          have xa0 := (Vxa.out 0 _ rfl).1
          have xaf0 := (Vxa.out 0 _ rfl).2
          have xa1 := (Vxa.out 1 _ rfl).1
          have xaf1 := (Vxa.out 1 _ rfl).2
          have xd0 := (Vxd.out 0 _ rfl).1
          have xdf0 := (Vxd.out 0 _ rfl).2
          have xd1 := (Vxd.out 1 _ rfl).1
          have xdf1 := (Vxd.out 1 _ rfl).2
          have xd2 := (Vxd.out 2 _ rfl).1
          have xdf2 := (Vxd.out 2 _ rfl).2
          have xd3 := (Vxd.out 3 _ rfl).1
          have xdf3 := (Vxd.out 3 _ rfl).2
          have xd4 := (Vxd.out 4 _ rfl).1
          have xdf4 := (Vxd.out 4 _ rfl).2
          have xd5 := (Vxd.out 5 _ rfl).1
          have xdf5 := (Vxd.out 5 _ rfl).2
          have xd6 := (Vxd.out 6 _ rfl).1
          have xdf6 := (Vxd.out 6 _ rfl).2
          have xo0 := (Vxo.out 0 _ rfl).1
          have xof0 := (Vxo.out 0 _ rfl).2
          have xo1 := (Vxo.out 1 _ rfl).1
          have xof1 := (Vxo.out 1 _ rfl).2
          have xv0 := (Vxv.out 0 _ rfl).1
          have xvf0 := (Vxv.out 0 _ rfl).2
          have xv1 := (Vxv.out 1 _ rfl).1
          have xvf1 := (Vxv.out 1 _ rfl).2
          go_wp2_with fail
          refine (sameMessages_same _ _ m3 k3 j3 rm _ OM.out VM.out).mono ?_
          rintro e w7 ⟨rfl, hb7⟩
          clear xa0 xaf0 xa1 xaf1 xd0 xdf0 xd1 xdf1 xd2 xdf2 xd3 xdf3 xd4 xdf4 xd5 xdf5 xd6 xdf6 xo0 xof0 xo1 xof1 xv0 xvf0 xv1 xvf1
          have Vxa := Lib.hid ((Vxa.out).below hb7 ltxa)
          have Vxd := Lib.hid ((Vxd.out).below hb7 ltxd)
          have Vxo := Lib.hid ((Vxo.out).below hb7 ltxo)
          have Vxv := Lib.hid ((Vxv.out).below hb7 ltxv)
          have HB7 := Lib.hid (HB6.out.trans (hb7.mono HB6.out.size))
          have ltxa : w1.heap.size < w7.heap.size := lt_of_cell (Vxa.out 0 _ rfl).1
          have ltxd : w1.heap.size + 1 < w7.heap.size := lt_of_cell (Vxd.out 0 _ rfl).1
          have ltxo : w2.heap.size < w7.heap.size := lt_of_cell (Vxo.out 0 _ rfl).1
          have ltxv : w3.heap.size < w7.heap.size := lt_of_cell (Vxv.out 0 _ rfl).1
          have nexa : ¬ w1.heap.size = w7.heap.size := by omega
          have nexd : ¬ w1.heap.size + 1 = w7.heap.size := by omega
          have nexo : ¬ w2.heap.size = w7.heap.size := by omega
          have nexv : ¬ w3.heap.size = w7.heap.size := by omega
          have NA := Lib.hid ((NA.out).below hb7)
          have PA := Lib.hid ((PA.out).below hb7)
          have ON := Lib.hid ((ON.out).below hb7)
          have OP := Lib.hid ((OP.out).below hb7)
          have OM := Lib.hid ((OM.out).below hb7)
          have VN := Lib.hid ((VN.out).below hb7)
          have VP := Lib.hid ((VP.out).below hb7)
          have VM := Lib.hid ((VM.out).below hb7)
          clear hb7
          have xa0 := (Vxa.out 0 _ rfl).1
          have xaf0 := (Vxa.out 0 _ rfl).2
          have xa1 := (Vxa.out 1 _ rfl).1
          have xaf1 := (Vxa.out 1 _ rfl).2
          have xd0 := (Vxd.out 0 _ rfl).1
          have xdf0 := (Vxd.out 0 _ rfl).2
          have xd1 := (Vxd.out 1 _ rfl).1
          have xdf1 := (Vxd.out 1 _ rfl).2
          have xd2 := (Vxd.out 2 _ rfl).1
          have xdf2 := (Vxd.out 2 _ rfl).2
          have xd3 := (Vxd.out 3 _ rfl).1
          have xdf3 := (Vxd.out 3 _ rfl).2
          have xd4 := (Vxd.out 4 _ rfl).1
          have xdf4 := (Vxd.out 4 _ rfl).2
          have xd5 := (Vxd.out 5 _ rfl).1
          have xdf5 := (Vxd.out 5 _ rfl).2
          have xd6 := (Vxd.out 6 _ rfl).1
          have xdf6 := (Vxd.out 6 _ rfl).2
          have xo0 := (Vxo.out 0 _ rfl).1
          have xof0 := (Vxo.out 0 _ rfl).2
          have xo1 := (Vxo.out 1 _ rfl).1
          have xof1 := (Vxo.out 1 _ rfl).2
          have xv0 := (Vxv.out 0 _ rfl).1
          have xvf0 := (Vxv.out 0 _ rfl).2
          have xv1 := (Vxv.out 1 _ rfl).1
          have xvf1 := (Vxv.out 1 _ rfl).2
          go_wp2
          go_ret
          exact ⟨rfl, HB7.out⟩
        · cases dlo
          · have xa0 := (Vxa.out 0 _ rfl).1
            have xaf0 := (Vxa.out 0 _ rfl).2
            have xa1 := (Vxa.out 1 _ rfl).1
            have xaf1 := (Vxa.out 1 _ rfl).2
            have xd0 := (Vxd.out 0 _ rfl).1
            have xdf0 := (Vxd.out 0 _ rfl).2
            have xd1 := (Vxd.out 1 _ rfl).1
            have xdf1 := (Vxd.out 1 _ rfl).2
            have xd2 := (Vxd.out 2 _ rfl).1
            have xdf2 := (Vxd.out 2 _ rfl).2
            have xd3 := (Vxd.out 3 _ rfl).1
            have xdf3 := (Vxd.out 3 _ rfl).2
            have xd4 := (Vxd.out 4 _ rfl).1
            have xdf4 := (Vxd.out 4 _ rfl).2
            have xd5 := (Vxd.out 5 _ rfl).1
            have xdf5 := (Vxd.out 5 _ rfl).2
            have xd6 := (Vxd.out 6 _ rfl).1
            have xdf6 := (Vxd.out 6 _ rfl).2
            have xo0 := (Vxo.out 0 _ rfl).1
            have xof0 := (Vxo.out 0 _ rfl).2
            have xo1 := (Vxo.out 1 _ rfl).1
            have xof1 := (Vxo.out 1 _ rfl).2
            have xv0 := (Vxv.out 0 _ rfl).1
            have xvf0 := (Vxv.out 0 _ rfl).2
            have xv1 := (Vxv.out 1 _ rfl).1
            have xvf1 := (Vxv.out 1 _ rfl).2
            go_wp2_with fail
            refine (sameAsm_same _ _ _ _ m1 k1 j1 m2 k2 j2 rn rp _ ON.out VN.out OP.out VP.out).mono ?_
            rintro e w6 ⟨rfl, hb6⟩
            clear xa0 xaf0 xa1 xaf1 xd0 xdf0 xd1 xdf1 xd2 xdf2 xd3 xdf3 xd4 xdf4 xd5 xdf5 xd6 xdf6 xo0 xof0 xo1 xof1 xv0 xvf0 xv1 xvf1
            have Vxa := Lib.hid ((Vxa.out).below hb6 ltxa)
            have Vxd := Lib.hid ((Vxd.out).below hb6 ltxd)
            have Vxo := Lib.hid ((Vxo.out).below hb6 ltxo)
            have Vxv := Lib.hid ((Vxv.out).below hb6 ltxv)
            have HB6 := Lib.hid (HB5.out.trans (hb6.mono HB5.out.size))
            have ltxa : w1.heap.size < w6.heap.size := lt_of_cell (Vxa.out 0 _ rfl).1
            have ltxd : w1.heap.size + 1 < w6.heap.size := lt_of_cell (Vxd.out 0 _ rfl).1
            have ltxo : w2.heap.size < w6.heap.size := lt_of_cell (Vxo.out 0 _ rfl).1
            have ltxv : w3.heap.size < w6.heap.size := lt_of_cell (Vxv.out 0 _ rfl).1
            have nexa : ¬ w1.heap.size = w6.heap.size := by omega
            have nexd : ¬ w1.heap.size + 1 = w6.heap.size := by omega
            have nexo : ¬ w2.heap.size = w6.heap.size := by omega
            have nexv : ¬ w3.heap.size = w6.heap.size := by omega
            have NA := Lib.hid ((NA.out).below hb6)
            have PA := Lib.hid ((PA.out).below hb6)
            have ON := Lib.hid ((ON.out).below hb6)
            have OP := Lib.hid ((OP.out).below hb6)
            have OM := Lib.hid ((OM.out).below hb6)
            have VN := Lib.hid ((VN.out).below hb6)
            have VP := Lib.hid ((VP.out).below hb6)
            have VM := Lib.hid ((VM.out).below hb6)
            clear hb6
            have xa0 := (Vxa.out 0 _ rfl).1
            have xaf0 := (Vxa.out 0 _ rfl).2
            have xa1 := (Vxa.out 1 _ rfl).1
            have xaf1 := (Vxa.out 1 _ rfl).2
            have xd0 := (Vxd.out 0 _ rfl).1
            have xdf0 := (Vxd.out 0 _ rfl).2
            have xd1 := (Vxd.out 1 _ rfl).1
            have xdf1 := (Vxd.out 1 _ rfl).2
            have xd2 := (Vxd.out 2 _ rfl).1
            have xdf2 := (Vxd.out 2 _ rfl).2
            have xd3 := (Vxd.out 3 _ rfl).1
            have xdf3 := (Vxd.out 3 _ rfl).2
            have xd4 := (Vxd.out 4 _ rfl).1
            have xdf4 := (Vxd.out 4 _ rfl).2
            have xd5 := (Vxd.out 5 _ rfl).1
            have xdf5 := (Vxd.out 5 _ rfl).2
            have xd6 := (Vxd.out 6 _ rfl).1
            have xdf6 := (Vxd.out 6 _ rfl).2
            have xo0 := (Vxo.out 0 _ rfl).1
            have xof0 := (Vxo.out 0 _ rfl).2
            have xo1 := (Vxo.out 1 _ rfl).1
            have xof1 := (Vxo.out 1 _ rfl).2
            have xv0 := (Vxv.out 0 _ rfl).1
            have xvf0 := (Vxv.out 0 _ rfl).2
            have xv1 := (Vxv.out 1 _ rfl).1
            have xvf1 := (Vxv.out 1 _ rfl).2
            go_wp2_with fail
            refine (sameMessages_same _ _ m3 k3 j3 rm _ OM.out VM.out).mono ?_
            rintro e w7 ⟨rfl, hb7⟩
            clear xa0 xaf0 xa1 xaf1 xd0 xdf0 xd1 xdf1 xd2 xdf2 xd3 xdf3 xd4 xdf4 xd5 xdf5 xd6 xdf6 xo0 xof0 xo1 xof1 xv0 xvf0 xv1 xvf1
            have Vxa := Lib.hid ((Vxa.out).below hb7 ltxa)
            have Vxd := Lib.hid ((Vxd.out).below hb7 ltxd)
            have Vxo := Lib.hid ((Vxo.out).below hb7 ltxo)
            have Vxv := Lib.hid ((Vxv.out).below hb7 ltxv)
            have HB7 := Lib.hid (HB6.out.trans (hb7.mono HB6.out.size))
            have ltxa : w1.heap.size < w7.heap.size := lt_of_cell (Vxa.out 0 _ rfl).1
            have ltxd : w1.heap.size + 1 < w7.heap.size := lt_of_cell (Vxd.out 0 _ rfl).1
            have ltxo : w2.heap.size < w7.heap.size := lt_of_cell (Vxo.out 0 _ rfl).1
            have ltxv : w3.heap.size < w7.heap.size := lt_of_cell (Vxv.out 0 _ rfl).1
            have nexa : ¬ w1.heap.size = w7.heap.size := by omega
            have nexd : ¬ w1.heap.size + 1 = w7.heap.size := by omega
            have nexo : ¬ w2.heap.size = w7.heap.size := by omega
            have nexv : ¬ w3.heap.size = w7.heap.size := by omega
            have NA := Lib.hid ((NA.out).below hb7)
            have PA := Lib.hid ((PA.out).below hb7)
            have ON := Lib.hid ((ON.out).below hb7)
            have OP := Lib.hid ((OP.out).below hb7)
            have OM := Lib.hid ((OM.out).below hb7)
            have VN := Lib.hid ((VN.out).below hb7)
            have VP := Lib.hid ((VP.out).below hb7)
            have VM := Lib.hid ((VM.out).below hb7)
            clear hb7
            have xa0 := (Vxa.out 0 _ rfl).1
            have xaf0 := (Vxa.out 0 _ rfl).2
            have xa1 := (Vxa.out 1 _ rfl).1
            have xaf1 := (Vxa.out 1 _ rfl).2
            have xd0 := (Vxd.out 0 _ rfl).1
            have xdf0 := (Vxd.out 0 _ rfl).2
            have xd1 := (Vxd.out 1 _ rfl).1
            have xdf1 := (Vxd.out 1 _ rfl).2
            have xd2 := (Vxd.out 2 _ rfl).1
            have xdf2 := (Vxd.out 2 _ rfl).2
            have xd3 := (Vxd.out 3 _ rfl).1
            have xdf3 := (Vxd.out 3 _ rfl).2
            have xd4 := (Vxd.out 4 _ rfl).1
            have xdf4 := (Vxd.out 4 _ rfl).2
            have xd5 := (Vxd.out 5 _ rfl).1
            have xdf5 := (Vxd.out 5 _ rfl).2
            have xd6 := (Vxd.out 6 _ rfl).1
            have xdf6 := (Vxd.out 6 _ rfl).2
            have xo0 := (Vxo.out 0 _ rfl).1
            have xof0 := (Vxo.out 0 _ rfl).2
            have xo1 := (Vxo.out 1 _ rfl).1
            have xof1 := (Vxo.out 1 _ rfl).2
            have xv0 := (Vxv.out 0 _ rfl).1
            have xvf0 := (Vxv.out 0 _ rfl).2
            have xv1 := (Vxv.out 1 _ rfl).1
            have xvf1 := (Vxv.out 1 _ rfl).2
            go_wp2
            go_ret
            exact ⟨rfl, HB7.out⟩
          · obtain ⟨K, hK, hM⟩ := DF.out.loose rfl rfl rfl
            have HM := Lib.hid hM
            have hK3 : K < m3 := by have := HLN.out.2.2; omega
            clear hK hM
            have S0 := Lib.hid (show Below w5.heap.size w5 w5 from Below.refl _ _)
            have xd0 := (Vxd.out 0 _ rfl).1
            have xdf0 := (Vxd.out 0 _ rfl).2
            have xd1 := (Vxd.out 1 _ rfl).1
            have xdf1 := (Vxd.out 1 _ rfl).2
            have xd2 := (Vxd.out 2 _ rfl).1
            have xdf2 := (Vxd.out 2 _ rfl).2
            have xd3 := (Vxd.out 3 _ rfl).1
            have xdf3 := (Vxd.out 3 _ rfl).2
            have xd4 := (Vxd.out 4 _ rfl).1
            have xdf4 := (Vxd.out 4 _ rfl).2
            have xd5 := (Vxd.out 5 _ rfl).1
            have xdf5 := (Vxd.out 5 _ rfl).2
            have xd6 := (Vxd.out 6 _ rfl).1
            have xdf6 := (Vxd.out 6 _ rfl).2
            go_wp2
            clear xd0 xdf0 xd1 xdf1 xd2 xdf2 xd3 xdf3 xd4 xdf4 xd5 xdf5 xd6 xdf6
            go_loopw [11] (fun v wr => ∃ i : Nat, i ≤ K ∧ v = .int .i64 i ∧ Hid (Below w5.heap.size w5 wr)) (fun v _ => K - (intOf v).toNat)
            case atStart => exact ⟨0, Nat.zero_le _, rfl, S0⟩
            case round =>
              obtain ⟨i, hi, rfl, hS⟩ := hrel
              clear S0
              have ii : (i : Int) < (m3 : Int) := by omega
              obtain ⟨y, rfl⟩ := OM.out.addr (show i < m3 by omega)
              obtain ⟨p0, p1, p2, p3⟩ := OM.out.at hS.out (show i < m3 by omega)
              obtain ⟨⟨mt, mq, ml, mx⟩, hmi⟩ : ∃ m, mAt rm i = m := ⟨_, rfl⟩
              rw [hmi] at p0 p1 p2 p3
              dsimp only at p0 p1 p2 p3
              have VD := Lib.hid (Vxd.out.below hS.out ltxd)
              have d1 := (VD.out 1 _ rfl).1
              have d2 := (VD.out 2 _ rfl).1
              have d6 := (VD.out 6 _ rfl).1
              by_cases hE : mt = ds ∧ mq = dq ∧ ml = true ∧ mx = dtx
              · obtain ⟨rfl, rfl, rfl, rfl⟩ := hE
                have hq := msg_eq mt mq true mx
                go_wp2_with fail
                go_quiet (fail)
                have HB9 := Lib.hid (HB5.out.trans ((below_drewN hS.out nq).mono HB5.out.size))
                go_wp2
                go_ret
                exact ⟨rfl, HB9.out⟩
              · have hlt : i < K := by
                  rcases Nat.lt_or_ge i K with h | h
                  · exact h
                  · obtain rfl : i = K := by omega
                    rw [HM.out] at hmi
                    cases hmi
                    exact absurd ⟨rfl, rfl, rfl, rfl⟩ hE
                have hq := msg_ne hE
                clear hE
                go_wp2_with fail
                go_quiet (fail)
                have HS9 := Lib.hid (below_drewN hS.out nq)
                go_wp2
                go_roundw
                case rel => exact ⟨i + 1, by omega, by go_num, HS9⟩
                case measure => simp [intOf]; omega
    · have xa0 := (Vxa.out 0 _ rfl).1
      have xaf0 := (Vxa.out 0 _ rfl).2
      have xa1 := (Vxa.out 1 _ rfl).1
      have xaf1 := (Vxa.out 1 _ rfl).2
      have xd0 := (Vxd.out 0 _ rfl).1
      have xdf0 := (Vxd.out 0 _ rfl).2
      have xd1 := (Vxd.out 1 _ rfl).1
      have xdf1 := (Vxd.out 1 _ rfl).2
      have xd2 := (Vxd.out 2 _ rfl).1
      have xdf2 := (Vxd.out 2 _ rfl).2
      have xd3 := (Vxd.out 3 _ rfl).1
      have xdf3 := (Vxd.out 3 _ rfl).2
      have xd4 := (Vxd.out 4 _ rfl).1
      have xdf4 := (Vxd.out 4 _ rfl).2
      have xd5 := (Vxd.out 5 _ rfl).1
      have xdf5 := (Vxd.out 5 _ rfl).2
      have xd6 := (Vxd.out 6 _ rfl).1
      have xdf6 := (Vxd.out 6 _ rfl).2
      have xo0 := (Vxo.out 0 _ rfl).1
      have xof0 := (Vxo.out 0 _ rfl).2
      have xo1 := (Vxo.out 1 _ rfl).1
      have xof1 := (Vxo.out 1 _ rfl).2
      have xv0 := (Vxv.out 0 _ rfl).1
      have xvf0 := (Vxv.out 0 _ rfl).2
      have xv1 := (Vxv.out 1 _ rfl).1
      have xvf1 := (Vxv.out 1 _ rfl).2
      go_wp2_with fail
      refine (sameAsm_same _ _ _ _ m1 k1 j1 m2 k2 j2 rn rp _ ON.out VN.out OP.out VP.out).mono ?_
      rintro e w6 ⟨rfl, hb6⟩
      clear xa0 xaf0 xa1 xaf1 xd0 xdf0 xd1 xdf1 xd2 xdf2 xd3 xdf3 xd4 xdf4 xd5 xdf5 xd6 xdf6 xo0 xof0 xo1 xof1 xv0 xvf0 xv1 xvf1
      have Vxa := Lib.hid ((Vxa.out).below hb6 ltxa)
      have Vxd := Lib.hid ((Vxd.out).below hb6 ltxd)
      have Vxo := Lib.hid ((Vxo.out).below hb6 ltxo)
      have Vxv := Lib.hid ((Vxv.out).below hb6 ltxv)
      have HB6 := Lib.hid (HB5.out.trans (hb6.mono HB5.out.size))
      have ltxa : w1.heap.size < w6.heap.size := lt_of_cell (Vxa.out 0 _ rfl).1
      have ltxd : w1.heap.size + 1 < w6.heap.size := lt_of_cell (Vxd.out 0 _ rfl).1
      have ltxo : w2.heap.size < w6.heap.size := lt_of_cell (Vxo.out 0 _ rfl).1
      have ltxv : w3.heap.size < w6.heap.size := lt_of_cell (Vxv.out 0 _ rfl).1
      have nexa : ¬ w1.heap.size = w6.heap.size := by omega
      have nexd : ¬ w1.heap.size + 1 = w6.heap.size := by omega
      have nexo : ¬ w2.heap.size = w6.heap.size := by omega
      have nexv : ¬ w3.heap.size = w6.heap.size := by omega
      have NA := Lib.hid ((NA.out).below hb6)
      have PA := Lib.hid ((PA.out).below hb6)
      have ON := Lib.hid ((ON.out).below hb6)
      have OP := Lib.hid ((OP.out).below hb6)
      have OM := Lib.hid ((OM.out).below hb6)
      have VN := Lib.hid ((VN.out).below hb6)
      have VP := Lib.hid ((VP.out).below hb6)
      have VM := Lib.hid ((VM.out).below hb6)
      clear hb6
      have xa0 := (Vxa.out 0 _ rfl).1
      have xaf0 := (Vxa.out 0 _ rfl).2
      have xa1 := (Vxa.out 1 _ rfl).1
      have xaf1 := (Vxa.out 1 _ rfl).2
      have xd0 := (Vxd.out 0 _ rfl).1
      have xdf0 := (Vxd.out 0 _ rfl).2
      have xd1 := (Vxd.out 1 _ rfl).1
      have xdf1 := (Vxd.out 1 _ rfl).2
      have xd2 := (Vxd.out 2 _ rfl).1
      have xdf2 := (Vxd.out 2 _ rfl).2
      have xd3 := (Vxd.out 3 _ rfl).1
      have xdf3 := (Vxd.out 3 _ rfl).2
      have xd4 := (Vxd.out 4 _ rfl).1
      have xdf4 := (Vxd.out 4 _ rfl).2
      have xd5 := (Vxd.out 5 _ rfl).1
      have xdf5 := (Vxd.out 5 _ rfl).2
      have xd6 := (Vxd.out 6 _ rfl).1
      have xdf6 := (Vxd.out 6 _ rfl).2
      have xo0 := (Vxo.out 0 _ rfl).1
      have xof0 := (Vxo.out 0 _ rfl).2
      have xo1 := (Vxo.out 1 _ rfl).1
      have xof1 := (Vxo.out 1 _ rfl).2
      have xv0 := (Vxv.out 0 _ rfl).1
      have xvf0 := (Vxv.out 0 _ rfl).2
      have xv1 := (Vxv.out 1 _ rfl).1
      have xvf1 := (Vxv.out 1 _ rfl).2
      go_wp2_with fail
      refine (sameMessages_same _ _ m3 k3 j3 rm _ OM.out VM.out).mono ?_
      rintro e w7 ⟨rfl, hb7⟩
      clear xa0 xaf0 xa1 xaf1 xd0 xdf0 xd1 xdf1 xd2 xdf2 xd3 xdf3 xd4 xdf4 xd5 xdf5 xd6 xdf6 xo0 xof0 xo1 xof1 xv0 xvf0 xv1 xvf1
      have Vxa := Lib.hid ((Vxa.out).below hb7 ltxa)
      have Vxd := Lib.hid ((Vxd.out).below hb7 ltxd)
      have Vxo := Lib.hid ((Vxo.out).below hb7 ltxo)
      have Vxv := Lib.hid ((Vxv.out).below hb7 ltxv)
      have HB7 := Lib.hid (HB6.out.trans (hb7.mono HB6.out.size))
      have ltxa : w1.heap.size < w7.heap.size := lt_of_cell (Vxa.out 0 _ rfl).1
      have ltxd : w1.heap.size + 1 < w7.heap.size := lt_of_cell (Vxd.out 0 _ rfl).1
      have ltxo : w2.heap.size < w7.heap.size := lt_of_cell (Vxo.out 0 _ rfl).1
      have ltxv : w3.heap.size < w7.heap.size := lt_of_cell (Vxv.out 0 _ rfl).1
      have nexa : ¬ w1.heap.size = w7.heap.size := by omega
      have nexd : ¬ w1.heap.size + 1 = w7.heap.size := by omega
      have nexo : ¬ w2.heap.size = w7.heap.size := by omega
      have nexv : ¬ w3.heap.size = w7.heap.size := by omega
      have NA := Lib.hid ((NA.out).below hb7)
      have PA := Lib.hid ((PA.out).below hb7)
      have ON := Lib.hid ((ON.out).below hb7)
      have OP := Lib.hid ((OP.out).below hb7)
      have OM := Lib.hid ((OM.out).below hb7)
      have VN := Lib.hid ((VN.out).below hb7)
      have VP := Lib.hid ((VP.out).below hb7)
      have VM := Lib.hid ((VM.out).below hb7)
      clear hb7
      have xa0 := (Vxa.out 0 _ rfl).1
      have xaf0 := (Vxa.out 0 _ rfl).2
      have xa1 := (Vxa.out 1 _ rfl).1
      have xaf1 := (Vxa.out 1 _ rfl).2
      have xd0 := (Vxd.out 0 _ rfl).1
      have xdf0 := (Vxd.out 0 _ rfl).2
      have xd1 := (Vxd.out 1 _ rfl).1
      have xdf1 := (Vxd.out 1 _ rfl).2
      have xd2 := (Vxd.out 2 _ rfl).1
      have xdf2 := (Vxd.out 2 _ rfl).2
      have xd3 := (Vxd.out 3 _ rfl).1
      have xdf3 := (Vxd.out 3 _ rfl).2
      have xd4 := (Vxd.out 4 _ rfl).1
      have xdf4 := (Vxd.out 4 _ rfl).2
      have xd5 := (Vxd.out 5 _ rfl).1
      have xdf5 := (Vxd.out 5 _ rfl).2
      have xd6 := (Vxd.out 6 _ rfl).1
      have xdf6 := (Vxd.out 6 _ rfl).2
      have xo0 := (Vxo.out 0 _ rfl).1
      have xof0 := (Vxo.out 0 _ rfl).2
      have xo1 := (Vxo.out 1 _ rfl).1
      have xof1 := (Vxo.out 1 _ rfl).2
      have xv0 := (Vxv.out 0 _ rfl).1
      have xvf0 := (Vxv.out 0 _ rfl).2
      have xv1 := (Vxv.out 1 _ rfl).1
      have xvf1 := (Vxv.out 1 _ rfl).2
      go_wp2
      go_ret
      exact ⟨rfl, HB7.out⟩

end Go.Proofs.Ytncbgejggfkdmaa
