/- The walk of the law on a part that waits. -/
import Derived.Handy
import Derived.Test.YtncbgejggfkdmaaM12
namespace Go.Proofs.Ytncbgejggfkdmaa
open Go.RowKit Go.PlainAid

def WaitG (n0 Bo Ba : Nat) (a1 : Option Addr) (n1 c1 : Nat) (a2 : Option Addr) (n2 c2 : Nat) (b1 : Option Addr) (k1 : Nat) (b2 : Option Addr) (l2 k2 : Nat) (qs : List Part) (d : Part) : Nat → Value → World → Prop
  | 0 => fun v _ => v = .pointer (some ⟨Bo, 1, none⟩)
  | 1 => fun v _ => v = .slice b2 l2 k2
  | 2 => fun v W => RowP n0 0 [] v W
  | 3 => fun v _ => v = .pointer (some ⟨Ba, 1, none⟩)
  | 4 => fun v _ => v = .slice a2 n2 c2
  | 5 => fun v W => RowP n0 n2 qs v W
  | 6 => fun v _ => v = .agg #[.int .i64 d.tsn, .int .i64 d.stream, .int .i64 d.ssn, .bool d.first, .bool d.last, .bool d.loose, .string d.text]
  | 7 => fun v W => RowP n0 1 [d] v W
  | 8 => fun v W => RowP n0 (n2 + 1) (qs ++ [d]) v W
  | 9 => fun v _ => v = .bool true
  | 10 => fun v _ => v = .bool true
  | 11 => fun v _ => v = .pointer (some ⟨Bo, 0, none⟩)
  | 12 => fun v _ => v = .slice b1 n1 k1
  | 13 => fun v _ => v = .pointer (some ⟨Ba, 0, none⟩)
  | 14 => fun v _ => v = .slice a1 n1 c1
  | 15 => fun v _ => v = .bool true
  | 16 => fun v _ => v = .bool true
  | 17 => fun v _ => v = .bool true
  | _ => fun _ _ => False

set_option maxHeartbeats 4000000 in
theorem walk_fnAsmWait (a0 : Option Addr) (len0 cap0 : Nat) (z0 : List Int) (w : World) (w0 : IsRow .u8 w a0 len0 cap0 z0) :
    Calls Try.prog 8 #[.slice a0 len0 cap0] w fun e w' => e = .returned (.bool true) ∧ Below w.heap.size w w' := by
  have H := Lib.hid w0
  clear w0
  by_cases hl : (1048576 : Int) < len0
  · go_enter Try.func8, Try.ntmps8
    go_wp2
    go_ret
    exact ⟨rfl, Below.refl _ _⟩
  · go_enter Try.func8, Try.ntmps8
    go_wp2_with fail
    refine (drawAsmAdd_any a0 len0 cap0 z0 _ H.out).mono ?_
    rintro e w1 ⟨a1, n1, c1, a2, n2, c2, es, qs, ⟨dt, ds, dq, dfi, dla, dlo, dtx⟩, rfl, hn1, hn2, hsm, hsp, hns, hpt, hb1⟩
    rw [partV_eq]
    have NA := Lib.hid hns
    have PA := Lib.hid hpt
    have KY := Lib.hid (smally_keys hsm)
    have SM := Lib.hid hsm
    have SP := Lib.hid hsp
    have LNA := Lib.hid hns.length
    have LPA := Lib.hid hpt.length
    clear hns hpt hsm hsp
    obtain ⟨⟨rn, rp, rm⟩, hr⟩ : ∃ r, ansR es qs ⟨dt, ds, dq, dfi, dla, dlo, dtx⟩ = r := ⟨_, rfl⟩
    obtain ⟨code, hc⟩ : ∃ c, ansC es qs ⟨dt, ds, dq, dfi, dla, dlo, dtx⟩ = c := ⟨_, rfl⟩
    have few := ansR_few hr
    obtain ⟨m1, hm1⟩ : ∃ n, rn.length = n := ⟨_, rfl⟩
    obtain ⟨m2, hm2⟩ : ∃ n, rp.length = n := ⟨_, rfl⟩
    obtain ⟨m3, hm3⟩ : ∃ n, rm.length = n := ⟨_, rfl⟩
    rw [hm1, hm2, hm3] at few
    have HR := Lib.hid hr
    have HC := Lib.hid hc
    have HLN := Lib.hid (And.intro hm1 (And.intro hm2 hm3))
    clear hr hc hm1 hm2 hm3
    go_wp2_with fail
    refine (asmAdd_is a1 n1 c1 es a2 n2 c2 qs dt ds dq dfi dla dlo dtx _ (((NA.out).below (below_box (.cells (List.toArray [.slice a1 n1 c1, .slice a2 n2 c2]) 26) (Nat.le_refl _))).below (below_box (.cells (List.toArray [.int .i64 dt, .int .i64 ds, .int .i64 dq, .bool dfi, .bool dla, .bool dlo, .string dtx]) 28) (Nat.le_refl _))) (((PA.out).below (below_box (.cells (List.toArray [.slice a1 n1 c1, .slice a2 n2 c2]) 26) (Nat.le_refl _))).below (below_box (.cells (List.toArray [.int .i64 dt, .int .i64 ds, .int .i64 dq, .bool dfi, .bool dla, .bool dlo, .string dtx]) 28) (Nat.le_refl _))) KY.out HR.out HC.out HLN.out).mono ?_
    rintro e w2 ⟨b1, k1, b2, k2, b3, k3, rfl, ⟨o1, o2, o3⟩, hb2⟩
    have Vxa := Lib.hid (((VarN.new_at (w := w1) (d := w1.heap.size) (by simp) [.slice a1 n1 c1, .slice a2 n2 c2] 26).alloc (.cells (List.toArray [.int .i64 dt, .int .i64 ds, .int .i64 dq, .bool dfi, .bool dla, .bool dlo, .string dtx]) 28) (by first | omega | (simp <;> omega))).below hb2 (by simp <;> omega))
    have Vxd := Lib.hid ((VarN.new_at (w := (w1.alloc (.cells (List.toArray [.slice a1 n1 c1, .slice a2 n2 c2]) 26))) (d := w1.heap.size + 1) (by simp) [.int .i64 dt, .int .i64 ds, .int .i64 dq, .bool dfi, .bool dla, .bool dlo, .string dtx] 28).below hb2 (by simp))
    have HB2 := Lib.hid ((((hb1).alloc (Nat.le_trans hb1.size (by exact Nat.le_refl _)) (.cells (List.toArray [.slice a1 n1 c1, .slice a2 n2 c2]) 26)).alloc (Nat.le_trans hb1.size (by simp <;> omega)) (.cells (List.toArray [.int .i64 dt, .int .i64 ds, .int .i64 dq, .bool dfi, .bool dla, .bool dlo, .string dtx]) 28)).trans (hb2.mono (Nat.le_trans hb1.size (by simp <;> omega))))
    have ltxa : w1.heap.size < w2.heap.size := lt_of_cell (Vxa.out 0 _ rfl).1
    have ltxd : w1.heap.size + 1 < w2.heap.size := lt_of_cell (Vxd.out 0 _ rfl).1
    have nexa : ¬ w1.heap.size = w2.heap.size := by omega
    have nexd : ¬ w1.heap.size + 1 = w2.heap.size := by omega
    have NA := Lib.hid ((((NA.out).below (below_box (.cells (List.toArray [.slice a1 n1 c1, .slice a2 n2 c2]) 26) (Nat.le_refl _))).below (below_box (.cells (List.toArray [.int .i64 dt, .int .i64 ds, .int .i64 dq, .bool dfi, .bool dla, .bool dlo, .string dtx]) 28) (Nat.le_refl _))).below hb2)
    have PA := Lib.hid ((((PA.out).below (below_box (.cells (List.toArray [.slice a1 n1 c1, .slice a2 n2 c2]) 26) (Nat.le_refl _))).below (below_box (.cells (List.toArray [.int .i64 dt, .int .i64 ds, .int .i64 dq, .bool dfi, .bool dla, .bool dlo, .string dtx]) 28) (Nat.le_refl _))).below hb2)
    clear hb2
    have ON := Lib.hid (own_ns o1)
    have OP := Lib.hid (own_pts o2)
    have OM := Lib.hid (own_mgs o3)
    clear o1 o2 o3
    have xa0 := (Vxa.out 0 _ rfl).1
    have xaf0 := (Vxa.out 0 _ rfl).2
    have xa1 := (Vxa.out 1 _ rfl).1
    have xaf1 := (Vxa.out 1 _ rfl).2
    have xd0 := (Vxd.out 0 _ rfl).1
    have xdf0 := (Vxd.out 0 _ rfl).2
    have xd1 := (Vxd.out 1 _ rfl).1
    have xdf1 := (Vxd.out 1 _ rfl).2
    have xd2 := (Vxd.out 2 _ rfl).1
    have xdf2 := (Vxd.out 2 _ rfl).2
    have xd3 := (Vxd.out 3 _ rfl).1
    have xdf3 := (Vxd.out 3 _ rfl).2
    have xd4 := (Vxd.out 4 _ rfl).1
    have xdf4 := (Vxd.out 4 _ rfl).2
    have xd5 := (Vxd.out 5 _ rfl).1
    have xdf5 := (Vxd.out 5 _ rfl).2
    have xd6 := (Vxd.out 6 _ rfl).1
    have xdf6 := (Vxd.out 6 _ rfl).2
    go_wp2_with fail
    refine (sAsmAdd_is a1 n1 c1 es a2 n2 c2 qs dt ds dq dfi dla dlo dtx _ ((NA.out).below (below_box (.cells (List.toArray [.slice b1 m1 k1, .slice b2 m2 k2]) 26) (Nat.le_refl _))) ((PA.out).below (below_box (.cells (List.toArray [.slice b1 m1 k1, .slice b2 m2 k2]) 26) (Nat.le_refl _))) HR.out HC.out HLN.out).mono ?_
    rintro e w3 ⟨g1, j1, g2, j2, g3, j3, rfl, ⟨o1, o2, o3⟩, hb3⟩
    clear xa0 xaf0 xa1 xaf1 xd0 xdf0 xd1 xdf1 xd2 xdf2 xd3 xdf3 xd4 xdf4 xd5 xdf5 xd6 xdf6
    have Vxa := Lib.hid (((Vxa.out).alloc (.cells (List.toArray [.slice b1 m1 k1, .slice b2 m2 k2]) 26) (by omega)).below hb3 (by simp; omega))
    have Vxd := Lib.hid (((Vxd.out).alloc (.cells (List.toArray [.slice b1 m1 k1, .slice b2 m2 k2]) 26) (by omega)).below hb3 (by simp; omega))
    have Vxo := Lib.hid ((VarN.new_at (w := w2) (d := w2.heap.size) (by simp) [.slice b1 m1 k1, .slice b2 m2 k2] 26).below hb3 (by simp))
    have HB3 := Lib.hid (((HB2.out).alloc (Nat.le_trans HB2.out.size (by exact Nat.le_refl _)) (.cells (List.toArray [.slice b1 m1 k1, .slice b2 m2 k2]) 26)).trans (hb3.mono (Nat.le_trans HB2.out.size (by simp <;> omega))))
    have ltxa : w1.heap.size < w3.heap.size := lt_of_cell (Vxa.out 0 _ rfl).1
    have ltxd : w1.heap.size + 1 < w3.heap.size := lt_of_cell (Vxd.out 0 _ rfl).1
    have ltxo : w2.heap.size < w3.heap.size := lt_of_cell (Vxo.out 0 _ rfl).1
    have nexa : ¬ w1.heap.size = w3.heap.size := by omega
    have nexd : ¬ w1.heap.size + 1 = w3.heap.size := by omega
    have nexo : ¬ w2.heap.size = w3.heap.size := by omega
    have NA := Lib.hid (((NA.out).below (below_box (.cells (List.toArray [.slice b1 m1 k1, .slice b2 m2 k2]) 26) (Nat.le_refl _))).below hb3)
    have PA := Lib.hid (((PA.out).below (below_box (.cells (List.toArray [.slice b1 m1 k1, .slice b2 m2 k2]) 26) (Nat.le_refl _))).below hb3)
    have ON := Lib.hid (((ON.out).below (below_box (.cells (List.toArray [.slice b1 m1 k1, .slice b2 m2 k2]) 26) (Nat.le_refl _))).below hb3)
    have OP := Lib.hid (((OP.out).below (below_box (.cells (List.toArray [.slice b1 m1 k1, .slice b2 m2 k2]) 26) (Nat.le_refl _))).below hb3)
    have OM := Lib.hid (((OM.out).below (below_box (.cells (List.toArray [.slice b1 m1 k1, .slice b2 m2 k2]) 26) (Nat.le_refl _))).below hb3)
    clear hb3
    have VN := Lib.hid (own_ns o1)
    have VP := Lib.hid (own_pts o2)
    have VM := Lib.hid (own_mgs o3)
    clear o1 o2 o3
    have xa0 := (Vxa.out 0 _ rfl).1
    have xaf0 := (Vxa.out 0 _ rfl).2
    have xa1 := (Vxa.out 1 _ rfl).1
    have xaf1 := (Vxa.out 1 _ rfl).2
    have xd0 := (Vxd.out 0 _ rfl).1
    have xdf0 := (Vxd.out 0 _ rfl).2
    have xd1 := (Vxd.out 1 _ rfl).1
    have xdf1 := (Vxd.out 1 _ rfl).2
    have xd2 := (Vxd.out 2 _ rfl).1
    have xdf2 := (Vxd.out 2 _ rfl).2
    have xd3 := (Vxd.out 3 _ rfl).1
    have xdf3 := (Vxd.out 3 _ rfl).2
    have xd4 := (Vxd.out 4 _ rfl).1
    have xdf4 := (Vxd.out 4 _ rfl).2
    have xd5 := (Vxd.out 5 _ rfl).1
    have xdf5 := (Vxd.out 5 _ rfl).2
    have xd6 := (Vxd.out 6 _ rfl).1
    have xdf6 := (Vxd.out 6 _ rfl).2
    have xo0 := (Vxo.out 0 _ rfl).1
    have xof0 := (Vxo.out 0 _ rfl).2
    have xo1 := (Vxo.out 1 _ rfl).1
    have xof1 := (Vxo.out 1 _ rfl).2
    go_wp2_with fail
    refine (sameAsm_same _ _ _ _ m1 k1 j1 m2 k2 j2 rn rp _ ((ON.out).below (below_box (.cells (List.toArray [.slice g1 m1 j1, .slice g2 m2 j2]) 26) (Nat.le_refl _))) ((VN.out).below (below_box (.cells (List.toArray [.slice g1 m1 j1, .slice g2 m2 j2]) 26) (Nat.le_refl _))) ((OP.out).below (below_box (.cells (List.toArray [.slice g1 m1 j1, .slice g2 m2 j2]) 26) (Nat.le_refl _))) ((VP.out).below (below_box (.cells (List.toArray [.slice g1 m1 j1, .slice g2 m2 j2]) 26) (Nat.le_refl _)))).mono ?_
    rintro e w4 ⟨rfl, hb4⟩
    clear xa0 xaf0 xa1 xaf1 xd0 xdf0 xd1 xdf1 xd2 xdf2 xd3 xdf3 xd4 xdf4 xd5 xdf5 xd6 xdf6 xo0 xof0 xo1 xof1
    have Vxa := Lib.hid (((Vxa.out).alloc (.cells (List.toArray [.slice g1 m1 j1, .slice g2 m2 j2]) 26) (by omega)).below hb4 (by simp; omega))
    have Vxd := Lib.hid (((Vxd.out).alloc (.cells (List.toArray [.slice g1 m1 j1, .slice g2 m2 j2]) 26) (by omega)).below hb4 (by simp; omega))
    have Vxo := Lib.hid (((Vxo.out).alloc (.cells (List.toArray [.slice g1 m1 j1, .slice g2 m2 j2]) 26) (by omega)).below hb4 (by simp; omega))
    have Vxv := Lib.hid ((VarN.new_at (w := w3) (d := w3.heap.size) (by simp) [.slice g1 m1 j1, .slice g2 m2 j2] 26).below hb4 (by simp))
    have HB4 := Lib.hid (((HB3.out).alloc (Nat.le_trans HB3.out.size (by exact Nat.le_refl _)) (.cells (List.toArray [.slice g1 m1 j1, .slice g2 m2 j2]) 26)).trans (hb4.mono (Nat.le_trans HB3.out.size (by simp <;> omega))))
    have ltxa : w1.heap.size < w4.heap.size := lt_of_cell (Vxa.out 0 _ rfl).1
    have ltxd : w1.heap.size + 1 < w4.heap.size := lt_of_cell (Vxd.out 0 _ rfl).1
    have ltxo : w2.heap.size < w4.heap.size := lt_of_cell (Vxo.out 0 _ rfl).1
    have ltxv : w3.heap.size < w4.heap.size := lt_of_cell (Vxv.out 0 _ rfl).1
    have nexa : ¬ w1.heap.size = w4.heap.size := by omega
    have nexd : ¬ w1.heap.size + 1 = w4.heap.size := by omega
    have nexo : ¬ w2.heap.size = w4.heap.size := by omega
    have nexv : ¬ w3.heap.size = w4.heap.size := by omega
    have NA := Lib.hid (((NA.out).below (below_box (.cells (List.toArray [.slice g1 m1 j1, .slice g2 m2 j2]) 26) (Nat.le_refl _))).below hb4)
    have PA := Lib.hid (((PA.out).below (below_box (.cells (List.toArray [.slice g1 m1 j1, .slice g2 m2 j2]) 26) (Nat.le_refl _))).below hb4)
    have ON := Lib.hid (((ON.out).below (below_box (.cells (List.toArray [.slice g1 m1 j1, .slice g2 m2 j2]) 26) (Nat.le_refl _))).below hb4)
    have OP := Lib.hid (((OP.out).below (below_box (.cells (List.toArray [.slice g1 m1 j1, .slice g2 m2 j2]) 26) (Nat.le_refl _))).below hb4)
    have OM := Lib.hid (((OM.out).below (below_box (.cells (List.toArray [.slice g1 m1 j1, .slice g2 m2 j2]) 26) (Nat.le_refl _))).below hb4)
    have VN := Lib.hid (((VN.out).below (below_box (.cells (List.toArray [.slice g1 m1 j1, .slice g2 m2 j2]) 26) (Nat.le_refl _))).below hb4)
    have VP := Lib.hid (((VP.out).below (below_box (.cells (List.toArray [.slice g1 m1 j1, .slice g2 m2 j2]) 26) (Nat.le_refl _))).below hb4)
    have VM := Lib.hid (((VM.out).below (below_box (.cells (List.toArray [.slice g1 m1 j1, .slice g2 m2 j2]) 26) (Nat.le_refl _))).below hb4)
    clear hb4
    have xa0 := (Vxa.out 0 _ rfl).1
    have xaf0 := (Vxa.out 0 _ rfl).2
    have xa1 := (Vxa.out 1 _ rfl).1
    have xaf1 := (Vxa.out 1 _ rfl).2
    have xd0 := (Vxd.out 0 _ rfl).1
    have xdf0 := (Vxd.out 0 _ rfl).2
    have xd1 := (Vxd.out 1 _ rfl).1
    have xdf1 := (Vxd.out 1 _ rfl).2
    have xd2 := (Vxd.out 2 _ rfl).1
    have xdf2 := (Vxd.out 2 _ rfl).2
    have xd3 := (Vxd.out 3 _ rfl).1
    have xdf3 := (Vxd.out 3 _ rfl).2
    have xd4 := (Vxd.out 4 _ rfl).1
    have xdf4 := (Vxd.out 4 _ rfl).2
    have xd5 := (Vxd.out 5 _ rfl).1
    have xdf5 := (Vxd.out 5 _ rfl).2
    have xd6 := (Vxd.out 6 _ rfl).1
    have xdf6 := (Vxd.out 6 _ rfl).2
    have xo0 := (Vxo.out 0 _ rfl).1
    have xof0 := (Vxo.out 0 _ rfl).2
    have xo1 := (Vxo.out 1 _ rfl).1
    have xof1 := (Vxo.out 1 _ rfl).2
    have xv0 := (Vxv.out 0 _ rfl).1
    have xvf0 := (Vxv.out 0 _ rfl).2
    have xv1 := (Vxv.out 1 _ rfl).1
    have xvf1 := (Vxv.out 1 _ rfl).2
    go_wp2_with fail
    refine (sameMessages_same _ _ m3 k3 j3 rm _ OM.out VM.out).mono ?_
    rintro e w5 ⟨rfl, hb5⟩
    clear xa0 xaf0 xa1 xaf1 xd0 xdf0 xd1 xdf1 xd2 xdf2 xd3 xdf3 xd4 xdf4 xd5 xdf5 xd6 xdf6 xo0 xof0 xo1 xof1 xv0 xvf0 xv1 xvf1
    have Vxa := Lib.hid ((Vxa.out).below hb5 ltxa)
    have Vxd := Lib.hid ((Vxd.out).below hb5 ltxd)
    have Vxo := Lib.hid ((Vxo.out).below hb5 ltxo)
    have Vxv := Lib.hid ((Vxv.out).below hb5 ltxv)
    have HB5 := Lib.hid (HB4.out.trans (hb5.mono HB4.out.size))
    have ltxa : w1.heap.size < w5.heap.size := lt_of_cell (Vxa.out 0 _ rfl).1
    have ltxd : w1.heap.size + 1 < w5.heap.size := lt_of_cell (Vxd.out 0 _ rfl).1
    have ltxo : w2.heap.size < w5.heap.size := lt_of_cell (Vxo.out 0 _ rfl).1
    have ltxv : w3.heap.size < w5.heap.size := lt_of_cell (Vxv.out 0 _ rfl).1
    have nexa : ¬ w1.heap.size = w5.heap.size := by omega
    have nexd : ¬ w1.heap.size + 1 = w5.heap.size := by omega
    have nexo : ¬ w2.heap.size = w5.heap.size := by omega
    have nexv : ¬ w3.heap.size = w5.heap.size := by omega
    have NA := Lib.hid ((NA.out).below hb5)
    have PA := Lib.hid ((PA.out).below hb5)
    have ON := Lib.hid ((ON.out).below hb5)
    have OP := Lib.hid ((OP.out).below hb5)
    have OM := Lib.hid ((OM.out).below hb5)
    have VN := Lib.hid ((VN.out).below hb5)
    have VP := Lib.hid ((VP.out).below hb5)
    have VM := Lib.hid ((VM.out).below hb5)
    clear hb5
    by_cases hc0 : code = 0
    · subst hc0
      have DF := Lib.hid (done_facts HR.out HC.out)
      by_cases hm : m3 = 0
      · subst hm
        have Q := DF.out.quiet (List.eq_nil_of_length_eq_zero HLN.out.2.2)
        obtain ⟨e1, e2⟩ := Q
        subst e1
        subst e2
        obtain rfl : m1 = n1 := by have := LNA.out; have := HLN.out.1; omega
        obtain rfl : m2 = n2 + 1 := by have := LPA.out; have := HLN.out.2.1; rw [List.length_append] at this; simp at this; omega
        have xa0 := (Vxa.out 0 _ rfl).1
        have xaf0 := (Vxa.out 0 _ rfl).2
        have xa1 := (Vxa.out 1 _ rfl).1
        have xaf1 := (Vxa.out 1 _ rfl).2
        have xd0 := (Vxd.out 0 _ rfl).1
        have xdf0 := (Vxd.out 0 _ rfl).2
        have xd1 := (Vxd.out 1 _ rfl).1
        have xdf1 := (Vxd.out 1 _ rfl).2
        have xd2 := (Vxd.out 2 _ rfl).1
        have xdf2 := (Vxd.out 2 _ rfl).2
        have xd3 := (Vxd.out 3 _ rfl).1
        have xdf3 := (Vxd.out 3 _ rfl).2
        have xd4 := (Vxd.out 4 _ rfl).1
        have xdf4 := (Vxd.out 4 _ rfl).2
        have xd5 := (Vxd.out 5 _ rfl).1
        have xdf5 := (Vxd.out 5 _ rfl).2
        have xd6 := (Vxd.out 6 _ rfl).1
        have xdf6 := (Vxd.out 6 _ rfl).2
        have xo0 := (Vxo.out 0 _ rfl).1
        have xof0 := (Vxo.out 0 _ rfl).2
        have xo1 := (Vxo.out 1 _ rfl).1
        have xof1 := (Vxo.out 1 _ rfl).2
        have l2 : n2 ≤ 24 := hn2
        go_upto_region 8 with fail
        refine region_rows 18 [70, 71, 72, 73, 74, 75, 76, 77, 78, 79, 80, 81, 82, 83, 84, 85, 86, 2] [70, 71, 72, 73, 74, 75, 76, 77, 78, 79, 80, 81, 82, 83, 84, 85, 86, 2] [none, none, some 5, none, none, some 8, none, some 8, some 9, none, none, none, none, none, none, none, none, none] [false, false, true, false, false, true, false, true, true, false, false, false, false, false, false, false, false, false] [none, none, none, none, none, some 2, none, none, some 5, none, none, none, none, none, none, none, none, none] [[], [0], [], [], [3], [2, 4], [], [6], [5, 7], [1, 8], [9], [10], [10, 11], [10], [10, 13], [10, 12, 14], [10, 15], [16]] (WaitG w5.heap.size (w2.heap.size) (w1.heap.size) a1 m1 c1 a2 n2 c2 b1 k1 b2 (n2 + 1) k2 qs ⟨dt, ds, dq, dfi, dla, dlo, dtx⟩) _ w5 (by kernel_rfl) (by kernel_rfl) (fun k hk => Nat.lt_of_lt_of_le ((by decide : ∀ k ∈ [70, 71, 72, 73, 74, 75, 76, 77, 78, 79, 80, 81, 82, 83, 84, 85, 86, 2], k < 87) k hk) (by simp)) ?_ ?_ (Below.drew (Below.refl _ _)) (Nat.le_refl _) ?_ ?_
        · intro j v W W' e hj h hg hne
          rcases (show j = 0 ∨ j = 1 ∨ j = 2 ∨ j = 3 ∨ j = 4 ∨ j = 5 ∨ j = 6 ∨ j = 7 ∨ j = 8 ∨ j = 9 ∨ j = 10 ∨ j = 11 ∨ j = 12 ∨ j = 13 ∨ j = 14 ∨ j = 15 ∨ j = 16 ∨ j = 17 from by omega) with rfl | rfl | rfl | rfl | rfl | rfl | rfl | rfl | rfl | rfl | rfl | rfl | rfl | rfl | rfl | rfl | rfl | rfl
          · exact h
          · exact h
          · exact RowP.grown h hg (hne rfl)
          · exact h
          · exact h
          · exact RowP.grown h hg (hne rfl)
          · exact h
          · exact RowP.grown h hg (hne rfl)
          · exact RowP.grown h hg (hne rfl)
          · exact h
          · exact h
          · exact h
          · exact h
          · exact h
          · exact h
          · exact h
          · exact h
          · exact h
        · intro j v W hj ho h
          rcases (show j = 0 ∨ j = 1 ∨ j = 2 ∨ j = 3 ∨ j = 4 ∨ j = 5 ∨ j = 6 ∨ j = 7 ∨ j = 8 ∨ j = 9 ∨ j = 10 ∨ j = 11 ∨ j = 12 ∨ j = 13 ∨ j = 14 ∨ j = 15 ∨ j = 16 ∨ j = 17 from by omega) with rfl | rfl | rfl | rfl | rfl | rfl | rfl | rfl | rfl | rfl | rfl | rfl | rfl | rfl | rfl | rfl | rfl | rfl
          · exact absurd ho (by decide)
          · exact absurd ho (by decide)
          · exact RowP.own h
          · exact absurd ho (by decide)
          · exact absurd ho (by decide)
          · exact RowP.own h
          · exact absurd ho (by decide)
          · exact RowP.own h
          · exact RowP.own h
          · exact absurd ho (by decide)
          · exact absurd ho (by decide)
          · exact absurd ho (by decide)
          · exact absurd ho (by decide)
          · exact absurd ho (by decide)
          · exact absurd ho (by decide)
          · exact absurd ho (by decide)
          · exact absurd ho (by decide)
          · exact absurd ho (by decide)
        · intro i b W hi hB hs hf hd
          have hle := hB.size
          rcases (show i = 0 ∨ i = 1 ∨ i = 2 ∨ i = 3 ∨ i = 4 ∨ i = 5 ∨ i = 6 ∨ i = 7 ∨ i = 8 ∨ i = 9 ∨ i = 10 ∨ i = 11 ∨ i = 12 ∨ i = 13 ∨ i = 14 ∨ i = 15 ∨ i = 16 ∨ i = 17 from by omega) with rfl | rfl | rfl | rfl | rfl | rfl | rfl | rfl | rfl | rfl | rfl | rfl | rfl | rfl | rfl | rfl | rfl | rfl
          · have x5 : b.tmps[5]?.getD undef = .pointer (some ⟨w2.heap.size, 0, none⟩) := raw_of (k := 5) ((hf 5 (by decide)).trans rfl)
            refine wpOp_plain (by rfl) (by rfl) (Oper.wp_mono (K := fun b' w' => b' = b.put (some 70) (.pointer (some ⟨w2.heap.size, 1, none⟩)) ∧ w' = W) ?_ ?_)
            · rintro b' w' ⟨rfl, rfl⟩
              exact ⟨_, .inl rfl, rfl, grown_quiet (Below.refl _ _), fun h => absurd h (by decide)⟩
            · clear hd hs
              go_simp
          · have x70 : b.tmps[70]?.getD undef = .pointer (some ⟨w2.heap.size, 1, none⟩) := raw_of (k := 70) (hd 0 (by kernel_rfl))
            have cxo1 := (hB.cell (World.block_lt_of_cell? _ _ xo1)).trans xo1
            refine wpOp_plain (by rfl) (by rfl) (Oper.wp_mono (K := fun b' w' => b' = b.put (some 71) (.slice b2 (n2 + 1) k2) ∧ w' = W) ?_ ?_)
            · rintro b' w' ⟨rfl, rfl⟩
              exact ⟨_, .inl rfl, rfl, grown_quiet (Below.refl _ _), fun h => absurd h (by decide)⟩
            · clear hd hs
              go_simp
          · refine wpOp_plain (by rfl) (by rfl) (Oper.wp_mono (K := fun b' w' => b' = b.put (some 72) (.slice (some ⟨W.heap.size, 0, none⟩) 0 0) ∧ w' = W.alloc (.cells #[] 28)) ?_ ?_)
            · rintro b' w' ⟨rfl, rfl⟩
              exact ⟨_, .inl rfl, RowP.lit hle, World.grownBy_alloc _ _ _, fun _ x hx => .inr (by have h2 : some W.heap.size = some x := hx; cases h2; exact Nat.le_refl _)⟩
            · clear hd hs
              go_simp
          · have x3 : b.tmps[3]?.getD undef = .pointer (some ⟨w1.heap.size, 0, none⟩) := raw_of (k := 3) ((hf 3 (by decide)).trans rfl)
            refine wpOp_plain (by rfl) (by rfl) (Oper.wp_mono (K := fun b' w' => b' = b.put (some 73) (.pointer (some ⟨w1.heap.size, 1, none⟩)) ∧ w' = W) ?_ ?_)
            · rintro b' w' ⟨rfl, rfl⟩
              exact ⟨_, .inl rfl, rfl, grown_quiet (Below.refl _ _), fun h => absurd h (by decide)⟩
            · clear hd hs
              go_simp
          · have x73 : b.tmps[73]?.getD undef = .pointer (some ⟨w1.heap.size, 1, none⟩) := raw_of (k := 73) (hd 3 (by kernel_rfl))
            have cxa1 := (hB.cell (World.block_lt_of_cell? _ _ xa1)).trans xa1
            refine wpOp_plain (by rfl) (by rfl) (Oper.wp_mono (K := fun b' w' => b' = b.put (some 74) (.slice a2 n2 c2) ∧ w' = W) ?_ ?_)
            · rintro b' w' ⟨rfl, rfl⟩
              exact ⟨_, .inl rfl, rfl, grown_quiet (Below.refl _ _), fun h => absurd h (by decide)⟩
            · clear hd hs
              go_simp
          · refine wpOp_plain (by rfl) (by rfl) (wp_addP _ _ rfl _ 0 n2 c2 a2 [] qs (hd 2 (by kernel_rfl)) (hd 4 (by kernel_rfl)) (PA.out.below hB) (by omega) hle ?_)
            intro v w' h1 h2 h3
            have h9 : RowP w5.heap.size n2 qs v w' := by simpa using h1
            exact ⟨v, .inl rfl, h9, h2, fun _ x hx => h3 x hx⟩
          · have x4 : b.tmps[4]?.getD undef = .pointer (some ⟨w1.heap.size + 1, 0, none⟩) := raw_of (k := 4) ((hf 4 (by decide)).trans rfl)
            have cxd0 := (hB.cell (World.block_lt_of_cell? _ _ xd0)).trans xd0
            have cxd1 := (hB.cell (World.block_lt_of_cell? _ _ xd1)).trans xd1
            have cxd2 := (hB.cell (World.block_lt_of_cell? _ _ xd2)).trans xd2
            have cxd3 := (hB.cell (World.block_lt_of_cell? _ _ xd3)).trans xd3
            have cxd4 := (hB.cell (World.block_lt_of_cell? _ _ xd4)).trans xd4
            have cxd5 := (hB.cell (World.block_lt_of_cell? _ _ xd5)).trans xd5
            have cxd6 := (hB.cell (World.block_lt_of_cell? _ _ xd6)).trans xd6
            refine wpOp_plain (by rfl) (by rfl) (Oper.wp_mono (K := fun b' w' => b' = b.put (some 76) (.agg #[.int .i64 dt, .int .i64 ds, .int .i64 dq, .bool dfi, .bool dla, .bool dlo, .string dtx]) ∧ w' = W) ?_ ?_)
            · rintro b' w' ⟨rfl, rfl⟩
              exact ⟨_, .inl rfl, rfl, grown_quiet (Below.refl _ _), fun h => absurd h (by decide)⟩
            · clear hd hs
              go_simp
          · have x76 : b.tmps[76]?.getD undef = .agg #[.int .i64 dt, .int .i64 ds, .int .i64 dq, .bool dfi, .bool dla, .bool dlo, .string dtx] := raw_of (k := 76) (hd 6 (by kernel_rfl))
            refine wpOp_plain (by rfl) (by rfl) (Oper.wp_mono (K := fun b' w' => b' = b.put (some 77) (.slice (some ⟨W.heap.size, 0, none⟩) 1 1) ∧ w' = W.alloc (.cells #[.int .i64 dt, .int .i64 ds, .int .i64 dq, .bool dfi, .bool dla, .bool dlo, .string dtx] 28)) ?_ ?_)
            · rintro b' w' ⟨rfl, rfl⟩
              exact ⟨_, .inl rfl, RowP.one hle dt ds dq dfi dla dlo dtx, World.grownBy_alloc _ _ _, fun _ x hx => .inr (by have h2 : some W.heap.size = some x := hx; cases h2; exact Nat.le_refl _)⟩
            · clear hd hs
              go_simp
          · obtain ⟨ea, ec, he, hpt⟩ := (hd 7 (by kernel_rfl) : RowP _ 1 [⟨dt, ds, dq, dfi, dla, dlo, dtx⟩] _ W).pts
            refine wpOp_plain (by rfl) (by rfl) (wp_addP _ _ rfl _ n2 1 ec ea qs [⟨dt, ds, dq, dfi, dla, dlo, dtx⟩] (hd 5 (by kernel_rfl)) he hpt (by omega) hle ?_)
            intro v w' h1 h2 h3
            exact ⟨v, .inl rfl, h1, h2, fun _ x hx => h3 x hx⟩
          · obtain ⟨ea, ec, he, hpt⟩ := (hd 8 (by kernel_rfl) : RowP _ (n2 + 1) (qs ++ [⟨dt, ds, dq, dfi, dla, dlo, dtx⟩]) _ W).pts
            have x71 : b.tmps[71]?.getD undef = .slice b2 (n2 + 1) k2 := raw_of (k := 71) (hd 1 (by kernel_rfl))
            have x78 : b.tmps[78]?.getD undef = .slice ea (n2 + 1) ec := raw_of (k := 78) (he)
            refine wpOp_plain (by rfl) (by rfl) ?_
            clear hd hs
            go_simp
            go_at_call 21
            refine (sameParts_same b2 ea (n2 + 1) k2 ec (qs ++ [⟨dt, ds, dq, dfi, dla, dlo, dtx⟩]) W (OP.out.below hB) hpt).mono ?_
            rintro e w' ⟨rfl, hbn⟩
            first | exact ⟨_, .inl rfl, rfl, grown_quiet hbn⟩ | exact ⟨_, .inl rfl, rfl, grown_quiet hbn, fun h => absurd h (by decide)⟩
          · have x79 : b.tmps[79]?.getD undef = .bool true := raw_of (k := 79) (hd 9 (by kernel_rfl))
            refine wpOp_plain (by rfl) (by rfl) (Oper.wp_mono (K := fun b' w' => b' = b.put (some 80) (.bool true) ∧ w' = W) ?_ ?_)
            · rintro b' w' ⟨rfl, rfl⟩
              exact ⟨_, .inl rfl, rfl, grown_quiet (Below.refl _ _), fun h => absurd h (by decide)⟩
            · clear hd hs
              go_simp
          · have x5 : b.tmps[5]?.getD undef = .pointer (some ⟨w2.heap.size, 0, none⟩) := raw_of (k := 5) ((hf 5 (by decide)).trans rfl)
            refine wpOp_guard (k := 80) (by rfl) (by rfl) (by rfl) (by rfl) (hs 80 (by decide)) (hd 10 (by kernel_rfl)) (Oper.wp_mono (K := fun b' w' => b' = b.put (some 81) (.pointer (some ⟨w2.heap.size, 0, none⟩)) ∧ w' = W) ?_ ?_)
            · rintro b' w' ⟨rfl, rfl⟩
              exact ⟨_, .inl rfl, rfl, grown_quiet (Below.refl _ _), fun h => absurd h (by decide)⟩
            · clear hd hs
              go_simp
          · have x81 : b.tmps[81]?.getD undef = .pointer (some ⟨w2.heap.size, 0, none⟩) := raw_of (k := 81) (hd 11 (by kernel_rfl))
            have cxo0 := (hB.cell (World.block_lt_of_cell? _ _ xo0)).trans xo0
            refine wpOp_guard (k := 80) (by rfl) (by rfl) (by rfl) (by rfl) (hs 80 (by decide)) (hd 10 (by kernel_rfl)) (Oper.wp_mono (K := fun b' w' => b' = b.put (some 82) (.slice b1 m1 k1) ∧ w' = W) ?_ ?_)
            · rintro b' w' ⟨rfl, rfl⟩
              exact ⟨_, .inl rfl, rfl, grown_quiet (Below.refl _ _), fun h => absurd h (by decide)⟩
            · clear hd hs
              go_simp
          · have x3 : b.tmps[3]?.getD undef = .pointer (some ⟨w1.heap.size, 0, none⟩) := raw_of (k := 3) ((hf 3 (by decide)).trans rfl)
            refine wpOp_guard (k := 80) (by rfl) (by rfl) (by rfl) (by rfl) (hs 80 (by decide)) (hd 10 (by kernel_rfl)) (Oper.wp_mono (K := fun b' w' => b' = b.put (some 83) (.pointer (some ⟨w1.heap.size, 0, none⟩)) ∧ w' = W) ?_ ?_)
            · rintro b' w' ⟨rfl, rfl⟩
              exact ⟨_, .inl rfl, rfl, grown_quiet (Below.refl _ _), fun h => absurd h (by decide)⟩
            · clear hd hs
              go_simp
          · have x83 : b.tmps[83]?.getD undef = .pointer (some ⟨w1.heap.size, 0, none⟩) := raw_of (k := 83) (hd 13 (by kernel_rfl))
            have cxa0 := (hB.cell (World.block_lt_of_cell? _ _ xa0)).trans xa0
            refine wpOp_guard (k := 80) (by rfl) (by rfl) (by rfl) (by rfl) (hs 80 (by decide)) (hd 10 (by kernel_rfl)) (Oper.wp_mono (K := fun b' w' => b' = b.put (some 84) (.slice a1 m1 c1) ∧ w' = W) ?_ ?_)
            · rintro b' w' ⟨rfl, rfl⟩
              exact ⟨_, .inl rfl, rfl, grown_quiet (Below.refl _ _), fun h => absurd h (by decide)⟩
            · clear hd hs
              go_simp
          · have x82 : b.tmps[82]?.getD undef = .slice b1 m1 k1 := raw_of (k := 82) (hd 12 (by kernel_rfl))
            have x84 : b.tmps[84]?.getD undef = .slice a1 m1 c1 := raw_of (k := 84) (hd 14 (by kernel_rfl))
            refine wpOp_guard (k := 80) (by rfl) (by rfl) (by rfl) (by rfl) (hs 80 (by decide)) (hd 10 (by kernel_rfl)) ?_
            clear hd hs
            go_simp
            go_at_call 22
            refine (sameInts_same b1 a1 m1 k1 c1 rn W (ON.out.below hB) (NA.out.below hB)).mono ?_
            rintro e w' ⟨rfl, hbn⟩
            first | exact ⟨_, .inl rfl, rfl, grown_quiet hbn⟩ | exact ⟨_, .inl rfl, rfl, grown_quiet hbn, fun h => absurd h (by decide)⟩
          · have x80 : b.tmps[80]?.getD undef = .bool true := raw_of (k := 80) (hd 10 (by kernel_rfl))
            have x85 : b.tmps[85]?.getD undef = .bool true := raw_of (k := 85) (hd 15 (by kernel_rfl))
            refine wpOp_plain (by rfl) (by rfl) (Oper.wp_mono (K := fun b' w' => b' = b.put (some 86) (.bool true) ∧ w' = W) ?_ ?_)
            · rintro b' w' ⟨rfl, rfl⟩
              exact ⟨_, .inl rfl, rfl, grown_quiet (Below.refl _ _), fun h => absurd h (by decide)⟩
            · clear hd hs
              go_simp
          · have x86 : b.tmps[86]?.getD undef = .bool true := raw_of (k := 86) (hd 16 (by kernel_rfl))
            refine wpOp_plain (by rfl) (by rfl) (Oper.wp_mono (K := fun b' w' => b' = b.put (some 2) (.bool true) ∧ w' = W) ?_ ?_)
            · rintro b' w' ⟨rfl, rfl⟩
              exact ⟨_, .inl rfl, rfl, grown_quiet (Below.refl _ _), fun h => absurd h (by decide)⟩
            · clear hd hs
              go_simp
        · intro V wz hB hk
          have e2 : V 2 = .bool true := hk 17 (by decide) rfl
          simp only [List.foldl, Act.put, List.setIfInBounds_toArray, List.set_cons_zero, List.set_cons_succ]
          rw [e2]
          generalize V 70 = z70
          generalize V 71 = z71
          generalize V 72 = z72
          generalize V 73 = z73
          generalize V 74 = z74
          generalize V 75 = z75
          generalize V 76 = z76
          generalize V 77 = z77
          generalize V 78 = z78
          generalize V 79 = z79
          generalize V 80 = z80
          generalize V 81 = z81
          generalize V 82 = z82
          generalize V 83 = z83
          generalize V 84 = z84
          generalize V 85 = z85
          generalize V 86 = z86
          have HZ := Lib.hid (HB5.out.trans (hB.mono HB5.out.size))
          clear hk e2 hB
          go_wp2
          go_ret
          exact ⟨rfl, HZ.out⟩
      · have mq : 0 < m3 := by omega
        have mp : (0 : Int) < (m3 : Int) := by omega
        have xa0 := (Vxa.out 0 _ rfl).1
        have xaf0 := (Vxa.out 0 _ rfl).2
        have xa1 := (Vxa.out 1 _ rfl).1
        have xaf1 := (Vxa.out 1 _ rfl).2
        have xd0 := (Vxd.out 0 _ rfl).1
        have xdf0 := (Vxd.out 0 _ rfl).2
        have xd1 := (Vxd.out 1 _ rfl).1
        have xdf1 := (Vxd.out 1 _ rfl).2
        have xd2 := (Vxd.out 2 _ rfl).1
        have xdf2 := (Vxd.out 2 _ rfl).2
        have xd3 := (Vxd.out 3 _ rfl).1
        have xdf3 := (Vxd.out 3 _ rfl).2
        have xd4 := (Vxd.out 4 _ rfl).1
        have xdf4 := (Vxd.out 4 _ rfl).2
        have xd5 := (Vxd.out 5 _ rfl).1
        have xdf5 := (Vxd.out 5 _ rfl).2
        have xd6 := (Vxd.out 6 _ rfl).1
        have xdf6 := (Vxd.out 6 _ rfl).2
        have xo0 := (Vxo.out 0 _ rfl).1
        have xof0 := (Vxo.out 0 _ rfl).2
        have xo1 := (Vxo.out 1 _ rfl).1
        have xof1 := (Vxo.out 1 _ rfl).2
        have xv0 := (Vxv.out 0 _ rfl).1
        have xvf0 := (Vxv.out 0 _ rfl).2
        have xv1 := (Vxv.out 1 _ rfl).1
        have xvf1 := (Vxv.out 1 _ rfl).2
        go_wp2_with fail
        refine (sameAsm_same _ _ _ _ m1 k1 j1 m2 k2 j2 rn rp _ ON.out VN.out OP.out VP.out).mono ?_
        rintro e w6 ⟨rfl, hb6⟩
        clear xa0 xaf0 xa1 xaf1 xd0 xdf0 xd1 xdf1 xd2 xdf2 xd3 xdf3 xd4 xdf4 xd5 xdf5 xd6 xdf6 xo0 xof0 xo1 xof1 xv0 xvf0 xv1 xvf1
        have Vxa := Lib.hid ((Vxa.out).below hb6 ltxa)
        have Vxd := Lib.hid ((Vxd.out).below hb6 ltxd)
        have Vxo := Lib.hid ((Vxo.out).below hb6 ltxo)
        have Vxv := Lib.hid ((Vxv.out).below hb6 ltxv)
        have HB6 := Lib.hid (HB5.out.trans (hb6.mono HB5.out.size))
        have ltxa : w1.heap.size < w6.heap.size := lt_of_cell (Vxa.out 0 _ rfl).1
        have ltxd : w1.heap.size + 1 < w6.heap.size := lt_of_cell (Vxd.out 0 _ rfl).1
        have ltxo : w2.heap.size < w6.heap.size := lt_of_cell (Vxo.out 0 _ rfl).1
        have ltxv : w3.heap.size < w6.heap.size := lt_of_cell (Vxv.out 0 _ rfl).1
        have nexa : ¬ w1.heap.size = w6.heap.size := by omega
        have nexd : ¬ w1.heap.size + 1 = w6.heap.size := by omega
        have nexo : ¬ w2.heap.size = w6.heap.size := by omega
        have nexv : ¬ w3.heap.size = w6.heap.size := by omega
        have NA := Lib.hid ((NA.out).below hb6)
        have PA := Lib.hid ((PA.out).below hb6)
        have ON := Lib.hid ((ON.out).below hb6)
        have OP := Lib.hid ((OP.out).below hb6)
        have OM := Lib.hid ((OM.out).below hb6)
        have VN := Lib.hid ((VN.out).below hb6)
        have VP := Lib.hid ((VP.out).below hb6)
        have VM := Lib.hid ((VM.out).below hb6)
        clear hb6
        have xa0 := (Vxa.out 0 _ rfl).1
        have xaf0 := (Vxa.out 0 _ rfl).2
        have xa1 := (Vxa.out 1 _ rfl).1
        have xaf1 := (Vxa.out 1 _ rfl).2
        have xd0 := (Vxd.out 0 _ rfl).1
        have xdf0 := (Vxd.out 0 _ rfl).2
        have xd1 := (Vxd.out 1 _ rfl).1
        have xdf1 := (Vxd.out 1 _ rfl).2
        have xd2 := (Vxd.out 2 _ rfl).1
        have xdf2 := (Vxd.out 2 _ rfl).2
        have xd3 := (Vxd.out 3 _ rfl).1
        have xdf3 := (Vxd.out 3 _ rfl).2
        have xd4 := (Vxd.out 4 _ rfl).1
        have xdf4 := (Vxd.out 4 _ rfl).2
        have xd5 := (Vxd.out 5 _ rfl).1
        have xdf5 := (Vxd.out 5 _ rfl).2
        have xd6 := (Vxd.out 6 _ rfl).1
        have xdf6 := (Vxd.out 6 _ rfl).2
        have xo0 := (Vxo.out 0 _ rfl).1
        have xof0 := (Vxo.out 0 _ rfl).2
        have xo1 := (Vxo.out 1 _ rfl).1
        have xof1 := (Vxo.out 1 _ rfl).2
        have xv0 := (Vxv.out 0 _ rfl).1
        have xvf0 := (Vxv.out 0 _ rfl).2
        have xv1 := (Vxv.out 1 _ rfl).1
        have xvf1 := (Vxv.out 1 _ rfl).2
        go_wp2_with fail
        refine (sameMessages_same _ _ m3 k3 j3 rm _ OM.out VM.out).mono ?_
        rintro e w7 ⟨rfl, hb7⟩
        clear xa0 xaf0 xa1 xaf1 xd0 xdf0 xd1 xdf1 xd2 xdf2 xd3 xdf3 xd4 xdf4 xd5 xdf5 xd6 xdf6 xo0 xof0 xo1 xof1 xv0 xvf0 xv1 xvf1
        have Vxa := Lib.hid ((Vxa.out).below hb7 ltxa)
        have Vxd := Lib.hid ((Vxd.out).below hb7 ltxd)
        have Vxo := Lib.hid ((Vxo.out).below hb7 ltxo)
        have Vxv := Lib.hid ((Vxv.out).below hb7 ltxv)
        have HB7 := Lib.hid (HB6.out.trans (hb7.mono HB6.out.size))
        have ltxa : w1.heap.size < w7.heap.size := lt_of_cell (Vxa.out 0 _ rfl).1
        have ltxd : w1.heap.size + 1 < w7.heap.size := lt_of_cell (Vxd.out 0 _ rfl).1
        have ltxo : w2.heap.size < w7.heap.size := lt_of_cell (Vxo.out 0 _ rfl).1
        have ltxv : w3.heap.size < w7.heap.size := lt_of_cell (Vxv.out 0 _ rfl).1
        have nexa : ¬ w1.heap.size = w7.heap.size := by omega
        have nexd : ¬ w1.heap.size + 1 = w7.heap.size := by omega
        have nexo : ¬ w2.heap.size = w7.heap.size := by omega
        have nexv : ¬ w3.heap.size = w7.heap.size := by omega
        have NA := Lib.hid ((NA.out).below hb7)
        have PA := Lib.hid ((PA.out).below hb7)
        have ON := Lib.hid ((ON.out).below hb7)
        have OP := Lib.hid ((OP.out).below hb7)
        have OM := Lib.hid ((OM.out).below hb7)
        have VN := Lib.hid ((VN.out).below hb7)
        have VP := Lib.hid ((VP.out).below hb7)
        have VM := Lib.hid ((VM.out).below hb7)
        clear hb7
        have xa0 := (Vxa.out 0 _ rfl).1
        have xaf0 := (Vxa.out 0 _ rfl).2
        have xa1 := (Vxa.out 1 _ rfl).1
        have xaf1 := (Vxa.out 1 _ rfl).2
        have xd0 := (Vxd.out 0 _ rfl).1
        have xdf0 := (Vxd.out 0 _ rfl).2
        have xd1 := (Vxd.out 1 _ rfl).1
        have xdf1 := (Vxd.out 1 _ rfl).2
        have xd2 := (Vxd.out 2 _ rfl).1
        have xdf2 := (Vxd.out 2 _ rfl).2
        have xd3 := (Vxd.out 3 _ rfl).1
        have xdf3 := (Vxd.out 3 _ rfl).2
        have xd4 := (Vxd.out 4 _ rfl).1
        have xdf4 := (Vxd.out 4 _ rfl).2
        have xd5 := (Vxd.out 5 _ rfl).1
        have xdf5 := (Vxd.out 5 _ rfl).2
        have xd6 := (Vxd.out 6 _ rfl).1
        have xdf6 := (Vxd.out 6 _ rfl).2
        have xo0 := (Vxo.out 0 _ rfl).1
        have xof0 := (Vxo.out 0 _ rfl).2
        have xo1 := (Vxo.out 1 _ rfl).1
        have xof1 := (Vxo.out 1 _ rfl).2
        have xv0 := (Vxv.out 0 _ rfl).1
        have xvf0 := (Vxv.out 0 _ rfl).2
        have xv1 := (Vxv.out 1 _ rfl).1
        have xvf1 := (Vxv.out 1 _ rfl).2
        go_wp2
        go_ret
        exact ⟨rfl, HB7.out⟩
    · have xa0 := (Vxa.out 0 _ rfl).1
      have xaf0 := (Vxa.out 0 _ rfl).2
      have xa1 := (Vxa.out 1 _ rfl).1
      have xaf1 := (Vxa.out 1 _ rfl).2
      have xd0 := (Vxd.out 0 _ rfl).1
      have xdf0 := (Vxd.out 0 _ rfl).2
      have xd1 := (Vxd.out 1 _ rfl).1
      have xdf1 := (Vxd.out 1 _ rfl).2
      have xd2 := (Vxd.out 2 _ rfl).1
      have xdf2 := (Vxd.out 2 _ rfl).2
      have xd3 := (Vxd.out 3 _ rfl).1
      have xdf3 := (Vxd.out 3 _ rfl).2
      have xd4 := (Vxd.out 4 _ rfl).1
      have xdf4 := (Vxd.out 4 _ rfl).2
      have xd5 := (Vxd.out 5 _ rfl).1
      have xdf5 := (Vxd.out 5 _ rfl).2
      have xd6 := (Vxd.out 6 _ rfl).1
      have xdf6 := (Vxd.out 6 _ rfl).2
      have xo0 := (Vxo.out 0 _ rfl).1
      have xof0 := (Vxo.out 0 _ rfl).2
      have xo1 := (Vxo.out 1 _ rfl).1
      have xof1 := (Vxo.out 1 _ rfl).2
      have xv0 := (Vxv.out 0 _ rfl).1
      have xvf0 := (Vxv.out 0 _ rfl).2
      have xv1 := (Vxv.out 1 _ rfl).1
      have xvf1 := (Vxv.out 1 _ rfl).2
      go_wp2_with fail
      refine (sameAsm_same _ _ _ _ m1 k1 j1 m2 k2 j2 rn rp _ ON.out VN.out OP.out VP.out).mono ?_
      rintro e w6 ⟨rfl, hb6⟩
      clear xa0 xaf0 xa1 xaf1 xd0 xdf0 xd1 xdf1 xd2 xdf2 xd3 xdf3 xd4 xdf4 xd5 xdf5 xd6 xdf6 xo0 xof0 xo1 xof1 xv0 xvf0 xv1 xvf1
      have Vxa := Lib.hid ((Vxa.out).below hb6 ltxa)
      have Vxd := Lib.hid ((Vxd.out).below hb6 ltxd)
      have Vxo := Lib.hid ((Vxo.out).below hb6 ltxo)
      have Vxv := Lib.hid ((Vxv.out).below hb6 ltxv)
      have HB6 := Lib.hid (HB5.out.trans (hb6.mono HB5.out.size))
      have ltxa : w1.heap.size < w6.heap.size := lt_of_cell (Vxa.out 0 _ rfl).1
      have ltxd : w1.heap.size + 1 < w6.heap.size := lt_of_cell (Vxd.out 0 _ rfl).1
      have ltxo : w2.heap.size < w6.heap.size := lt_of_cell (Vxo.out 0 _ rfl).1
      have ltxv : w3.heap.size < w6.heap.size := lt_of_cell (Vxv.out 0 _ rfl).1
      have nexa : ¬ w1.heap.size = w6.heap.size := by omega
      have nexd : ¬ w1.heap.size + 1 = w6.heap.size := by omega
      have nexo : ¬ w2.heap.size = w6.heap.size := by omega
      have nexv : ¬ w3.heap.size = w6.heap.size := by omega
      have NA := Lib.hid ((NA.out).below hb6)
      have PA := Lib.hid ((PA.out).below hb6)
      have ON := Lib.hid ((ON.out).below hb6)
      have OP := Lib.hid ((OP.out).below hb6)
      have OM := Lib.hid ((OM.out).below hb6)
      have VN := Lib.hid ((VN.out).below hb6)
      have VP := Lib.hid ((VP.out).below hb6)
      have VM := Lib.hid ((VM.out).below hb6)
      clear hb6
      have xa0 := (Vxa.out 0 _ rfl).1
      have xaf0 := (Vxa.out 0 _ rfl).2
      have xa1 := (Vxa.out 1 _ rfl).1
      have xaf1 := (Vxa.out 1 _ rfl).2
      have xd0 := (Vxd.out 0 _ rfl).1
      have xdf0 := (Vxd.out 0 _ rfl).2
      have xd1 := (Vxd.out 1 _ rfl).1
      have xdf1 := (Vxd.out 1 _ rfl).2
      have xd2 := (Vxd.out 2 _ rfl).1
      have xdf2 := (Vxd.out 2 _ rfl).2
      have xd3 := (Vxd.out 3 _ rfl).1
      have xdf3 := (Vxd.out 3 _ rfl).2
      have xd4 := (Vxd.out 4 _ rfl).1
      have xdf4 := (Vxd.out 4 _ rfl).2
      have xd5 := (Vxd.out 5 _ rfl).1
      have xdf5 := (Vxd.out 5 _ rfl).2
      have xd6 := (Vxd.out 6 _ rfl).1
      have xdf6 := (Vxd.out 6 _ rfl).2
      have xo0 := (Vxo.out 0 _ rfl).1
      have xof0 := (Vxo.out 0 _ rfl).2
      have xo1 := (Vxo.out 1 _ rfl).1
      have xof1 := (Vxo.out 1 _ rfl).2
      have xv0 := (Vxv.out 0 _ rfl).1
      have xvf0 := (Vxv.out 0 _ rfl).2
      have xv1 := (Vxv.out 1 _ rfl).1
      have xvf1 := (Vxv.out 1 _ rfl).2
      go_wp2_with fail
      refine (sameMessages_same _ _ m3 k3 j3 rm _ OM.out VM.out).mono ?_
      rintro e w7 ⟨rfl, hb7⟩
      clear xa0 xaf0 xa1 xaf1 xd0 xdf0 xd1 xdf1 xd2 xdf2 xd3 xdf3 xd4 xdf4 xd5 xdf5 xd6 xdf6 xo0 xof0 xo1 xof1 xv0 xvf0 xv1 xvf1
      have Vxa := Lib.hid ((Vxa.out).below hb7 ltxa)
      have Vxd := Lib.hid ((Vxd.out).below hb7 ltxd)
      have Vxo := Lib.hid ((Vxo.out).below hb7 ltxo)
      have Vxv := Lib.hid ((Vxv.out).below hb7 ltxv)
      have HB7 := Lib.hid (HB6.out.trans (hb7.mono HB6.out.size))
      have ltxa : w1.heap.size < w7.heap.size := lt_of_cell (Vxa.out 0 _ rfl).1
      have ltxd : w1.heap.size + 1 < w7.heap.size := lt_of_cell (Vxd.out 0 _ rfl).1
      have ltxo : w2.heap.size < w7.heap.size := lt_of_cell (Vxo.out 0 _ rfl).1
      have ltxv : w3.heap.size < w7.heap.size := lt_of_cell (Vxv.out 0 _ rfl).1
      have nexa : ¬ w1.heap.size = w7.heap.size := by omega
      have nexd : ¬ w1.heap.size + 1 = w7.heap.size := by omega
      have nexo : ¬ w2.heap.size = w7.heap.size := by omega
      have nexv : ¬ w3.heap.size = w7.heap.size := by omega
      have NA := Lib.hid ((NA.out).below hb7)
      have PA := Lib.hid ((PA.out).below hb7)
      have ON := Lib.hid ((ON.out).below hb7)
      have OP := Lib.hid ((OP.out).below hb7)
      have OM := Lib.hid ((OM.out).below hb7)
      have VN := Lib.hid ((VN.out).below hb7)
      have VP := Lib.hid ((VP.out).below hb7)
      have VM := Lib.hid ((VM.out).below hb7)
      clear hb7
      have xa0 := (Vxa.out 0 _ rfl).1
      have xaf0 := (Vxa.out 0 _ rfl).2
      have xa1 := (Vxa.out 1 _ rfl).1
      have xaf1 := (Vxa.out 1 _ rfl).2
      have xd0 := (Vxd.out 0 _ rfl).1
      have xdf0 := (Vxd.out 0 _ rfl).2
      have xd1 := (Vxd.out 1 _ rfl).1
      have xdf1 := (Vxd.out 1 _ rfl).2
      have xd2 := (Vxd.out 2 _ rfl).1
      have xdf2 := (Vxd.out 2 _ rfl).2
      have xd3 := (Vxd.out 3 _ rfl).1
      have xdf3 := (Vxd.out 3 _ rfl).2
      have xd4 := (Vxd.out 4 _ rfl).1
      have xdf4 := (Vxd.out 4 _ rfl).2
      have xd5 := (Vxd.out 5 _ rfl).1
      have xdf5 := (Vxd.out 5 _ rfl).2
      have xd6 := (Vxd.out 6 _ rfl).1
      have xdf6 := (Vxd.out 6 _ rfl).2
      have xo0 := (Vxo.out 0 _ rfl).1
      have xof0 := (Vxo.out 0 _ rfl).2
      have xo1 := (Vxo.out 1 _ rfl).1
      have xof1 := (Vxo.out 1 _ rfl).2
      have xv0 := (Vxv.out 0 _ rfl).1
      have xvf0 := (Vxv.out 0 _ rfl).2
      have xv1 := (Vxv.out 1 _ rfl).1
      have xvf1 := (Vxv.out 1 _ rfl).2
      go_wp2
      go_ret
      exact ⟨rfl, HB7.out⟩

end Go.Proofs.Ytncbgejggfkdmaa
