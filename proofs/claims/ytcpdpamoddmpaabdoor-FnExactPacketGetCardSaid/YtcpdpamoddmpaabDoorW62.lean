/- The walk of the exact law on packets that are read. -/
import Derived.Test.YtcpdpamoddmpaabDoorW60
import Derived.Test.YtcpdpamoddmpaabDoorK58
namespace Go.Proofs.YtcpdpamoddmpaabDoor
open Go.RowKit Go.PlainAid

/-- The chunks of an answer, before they are marked: in memory of its own, at C or behind it. -/
structure MkP (g n cap C : Nat) (W : World) : Prop where
  f : Fil g n 0 (marksC n) W
  r : Free g W
  c1 : n ≤ cap
  c2 : cap ≤ maxLen
  lo : C ≤ g
  l : g < W.heap.size
theorem MkP.below {g n cap C : Nat} {W W' : World} (h : MkP g n cap C W) (hb : Below W.heap.size W W') : MkP g n cap C W' := ⟨h.f.below hb, h.r.below h.l hb, h.c1, h.c2, h.lo, Nat.lt_of_lt_of_le h.l hb.size⟩
theorem packetGet_own (a0 a1 a2 : Addr) (s : ByteArray) (f t g : Int) (cs : List (Int × Int × ByteArray)) (k : Nat) (w : World) (hs : s.size ≤ 100000000) (hE : Errs a0 a1 a2 w) (h : PackIs s f t g cs) (hk : cs.length = k) :
    Calls Tryd.prog 13 #[.string s] w fun e w' => ∃ x cap, e = .returned (.tuple #[.agg #[.int .i64 f, .int .i64 t, .int .i64 g, .slice (some ⟨x, 0, none⟩) k cap], .int .i64 0]) ∧ Chs w' (some ⟨x, 0, none⟩) k cap cs ∧ MkP x k cap w.heap.size w' ∧ Below w.heap.size w w' := by
  refine (packetGet_any a0 a1 a2 s w hs hE).mono ?_
  rintro e w' ⟨⟨f', t', g', cs', x, k', cap, hp, rfl, ho⟩ | ⟨hn, _⟩, hb⟩
  · obtain ⟨rfl, rfl, rfl, rfl⟩ := pack_one h hp
    obtain rfl : k' = k := (own_row ho).symm.trans hk
    obtain ⟨h1, h2, h3, h4, h5, h6⟩ := own_fil (marksC k') ho
    exact ⟨x, cap, rfl, own_chs ho, ⟨h1, h2, h3, h4, h5, h6⟩, hb⟩
  · exact absurd h (hn f t g cs)
theorem markPacket_mk (f t q : Int) (g n cap C : Nat) (w : World) (hn : n ≤ 4) (h : MkP g n cap C w) :
    Calls Tryd.prog 18 #[.agg #[.int .i64 f, .int .i64 t, .int .i64 q, .slice (some ⟨g, 0, none⟩) n cap], .int .i64 1] w fun e w' => e = .returned (.int .i64 (1 + 3 * (n : Int))) ∧ Chs w' (some ⟨g, 0, none⟩) n cap (marksC n) ∧ Mw g w w' := by
  refine (markPacket_some f t q g n cap w hn h.l h.f h.r).mono ?_
  rintro e w' ⟨rfl, hf, hm⟩
  exact ⟨rfl, hf.chs (marksC_length n) h.c1 h.c2, hm⟩
theorem VarN.mw {d g : Nat} {vs : List Value} {w w' : World} (h : VarN d vs w) (hm : Mw g w w') (hd : d < w.heap.size) (hne : d ≠ g) : VarN d vs w' := h.aside hm.a hd hne

set_option maxHeartbeats 4000000 in
theorem walk_fnExactPacketGet (s : ByteArray) (w1 : World) (_hm : s.size ≤ maxLen) (hE : ErrsAny w1) :
    Calls Tryd.prog 9 #[.string s] w1 fun e w' => e = .returned (.bool true) ∧ Below w1.heap.size w1 w' := by
  have hb1 := Below.refl w1.heap.size w1
  obtain ⟨e0, e1, e2, hE⟩ := hE
  have HE0 := Lib.hid hE
  have EE := Lib.hid hE
  have HW1 := Lib.hid (Nat.le_refl w1.heap.size)
  clear hE
  by_cases hz : s.size ≤ 1048576
  · have hs8 : s.size ≤ 100000000 := by omega
    have hz0 : ¬ (1048576 : Int) < (s.size : Int) := by omega
    clear hz
    go_enter Tryd.func9, Tryd.ntmps9
    by_cases hc : IsPack s
    · obtain ⟨f, t, n, cs, hp⟩ := hc
      obtain ⟨k, hk⟩ : ∃ k, cs.length = k := ⟨_, rfl⟩
      have k4 : k ≤ 4 := by have := hp.2.2.2.2.2.2.1; omega
      have HK := Lib.hid hp
      have HL := Lib.hid hk
      clear hp hk
      go_wp2_with fail
      refine (sPacketGet_is s f t n cs k _ hs8 HK.out HL.out).mono ?_
      rintro e w2 ⟨x1, cap1, rfl, hg1, hb2⟩
      have HB2 := Lib.hid (hb1.trans (hb2.mono hb1.size))
      have EE := Lib.hid ((EE.out).below hb2)
      clear hb2
      have hs12 := HB2.out.size
      have G1 := Lib.hid hg1
      have g1l := chs_lt hg1
      clear hg1
      go_wp2_with fail
      refine (packetGet_own e0 e1 e2 s f t n cs k _ hs8 ((EE.out).below (below_box (.cells (List.toArray [.int .i64 f, .int .i64 t, .int .i64 n, .slice (some ⟨x1, 0, none⟩) k cap1]) 25) (Nat.le_refl _))) HK.out HL.out).mono ?_
      rintro e w3 ⟨x2, cap2, rfl, hg2, hmk, hb3⟩
      have Vv := Lib.hid ((VarN.new_at (w := w2) (d := w2.heap.size) (by simp) [.int .i64 f, .int .i64 t, .int .i64 n, .slice (some ⟨x1, 0, none⟩) k cap1] 25).below hb3 (by simp))
      have HB3 := Lib.hid (((HB2.out).alloc (Nat.le_trans HB2.out.size (by exact Nat.le_refl _)) (.cells (List.toArray [.int .i64 f, .int .i64 t, .int .i64 n, .slice (some ⟨x1, 0, none⟩) k cap1]) 25)).trans (hb3.mono (Nat.le_trans HB2.out.size (by simp <;> omega))))
      have ltv : w2.heap.size < w3.heap.size := lt_of_cell (Vv.out 0 _ rfl).1
      have nev : ¬ w2.heap.size = w3.heap.size := by omega
      have EE := Lib.hid (((EE.out).below (below_box (.cells (List.toArray [.int .i64 f, .int .i64 t, .int .i64 n, .slice (some ⟨x1, 0, none⟩) k cap1]) 25) (Nat.le_refl _))).below hb3)
      have G1 := Lib.hid (((G1.out).below (below_box (.cells (List.toArray [.int .i64 f, .int .i64 t, .int .i64 n, .slice (some ⟨x1, 0, none⟩) k cap1]) 25) (Nat.le_refl _))).below hb3)
      clear hb3
      have lo2 : w2.heap.size + 1 ≤ x2 := by simpa using hmk.lo
      have hi2 : x2 < w3.heap.size := hmk.l
      have G2 := Lib.hid hg2
      have M := Lib.hid hmk
      clear hg2 hmk
      have v0 := (Vv.out 0 _ rfl).1
      have vf0 := (Vv.out 0 _ rfl).2
      have v1 := (Vv.out 1 _ rfl).1
      have vf1 := (Vv.out 1 _ rfl).2
      have v2 := (Vv.out 2 _ rfl).1
      have vf2 := (Vv.out 2 _ rfl).2
      have v3 := (Vv.out 3 _ rfl).1
      have vf3 := (Vv.out 3 _ rfl).2
      go_wp2_with fail
      refine (eqPacket_same f t n _ _ k cap2 cap1 cs _ ((G2.out).below (below_box (.cells (List.toArray [.int .i64 f, .int .i64 t, .int .i64 n, .slice (some ⟨x2, 0, none⟩) k cap2]) 25) (Nat.le_refl _))) ((G1.out).below (below_box (.cells (List.toArray [.int .i64 f, .int .i64 t, .int .i64 n, .slice (some ⟨x2, 0, none⟩) k cap2]) 25) (Nat.le_refl _)))).mono ?_
      rintro e w4 ⟨rfl, hb4⟩
      clear v0 vf0 v1 vf1 v2 vf2 v3 vf3
      have Vv := Lib.hid (((Vv.out).alloc (.cells (List.toArray [.int .i64 f, .int .i64 t, .int .i64 n, .slice (some ⟨x2, 0, none⟩) k cap2]) 25) (by omega)).below hb4 (by simp; omega))
      have Vg := Lib.hid ((VarN.new_at (w := w3) (d := w3.heap.size) (by simp) [.int .i64 f, .int .i64 t, .int .i64 n, .slice (some ⟨x2, 0, none⟩) k cap2] 25).below hb4 (by simp))
      have HB4 := Lib.hid (((HB3.out).alloc (Nat.le_trans HB3.out.size (by exact Nat.le_refl _)) (.cells (List.toArray [.int .i64 f, .int .i64 t, .int .i64 n, .slice (some ⟨x2, 0, none⟩) k cap2]) 25)).trans (hb4.mono (Nat.le_trans HB3.out.size (by simp <;> omega))))
      have ltv : w2.heap.size < w4.heap.size := lt_of_cell (Vv.out 0 _ rfl).1
      have ltg : w3.heap.size < w4.heap.size := lt_of_cell (Vg.out 0 _ rfl).1
      have nev : ¬ w2.heap.size = w4.heap.size := by omega
      have neg : ¬ w3.heap.size = w4.heap.size := by omega
      have EE := Lib.hid (((EE.out).below (below_box (.cells (List.toArray [.int .i64 f, .int .i64 t, .int .i64 n, .slice (some ⟨x2, 0, none⟩) k cap2]) 25) (Nat.le_refl _))).below hb4)
      have G1 := Lib.hid (((G1.out).below (below_box (.cells (List.toArray [.int .i64 f, .int .i64 t, .int .i64 n, .slice (some ⟨x2, 0, none⟩) k cap2]) 25) (Nat.le_refl _))).below hb4)
      have G2 := Lib.hid (((G2.out).below (below_box (.cells (List.toArray [.int .i64 f, .int .i64 t, .int .i64 n, .slice (some ⟨x2, 0, none⟩) k cap2]) 25) (Nat.le_refl _))).below hb4)
      have M := Lib.hid (((M.out).below (below_box (.cells (List.toArray [.int .i64 f, .int .i64 t, .int .i64 n, .slice (some ⟨x2, 0, none⟩) k cap2]) 25) (Nat.le_refl _))).below hb4)
      clear hb4
      have hsz0 := HB4.out.size
      have g0 := (Vg.out 0 _ rfl).1
      have gf0 := (Vg.out 0 _ rfl).2
      have g1 := (Vg.out 1 _ rfl).1
      have gf1 := (Vg.out 1 _ rfl).2
      have g2 := (Vg.out 2 _ rfl).1
      have gf2 := (Vg.out 2 _ rfl).2
      have g3 := (Vg.out 3 _ rfl).1
      have gf3 := (Vg.out 3 _ rfl).2
      go_wp2_with fail
      refine (markPacket_mk f t n x2 k cap2 _ _ k4 M.out).mono ?_
      rintro e w5 ⟨rfl, hgm, hmw⟩
      clear g0 gf0 g1 gf1 g2 gf2 g3 gf3
      have Vv := Lib.hid (Vv.out.mw hmw ltv (by omega))
      have Vg := Lib.hid (Vg.out.mw hmw ltg (by omega))
      have G1 := Lib.hid (G1.out.under hmw.b (by omega))
      have HB5 := Lib.hid (HB4.out.trans (hmw.b.mono (by have := HW1.out; omega)))
      have EE := Lib.hid (HE0.out.under (Nat.le_refl _) HB5.out)
      have GM := Lib.hid hgm
      have szm := hmw.z
      clear hgm hmw G2 M
      have ltv : w2.heap.size < w5.heap.size := lt_of_cell (Vv.out 0 _ rfl).1
      have ltg : w3.heap.size < w5.heap.size := lt_of_cell (Vg.out 0 _ rfl).1
      have nev : ¬ w2.heap.size = w5.heap.size := by omega
      have neg : ¬ w3.heap.size = w5.heap.size := by omega
      have g0 := (Vg.out 0 _ rfl).1
      have gf0 := (Vg.out 0 _ rfl).2
      have g1 := (Vg.out 1 _ rfl).1
      have gf1 := (Vg.out 1 _ rfl).2
      have g2 := (Vg.out 2 _ rfl).1
      have gf2 := (Vg.out 2 _ rfl).2
      have g3 := (Vg.out 3 _ rfl).1
      have gf3 := (Vg.out 3 _ rfl).2
      go_wp2_with fail
      refine (heldPacket_any f t n _ k cap2 _ k4 GM.out).mono ?_
      rintro e w6 ⟨rfl, hb6⟩
      clear g0 gf0 g1 gf1 g2 gf2 g3 gf3
      have Vv := Lib.hid ((Vv.out).below hb6 ltv)
      have Vg := Lib.hid ((Vg.out).below hb6 ltg)
      have HB6 := Lib.hid (HB5.out.trans (hb6.mono HB5.out.size))
      have ltv : w2.heap.size < w6.heap.size := lt_of_cell (Vv.out 0 _ rfl).1
      have ltg : w3.heap.size < w6.heap.size := lt_of_cell (Vg.out 0 _ rfl).1
      have nev : ¬ w2.heap.size = w6.heap.size := by omega
      have neg : ¬ w3.heap.size = w6.heap.size := by omega
      have EE := Lib.hid ((EE.out).below hb6)
      have G1 := Lib.hid ((G1.out).below hb6)
      have GM := Lib.hid ((GM.out).below hb6)
      clear hb6
      have hq : ¬ 1 + 3 * (k : Int) < 0 := by omega
      go_wp2_with fail
      refine (packetGet_is e0 e1 e2 s f t n cs k _ hs8 EE.out HK.out HL.out).mono ?_
      rintro e w7 ⟨x3, cap3, rfl, hg3, hb7⟩
      have Vv := Lib.hid ((Vv.out).below hb7 ltv)
      have Vg := Lib.hid ((Vg.out).below hb7 ltg)
      have HB7 := Lib.hid (HB6.out.trans (hb7.mono HB6.out.size))
      have ltv : w2.heap.size < w7.heap.size := lt_of_cell (Vv.out 0 _ rfl).1
      have ltg : w3.heap.size < w7.heap.size := lt_of_cell (Vg.out 0 _ rfl).1
      have nev : ¬ w2.heap.size = w7.heap.size := by omega
      have neg : ¬ w3.heap.size = w7.heap.size := by omega
      have EE := Lib.hid ((EE.out).below hb7)
      have G1 := Lib.hid ((G1.out).below hb7)
      have GM := Lib.hid ((GM.out).below hb7)
      clear hb7
      have G3 := Lib.hid hg3
      clear hg3
      have v0 := (Vv.out 0 _ rfl).1
      have vf0 := (Vv.out 0 _ rfl).2
      have v1 := (Vv.out 1 _ rfl).1
      have vf1 := (Vv.out 1 _ rfl).2
      have v2 := (Vv.out 2 _ rfl).1
      have vf2 := (Vv.out 2 _ rfl).2
      have v3 := (Vv.out 3 _ rfl).1
      have vf3 := (Vv.out 3 _ rfl).2
      go_wp2_with fail
      refine (eqPacket_same f t n _ _ k cap3 cap1 cs _ ((G3.out).below (below_box (.cells (List.toArray [.int .i64 f, .int .i64 t, .int .i64 n, .slice (some ⟨x3, 0, none⟩) k cap3]) 25) (Nat.le_refl _))) ((G1.out).below (below_box (.cells (List.toArray [.int .i64 f, .int .i64 t, .int .i64 n, .slice (some ⟨x3, 0, none⟩) k cap3]) 25) (Nat.le_refl _)))).mono ?_
      rintro e w8 ⟨rfl, hb8⟩
      clear v0 vf0 v1 vf1 v2 vf2 v3 vf3
      have Vv := Lib.hid (((Vv.out).alloc (.cells (List.toArray [.int .i64 f, .int .i64 t, .int .i64 n, .slice (some ⟨x3, 0, none⟩) k cap3]) 25) (by omega)).below hb8 (by simp; omega))
      have Vg := Lib.hid (((Vg.out).alloc (.cells (List.toArray [.int .i64 f, .int .i64 t, .int .i64 n, .slice (some ⟨x3, 0, none⟩) k cap3]) 25) (by omega)).below hb8 (by simp; omega))
      have Vh := Lib.hid ((VarN.new_at (w := w7) (d := w7.heap.size) (by simp) [.int .i64 f, .int .i64 t, .int .i64 n, .slice (some ⟨x3, 0, none⟩) k cap3] 25).below hb8 (by simp))
      have HB8 := Lib.hid (((HB7.out).alloc (Nat.le_trans HB7.out.size (by exact Nat.le_refl _)) (.cells (List.toArray [.int .i64 f, .int .i64 t, .int .i64 n, .slice (some ⟨x3, 0, none⟩) k cap3]) 25)).trans (hb8.mono (Nat.le_trans HB7.out.size (by simp <;> omega))))
      have ltv : w2.heap.size < w8.heap.size := lt_of_cell (Vv.out 0 _ rfl).1
      have ltg : w3.heap.size < w8.heap.size := lt_of_cell (Vg.out 0 _ rfl).1
      have lth : w7.heap.size < w8.heap.size := lt_of_cell (Vh.out 0 _ rfl).1
      have nev : ¬ w2.heap.size = w8.heap.size := by omega
      have neg : ¬ w3.heap.size = w8.heap.size := by omega
      have neh : ¬ w7.heap.size = w8.heap.size := by omega
      have EE := Lib.hid (((EE.out).below (below_box (.cells (List.toArray [.int .i64 f, .int .i64 t, .int .i64 n, .slice (some ⟨x3, 0, none⟩) k cap3]) 25) (Nat.le_refl _))).below hb8)
      have G1 := Lib.hid (((G1.out).below (below_box (.cells (List.toArray [.int .i64 f, .int .i64 t, .int .i64 n, .slice (some ⟨x3, 0, none⟩) k cap3]) 25) (Nat.le_refl _))).below hb8)
      have GM := Lib.hid (((GM.out).below (below_box (.cells (List.toArray [.int .i64 f, .int .i64 t, .int .i64 n, .slice (some ⟨x3, 0, none⟩) k cap3]) 25) (Nat.le_refl _))).below hb8)
      have G3 := Lib.hid (((G3.out).below (below_box (.cells (List.toArray [.int .i64 f, .int .i64 t, .int .i64 n, .slice (some ⟨x3, 0, none⟩) k cap3]) 25) (Nat.le_refl _))).below hb8)
      clear hb8
      have g0 := (Vg.out 0 _ rfl).1
      have gf0 := (Vg.out 0 _ rfl).2
      have g1 := (Vg.out 1 _ rfl).1
      have gf1 := (Vg.out 1 _ rfl).2
      have g2 := (Vg.out 2 _ rfl).1
      have gf2 := (Vg.out 2 _ rfl).2
      have g3 := (Vg.out 3 _ rfl).1
      have gf3 := (Vg.out 3 _ rfl).2
      go_wp2_with fail
      refine (heldPacket_any f t n _ k cap2 _ k4 GM.out).mono ?_
      rintro e w9 ⟨rfl, hb9⟩
      clear g0 gf0 g1 gf1 g2 gf2 g3 gf3
      have Vv := Lib.hid ((Vv.out).below hb9 ltv)
      have Vg := Lib.hid ((Vg.out).below hb9 ltg)
      have Vh := Lib.hid ((Vh.out).below hb9 lth)
      have HB9 := Lib.hid (HB8.out.trans (hb9.mono HB8.out.size))
      have ltv : w2.heap.size < w9.heap.size := lt_of_cell (Vv.out 0 _ rfl).1
      have ltg : w3.heap.size < w9.heap.size := lt_of_cell (Vg.out 0 _ rfl).1
      have lth : w7.heap.size < w9.heap.size := lt_of_cell (Vh.out 0 _ rfl).1
      have nev : ¬ w2.heap.size = w9.heap.size := by omega
      have neg : ¬ w3.heap.size = w9.heap.size := by omega
      have neh : ¬ w7.heap.size = w9.heap.size := by omega
      have EE := Lib.hid ((EE.out).below hb9)
      have G1 := Lib.hid ((G1.out).below hb9)
      have GM := Lib.hid ((GM.out).below hb9)
      have G3 := Lib.hid ((G3.out).below hb9)
      clear hb9
      go_wp2
      go_ret
      exact ⟨rfl, HB9.out⟩
    · have HN := Lib.hid hc
      obtain ⟨c, hcc⟩ : ∃ c, codeOf s = c := ⟨_, rfl⟩
      have HC := Lib.hid hcc
      have cn0 : c ≠ 0 := hcc ▸ codeOf_ne s
      have cn : (c != 0) = true := by simpa using cn0
      have ce : (c == 0) = false := by simpa using cn0
      clear hc hcc cn0
      go_wp2_with fail
      refine (sPacketGet_not s _ hs8 HN.out).mono ?_
      rw [HC.out]
      rintro e w2 ⟨rfl, hb2⟩
      have HB2 := Lib.hid (hb1.trans (hb2.mono hb1.size))
      have EE := Lib.hid ((EE.out).below hb2)
      clear hb2
      unfold noPackV
      go_wp2_with fail
      refine (packetGet_not e0 e1 e2 s _ hs8 ((EE.out).below (below_box (.cells (List.toArray [.int .i64 0, .int .i64 0, .int .i64 0, .slice none 0 0]) 25) (Nat.le_refl _))) HN.out).mono ?_
      rw [HC.out]
      rintro e w3 ⟨rfl, hb3⟩
      have Vv := Lib.hid ((VarN.new_at (w := w2) (d := w2.heap.size) (by simp) [.int .i64 0, .int .i64 0, .int .i64 0, .slice none 0 0] 25).below hb3 (by simp))
      have HB3 := Lib.hid (((HB2.out).alloc (Nat.le_trans HB2.out.size (by exact Nat.le_refl _)) (.cells (List.toArray [.int .i64 0, .int .i64 0, .int .i64 0, .slice none 0 0]) 25)).trans (hb3.mono (Nat.le_trans HB2.out.size (by simp <;> omega))))
      have ltv : w2.heap.size < w3.heap.size := lt_of_cell (Vv.out 0 _ rfl).1
      have nev : ¬ w2.heap.size = w3.heap.size := by omega
      have EE := Lib.hid (((EE.out).below (below_box (.cells (List.toArray [.int .i64 0, .int .i64 0, .int .i64 0, .slice none 0 0]) 25) (Nat.le_refl _))).below hb3)
      clear hb3
      unfold noPackV
      have v0 := (Vv.out 0 _ rfl).1
      have vf0 := (Vv.out 0 _ rfl).2
      have v1 := (Vv.out 1 _ rfl).1
      have vf1 := (Vv.out 1 _ rfl).2
      have v2 := (Vv.out 2 _ rfl).1
      have vf2 := (Vv.out 2 _ rfl).2
      have v3 := (Vv.out 3 _ rfl).1
      have vf3 := (Vv.out 3 _ rfl).2
      go_wp2_with fail
      refine (eqPacket_none _).mono ?_
      rintro e w4 ⟨rfl, hb4⟩
      clear v0 vf0 v1 vf1 v2 vf2 v3 vf3
      have Vv := Lib.hid (((Vv.out).alloc (.cells (List.toArray [.int .i64 0, .int .i64 0, .int .i64 0, .slice none 0 0]) 25) (by omega)).below hb4 (by simp; omega))
      have Vg := Lib.hid ((VarN.new_at (w := w3) (d := w3.heap.size) (by simp) [.int .i64 0, .int .i64 0, .int .i64 0, .slice none 0 0] 25).below hb4 (by simp))
      have HB4 := Lib.hid (((HB3.out).alloc (Nat.le_trans HB3.out.size (by exact Nat.le_refl _)) (.cells (List.toArray [.int .i64 0, .int .i64 0, .int .i64 0, .slice none 0 0]) 25)).trans (hb4.mono (Nat.le_trans HB3.out.size (by simp <;> omega))))
      have ltv : w2.heap.size < w4.heap.size := lt_of_cell (Vv.out 0 _ rfl).1
      have ltg : w3.heap.size < w4.heap.size := lt_of_cell (Vg.out 0 _ rfl).1
      have nev : ¬ w2.heap.size = w4.heap.size := by omega
      have neg : ¬ w3.heap.size = w4.heap.size := by omega
      have EE := Lib.hid (((EE.out).below (below_box (.cells (List.toArray [.int .i64 0, .int .i64 0, .int .i64 0, .slice none 0 0]) 25) (Nat.le_refl _))).below hb4)
      clear hb4
      have g0 := (Vg.out 0 _ rfl).1
      have gf0 := (Vg.out 0 _ rfl).2
      have g1 := (Vg.out 1 _ rfl).1
      have gf1 := (Vg.out 1 _ rfl).2
      have g2 := (Vg.out 2 _ rfl).1
      have gf2 := (Vg.out 2 _ rfl).2
      have g3 := (Vg.out 3 _ rfl).1
      have gf3 := (Vg.out 3 _ rfl).2
      go_wp2_with fail
      refine (markPacket_none 0 0 0 _).mono ?_
      rintro e w5 ⟨rfl, hb5⟩
      clear g0 gf0 g1 gf1 g2 gf2 g3 gf3
      have Vv := Lib.hid ((Vv.out).below hb5 ltv)
      have Vg := Lib.hid ((Vg.out).below hb5 ltg)
      have HB5 := Lib.hid (HB4.out.trans (hb5.mono HB4.out.size))
      have ltv : w2.heap.size < w5.heap.size := lt_of_cell (Vv.out 0 _ rfl).1
      have ltg : w3.heap.size < w5.heap.size := lt_of_cell (Vg.out 0 _ rfl).1
      have nev : ¬ w2.heap.size = w5.heap.size := by omega
      have neg : ¬ w3.heap.size = w5.heap.size := by omega
      have EE := Lib.hid ((EE.out).below hb5)
      clear hb5
      have g0 := (Vg.out 0 _ rfl).1
      have gf0 := (Vg.out 0 _ rfl).2
      have g1 := (Vg.out 1 _ rfl).1
      have gf1 := (Vg.out 1 _ rfl).2
      have g2 := (Vg.out 2 _ rfl).1
      have gf2 := (Vg.out 2 _ rfl).2
      have g3 := (Vg.out 3 _ rfl).1
      have gf3 := (Vg.out 3 _ rfl).2
      go_wp2_with fail
      refine (heldPacket_none 0 0 0 _).mono ?_
      rintro e w6 ⟨rfl, hb6⟩
      clear g0 gf0 g1 gf1 g2 gf2 g3 gf3
      have Vv := Lib.hid ((Vv.out).below hb6 ltv)
      have Vg := Lib.hid ((Vg.out).below hb6 ltg)
      have HB6 := Lib.hid (HB5.out.trans (hb6.mono HB5.out.size))
      have ltv : w2.heap.size < w6.heap.size := lt_of_cell (Vv.out 0 _ rfl).1
      have ltg : w3.heap.size < w6.heap.size := lt_of_cell (Vg.out 0 _ rfl).1
      have nev : ¬ w2.heap.size = w6.heap.size := by omega
      have neg : ¬ w3.heap.size = w6.heap.size := by omega
      have EE := Lib.hid ((EE.out).below hb6)
      clear hb6
      go_wp2_with fail
      refine (packetGet_not e0 e1 e2 s _ hs8 EE.out HN.out).mono ?_
      rw [HC.out]
      rintro e w7 ⟨rfl, hb7⟩
      have Vv := Lib.hid ((Vv.out).below hb7 ltv)
      have Vg := Lib.hid ((Vg.out).below hb7 ltg)
      have HB7 := Lib.hid (HB6.out.trans (hb7.mono HB6.out.size))
      have ltv : w2.heap.size < w7.heap.size := lt_of_cell (Vv.out 0 _ rfl).1
      have ltg : w3.heap.size < w7.heap.size := lt_of_cell (Vg.out 0 _ rfl).1
      have nev : ¬ w2.heap.size = w7.heap.size := by omega
      have neg : ¬ w3.heap.size = w7.heap.size := by omega
      have EE := Lib.hid ((EE.out).below hb7)
      clear hb7
      unfold noPackV
      have v0 := (Vv.out 0 _ rfl).1
      have vf0 := (Vv.out 0 _ rfl).2
      have v1 := (Vv.out 1 _ rfl).1
      have vf1 := (Vv.out 1 _ rfl).2
      have v2 := (Vv.out 2 _ rfl).1
      have vf2 := (Vv.out 2 _ rfl).2
      have v3 := (Vv.out 3 _ rfl).1
      have vf3 := (Vv.out 3 _ rfl).2
      go_wp2_with fail
      refine (eqPacket_none _).mono ?_
      rintro e w8 ⟨rfl, hb8⟩
      clear v0 vf0 v1 vf1 v2 vf2 v3 vf3
      have Vv := Lib.hid (((Vv.out).alloc (.cells (List.toArray [.int .i64 0, .int .i64 0, .int .i64 0, .slice none 0 0]) 25) (by omega)).below hb8 (by simp; omega))
      have Vg := Lib.hid (((Vg.out).alloc (.cells (List.toArray [.int .i64 0, .int .i64 0, .int .i64 0, .slice none 0 0]) 25) (by omega)).below hb8 (by simp; omega))
      have Vh := Lib.hid ((VarN.new_at (w := w7) (d := w7.heap.size) (by simp) [.int .i64 0, .int .i64 0, .int .i64 0, .slice none 0 0] 25).below hb8 (by simp))
      have HB8 := Lib.hid (((HB7.out).alloc (Nat.le_trans HB7.out.size (by exact Nat.le_refl _)) (.cells (List.toArray [.int .i64 0, .int .i64 0, .int .i64 0, .slice none 0 0]) 25)).trans (hb8.mono (Nat.le_trans HB7.out.size (by simp <;> omega))))
      have ltv : w2.heap.size < w8.heap.size := lt_of_cell (Vv.out 0 _ rfl).1
      have ltg : w3.heap.size < w8.heap.size := lt_of_cell (Vg.out 0 _ rfl).1
      have lth : w7.heap.size < w8.heap.size := lt_of_cell (Vh.out 0 _ rfl).1
      have nev : ¬ w2.heap.size = w8.heap.size := by omega
      have neg : ¬ w3.heap.size = w8.heap.size := by omega
      have neh : ¬ w7.heap.size = w8.heap.size := by omega
      have EE := Lib.hid (((EE.out).below (below_box (.cells (List.toArray [.int .i64 0, .int .i64 0, .int .i64 0, .slice none 0 0]) 25) (Nat.le_refl _))).below hb8)
      clear hb8
      have g0 := (Vg.out 0 _ rfl).1
      have gf0 := (Vg.out 0 _ rfl).2
      have g1 := (Vg.out 1 _ rfl).1
      have gf1 := (Vg.out 1 _ rfl).2
      have g2 := (Vg.out 2 _ rfl).1
      have gf2 := (Vg.out 2 _ rfl).2
      have g3 := (Vg.out 3 _ rfl).1
      have gf3 := (Vg.out 3 _ rfl).2
      go_wp2_with fail
      refine (heldPacket_none 0 0 0 _).mono ?_
      rintro e w9 ⟨rfl, hb9⟩
      clear g0 gf0 g1 gf1 g2 gf2 g3 gf3
      have Vv := Lib.hid ((Vv.out).below hb9 ltv)
      have Vg := Lib.hid ((Vg.out).below hb9 ltg)
      have Vh := Lib.hid ((Vh.out).below hb9 lth)
      have HB9 := Lib.hid (HB8.out.trans (hb9.mono HB8.out.size))
      have ltv : w2.heap.size < w9.heap.size := lt_of_cell (Vv.out 0 _ rfl).1
      have ltg : w3.heap.size < w9.heap.size := lt_of_cell (Vg.out 0 _ rfl).1
      have lth : w7.heap.size < w9.heap.size := lt_of_cell (Vh.out 0 _ rfl).1
      have nev : ¬ w2.heap.size = w9.heap.size := by omega
      have neg : ¬ w3.heap.size = w9.heap.size := by omega
      have neh : ¬ w7.heap.size = w9.heap.size := by omega
      have EE := Lib.hid ((EE.out).below hb9)
      clear hb9
      go_wp2
      go_ret
      exact ⟨rfl, HB9.out⟩
  · have hz0 : (1048576 : Int) < (s.size : Int) := by omega
    clear hz
    go_enter Tryd.func9, Tryd.ntmps9
    go_wp2
    go_ret
    exact ⟨rfl, hb1⟩

end Go.Proofs.YtcpdpamoddmpaabDoor
