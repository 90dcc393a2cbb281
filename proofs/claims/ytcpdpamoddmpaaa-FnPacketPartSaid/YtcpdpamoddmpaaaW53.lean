/- The walk of the law on packets without a chunk, and with further ones. -/
import Derived.Test.YtcpdpamoddmpaaaK50
import Derived.Test.YtcpdpamoddmpaaaK47
import Derived.Test.YtcpdpamoddmpaaaK40
import Derived.Test.YtcpdpamoddmpaaaK20v
import Derived.Deep.AppendLies
import Derived.Deep.LoopGhost
import Derived.Deep.RegionHeldLaw
import Derived.Handy
namespace Go.Proofs.Ytcpdpamoddmpaaa
open Go.RowKit Go.PlainAid

theorem chs_less {w : World} {x : Addr} {len cap j : Nat} {cs : List (Int × Int × ByteArray)} (h : Chs w (some x) len cap cs) (hj : j ≤ len) : Chs w (some x) j cap (cs.take j) := by
  rcases h with ⟨h0, _⟩ | ⟨y, hy, h1, h2, h3, h4⟩
  · cases h0
  · refine .inr ⟨y, hy, by omega, h2, by rw [List.length_take]; omega, fun i hi => ?_⟩
    have e : chAt (cs.take j) i = chAt cs i := by
      unfold chAt
      rw [List.getD_eq_getElem?_getD, List.getD_eq_getElem?_getD, List.getElem?_take_of_lt hi]
    rw [e]
    exact h4 i (by omega)
theorem packV_less {f t g : Int} {cs : List (Int × Int × ByteArray)} {k : Nat} (h : packV f t g cs = true) (hk : cs.length = k) : packV f t g (cs.take (k - 1)) = decide ((1 : Int) < k) := by
  have hp := of_decide_eq_true (show decide (PackOk f t g cs) = true from h)
  have hl : (cs.take (k - 1)).length = k - 1 := by rw [List.length_take]; omega
  by_cases h1 : 1 < k
  · rw [decide_eq_true (by omega), packV_yes ⟨hp.1, hp.2.1, by have := hp.2.2.1; omega, fun c hc => hp.2.2.2 c (List.mem_of_mem_take hc)⟩]
  · rw [decide_eq_false (by omega), packV_no fun q => by have := q.2.2.1; omega]
structure Yq (g k cap g2 m cap2 : Nat) (cs ds : List (Int × Int × ByteArray)) (w W : World) : Prop where
  gx : Chs W (some ⟨g, 0, none⟩) k cap (cs.take k)
  gy : Chs W (some ⟨g2, 0, none⟩) m cap2 ds
  b : Below w.heap.size w W
theorem yq_next {g k cap g2 m cap2 : Nat} {cs ds : List (Int × Int × ByteArray)} {w W W' : World} (h : Yq g k cap g2 m cap2 cs ds w W) (hb : Below W.heap.size W W') : Yq g k cap g2 m cap2 cs ds w W' := ⟨h.gx.below hb, h.gy.below hb, h.b.trans (hb.mono h.b.size)⟩
theorem keep9 {g k cap g2 m cap2 : Nat} {cs ds : List (Int × Int × ByteArray)} {p1 p2 p3 p4 p5 p6 p7 p8 p9 : Addr} {v1 v2 v3 v4 v5 v6 v7 v8 v9 : Value} {w W W' : World}
    (h : W.cell? p1 = some v1 ∧ W.cell? p2 = some v2 ∧ W.cell? p3 = some v3 ∧ W.cell? p4 = some v4 ∧ W.cell? p5 = some v5 ∧ W.cell? p6 = some v6 ∧ W.cell? p7 = some v7 ∧ W.cell? p8 = some v8 ∧ W.cell? p9 = some v9 ∧ Yq g k cap g2 m cap2 cs ds w W) (hb : Below W.heap.size W W') :
    W'.cell? p1 = some v1 ∧ W'.cell? p2 = some v2 ∧ W'.cell? p3 = some v3 ∧ W'.cell? p4 = some v4 ∧ W'.cell? p5 = some v5 ∧ W'.cell? p6 = some v6 ∧ W'.cell? p7 = some v7 ∧ W'.cell? p8 = some v8 ∧ W'.cell? p9 = some v9 ∧ Yq g k cap g2 m cap2 cs ds w W' := by
  obtain ⟨h1, h2, h3, h4, h5, h6, h7, h8, h9, h10⟩ := h
  have go : ∀ (p : Addr) (v : Value), W.cell? p = some v → W'.cell? p = some v := fun p v e => (hb.cell (World.block_lt_of_cell? W _ e)).trans e
  exact ⟨go _ _ h1, go _ _ h2, go _ _ h3, go _ _ h4, go _ _ h5, go _ _ h6, go _ _ h7, go _ _ h8, go _ _ h9, yq_next h10 hb⟩
theorem own_low {W : World} {base g n cap size : Nat} {e : TypeId} {xs : List Value} (h : W.ownsRow base e size (.slice (some ⟨g, 0, none⟩) n cap) n xs) : base ≤ W.heap.size := by
  have h1 : base ≤ g := own_ge h rfl
  have h2 := rowLt h
  omega
theorem info_cp : (Try.prog.info? 32).map (fun i => (i.zero, i.size, i.bytes)) = some (some (.agg #[.int .i64 0, .int .i64 0, .string (ByteArray.mk #[])]), 3, 32) := by kernel_rfl
/-- While chunks are added to a copy. -/
structure Yp (f t n : Int) (g k cap m g2 cap2 : Nat) (ds : List (Int × Int × ByteArray)) (w W : World) : Prop where
  xv : VarN w.heap.size [.int .i64 f, .int .i64 t, .int .i64 n, .slice (some ⟨g, 0, none⟩) k cap] W
  yv : VarN (w.heap.size + 1) [.int .i64 f, .int .i64 t, .int .i64 n, .slice (some ⟨g2, 0, none⟩) m cap2] W
  own : W.ownsRow (w.heap.size + 2) 32 3 (.slice (some ⟨g2, 0, none⟩) m cap2) m (flatC ds)
  b : Below w.heap.size w W
section
variable {f t n : Int} {g k cap m g2 cap2 : Nat} {ds : List (Int × Int × ByteArray)} {w W W' : World}
theorem Yp.up (h : Yp f t n g k cap m g2 cap2 ds w W) (hb : Below W.heap.size W W') : Yp f t n g k cap m g2 cap2 ds w W' :=
  ⟨h.xv.below hb (lt_of_cell (h.xv 0 _ rfl).1), h.yv.below hb (lt_of_cell (h.yv 0 _ rfl).1), rowBelow h.own hb (rowLt h.own), h.b.trans (hb.mono h.b.size)⟩
theorem Yp.push {W1 : World} {g3 cap3 m' e : Nat} {ds' : List (Int × Int × ByteArray)} {s : Value} (hx : VarN w.heap.size [.int .i64 f, .int .i64 t, .int .i64 n, .slice (some ⟨g, 0, none⟩) k cap] W) (hy : VarN (w.heap.size + 1) [.int .i64 f, .int .i64 t, .int .i64 n, s] W) (hb : Below w.heap.size w W)
    (hgrow : W.grownBy W1 (some e)) (he : w.heap.size + 2 ≤ e) (hown : W1.ownsRow (w.heap.size + 2) 32 3 (.slice (some ⟨g3, 0, none⟩) m' cap3) m' (flatC ds')) :
    Yp f t n g k cap m' g3 cap3 ds' w (W1.setCell ⟨w.heap.size + 1, 3, none⟩ (.slice (some ⟨g3, 0, none⟩) m' cap3)) := by
  have l1 := lt_of_cell (hx 0 _ rfl).1
  have l2 := lt_of_cell (hy 0 _ rfl).1
  have g1 : w.heap.size + 2 ≤ g3 := own_ge hown rfl
  exact ⟨(hx.plus hgrow l1 (by omega)).far _ (by omega), (hy.plus hgrow l2 (by omega)).set (i := 3) _, rowFar hown (by omega) _, (Below.grown hb hgrow (by omega) fun x hx => by cases hx; omega).setCell (p := ⟨w.heap.size + 1, 3, none⟩) (by show w.heap.size ≤ w.heap.size + 1; omega) _⟩
end

theorem past_b {w : World} {b i : Nat} {v : Value} (h : w.cell? ⟨b, i, none⟩ = some v) (o : Obj) : (w.alloc o).cell? ⟨b, i, none⟩ = some v := (World.cell?_alloc_lt _ _ _ (World.block_lt_of_cell? w _ h)).trans h
set_option maxHeartbeats 4000000 in
theorem walk_fnPacketPart (a0 : Option Addr) (len0 cap0 : Nat) (z0 : List Int) (w : World) (w0 : IsRow .u8 w a0 len0 cap0 z0) :
    Calls Try.prog 6 #[.slice a0 len0 cap0] w fun e w' => e = .returned (.bool true) ∧ Below w.heap.size w w' := by
  have H := Lib.hid w0
  clear w0
  by_cases hl : (1048576 : Int) < len0
  · go_enter Try.func6, Try.ntmps6
    go_wp2
    go_ret
    exact ⟨rfl, Below.refl _ _⟩
  · go_enter Try.func6, Try.ntmps6
    go_wp2_with fail
    refine (drawPacketValid_any a0 len0 cap0 z0 _ H.out).mono ?_
    rintro e w1 ⟨f, t, n, g, k, cap, cs, rfl, ⟨nf0, nf1⟩, ⟨nt0, nt1⟩, ⟨nn0, nn1⟩, nk, ng, hch, hb1⟩
    have hcl := hch.length
    have GA := Lib.hid hch
    clear hch
    by_cases hc : packV f t n cs = true
    · have HC := Lib.hid hc
      clear hc
      go_wp2_with fail
      refine (packetValid_any f t n _ k cap cs _ ((GA.out).below (below_box (.cells (List.toArray [.int .i64 f, .int .i64 t, .int .i64 n, .slice (some ⟨g, 0, none⟩) k cap]) 25) (Nat.le_refl _)))).mono ?_
      rw [HC.out]
      rintro e w2 ⟨rfl, hb2⟩
      have Vv := Lib.hid ((VarN.new_at (w := w1) (d := w1.heap.size) (by simp) [.int .i64 f, .int .i64 t, .int .i64 n, .slice (some ⟨g, 0, none⟩) k cap] 25).below hb2 (by simp))
      have HB2 := Lib.hid (((hb1).alloc (Nat.le_trans hb1.size (by exact Nat.le_refl _)) (.cells (List.toArray [.int .i64 f, .int .i64 t, .int .i64 n, .slice (some ⟨g, 0, none⟩) k cap]) 25)).trans (hb2.mono (Nat.le_trans hb1.size (by simp <;> omega))))
      have ltv : w1.heap.size < w2.heap.size := lt_of_cell (Vv.out 0 _ rfl).1
      have nev : ¬ w1.heap.size = w2.heap.size := by omega
      have GA := Lib.hid (((GA.out).below (below_box (.cells (List.toArray [.int .i64 f, .int .i64 t, .int .i64 n, .slice (some ⟨g, 0, none⟩) k cap]) 25) (Nat.le_refl _))).below hb2)
      clear hb2
      have v0 := (Vv.out 0 _ rfl).1
      have vf0 := (Vv.out 0 _ rfl).2
      have v1 := (Vv.out 1 _ rfl).1
      have vf1 := (Vv.out 1 _ rfl).2
      have v2 := (Vv.out 2 _ rfl).1
      have vf2 := (Vv.out 2 _ rfl).2
      have v3 := (Vv.out 3 _ rfl).1
      have vf3 := (Vv.out 3 _ rfl).2
      go_wp2_with fail
      refine (sPacketValid_any f t n _ k cap cs _ GA.out).mono ?_
      rw [HC.out]
      rintro e w3 ⟨rfl, hb3⟩
      clear v0 vf0 v1 vf1 v2 vf2 v3 vf3
      have Vv := Lib.hid ((Vv.out).below hb3 ltv)
      have HB3 := Lib.hid (HB2.out.trans (hb3.mono HB2.out.size))
      have ltv : w1.heap.size < w3.heap.size := lt_of_cell (Vv.out 0 _ rfl).1
      have nev : ¬ w1.heap.size = w3.heap.size := by omega
      have GA := Lib.hid ((GA.out).below hb3)
      clear hb3
      have km : k ≤ 9 := nk
      have hk1 : 1 ≤ k ∧ k ≤ 4 := by have := (of_decide_eq_true (show decide (PackOk f t n cs) = true from HC.out)).2.2.1; omega
      have hcp := GA.out.len_le
      have HPL0 := Lib.hid (packV_less HC.out hcl)
      have b0 : (0 : Int) ≤ (k : Int) - 1 := by omega
      have b1 : (k : Int) - 1 ≤ (cap : Int) := by omega
      have b2 : IntKind.i64.wrap ((k : Int) - 1) = (k : Int) - 1 := IntWalk.i64_in _ ⟨by omega, by omega⟩
      obtain ⟨k1, hkk⟩ : ∃ k1 : Nat, k1 = k - 1 := ⟨_, rfl⟩
      have b3 : ((k : Int) - 1).toNat = k1 := by omega
      have HPL := Lib.hid (hkk ▸ HPL0.out)
      have HKK := Lib.hid hkk
      clear hkk HPL0
      obtain ⟨i0, hi, hz0, hz1, hz2⟩ := info_parts info_cp
      have HI := Lib.hid (And.intro hi (And.intro hz0 (And.intro hz1 hz2)))
      clear hi hz0 hz1 hz2
      have v0 := (Vv.out 0 _ rfl).1
      have vf0 := (Vv.out 0 _ rfl).2
      have v1 := (Vv.out 1 _ rfl).1
      have vf1 := (Vv.out 1 _ rfl).2
      have v2 := (Vv.out 2 _ rfl).1
      have vf2 := (Vv.out 2 _ rfl).2
      have v3 := (Vv.out 3 _ rfl).1
      have vf3 := (Vv.out 3 _ rfl).2
      have dd0 := past_b v0 (.cells (List.toArray [.int .i64 f, .int .i64 t, .int .i64 n, .slice (some ⟨g, 0, none⟩) k1 cap]) 25)
      have dd1 := past_b v1 (.cells (List.toArray [.int .i64 f, .int .i64 t, .int .i64 n, .slice (some ⟨g, 0, none⟩) k1 cap]) 25)
      have dd2 := past_b v2 (.cells (List.toArray [.int .i64 f, .int .i64 t, .int .i64 n, .slice (some ⟨g, 0, none⟩) k1 cap]) 25)
      have dd3 := past_b v3 (.cells (List.toArray [.int .i64 f, .int .i64 t, .int .i64 n, .slice (some ⟨g, 0, none⟩) k1 cap]) 25)
      have de3 := fun (o : Obj) => past_b dd3 o
      have df3 := fun (o p : Obj) => past_b (past_b dd3 o) p
      have X1 := (VarN.new_at (w := w3) (d := w3.heap.size) rfl [.int .i64 f, .int .i64 t, .int .i64 n, .slice (some ⟨g, 0, none⟩) k1 cap] 25).alloc (.cells (List.toArray [.int .i64 f, .int .i64 t, .int .i64 n, .slice (some ⟨g, 0, none⟩) k cap]) 25) (by simp)
      have X2 := X1.alloc (.cells (List.toArray []) 32) (by simp; omega)
      have Y2 := (VarN.new_at (w := w3.alloc (.cells (List.toArray [.int .i64 f, .int .i64 t, .int .i64 n, .slice (some ⟨g, 0, none⟩) k1 cap]) 25)) (d := w3.heap.size + 1) (by simp) [.int .i64 f, .int .i64 t, .int .i64 n, .slice (some ⟨g, 0, none⟩) k cap] 25).alloc (.cells (List.toArray []) 32) (by simp)
      have B2 := ((below_box (.cells (List.toArray [.int .i64 f, .int .i64 t, .int .i64 n, .slice (some ⟨g, 0, none⟩) k1 cap]) 25) (Nat.le_refl w3.heap.size)).alloc (by simp) (.cells (List.toArray [.int .i64 f, .int .i64 t, .int .i64 n, .slice (some ⟨g, 0, none⟩) k cap]) 25)).alloc (by simp; omega) (.cells (List.toArray []) 32)
      have G2 := Lib.hid (((GA.out.below (below_box (.cells (List.toArray [.int .i64 f, .int .i64 t, .int .i64 n, .slice (some ⟨g, 0, none⟩) k1 cap]) 25) (Nat.le_refl _))).below (below_box (.cells (List.toArray [.int .i64 f, .int .i64 t, .int .i64 n, .slice (some ⟨g, 0, none⟩) k cap]) 25) (Nat.le_refl _))).below (below_box (.cells (List.toArray []) 32) (Nat.le_refl _)))
      have O2 := World.ownsRow_lit (base := w3.heap.size + 2) (e := 32) (size := 3) ((w3.alloc (.cells (List.toArray [.int .i64 f, .int .i64 t, .int .i64 n, .slice (some ⟨g, 0, none⟩) k1 cap]) 25)).alloc (.cells (List.toArray [.int .i64 f, .int .i64 t, .int .i64 n, .slice (some ⟨g, 0, none⟩) k cap]) 25)) #[] 0 (by simp) (by decide) rfl
      have HX2 := Lib.hid X2
      have HY2 := Lib.hid Y2
      have HB2 := Lib.hid B2
      have HO2 := Lib.hid O2
      clear X1 X2 Y2 B2 O2
      go_wp2_with (at_builtin; go_loud (refine wpList_append_lies _ rfl _ _ 23 rfl (w3.heap.size + 2) 32 i0 (.agg #[.int .i64 0, .int .i64 0, .string (ByteArray.mk #[])]) 3 32 Try.underlying23 HI.out.1 HI.out.2.1 HI.out.2.2.1 HI.out.2.2.2 rfl (by decide) (.slice (some ⟨w3.heap.size + 1 + 1, 0, none⟩) 0 0) 0 [] rfl (by simpa using HO2.out) ⟨g, 0, none⟩ k cap (flatC cs) rfl (by rw [flatC_length]; omega) (chs_flat G2.out) (flatC_one cs) (by omega) (by unfold maxLen; omega) (by omega) (by simp) _ rfl ?_))
      intro g2 cap2 w9 hown hgrow hat hlt9
      try simp only [Nat.zero_add, List.nil_append] at hown
      try simp only [Nat.zero_add]
      have HYP := Lib.hid (Yp.push (e := w3.heap.size + 1 + 1) HX2.out HY2.out HB2.out hgrow (by omega) hown)
      have Y9 := HY2.out.plus (g := w3.heap.size + 1 + 1) hgrow (by simp <;> omega) (by omega)
      have y3 := (Y9 3 _ rfl).1
      have z3 := (Y9 3 _ rfl).2
      clear Y9 HX2 HY2 HB2 HO2 G2 hown hgrow hat hlt9 dd0 dd1 dd2 dd3 de3 df3
      clear v0 vf0 v1 vf1 v2 vf2 v3 vf3
      go_wp2
      go_loopg [] (5 - k) (fun gk wr => ∃ (m g2 cap2 : Nat) (ds : List (Int × Int × ByteArray)), m + gk = 5 ∧ 1 ≤ m ∧ Hid (Yp f t n g k1 cap m g2 cap2 ds w3 wr))
      case atStart => exact ⟨k, g2, cap2, cs, by omega, by omega, HYP⟩
      case round =>
        obtain ⟨m, g2, cap2, ds, hmk, hm1, hyp⟩ := hrel
        clear HYP y3 z3
        have y3 := (hyp.out.yv 3 _ rfl).1
        have z3 := (hyp.out.yv 3 _ rfl).2
        by_cases hlt : m ≤ 4
        · have cond : (m : Int) ≤ 4 := by omega
          have SA := Lib.hid (hyp.out.up (below_box (.cells (List.toArray [.int .i64 0, .int .i64 0, .string (ByteArray.mk #[])]) 32) (Nat.le_refl _)))
          have y3' := past_b y3 (.cells (List.toArray [.int .i64 0, .int .i64 0, .string (ByteArray.mk #[])]) 32)
          go_wp2_with (at_builtin; go_loud (refine wpList_append_lies _ rfl _ _ 23 rfl (w3.heap.size + 2) 32 i0 (.agg #[.int .i64 0, .int .i64 0, .string (ByteArray.mk #[])]) 3 32 Try.underlying23 HI.out.1 HI.out.2.1 HI.out.2.2.1 HI.out.2.2.2 rfl (by decide) (.slice (some ⟨g2, 0, none⟩) m cap2) m (flatC ds) rfl SA.out.own ⟨wr.heap.size, 0, none⟩ 1 1 [.int .i64 0, .int .i64 0, .string (ByteArray.mk #[])] rfl rfl (news_box rfl) (by simp [Value.oneCell']) (by decide) (by unfold maxLen; omega) (by omega) (own_low SA.out.own) _ rfl ?_))
          intro g3 cap3 w9 hown hgrow hat hlt9
          have SP := Lib.hid (Yp.push (ds' := ds ++ [(0, 0, ByteArray.mk #[])]) (e := g2) SA.out.xv SA.out.yv SA.out.b hgrow (own_ge SA.out.own rfl) (by rw [flatC_append]; exact hown))
          have Y9 := SA.out.yv.plus (g := g2) hgrow (lt_of_cell (SA.out.yv 0 _ rfl).1) (by have : w3.heap.size + 2 ≤ g2 := own_ge SA.out.own rfl; omega)
          have q3 := (Y9 3 _ rfl).1
          have qz := (Y9 3 _ rfl).2
          clear Y9 hown hgrow hat hlt9 SA y3 z3 y3'
          go_wp2
          go_roundg (4 - m)
          case measure => omega
          case rel => exact ⟨m + 1, g3, cap3, _, by omega, by omega, SP⟩
        · obtain rfl : m = 5 := by omega
          have GV := Vv.out.below hyp.out.b ltv
          have v3 := (GV 3 _ rfl).1
          have hq : Yq g k1 cap g2 5 cap2 cs ds wr wr := ⟨chs_less (GA.out.below hyp.out.b) (by have := HKK.out; omega), own_chs hyp.out.own, Below.refl _ _⟩
          have hl5 := hq.gy.length
          have HPY := Lib.hid (packV_no (f := f) (t := t) (g := n) (cs := ds) fun q => by have := q.2.2.1; omega)
          have HQ := Lib.hid (keep9 (W := wr) ⟨(hyp.out.xv 0 _ rfl).1, (hyp.out.xv 1 _ rfl).1, (hyp.out.xv 2 _ rfl).1, (hyp.out.xv 3 _ rfl).1, (hyp.out.yv 0 _ rfl).1, (hyp.out.yv 1 _ rfl).1, (hyp.out.yv 2 _ rfl).1, y3, v3, hq⟩ (Below.drew (Below.refl _ _)))
          have HB9 := Lib.hid (HB3.out.trans (hyp.out.b.mono HB3.out.size))
          clear z3 hl5 hq GV
          by_cases h1k : (1 : Int) < k
          · have HPX := Lib.hid (show packV f t n (cs.take k1) = true by rw [HPL.out]; exact decide_eq_true h1k)
            have d1 : decide ((1 : Int) < (k : Int)) = true := decide_eq_true h1k
            have d2 : 1 < k := by omega
            clear HPL v3
            go_wp2_with fail
            go_region_held_law (fun W => W.cell? ⟨w3.heap.size, 0, none⟩ = some (.int .i64 f) ∧ W.cell? ⟨w3.heap.size, 1, none⟩ = some (.int .i64 t) ∧ W.cell? ⟨w3.heap.size, 2, none⟩ = some (.int .i64 n) ∧ W.cell? ⟨w3.heap.size, 3, none⟩ = some (.slice (some ⟨g, 0, none⟩) k1 cap) ∧ W.cell? ⟨w3.heap.size + 1, 0, none⟩ = some (.int .i64 f) ∧ W.cell? ⟨w3.heap.size + 1, 1, none⟩ = some (.int .i64 t) ∧ W.cell? ⟨w3.heap.size + 1, 2, none⟩ = some (.int .i64 n) ∧ W.cell? ⟨w3.heap.size + 1, 3, none⟩ = some (.slice (some ⟨g2, 0, none⟩) 5 cap2) ∧ W.cell? ⟨w1.heap.size, 3, none⟩ = some (.slice (some ⟨g, 0, none⟩) k cap) ∧ Yq g k1 cap g2 5 cap2 cs ds wr W)
              (first | with_reducible assumption | with_reducible exact HQ.out | exact keep9 (by assumption) (by assumption))
              (first | (go_simp; go_at_call_of 16 (Value.slice (some ⟨g, 0, none⟩) k1 cap); refine (packetValid_any f t n _ k1 cap (cs.take k1) _ (by go_split_ands; exact Yq.gx (by assumption))).mono ?_; rw [HPX.out]; rintro e wq ⟨rfl, hbq⟩) | (go_simp; go_at_call_of 16 (Value.slice (some ⟨g2, 0, none⟩) 5 cap2); refine (packetValid_any f t n _ 5 cap2 ds _ (by go_split_ands; exact Yq.gy (by assumption))).mono ?_; rw [HPY.out]; rintro e wq ⟨rfl, hbq⟩))
            all_goals
              go_split_ands
              rename_i hYq
              have HW := Lib.hid hYq.b
              clear hYq
              go_wp2
              go_ret
              exact ⟨rfl, HB9.out.trans (HW.out.mono HB9.out.size)⟩
          · have HPX := Lib.hid (show packV f t n (cs.take k1) = false by rw [HPL.out]; exact decide_eq_false h1k)
            have d1 : decide ((1 : Int) < (k : Int)) = false := decide_eq_false h1k
            have d2 : ¬ 1 < k := by omega
            clear HPL v3
            go_wp2_with fail
            go_region_held_law (fun W => W.cell? ⟨w3.heap.size, 0, none⟩ = some (.int .i64 f) ∧ W.cell? ⟨w3.heap.size, 1, none⟩ = some (.int .i64 t) ∧ W.cell? ⟨w3.heap.size, 2, none⟩ = some (.int .i64 n) ∧ W.cell? ⟨w3.heap.size, 3, none⟩ = some (.slice (some ⟨g, 0, none⟩) k1 cap) ∧ W.cell? ⟨w3.heap.size + 1, 0, none⟩ = some (.int .i64 f) ∧ W.cell? ⟨w3.heap.size + 1, 1, none⟩ = some (.int .i64 t) ∧ W.cell? ⟨w3.heap.size + 1, 2, none⟩ = some (.int .i64 n) ∧ W.cell? ⟨w3.heap.size + 1, 3, none⟩ = some (.slice (some ⟨g2, 0, none⟩) 5 cap2) ∧ W.cell? ⟨w1.heap.size, 3, none⟩ = some (.slice (some ⟨g, 0, none⟩) k cap) ∧ Yq g k1 cap g2 5 cap2 cs ds wr W)
              (first | with_reducible assumption | with_reducible exact HQ.out | exact keep9 (by assumption) (by assumption))
              (first | (go_simp; go_at_call_of 16 (Value.slice (some ⟨g, 0, none⟩) k1 cap); refine (packetValid_any f t n _ k1 cap (cs.take k1) _ (by go_split_ands; exact Yq.gx (by assumption))).mono ?_; rw [HPX.out]; rintro e wq ⟨rfl, hbq⟩) | (go_simp; go_at_call_of 16 (Value.slice (some ⟨g2, 0, none⟩) 5 cap2); refine (packetValid_any f t n _ 5 cap2 ds _ (by go_split_ands; exact Yq.gy (by assumption))).mono ?_; rw [HPY.out]; rintro e wq ⟨rfl, hbq⟩))
            all_goals
              go_split_ands
              rename_i hYq
              have HW := Lib.hid hYq.b
              clear hYq
              go_wp2
              go_ret
              exact ⟨rfl, HB9.out.trans (HW.out.mono HB9.out.size)⟩
    · have hc : packV f t n cs = false := by simpa using hc
      have HC := Lib.hid hc
      clear hc
      go_wp2_with fail
      refine (packetValid_any f t n _ k cap cs _ ((GA.out).below (below_box (.cells (List.toArray [.int .i64 f, .int .i64 t, .int .i64 n, .slice (some ⟨g, 0, none⟩) k cap]) 25) (Nat.le_refl _)))).mono ?_
      rw [HC.out]
      rintro e w2 ⟨rfl, hb2⟩
      have Vv := Lib.hid ((VarN.new_at (w := w1) (d := w1.heap.size) (by simp) [.int .i64 f, .int .i64 t, .int .i64 n, .slice (some ⟨g, 0, none⟩) k cap] 25).below hb2 (by simp))
      have HB2 := Lib.hid (((hb1).alloc (Nat.le_trans hb1.size (by exact Nat.le_refl _)) (.cells (List.toArray [.int .i64 f, .int .i64 t, .int .i64 n, .slice (some ⟨g, 0, none⟩) k cap]) 25)).trans (hb2.mono (Nat.le_trans hb1.size (by simp <;> omega))))
      have ltv : w1.heap.size < w2.heap.size := lt_of_cell (Vv.out 0 _ rfl).1
      have nev : ¬ w1.heap.size = w2.heap.size := by omega
      have GA := Lib.hid (((GA.out).below (below_box (.cells (List.toArray [.int .i64 f, .int .i64 t, .int .i64 n, .slice (some ⟨g, 0, none⟩) k cap]) 25) (Nat.le_refl _))).below hb2)
      clear hb2
      have v0 := (Vv.out 0 _ rfl).1
      have vf0 := (Vv.out 0 _ rfl).2
      have v1 := (Vv.out 1 _ rfl).1
      have vf1 := (Vv.out 1 _ rfl).2
      have v2 := (Vv.out 2 _ rfl).1
      have vf2 := (Vv.out 2 _ rfl).2
      have v3 := (Vv.out 3 _ rfl).1
      have vf3 := (Vv.out 3 _ rfl).2
      go_wp2_with fail
      refine (sPacketValid_any f t n _ k cap cs _ GA.out).mono ?_
      rw [HC.out]
      rintro e w3 ⟨rfl, hb3⟩
      clear v0 vf0 v1 vf1 v2 vf2 v3 vf3
      have Vv := Lib.hid ((Vv.out).below hb3 ltv)
      have HB3 := Lib.hid (HB2.out.trans (hb3.mono HB2.out.size))
      have ltv : w1.heap.size < w3.heap.size := lt_of_cell (Vv.out 0 _ rfl).1
      have nev : ¬ w1.heap.size = w3.heap.size := by omega
      have GA := Lib.hid ((GA.out).below hb3)
      clear hb3
      go_wp2
      go_ret
      exact ⟨rfl, HB3.out⟩

end Go.Proofs.Ytcpdpamoddmpaaa
