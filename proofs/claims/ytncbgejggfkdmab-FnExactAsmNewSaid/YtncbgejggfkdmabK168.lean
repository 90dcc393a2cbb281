/- The laws' exact helpers on assemblies: size, copy, equality. -/
import Derived.Test.YtncbgejggfkdmabK167
import Derived.Deep.DeepCutAuto
namespace Go.Proofs.Ytncbgejggfkdmab
open Go.RowKit Go.PlainAid

set_option maxHeartbeats 400000 in
theorem szIntS_b (a : Option Addr) (len cap : Nat) (w : World) (hm : len ≤ 9223372036854775807) :
    Calls Try.prog 61 #[.slice a len cap, .int .i64 1048576] w fun e w' => (∃ z : Int, e = .returned (.int .i64 z) ∧ (z = -1 ∨ (0 ≤ z ∧ z ≤ 1048576 ∧ len ≤ 1048576))) ∧ Below w.heap.size w w' := by
  have e : IntKind.i64.wrap (1048576 - (len : Int)) = 1048576 - (len : Int) := IntWalk.i64_in _ (by omega)
  by_cases h0 : 1048576 - (len : Int) < 0
  · go_enter Try.func61, Try.ntmps61
    go_wp2
    go_ret
    exact ⟨⟨-1, rfl, .inl rfl⟩, Below.refl _ _⟩
  · go_enter Try.func61, Try.ntmps61
    go_wp2
    go_ret
    exact ⟨⟨_, rfl, .inr ⟨by omega, by omega, by omega⟩⟩, Below.refl _ _⟩

set_option maxHeartbeats 1000000 in
theorem szAssembly_any (an : Option Addr) (ln cn : Nat) (es : List Int) (ap : Option Addr) (lp cp : Nat) (ps : List Part) (w : World) (h : Ns w an ln cn es) (hp : Pts w ap lp cp ps) (hz : ∀ p ∈ ps, p.text.size ≤ maxLen) :
    Calls Try.prog 28 #[.agg #[.slice an ln cn, .slice ap lp cp], .int .i64 1048576] w fun e w' => (∃ z : Int, e = .returned (.int .i64 z) ∧ (z = -1 ∨ (0 ≤ z ∧ ln ≤ 1048576 ∧ lp ≤ 1048576))) ∧ Below w.heap.size w w' := by
  have hm := h.len_int
  have B1 := Lib.hid (below_box (w := w) (.cells #[.slice an ln cn, .slice ap lp cp] 51) (Nat.le_refl _))
  have P1 := Lib.hid (hp.below B1.out)
  have V1 := Lib.hid (VarN.new w [.slice an ln cn, .slice ap lp cp] 51)
  clear h hp
  go_enter Try.func28, Try.ntmps28
  go_wp2_with fail
  refine (szIntS_b an ln cn _ hm).mono ?_
  rintro e w1 ⟨⟨z, rfl, hzz⟩, hb1⟩
  have v1 := ((V1.out.below hb1 (by simp)) 1 _ rfl).1
  have P2 := Lib.hid (P1.out.below hb1)
  have HB := Lib.hid (B1.out.trans (hb1.mono (by simp)))
  clear hb1
  rcases hzz with rfl | ⟨y0, y1, y2⟩
  · go_wp2
    go_ret
    exact ⟨⟨-1, rfl, .inl rfl⟩, HB.out⟩
  · have yn : ¬ z < 0 := by omega
    go_wp2_with fail
    refine (szDataS_any ap lp cp ps z _ y0 y1 P2.out hz).mono ?_
    rintro e w2 ⟨⟨z2, rfl, hz2⟩, hb2⟩
    have HB2 := Lib.hid (HB.out.trans (hb2.mono HB.out.size))
    clear hb2
    rcases hz2 with rfl | ⟨x0, x1⟩
    · go_wp2
      go_ret
      exact ⟨⟨-1, rfl, .inl rfl⟩, HB2.out⟩
    · have xn : ¬ z2 < 0 := by omega
      go_wp2
      go_ret
      exact ⟨⟨z2, rfl, .inr ⟨x0, y2, x1⟩⟩, HB2.out⟩

/-- An assembly of one's own: both rows may be written. -/
structure OwnA (R d n e m : Nat) (es : List Int) (ps : List Part) (W : World) : Prop where
  fn : FilN d n n es W
  rn : FreeN d W
  fp : FilP e m m ps W
  rp : FreeN e W
  ln : es.length = n
  lp : ps.length = m
  zn : d < W.heap.size
  zp : e < W.heap.size
  lo : R ≤ d ∧ R ≤ e
  ne : d ≠ e
  sn : n ≤ 1048576
  sp : m ≤ 1048576

set_option maxHeartbeats 1000000 in
theorem toAssembly_any (an : Option Addr) (ln cn : Nat) (es : List Int) (ap : Option Addr) (lp cp : Nat) (ps : List Part) (w : World) (h : Ns w an ln cn es) (hp : Pts w ap lp cp ps) (hn : ln ≤ 1048576) (hm : lp ≤ 1048576) :
    Calls Try.prog 29 #[.agg #[.slice an ln cn, .slice ap lp cp]] w fun e w' => (∃ d g, e = .returned (.agg #[.slice (some ⟨d, 0, none⟩) ln ln, .slice (some ⟨g, 0, none⟩) lp lp]) ∧ OwnA w.heap.size d ln g lp es ps w') ∧ Below w.heap.size w w' := by
  have hl := h.length
  have hpl := hp.length
  have B0 := Lib.hid (show Below w.heap.size w (((w.alloc (.cells #[.slice an ln cn, .slice ap lp cp] 51)).alloc (.cells #[.slice none 0 0, .slice none 0 0] 27)).alloc (.cells #[.slice none 0 0, .slice none 0 0] 27)) from ((below_box _ (Nat.le_refl _)).alloc (by simp) _).alloc (by first | (simp; done) | (simp; omega)) _)
  have V0 := Lib.hid (show VarN w.heap.size [.slice an ln cn, .slice ap lp cp] (((w.alloc (.cells #[.slice an ln cn, .slice ap lp cp] 51)).alloc (.cells #[.slice none 0 0, .slice none 0 0] 27)).alloc (.cells #[.slice none 0 0, .slice none 0 0] 27)) from ((VarN.new w _ _).alloc _ (by simp)).alloc _ (by first | (simp; done) | (simp; omega)))
  have R0 := Lib.hid (show VarN (w.heap.size + 1) [.slice none 0 0, .slice none 0 0] (((w.alloc (.cells #[.slice an ln cn, .slice ap lp cp] 51)).alloc (.cells #[.slice none 0 0, .slice none 0 0] 27)).alloc (.cells #[.slice none 0 0, .slice none 0 0] 27)) from (VarN.new_at (by simp) _ _).alloc _ (by first | (simp; done) | (simp; omega)))
  have O0 := Lib.hid (show VarN (w.heap.size + 2) [.slice none 0 0, .slice none 0 0] (((w.alloc (.cells #[.slice an ln cn, .slice ap lp cp] 51)).alloc (.cells #[.slice none 0 0, .slice none 0 0] 27)).alloc (.cells #[.slice none 0 0, .slice none 0 0] 27)) from VarN.new_at (by simp) _ _)
  have Z0 := Lib.hid (show w.heap.size + 3 ≤ (((w.alloc (.cells #[.slice an ln cn, .slice ap lp cp] 51)).alloc (.cells #[.slice none 0 0, .slice none 0 0] 27)).alloc (.cells #[.slice none 0 0, .slice none 0 0] 27)).heap.size by simp)
  have HN := Lib.hid h
  have HP := Lib.hid hp
  have HL := Lib.hid (And.intro hl hpl)
  clear h hp hl hpl
  go_enter Try.func29, Try.ntmps29
  go_upto_region 2 with fail
  generalize (((w.alloc (.cells #[.slice an ln cn, .slice ap lp cp] 51)).alloc (.cells #[.slice none 0 0, .slice none 0 0] 27)).alloc (.cells #[.slice none 0 0, .slice none 0 0] 27)) = w3 at *
  have z3 := Z0.out
  have v0 := (V0.out 0 _ rfl).1
  go_wp2_with fail
  refine (toIntS_any an ln cn es _ (HN.out.below B0.out) hn).mono ?_
  rintro e w4 ⟨⟨d, rfl, hd, hF, hfr, hdl⟩, hb4⟩
  have hd3 : w.heap.size + 3 ≤ d := Nat.le_trans z3 hd
  have V4 := V0.out.below hb4 (by omega)
  have R4 := R0.out.below hb4 (by omega)
  have O4 := O0.out.below hb4 (by omega)
  have B4 := B0.out.trans (hb4.mono (by omega))
  have V5 := Lib.hid (V4.far (i := 0) (.slice (some ⟨d, 0, none⟩) ln ln) (show w.heap.size + 2 ≠ w.heap.size by omega))
  have R5 := Lib.hid (R4.far (i := 0) (.slice (some ⟨d, 0, none⟩) ln ln) (show w.heap.size + 2 ≠ w.heap.size + 1 by omega))
  have O5 := Lib.hid (O4.set (i := 0) (.slice (some ⟨d, 0, none⟩) ln ln))
  have B5 := Lib.hid (B4.setCell (p := ⟨w.heap.size + 2, 0, none⟩) (by show w.heap.size ≤ w.heap.size + 2; omega) (.slice (some ⟨d, 0, none⟩) ln ln))
  have F5 := Lib.hid (And.intro (hF.far (e := w.heap.size + 2) (i := 0) (by omega) (.slice (some ⟨d, 0, none⟩) ln ln)) (hfr.set (e := w.heap.size + 2) (i := 0) (.slice (some ⟨d, 0, none⟩) ln ln)))
  have Z5 := Lib.hid (show d < (w4.setCell ⟨w.heap.size + 2, 0, none⟩ (.slice (some ⟨d, 0, none⟩) ln ln)).heap.size by simpa using hdl)
  have o0 := (O4 0 _ rfl).1
  have o0f := (O4 0 _ rfl).2
  clear V4 R4 O4 B4 hF hfr hb4 v0 V0 R0 O0 B0
  go_upto_region 3 with fail
  generalize (w4.setCell ⟨w.heap.size + 2, 0, none⟩ (.slice (some ⟨d, 0, none⟩) ln ln)) = w5 at *
  have z5 := Z5.out
  clear o0 o0f
  have v1 := (V5.out 1 _ rfl).1
  go_wp2_with fail
  refine (toDataS_any ap lp cp ps _ (HP.out.below B5.out) hm).mono ?_
  rintro e w6 ⟨⟨g, rfl, hg, hG, hgr, hgl⟩, hb6⟩
  have R6 := R5.out.below hb6 (by omega)
  have O6 := O5.out.below hb6 (by omega)
  have B6 := B5.out.trans (hb6.mono (by omega))
  have F6 := F5.out.1.below hb6
  have G6 : FreeN d w6 := fun j => (hb6.frozen (p := ⟨d, j, none⟩) z5).trans (F5.out.2 j)
  have o0 := (O6 0 _ rfl).1
  have o1 := (O6 1 _ rfl).1
  have o1f := (O6 1 _ rfl).2
  have r0 := (R6 0 _ rfl).1
  have r1 := (R6 1 _ rfl).1
  have r0f := (R6 0 _ rfl).2
  have r1f := (R6 1 _ rfl).2
  have A := Lib.hid (show OwnA w.heap.size d ln g lp es ps (((w6.setCell ⟨w.heap.size + 2, 1, none⟩ (.slice (some ⟨g, 0, none⟩) lp lp)).setCell ⟨w.heap.size + 1, 0, none⟩ (.slice (some ⟨d, 0, none⟩) ln ln)).setCell ⟨w.heap.size + 1, 1, none⟩ (.slice (some ⟨g, 0, none⟩) lp lp)) from
    ⟨((F6.far (by omega) _).far (by omega) _).far (by omega) _, ((G6.set _).set _).set _, ((hG.far (by omega) _).far (by omega) _).far (by omega) _, ((hgr.set _).set _).set _, HL.out.1, HL.out.2, by have := hb6.size; simp; omega, by simp; omega, ⟨by omega, by omega⟩, by omega, hn, hm⟩)
  have B7 := Lib.hid (((B6.setCell (p := ⟨w.heap.size + 2, 1, none⟩) (by show w.heap.size ≤ w.heap.size + 2; omega) (.slice (some ⟨g, 0, none⟩) lp lp)).setCell (p := ⟨w.heap.size + 1, 0, none⟩) (by show w.heap.size ≤ w.heap.size + 1; omega) (.slice (some ⟨d, 0, none⟩) ln ln)).setCell (p := ⟨w.heap.size + 1, 1, none⟩) (by show w.heap.size ≤ w.heap.size + 1; omega) (.slice (some ⟨g, 0, none⟩) lp lp))
  clear F6 G6 hG hgr B6 O6 R6 hb6 V5 R5 O5 B5 F5 Z5 v1
  go_wp2
  refine bodyPost_ret (v := .agg #[.slice (some ⟨d, 0, none⟩) ln ln, .slice (some ⟨g, 0, none⟩) lp lp]) ?_ rfl ?_
  · simp [results, Try.results29, go_sem, r0, r1]
  · exact ⟨⟨d, g, rfl, A.out⟩, B7.out⟩

set_option maxHeartbeats 1000000 in
theorem eqAssembly_same (an ap bn bp : Option Addr) (n c1 c2 l c3 c4 : Nat) (es : List Int) (ps : List Part) (w : World) (h1 : Ns w an n c1 es) (h2 : Ns w bn n c2 es) (h3 : Pts w ap l c3 ps) (h4 : Pts w bp l c4 ps) :
    Calls Try.prog 25 #[.agg #[.slice an n c1, .slice ap l c3], .agg #[.slice bn n c2, .slice bp l c4]] w fun e w' => e = .returned (.bool true) ∧ Below w.heap.size w w' := by
  have B2 := Lib.hid (show Below w.heap.size w ((w.alloc (.cells #[.slice an n c1, .slice ap l c3] 27)).alloc (.cells #[.slice bn n c2, .slice bp l c4] 27)) from (below_box _ (Nat.le_refl _)).alloc (by simp) _)
  have N1 := Lib.hid (h1.below B2.out)
  have N2 := Lib.hid (h2.below B2.out)
  have P1 := Lib.hid (h3.below B2.out)
  have P2 := Lib.hid (h4.below B2.out)
  have VA := Lib.hid ((VarN.new w [.slice an n c1, .slice ap l c3] 27).alloc (.cells #[.slice bn n c2, .slice bp l c4] 27) (by simp))
  have VB := Lib.hid (VarN.new_at (w := w.alloc (.cells #[.slice an n c1, .slice ap l c3] 27)) (d := w.heap.size + 1) (by simp) [.slice bn n c2, .slice bp l c4] 27)
  clear h1 h2 h3 h4
  go_enter Try.func25, Try.ntmps25
  go_wp2_with fail
  refine (eqIntS_same an bn n c1 c2 es _ N1.out N2.out).mono ?_
  rintro e w1 ⟨rfl, hb1⟩
  have a1 := ((VA.out.below hb1 (by simp; omega)) 1 _ rfl).1
  have b1 := ((VB.out.below hb1 (by simp)) 1 _ rfl).1
  have Q1 := Lib.hid (P1.out.below hb1)
  have Q2 := Lib.hid (P2.out.below hb1)
  have B3 := Lib.hid (B2.out.trans (hb1.mono B2.out.size))
  clear hb1
  go_wp2_with fail
  refine (eqDataS_same ap bp l c3 c4 ps _ Q1.out Q2.out).mono ?_
  rintro e w2 ⟨rfl, hb2⟩
  have B4 := Lib.hid (B3.out.trans (hb2.mono B3.out.size))
  clear hb2
  go_wp2
  go_ret
  exact ⟨rfl, B4.out⟩

end Go.Proofs.Ytncbgejggfkdmab
