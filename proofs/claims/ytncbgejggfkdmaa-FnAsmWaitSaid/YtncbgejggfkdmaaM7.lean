/- Texts that a proof needs, merged: K164, G27, K171, K94, K166, W93, K172, K185. -/
import Derived.Test.YtncbgejggfkdmaaM6
import Derived.Laws.StructEq
import Derived.Handy

/- The contract of chapter 22's model: a part is taken. -/
namespace Go.Proofs.Ytncbgejggfkdmaa
open Go.RowKit Go.PlainAid

theorem ans_zero_lit {next : List Int} {ps : List Part} {d : Part} {w W : World} (h : ¬ addsTo next ps d) (hb : Below w.heap.size w W) : AddAns next ps d w (.returned (ansV none 0 0 none 0 0 (some ⟨W.heap.size, 0, none⟩) 0 0 3)) (W.alloc (.cells #[] 45)) := by
  obtain ⟨e1, e2⟩ := ansR_no h
  refine ⟨none, 0, 0, none, 0, 0, _, 0, 0, by rw [e2], ?_, hb.alloc hb.size _⟩
  rw [e1]
  exact ⟨World.ownsRow_nil _ _ _ _, World.ownsRow_nil _ _ _ _, World.ownsRow_lit (base := w.heap.size) (e := 45) (size := 4) W #[] 0 hb.size (by decide) rfl⟩

/-- While a part is added: the assembly in work at D, its numbers at g3, its parts at g7. -/
structure Aq (w : World) (an : Option Addr) (ln cn : Nat) (ap : Option Addr) (lp cp : Nat) (p : Part) (R D g3 c3 g7 n7 c7 : Nat) (next1 : List Int) (ps1 : List Part) (W : World) : Prop where
  ab : Ab w an ln cn ap lp cp p W
  dv : W.heap[D]? = some (.cells #[.slice (some ⟨g3, 0, none⟩) ln c3, .slice (some ⟨g7, 0, none⟩) n7 c7] 26 (0, 0))
  nr : W.ownsRow R 3 1 (.slice (some ⟨g3, 0, none⟩) ln c3) ln (flatN next1)
  pr : W.ownsRow R 28 7 (.slice (some ⟨g7, 0, none⟩) n7 c7) n7 (flatP ps1)
  lo : R ≤ D
  hi : w.heap.size + 3 ≤ R
theorem var_of_heap {D e : Nat} {vs : List Value} {W : World} (h : W.heap[D]? = some (.cells vs.toArray e (0, 0))) : VarN D vs W := fun i v hi => ⟨(Lib.cell_of_heap h i).trans (by simpa using hi), Lib.frozen_of_heap h i⟩
section
variable {w W W' : World} {an : Option Addr} {ln cn : Nat} {ap : Option Addr} {lp cp : Nat} {p : Part} {R D g3 c3 g7 n7 c7 : Nat} {next1 : List Int} {ps1 : List Part}
theorem Aq.var (h : Aq w an ln cn ap lp cp p R D g3 c3 g7 n7 c7 next1 ps1 W) : VarN D [.slice (some ⟨g3, 0, none⟩) ln c3, .slice (some ⟨g7, 0, none⟩) n7 c7] W := var_of_heap h.dv
theorem Aq.zD (h : Aq w an ln cn ap lp cp p R D g3 c3 g7 n7 c7 next1 ps1 W) : D < W.heap.size := (Array.getElem?_eq_some_iff.1 h.dv).1
theorem Aq.step (h : Aq w an ln cn ap lp cp p R D g3 c3 g7 n7 c7 next1 ps1 W) (hb : Below W.heap.size W W') : Aq w an ln cn ap lp cp p R D g3 c3 g7 n7 c7 next1 ps1 W' :=
  ⟨h.ab.step (hb.mono h.ab.z), (hb.block D h.zD).trans h.dv, rowBelow h.nr hb (rowLt h.nr), rowBelow h.pr hb (rowLt h.pr), h.lo, h.hi⟩
/-- Another kind of row has grown. -/
theorem Aq.grow {r e : Nat} {c : Array Value} (h : Aq w an ln cn ap lp cp p R D g3 c3 g7 n7 c7 next1 ps1 W) (hg : W.grownBy W' (some r)) (hr : R ≤ r) (hk : W.heap[r]? = some (.cells c e (0, 0))) (n1 : 3 ≠ e) (n2 : 28 ≠ e) (n3 : 26 ≠ e) : Aq w an ln cn ap lp cp p R D g3 c3 g7 n7 c7 next1 ps1 W' :=
  ⟨h.ab.step (Below.grown (Below.refl _ _) hg h.ab.z fun x hx => by cases hx; exact Nat.le_trans h.hi hr), (hg.block D h.zD fun hh => kind_ne h.dv hk n3 (by simpa using hh)).trans h.dv, keepRow h.nr hg hk n1, keepRow h.pr hg hk n2, h.lo, h.hi⟩
/-- A part has been appended. -/
theorem Aq.push {g8 c8 : Nat} {d : Part} (h : Aq w an ln cn ap lp cp p R D g3 c3 g7 n7 c7 next1 ps1 W) (hg : W.grownBy W' (some g7)) (hown : W'.ownsRow R 28 7 (.slice (some ⟨g8, 0, none⟩) (n7 + 1) c8) (n7 + 1) (flatP ps1 ++ cellsP d)) :
    VarN D [.slice (some ⟨g3, 0, none⟩) ln c3, .slice (some ⟨g7, 0, none⟩) n7 c7] W' ∧ Aq w an ln cn ap lp cp p R D g3 c3 g8 (n7 + 1) c8 next1 (ps1 ++ [d]) (W'.setCell ⟨D, 1, none⟩ (.slice (some ⟨g8, 0, none⟩) (n7 + 1) c8)) := by
  obtain ⟨ce, hke⟩ := rowKind h.pr
  have hd : W'.heap[D]? = some (.cells #[.slice (some ⟨g3, 0, none⟩) ln c3, .slice (some ⟨g7, 0, none⟩) n7 c7] 26 (0, 0)) := (hg.block D h.zD fun hh => kind_ne h.dv hke (by decide) (by simpa using hh)).trans h.dv
  have hn := keepRow h.nr hg hke (by decide)
  obtain ⟨cn1, hk1⟩ := rowKind hn
  obtain ⟨cn2, hk2⟩ := rowKind hown
  have e : flatP ps1 ++ cellsP d = flatP (ps1 ++ [d]) := by rw [flatP_append]; simp [flatP]
  have hge := own_ge h.pr rfl
  refine ⟨var_of_heap hd, (h.ab.step (Below.grown (Below.refl _ _) hg h.ab.z fun x hx => by cases hx; exact Nat.le_trans h.hi hge)).step ((Below.refl _ _).setCell (p := ⟨D, 1, none⟩) (by show _ ≤ D; exact Nat.le_trans h.hi h.lo) _), heap_setCell_same _ D 1 _ _ _ hd, rowFar hn (kind_ne hk1 hd (by decide)) _, rowFar (by rw [← e]; exact hown) (kind_ne hk2 hd (by decide)) _, h.lo, h.hi⟩
/-- Another assembly is stored. -/
theorem Aq.next {g5 c5 g8 n8 c8 : Nat} {next2 : List Int} {ps2 : List Part} (h : Aq w an ln cn ap lp cp p R D g3 c3 g7 n7 c7 next1 ps1 W) (h1 : W.ownsRow R 3 1 (.slice (some ⟨g5, 0, none⟩) ln c5) ln (flatN next2)) (h2 : W.ownsRow R 28 7 (.slice (some ⟨g8, 0, none⟩) n8 c8) n8 (flatP ps2)) :
    Aq w an ln cn ap lp cp p R D g5 c5 g8 n8 c8 next2 ps2 ((W.setCell ⟨D, 0, none⟩ (.slice (some ⟨g5, 0, none⟩) ln c5)).setCell ⟨D, 1, none⟩ (.slice (some ⟨g8, 0, none⟩) n8 c8)) := by
  obtain ⟨cn1, hk1⟩ := rowKind h1
  obtain ⟨cn2, hk2⟩ := rowKind h2
  have m1 := kind_ne hk1 h.dv (by decide)
  have m2 := kind_ne hk2 h.dv (by decide)
  have hlo : w.heap.size + 3 ≤ D := Nat.le_trans h.hi h.lo
  exact ⟨h.ab.step (((Below.refl _ _).setCell (p := ⟨D, 0, none⟩) hlo _).setCell (p := ⟨D, 1, none⟩) hlo _), box_set h.dv _ _, rowFar (rowFar h1 m1 _) m1 _, rowFar (rowFar h2 m2 _) m2 _, h.lo, h.hi⟩
/-- The answer. -/
theorem Aq.done {next : List Int} {ps : List Part} {ms1 : List Msg} {a3 : Option Addr} {n3 cap3 : Nat} {code : Int} (h : Aq w an ln cn ap lp cp p R D g3 c3 g7 n7 c7 next1 ps1 W) (hr : ansR next ps p = ⟨next1, ps1, ms1⟩) (hc : ansC next ps p = code) (ho : W.ownsRow R 45 4 (.slice a3 n3 cap3) n3 (flatM ms1)) (u v : Value) :
    AddAns next ps p w (.returned (ansV (some ⟨g3, 0, none⟩) ln c3 (some ⟨g7, 0, none⟩) n7 c7 a3 n3 cap3 code)) ((W.setCell ⟨w.heap.size + 2, 0, none⟩ u).setCell ⟨w.heap.size + 2, 1, none⟩ v) := by
  have hl := h.hi
  refine ⟨_, _, _, _, _, _, _, _, _, by rw [hc], ?_, (h.ab.b.setCell (p := ⟨w.heap.size + 2, 0, none⟩) (by show w.heap.size ≤ w.heap.size + 2; omega) _).setCell (p := ⟨w.heap.size + 2, 1, none⟩) (by show w.heap.size ≤ w.heap.size + 2; omega) _⟩
  rw [hr]
  exact ⟨row_low (far_row (far_row h.nr (by omega) _) (by omega) _) (by omega), row_low (far_row (far_row h.pr (by omega) _) (by omega) _) (by omega), row_low (far_row (far_row ho (by omega) _) (by omega) _) (by omega)⟩
theorem Aq.done0 {next : List Int} {ps : List Part} {code : Int} (h : Aq w an ln cn ap lp cp p R D g3 c3 g7 n7 c7 next1 ps1 W) (hr : ansR next ps p = ⟨next1, ps1, []⟩) (hc : ansC next ps p = code) (u v : Value) :
    AddAns next ps p w (.returned (ansV (some ⟨g3, 0, none⟩) ln c3 (some ⟨g7, 0, none⟩) n7 c7 (some ⟨W.heap.size, 0, none⟩) 0 0 code)) (((W.setCell ⟨w.heap.size + 2, 0, none⟩ u).setCell ⟨w.heap.size + 2, 1, none⟩ v).alloc (.cells #[] 45)) := by
  have hl := h.hi
  have hb := (h.ab.b.setCell (p := ⟨w.heap.size + 2, 0, none⟩) (by show w.heap.size ≤ w.heap.size + 2; omega) u).setCell (p := ⟨w.heap.size + 2, 1, none⟩) (by show w.heap.size ≤ w.heap.size + 2; omega) v
  refine ⟨_, _, _, _, _, _, _, _, _, by rw [hc], ?_, hb.alloc hb.size _⟩
  rw [hr]
  have o3 := World.ownsRow_lit (base := w.heap.size) (e := 45) (size := 4) ((W.setCell ⟨w.heap.size + 2, 0, none⟩ u).setCell ⟨w.heap.size + 2, 1, none⟩ v) #[] 0 hb.size (by decide) rfl
  exact ⟨row_low ((far_row (far_row h.nr (by omega) _) (by omega) _).alloc _) (by omega), row_low ((far_row (far_row h.pr (by omega) _) (by omega) _).alloc _) (by omega), by simpa [flatM] using o3⟩
end

theorem raw_of {b : Act} {k : Nat} {v : Value} (h : valsOf b k = v) : b.tmps[k]?.getD undef = v := by simpa [valsOf, Act.eval] using h

set_option maxRecDepth 8000 in
set_option maxHeartbeats 20000000 in
theorem sAsmAdd_any (an : Option Addr) (ln cn : Nat) (next : List Int) (ap : Option Addr) (lp cp : Nat) (ps : List Part) (d : Part) (w : World) (h : Ns w an ln cn next) (hp : Pts w ap lp cp ps) :
    Calls Try.prog 15 #[.agg #[.slice an ln cn, .slice ap lp cp], partV d] w (AddAns next ps d w) := by
  obtain ⟨t, s, q, fi, la, lo, tx⟩ := d
  have A0 := Lib.hid (Ab.start (w := w) (an := an) (ln := ln) (cn := cn) (ap := ap) (lp := lp) (cp := cp) (p := ⟨t, s, q, fi, la, lo, tx⟩))
  have SV := sAsmValid_any an ln cn next ap lp cp ps _ (h.below A0.out.b) (hp.below A0.out.b)
  have LN := Lib.hid h.length
  have LP := Lib.hid hp.length
  have HN := Lib.hid h
  have HP := Lib.hid hp
  have PE := partV_eq t s q fi la lo tx
  rw [PE]
  clear h hp PE
  go_enter Try.func15, Try.ntmps15
  go_wp2_with fail
  refine SV.mono ?_
  rintro e w1 ⟨rfl, hb1⟩
  have A1 := Lib.hid (A0.out.step (hb1.mono (by have := A0.out.z; exact this)))
  clear A0 hb1 SV
  by_cases hok : AsmOk next ps
  · have OK := Lib.hid hok
    have AV := Lib.hid (asmV_yes hok)
    have d0 := (A1.out.d 0 _ rfl).1
    have d1 := (A1.out.d 1 _ rfl).1
    have d2 := (A1.out.d 2 _ rfl).1
    have d3 := (A1.out.d 3 _ rfl).1
    have d4 := (A1.out.d 4 _ rfl).1
    have d5 := (A1.out.d 5 _ rfl).1
    have d6 := (A1.out.d 6 _ rfl).1
    dsimp only at d0 d1 d2 d3 d4 d5 d6
    rw [AV.out]
    clear hok AV
    go_wp2_with fail
    refine (l12Data_any t s q fi la lo tx _).mono ?_
    rintro e w2 ⟨rfl, hb2⟩
    have A1 := Lib.hid (A1.out.step (hb2.mono A1.out.z))
    clear hb2 d0 d1 d2 d3 d4 d5 d6
    by_cases hd : DataOk t s q tx
    · have DV := Lib.hid (dataOkV_yes hd)
      have HD := Lib.hid hd
      rw [DV.out]
      have f1 := (A1.out.d 1 _ rfl).1
      have a0 := (A1.out.a 0 _ rfl).1
      dsimp only at f1
      clear hd DV
      by_cases hst : s < (ln : Int)
      · have AT := Lib.hid (show addsTo next ps ⟨t, s, q, fi, la, lo, tx⟩ from ⟨OK.out, HD.out, by rw [LN.out]; exact hst⟩)
        have hst2 : decide ((ln : Int) ≤ s) = false := decide_eq_false (by omega)
        have HNx := Lib.hid (HN.out.below A1.out.b)
        have HPx := Lib.hid (HP.out.below A1.out.b)
        have hl4 : ln ≤ 4 := by have := OK.out.n4; rw [LN.out] at this; exact this
        have hlp12 : lp ≤ 12 := by have := OK.out.few; rw [LP.out] at this; exact this
        have hln1 : 1 ≤ ln := by have := OK.out.n1; rw [LN.out] at this; exact this
        have a1 := (A1.out.a 1 _ rfl).1
        have zz := A1.out.z
        go_upto_region 3 with fail
        refine region_vals [30, 31, 32, 33, 34, 35, 36, 37, 38, 7] (n := 11) (Cq w2.heap.size w.heap.size an ln cn next ap lp cp ps w2) (by kernel_rfl) (by rfl) (by kernel_rfl) (fun k hk => Nat.lt_of_lt_of_le ((by decide : ∀ k ∈ [30, 31, 32, 33, 34, 35, 36, 37, 38, 7], k < 40) k hk) (by simp)) ?_ ?_ ?_
        · exact ⟨rfl, Below.drew (Below.refl _ _), (fun h => by cases h), (fun h => by cases h), (fun h => by cases h), (fun h => by cases h), (fun h => by cases h), (fun h => by cases h), (fun h => by cases h), (fun h => by cases h), (fun h => by cases h), (fun h => by cases h), (fun h => by cases h), (fun h => by cases h), (fun h => by cases h), (fun h => by cases h)⟩
        · intro i l b W hi hl hd hs hI
          have x2 : b.tmps[2]?.getD undef = .pointer (some ⟨w.heap.size, 0, none⟩) := raw_of (hI.v2)
          match i, hi with
          | 0, _ =>
            have hBW : w2.heap.size ≤ W.heap.size := hI.b.size
            have hN := hI.new (.cells #[] 3)
            refine wpOp_plain (by rfl) (by rfl) (Oper.wp_mono (K := fun b' w' => b' = b.put (some 30) (.slice (some ⟨W.heap.size, 0, none⟩) 0 0) ∧ w' = W.alloc (.cells #[] 3)) ?_ ?_)
            · rintro b' w' ⟨rfl, rfl⟩
              refine ⟨.inr ⟨30, by decide, _, rfl⟩, ?_⟩
              rw [vals_put (hs 30 (by decide))]
              exact ⟨hN.v2, hN.b, (fun _ _ => ⟨W.heap.size, rfl, World.ownsRow_lit (base := w2.heap.size) (e := 3) (size := 1) W #[] 0 hBW (by decide) rfl⟩), hN.p1, hN.p2, hN.p3, hN.p4, hN.p5, hN.p6, hN.p7, hN.p8, hN.p10, hN.p9, hN.q8, hN.r8, hN.q10⟩
            · clear hI hd hs
              go_simp
          | 1, _ =>
            refine wpOp_plain (by rfl) (by rfl) (Oper.wp_mono (K := fun b' w' => b' = b.put (some 31) (.pointer (some ⟨w.heap.size, 0, none⟩)) ∧ w' = W) ?_ ?_)
            · rintro b' w' ⟨rfl, rfl⟩
              refine ⟨.inr ⟨31, by decide, _, rfl⟩, ?_⟩
              rw [vals_put (hs 31 (by decide))]
              exact ⟨hI.v2, hI.b, hI.p0, (fun _ => rfl), hI.p2, hI.p3, hI.p4, hI.p5, hI.p6, hI.p7, hI.p8, hI.p10, hI.p9, hI.q8, hI.r8, hI.q10⟩
            · clear hI hd hs
              go_simp
          | 2, _ =>
            have hdd := hd _ rfl
            simp [Region.binds] at hdd
            have x31 : b.tmps[31]?.getD undef = .pointer (some ⟨w.heap.size, 0, none⟩) := raw_of (hI.p1 hdd)
            have ca := (hI.b.cell (World.block_lt_of_cell? w2 _ a0)).trans a0
            refine wpOp_plain (by rfl) (by rfl) (Oper.wp_mono (K := fun b' w' => b' = b.put (some 32) (.slice an ln cn) ∧ w' = W) ?_ ?_)
            · rintro b' w' ⟨rfl, rfl⟩
              refine ⟨.inr ⟨32, by decide, _, rfl⟩, ?_⟩
              rw [vals_put (hs 32 (by decide))]
              exact ⟨hI.v2, hI.b, hI.p0, hI.p1, (fun _ => rfl), hI.p3, hI.p4, hI.p5, hI.p6, hI.p7, hI.p8, hI.p10, hI.p9, hI.q8, hI.r8, hI.q10⟩
            · clear hI hd hs
              go_simp
          | 3, _ =>
            have hdd := hd _ rfl
            simp [Region.binds] at hdd
            obtain ⟨e, e1, e2⟩ := hI.p0 hdd.1 hl
            have x30 : b.eval (.tmp 30) = .slice (some ⟨e, 0, none⟩) 0 0 := e1
            have x32 : b.eval (.tmp 32) = .slice an ln cn := hI.p2 hdd.2
            obtain ⟨ya, hya⟩ := HNx.out.addr (k := 0) (by omega)
            have HW := HNx.out.below hI.b
            rw [hya] at x32 HW
            refine wpOp_plain (by rfl) (by rfl) (wp_catN _ _ rfl w2.heap.size 0 ln ln cn e 0 ya [] next (Nat.zero_add _) x30 e2 x32 LN.out (ns_flat HW) (by omega) hI.b.size ?_)
            intro g3 cap3 w' hown hgrow _
            refine ⟨.inr ⟨33, by decide, _, rfl⟩, ?_⟩
            refine Eq.mpr (congrArg (fun V => Cq w2.heap.size w.heap.size an ln cn next ap lp cp ps w2 (more l 3) V w') (vals_put (hs 33 (by decide)) _)) ?_
            obtain ⟨ce, hke⟩ := rowKind e2
            have hge := own_ge e2 rfl
            refine ⟨hI.v2, Below.grown hI.b hgrow hI.b.size (fun r hr => by cases hr; exact hge), (fun _ hb => by cases hb), hI.p1, hI.p2, (fun _ => ⟨g3, cap3, rfl, hown⟩), (fun a4 b4 => ?_), hI.p5, hI.p6, (fun a7 => ?_), (fun a8 => ?_), hI.p10, (fun a9 => ?_), (fun _ => rfl), hI.r8, hI.q10⟩
            · obtain ⟨e4, f1, f2⟩ := hI.p4 a4 b4
              exact ⟨e4, f1, keepRow f2 hgrow hke (by decide)⟩
            · obtain ⟨g7, c7, f1, f2⟩ := hI.p7 a7
              exact ⟨g7, c7, f1, keepRow f2 hgrow hke (by decide)⟩
            · have h3 : l 3 = true := hI.q8 a8
              rw [hl] at h3
              cases h3
            · obtain ⟨D, u, v, f1, f2, f3, f4⟩ := hI.p9 a9
              refine ⟨D, u, v, f1, f2, by rw [hgrow.block D (Array.getElem?_eq_some_iff.1 f3).1 (fun h => kind_ne f3 hke (by decide) (by simpa using h))]; exact f3, fun a10 => ?_⟩
              have h3 : l 3 = true := hI.q8 (hI.q10 a10)
              rw [hl] at h3
              cases h3
          | 4, _ =>
            have hBW : w2.heap.size ≤ W.heap.size := hI.b.size
            have hN := hI.new (.cells #[] 28)
            refine wpOp_plain (by rfl) (by rfl) (Oper.wp_mono (K := fun b' w' => b' = b.put (some 34) (.slice (some ⟨W.heap.size, 0, none⟩) 0 0) ∧ w' = W.alloc (.cells #[] 28)) ?_ ?_)
            · rintro b' w' ⟨rfl, rfl⟩
              refine ⟨.inr ⟨34, by decide, _, rfl⟩, ?_⟩
              rw [vals_put (hs 34 (by decide))]
              exact ⟨hN.v2, hN.b, hN.p0, hN.p1, hN.p2, hN.p3, (fun _ _ => ⟨W.heap.size, rfl, World.ownsRow_lit (base := w2.heap.size) (e := 28) (size := 7) W #[] 0 hBW (by decide) rfl⟩), hN.p5, hN.p6, hN.p7, hN.p8, hN.p10, hN.p9, hN.q8, hN.r8, hN.q10⟩
            · clear hI hd hs
              go_simp
          | 5, _ =>
            refine wpOp_plain (by rfl) (by rfl) (Oper.wp_mono (K := fun b' w' => b' = b.put (some 35) (.pointer (some ⟨w.heap.size, 1, none⟩)) ∧ w' = W) ?_ ?_)
            · rintro b' w' ⟨rfl, rfl⟩
              refine ⟨.inr ⟨35, by decide, _, rfl⟩, ?_⟩
              rw [vals_put (hs 35 (by decide))]
              exact ⟨hI.v2, hI.b, hI.p0, hI.p1, hI.p2, hI.p3, hI.p4, (fun _ => rfl), hI.p6, hI.p7, hI.p8, hI.p10, hI.p9, hI.q8, hI.r8, hI.q10⟩
            · clear hI hd hs
              go_simp
          | 6, _ =>
            have hdd := hd _ rfl
            simp [Region.binds] at hdd
            have x35 : b.tmps[35]?.getD undef = .pointer (some ⟨w.heap.size, 1, none⟩) := raw_of (hI.p5 hdd)
            have ca := (hI.b.cell (World.block_lt_of_cell? w2 _ a1)).trans a1
            refine wpOp_plain (by rfl) (by rfl) (Oper.wp_mono (K := fun b' w' => b' = b.put (some 36) (.slice ap lp cp) ∧ w' = W) ?_ ?_)
            · rintro b' w' ⟨rfl, rfl⟩
              refine ⟨.inr ⟨36, by decide, _, rfl⟩, ?_⟩
              rw [vals_put (hs 36 (by decide))]
              exact ⟨hI.v2, hI.b, hI.p0, hI.p1, hI.p2, hI.p3, hI.p4, hI.p5, (fun _ => rfl), hI.p7, hI.p8, hI.p10, hI.p9, hI.q8, hI.r8, hI.q10⟩
            · clear hI hd hs
              go_simp
          | 7, _ =>
            have hdd := hd _ rfl
            simp [Region.binds] at hdd
            obtain ⟨e, e1, e2⟩ := hI.p4 hdd.1 hl
            have x34 : b.eval (.tmp 34) = .slice (some ⟨e, 0, none⟩) 0 0 := e1
            have x36 : b.eval (.tmp 36) = .slice ap lp cp := hI.p6 hdd.2.1
            refine wpOp_plain (by rfl) (by rfl) (wp_copyP _ _ rfl w2.heap.size lp cp e ap ps x34 e2 x36 (HPx.out.below hI.b) (by omega) hI.b.size ?_)
            intro g3 cap3 w' hown hgrow
            refine ⟨.inr ⟨37, by decide, _, rfl⟩, ?_⟩
            refine Eq.mpr (congrArg (fun V => Cq w2.heap.size w.heap.size an ln cn next ap lp cp ps w2 (more l 7) V w') (vals_put (hs 37 (by decide)) _)) ?_
            obtain ⟨ce, hke⟩ := rowKind e2
            have hge := own_ge e2 rfl
            refine ⟨hI.v2, Below.grown hI.b hgrow hI.b.size (fun r hr => by cases hr; exact hge), (fun a0 b0 => ?_), hI.p1, hI.p2, (fun a3 => ?_), (fun _ hb => by cases hb), hI.p5, hI.p6, (fun _ => ⟨g3, cap3, rfl, hown⟩), (fun a8 => ?_), hI.p10, (fun a9 => ?_), hI.q8, (fun _ => rfl), hI.q10⟩
            · obtain ⟨e4, f1, f2⟩ := hI.p0 a0 b0
              exact ⟨e4, f1, keepRow f2 hgrow hke (by decide)⟩
            · obtain ⟨g7, c7, f1, f2⟩ := hI.p3 a3
              exact ⟨g7, c7, f1, keepRow f2 hgrow hke (by decide)⟩
            · have h3 : l 7 = true := hI.r8 a8
              rw [hl] at h3
              cases h3
            · obtain ⟨D, u, v, f1, f2, f3, f4⟩ := hI.p9 a9
              refine ⟨D, u, v, f1, f2, by rw [hgrow.block D (Array.getElem?_eq_some_iff.1 f3).1 (fun h => kind_ne f3 hke (by decide) (by simpa using h))]; exact f3, fun a10 => ?_⟩
              have h3 : l 7 = true := hI.r8 (hI.q10 a10)
              rw [hl] at h3
              cases h3
          | 8, _ =>
            have hdd := hd _ rfl
            simp [Region.binds] at hdd
            obtain ⟨g3, c3, e1, _⟩ := hI.p3 hdd.1
            obtain ⟨g7, c7, f1, _⟩ := hI.p7 hdd.2
            have x33 : b.tmps[33]?.getD undef = .slice (some ⟨g3, 0, none⟩) ln c3 := raw_of (e1)
            have x37 : b.tmps[37]?.getD undef = .slice (some ⟨g7, 0, none⟩) lp c7 := raw_of (f1)
            refine wpOp_plain (by rfl) (by rfl) (Oper.wp_mono (K := fun b' w' => b' = b.put (some 38) (.agg #[.slice (some ⟨g3, 0, none⟩) ln c3, .slice (some ⟨g7, 0, none⟩) lp c7]) ∧ w' = W) ?_ ?_)
            · rintro b' w' ⟨rfl, rfl⟩
              refine ⟨.inr ⟨38, by decide, _, rfl⟩, ?_⟩
              rw [vals_put (hs 38 (by decide))]
              exact ⟨hI.v2, hI.b, hI.p0, hI.p1, hI.p2, hI.p3, hI.p4, hI.p5, hI.p6, hI.p7, (fun _ => by show Value.agg _ = Value.agg #[valsOf b 33, valsOf b 37]; rw [e1, f1]), hI.p10, hI.p9, (fun _ => hdd.1), (fun _ => hdd.2), (fun _ => rfl)⟩
            · clear hI hd hs
              go_simp
          | 9, _ =>
            have hBW : w2.heap.size ≤ W.heap.size := hI.b.size
            have hN := hI.new (.cells #[.slice none 0 0, .slice none 0 0] 26)
            refine wpOp_plain (by rfl) (by rfl) (Oper.wp_mono (K := fun b' w' => b' = b.put (some 7) (.pointer (some ⟨W.heap.size, 0, none⟩)) ∧ w' = W.alloc (.cells #[.slice none 0 0, .slice none 0 0] 26)) ?_ ?_)
            · rintro b' w' ⟨rfl, rfl⟩
              refine ⟨.inr ⟨7, by decide, _, rfl⟩, ?_⟩
              rw [vals_put (hs 7 (by decide))]
              exact ⟨hN.v2, hN.b, hN.p0, hN.p1, hN.p2, hN.p3, hN.p4, hN.p5, hN.p6, hN.p7, hN.p8, (fun _ => rfl), (fun _ => ⟨W.heap.size, _, _, rfl, hBW, heap_alloc_new W _, fun h => by have h2 : l 9 = true := hI.p10 h; rw [hl] at h2; cases h2⟩), hN.q8, hN.r8, hN.q10⟩
            · clear hI hd hs
              go_simp
          | 10, _ =>
            have hdd := hd _ rfl
            simp [Region.binds] at hdd
            obtain ⟨D, u, v, f1, f2, f3, _⟩ := hI.p9 hdd.1
            have f8 := hI.p8 hdd.2.1
            obtain ⟨g3, c3, e1, e2⟩ := hI.p3 (hI.q8 hdd.2.1)
            obtain ⟨g7, c7, k1, k2⟩ := hI.p7 (hI.r8 hdd.2.1)
            rw [e1, k1] at f8
            have x7 : b.tmps[7]?.getD undef = .pointer (some ⟨D, 0, none⟩) := raw_of (f1)
            have x38 : b.tmps[38]?.getD undef = .agg #[.slice (some ⟨g3, 0, none⟩) ln c3, .slice (some ⟨g7, 0, none⟩) lp c7] := raw_of (f8)
            have c0 := Lib.cell_of_heap f3 0
            have c1 := Lib.cell_of_heap f3 1
            have q0 := Lib.frozen_of_heap f3 0
            have q1 := Lib.frozen_of_heap f3 1
            change W.cell? _ = some u at c0
            change W.cell? _ = some v at c1
            refine wpOp_plain (by rfl) (by rfl) (Oper.wp_mono (K := fun b' w' => b' = b ∧ w' = (W.setCell ⟨D, 0, none⟩ (.slice (some ⟨g3, 0, none⟩) ln c3)).setCell ⟨D, 1, none⟩ (.slice (some ⟨g7, 0, none⟩) lp c7)) ?_ ?_)
            · rintro b' w' ⟨rfl, rfl⟩
              obtain ⟨ci, hki⟩ := rowKind e2
              obtain ⟨cd, hkd⟩ := rowKind k2
              have n3 := kind_ne hki f3 (by decide)
              have n7 := kind_ne hkd f3 (by decide)
              refine ⟨.inl rfl, hI.v2, (hI.b.setCell (p := ⟨D, 0, none⟩) f2 _).setCell (p := ⟨D, 1, none⟩) f2 _, (fun a0 b0 => ?_), hI.p1, hI.p2, (fun _ => ⟨g3, c3, e1, rowFar (rowFar e2 n3 _) n3 _⟩), (fun a4 b4 => ?_), hI.p5, hI.p6, (fun _ => ⟨g7, c7, k1, rowFar (rowFar k2 n7 _) n7 _⟩), hI.p8, (fun _ => hdd.1), (fun _ => ⟨D, _, _, f1, f2, box_set f3 _ _, fun _ => ⟨e1.symm, k1.symm⟩⟩), hI.q8, hI.r8, (fun _ => hdd.2.1)⟩
              · have h3 := hI.q8 hdd.2.1
                rw [show l 3 = false from b0] at h3
                cases h3
              · have h3 := hI.r8 hdd.2.1
                rw [show l 7 = false from b4] at h3
                cases h3
            · clear hI hd hs f8 f1 e1 k1
              go_simp
        · intro l V W hall hI
          obtain ⟨g3, c3, e3, o3⟩ := hI.p3 (hall 3 (by decide))
          obtain ⟨g7, c7, e7, o7⟩ := hI.p7 (hall 7 (by decide))
          obtain ⟨D, u, v, eD, hBD, hD, huv⟩ := hI.p9 (hall 9 (by decide))
          obtain ⟨hu, hv⟩ := huv (hall 10 (by decide))
          rw [e3] at hu
          rw [e7] at hv
          subst hu hv
          have Q := Lib.hid (show Aq w an ln cn ap lp cp ⟨t, s, q, fi, la, lo, tx⟩ w2.heap.size D g3 c3 g7 lp c7 next ps W from ⟨A1.out.step (hI.b.mono A1.out.z), hD, o3, o7, hBD, A1.out.z⟩)
          have HP3 := Lib.hid (HPx.out.below hI.b)
          simp only [List.foldl, Act.put, List.setIfInBounds_toArray, List.set_cons_zero, List.set_cons_succ]
          rw [eD]
          generalize V 30 = u30
          generalize V 31 = u31
          generalize V 32 = u32
          generalize V 33 = u33
          generalize V 34 = u34
          generalize V 35 = u35
          generalize V 36 = u36
          generalize V 37 = u37
          generalize V 38 = u38
          clear hI hall e3 e7 eD o3 o7 huv hD a0 a1 f1 hBD zz A1 HPx HNx
          have b1 := (Q.out.ab.a 1 _ rfl).1
          have d0 := (Q.out.ab.d 0 _ rfl).1
          dsimp only at d0
          go_wp2_with fail
          refine (l22At_any ap lp cp ps t _ HP3.out).mono ?_
          rintro e w3 ⟨rfl, hb3⟩
          have Q3 := Lib.hid (Q.out.step hb3)
          clear b1 d0 hb3 Q HP3
          rcases idx_cases ps t with hx | ⟨j, hj, hx⟩
          · rw [idxV_is.1 hx]
            have NH := Lib.hid (idx_has hx)
            clear hx
            have b1 := (Q3.out.ab.a 1 _ rfl).1
            by_cases hf : 12 ≤ lp
            · have CR := Lib.hid (show ansR next ps ⟨t, s, q, fi, la, lo, tx⟩ = ⟨next, ps, []⟩ ∧ ansC next ps ⟨t, s, q, fi, la, lo, tx⟩ = 2 from by
                rw [(ansR_yes AT.out).1, (ansR_yes AT.out).2]
                unfold addR addC
                rw [show (⟨t, s, q, fi, la, lo, tx⟩ : Part).tsn = t from rfl, NH.out, if_neg Bool.false_ne_true, if_neg Bool.false_ne_true, if_pos (show 12 ≤ ps.length by rw [LP.out]; exact hf), if_pos (show 12 ≤ ps.length by rw [LP.out]; exact hf)]
                exact ⟨rfl, rfl⟩)
              have hfi : (12 : Int) ≤ (lp : Int) := by omega
              clear hf
              have r0 := (Q3.out.ab.r 0 _ rfl).1
              have r1 := (Q3.out.ab.r 1 _ rfl).1
              have r0f := (Q3.out.ab.r 0 _ rfl).2
              have r1f := (Q3.out.ab.r 1 _ rfl).2
              have lr0 := lt_of_cell r0
              have c0 := (Q3.out.var 0 _ rfl).1
              have c1 := (Q3.out.var 1 _ rfl).1
              have Z5 : VarN (w.heap.size + 1 + 1) [.slice (some ⟨g3, 0, none⟩) ln c3, .slice (some ⟨g7, 0, none⟩) lp c7] (((w3.setCell ⟨w.heap.size + 1 + 1, 0, none⟩ (.slice (some ⟨g3, 0, none⟩) ln c3)).setCell ⟨w.heap.size + 1 + 1, 1, none⟩ (.slice (some ⟨g7, 0, none⟩) lp c7)).alloc (.cells #[] 45)) := ((Q3.out.ab.r.set (i := 0) _).set (i := 1) _).alloc _ (by simpa using lr0)
              have z5 := (Z5 0 _ rfl).1
              have z6 := (Z5 1 _ rfl).1
              clear Z5
              go_wp2
              refine bodyPost_ret (v := ansV (some ⟨g3, 0, none⟩) ln c3 (some ⟨g7, 0, none⟩) lp c7 (some ⟨w3.heap.size, 0, none⟩) 0 0 2) ?_ rfl ?_
              rotate_left
              · exact Q3.out.done0 CR.out.1 CR.out.2 _ _
              · simp [results, Try.results15, go_sem, ansV, z5, z6]
            · have hfi : ¬ (12 : Int) ≤ (lp : Int) := by omega
              have CC := Lib.hid (show addC ps ⟨t, s, q, fi, la, lo, tx⟩ = 0 from by
                unfold addC
                rw [show (⟨t, s, q, fi, la, lo, tx⟩ : Part).tsn = t from rfl, NH.out, if_neg Bool.false_ne_true, if_neg (show ¬ 12 ≤ ps.length by rw [LP.out]; exact hf)])
              have AP := Lib.hid (OK.out.push AT.out.2 NH.out (by rw [LP.out]; omega))
              have CR := Lib.hid (show ansR next ps ⟨t, s, q, fi, la, lo, tx⟩ = runP next (ps ++ [⟨t, s, q, fi, la, lo, tx⟩]) ∧ ansC next ps ⟨t, s, q, fi, la, lo, tx⟩ = 0 from by
                rw [(ansR_yes AT.out).1, (ansR_yes AT.out).2, CC.out, addR_done CC.out]
                exact ⟨rfl, rfl⟩)
              have c1 := (Q3.out.var 1 _ rfl).1
              have d0 := (Q3.out.ab.d 0 _ rfl).1
              have d1 := (Q3.out.ab.d 1 _ rfl).1
              have d2 := (Q3.out.ab.d 2 _ rfl).1
              have d3 := (Q3.out.ab.d 3 _ rfl).1
              have d4 := (Q3.out.ab.d 4 _ rfl).1
              have d5 := (Q3.out.ab.d 5 _ rfl).1
              have d6 := (Q3.out.ab.d 6 _ rfl).1
              dsimp only at d0 d1 d2 d3 d4 d5 d6
              obtain ⟨iP, hiP, zP0, zP1, zP2⟩ := info_parts info_pt
              have HI := Lib.hid (And.intro hiP (And.intro zP0 (And.intro zP1 zP2)))
              have QB := Lib.hid (Q3.out.step (below_box (.cells #[.int .i64 t, .int .i64 s, .int .i64 q, .bool fi, .bool la, .bool lo, .string tx] 28) (Nat.le_refl _)))
              have hzR : w2.heap.size ≤ w3.heap.size := by have h1 := Q3.out.lo; have h2 := Q3.out.zD; omega
              clear hiP zP0 zP1 zP2 hf
              go_wp2_with (at_builtin; go_loud (refine wpList_append_lies _ rfl _ _ 24 rfl w2.heap.size 28 iP (partV ⟨0, 0, 0, false, false, false, ByteArray.mk #[]⟩) 7 48 Try.underlying24 HI.out.1 HI.out.2.1 HI.out.2.2.1 HI.out.2.2.2 rfl (by decide) (.slice (some ⟨g7, 0, none⟩) lp c7) lp (flatP ps) rfl QB.out.pr ⟨w3.heap.size, 0, none⟩ 1 1 (cellsP ⟨t, s, q, fi, la, lo, tx⟩) rfl rfl (news_box rfl) (cellsP_one _) (by decide) (by unfold maxLen; omega) (by omega) (by simp; omega) _ rfl ?_))
              intro g8 c8 w5 hown hgrow _ _
              obtain ⟨o5, q5⟩ := QB.out.push hgrow hown
              have u1 := (o5 1 _ rfl).1
              have u1f := (o5 1 _ rfl).2
              have Q5 := Lib.hid q5
              have c0 := (q5.var 0 _ rfl).1
              have c1 := (q5.var 1 _ rfl).1
              have hDl := lt_of_cell u1
              clear o5 q5 hown hgrow QB Q3 b1 d0 d1 d2 d3 d4 d5 d6
              go_wp2_with fail
              have Q6 := Lib.hid (Q5.out.step (below_box (.cells #[] 45) (Nat.le_refl _)))
              refine (l22Find_any (some ⟨g3, 0, none⟩) ln c3 next (some ⟨g8, 0, none⟩) (lp + 1) c8 (ps ++ [⟨t, s, q, fi, la, lo, tx⟩]) _ (own_ns Q6.out.nr) (own_pts Q6.out.pr) AP.out).mono ?_
              rintro e w7 ⟨m, gc, cc, rfl, hm, hown⟩
              have Q7 := Lib.hid (Q6.out.step hown.b)
              have O6 := Lib.hid (show ((w5.setCell ⟨D, 1, none⟩ (.slice (some ⟨g8, 0, none⟩) (lp + 1) c8)).alloc (.cells #[] 45)).ownsRow w2.heap.size 45 4 (.slice (some ⟨w5.heap.size, 0, none⟩) 0 0) 0 (flatM []) by
                have h := World.ownsRow_lit (base := w2.heap.size) (e := 45) (size := 4) (w5.setCell ⟨D, 1, none⟩ (.slice (some ⟨g8, 0, none⟩) (lp + 1) c8)) #[] 0 (by have h1 := Q5.out.lo; have h2 := Q5.out.zD; omega) (by decide) rfl
                simpa [flatM] using h)
              have O7 := Lib.hid (rowBelow O6.out hown.b (rowLt O6.out))
              have NC := Lib.hid (own_ns hown.own)
              have HM := Lib.hid hm
              have RUN0 := Lib.hid (show AsmOk next (ps ++ [⟨t, s, q, fi, la, lo, tx⟩]) ∧ runP next (ps ++ [⟨t, s, q, fi, la, lo, tx⟩]) = ⟨(runP next (ps ++ [⟨t, s, q, fi, la, lo, tx⟩])).next, (runP next (ps ++ [⟨t, s, q, fi, la, lo, tx⟩])).ps, [] ++ (runP next (ps ++ [⟨t, s, q, fi, la, lo, tx⟩])).ms⟩ from ⟨AP.out, by cases runP next (ps ++ [⟨t, s, q, fi, la, lo, tx⟩]); rfl⟩)
              have LP1 := Lib.hid (show lp + 1 = (ps ++ [(⟨t, s, q, fi, la, lo, tx⟩ : Part)]).length by rw [List.length_append, LP.out]; rfl)
              have M13 : m ≤ 13 := by rw [hm]; exact find_len AP.out
              clear hown hm O6 Q6 Q5 u1 u1f c0 c1 hDl AP NH CC
              obtain ⟨iM, hiM, zM0, zM1, zM2⟩ := info_parts info_mg
              have HM4 := Lib.hid (And.intro hiM (And.intro zM0 (And.intro zM1 zM2)))
              clear hiM zM0 zM1 zM2 HI
              go_wp2
              go_loopg [8, 9] (lp + 1) (fun gk v q1 wr => ∃ (next1 : List Int) (ps1 : List Part) (ms1 : List Msg) (g4 c4 g8 n8 c8 g9 k c9 gc m cc : Nat), Hid (gk = ps1.length) ∧ v = .slice (some ⟨g9, 0, none⟩) k c9 ∧ Hid (k = ms1.length) ∧ q1 = .slice (some ⟨gc, 0, none⟩) m cc ∧ k + n8 ≤ 13 ∧ m ≤ 13 ∧ Hid (m = (findP next1 ps1).length) ∧
                Hid (Aq w an ln cn ap lp cp ⟨t, s, q, fi, la, lo, tx⟩ w2.heap.size D g4 c4 g8 n8 c8 next1 ps1 wr) ∧ Hid (wr.ownsRow w2.heap.size 45 4 (.slice (some ⟨g9, 0, none⟩) k c9) k (flatM ms1)) ∧ Hid (Ns wr (some ⟨gc, 0, none⟩) m cc (natI (findP next1 ps1))) ∧
                Hid (AsmOk next1 ps1 ∧ runP next (ps ++ [⟨t, s, q, fi, la, lo, tx⟩]) = ⟨(runP next1 ps1).next, (runP next1 ps1).ps, ms1 ++ (runP next1 ps1).ms⟩))
              case atStart => exact ⟨next, ps ++ [⟨t, s, q, fi, la, lo, tx⟩], [], g3, c3, g8, lp + 1, c8, w5.heap.size, 0, 0, gc, m, cc, LP1, rfl, rfl, rfl, by omega, M13, HM, Q7, O7, NC, RUN0⟩
              case round =>
                clear Q7 O7 NC RUN0 LP1 M13 HM
                obtain ⟨next1, ps1, ms1, g4, c4, g8, n8, c8, g9, k, c9, gc, m, cc, HK, rfl, HKM, rfl, hk13, hm13, HM, hQ, hO, hN, hR⟩ := hrel
                by_cases hm0 : m = 0
                · have E := Lib.hid (show findP next1 ps1 = [] from List.eq_nil_of_length_eq_zero (by rw [← HM.out]; exact hm0))
                  have e1 := Lib.hid (show ansR next ps ⟨t, s, q, fi, la, lo, tx⟩ = ⟨next1, ps1, ms1⟩ by
                    rw [CR.out.1, hR.out.2, run_stop E.out]
                    simp)
                  subst hm0
                  have r0 := (hQ.out.ab.r 0 _ rfl).1
                  have r1 := (hQ.out.ab.r 1 _ rfl).1
                  have r0f := (hQ.out.ab.r 0 _ rfl).2
                  have r1f := (hQ.out.ab.r 1 _ rfl).2
                  have c0 := (hQ.out.var 0 _ rfl).1
                  have c1 := (hQ.out.var 1 _ rfl).1
                  have Z5 : VarN (w.heap.size + 1 + 1) [.slice (some ⟨g4, 0, none⟩) ln c4, .slice (some ⟨g8, 0, none⟩) n8 c8] ((wr.setCell ⟨w.heap.size + 1 + 1, 0, none⟩ (.slice (some ⟨g4, 0, none⟩) ln c4)).setCell ⟨w.heap.size + 1 + 1, 1, none⟩ (.slice (some ⟨g8, 0, none⟩) n8 c8)) := (hQ.out.ab.r.set (i := 0) _).set (i := 1) _
                  have z5 := (Z5 0 _ rfl).1
                  have z6 := (Z5 1 _ rfl).1
                  clear Z5
                  go_wp2
                  refine bodyPost_ret (v := ansV (some ⟨g4, 0, none⟩) ln c4 (some ⟨g8, 0, none⟩) n8 c8 (some ⟨g9, 0, none⟩) k c9 0) ?_ rfl ?_
                  rotate_left
                  · exact hQ.out.done e1.out CR.out.2 hO.out _ _
                  · simp [results, Try.results15, go_sem, ansV, z5, z6]
                · have hpos : (0 : Int) < (m : Int) := by omega
                  have hposN : decide (0 < m) = true := decide_eq_true (by omega)
                  have hne := Lib.hid (show findP next1 ps1 ≠ [] from fun h => hm0 (by rw [HM.out, h]; rfl))
                  obtain ⟨k0, hk0, hdue, hchn⟩ := find_is hR.out.1 hne.out
                  have TK := l22Take_any ⟨g4, 0, none⟩ ln c4 next1 ⟨g8, 0, none⟩ n8 c8 ps1 gc m cc k0 (findP next1 ps1) wr (own_ns hQ.out.nr) (own_pts hQ.out.pr) hN.out hR.out.1 hchn
                  have c0 := (hQ.out.var 0 _ rfl).1
                  have c1 := (hQ.out.var 1 _ rfl).1
                  clear hk0 hdue hchn
                  go_wp2_with fail
                  refine TK.mono ?_
                  rintro e w9 ⟨g5, c5, g6, c6, rfl, ho1, ho2, hb9⟩
                  obtain ⟨⟨mS, mQ, mL, mX⟩, hmsg⟩ : ∃ x, msgP ps1 (findP next1 ps1) = x := ⟨_, rfl⟩
                  have HMSG := Lib.hid hmsg
                  rw [hmsg]
                  unfold msgV
                  dsimp only
                  obtain ⟨ps2, hps2⟩ : ∃ x, restP ps1 (findP next1 ps1) = x := ⟨_, rfl⟩
                  have HPS2 := Lib.hid hps2
                  rw [hps2] at ho2 ⊢
                  obtain ⟨n6, hn6⟩ : ∃ x, ps2.length = x := ⟨_, rfl⟩
                  have HN6 := Lib.hid hn6
                  rw [hn6] at ho2 ⊢
                  obtain ⟨next2, hnx2⟩ : ∃ x, nextP next1 (headD ps1 (findP next1 ps1)) = x := ⟨_, rfl⟩
                  have HNX2 := Lib.hid hnx2
                  rw [hnx2] at ho1
                  have BA := Lib.hid (show Below w9.heap.size w9 ((w9.alloc (.cells #[.slice (some ⟨g5, 0, none⟩) ln c5, .slice (some ⟨g6, 0, none⟩) n6 c6] 26)).alloc (.cells #[.int .i64 mS, .int .i64 mQ, .bool mL, .string mX] 45)) from (below_box _ (Nat.le_refl _)).alloc (by simp) _)
                  have hRW : w2.heap.size ≤ wr.heap.size := by have h1 := hQ.out.lo; have h2 := hQ.out.zD; omega
                  have QA := Lib.hid ((hQ.out.step hb9).step BA.out)
                  have OA := Lib.hid (rowBelow (rowBelow hO.out hb9 (rowLt hO.out)) BA.out (Nat.lt_of_lt_of_le (rowLt hO.out) hb9.size))
                  have N1 := Lib.hid (row_low (rowBelow ho1 BA.out (rowLt ho1)) hRW)
                  have N2 := Lib.hid (row_low (rowBelow ho2 BA.out (rowLt ho2)) hRW)
                  have VA := Lib.hid (show VarN w9.heap.size [.slice (some ⟨g5, 0, none⟩) ln c5, .slice (some ⟨g6, 0, none⟩) n6 c6] ((w9.alloc (.cells #[.slice (some ⟨g5, 0, none⟩) ln c5, .slice (some ⟨g6, 0, none⟩) n6 c6] 26)).alloc (.cells #[.int .i64 mS, .int .i64 mQ, .bool mL, .string mX] 45)) from (VarN.new w9 _ _).alloc _ (by simp))
                  have VM := Lib.hid (show VarN (w9.heap.size + 1) [.int .i64 mS, .int .i64 mQ, .bool mL, .string mX] ((w9.alloc (.cells #[.slice (some ⟨g5, 0, none⟩) ln c5, .slice (some ⟨g6, 0, none⟩) n6 c6] 26)).alloc (.cells #[.int .i64 mS, .int .i64 mQ, .bool mL, .string mX] 45)) from VarN.new_at (by simp) _ _)
                  have hb9s := hb9.size
                  have hDne : D < w9.heap.size := Nat.lt_of_lt_of_le hQ.out.zD hb9s
                  have hn8 : ps1.length = n8 := (own_pts hQ.out.pr).length
                  clear hmsg hps2 hn6 hnx2 ho1 ho2 hb9 hQ hO hN c0 c1
                  go_upto_region 13 with fail
                  generalize ((w9.alloc (.cells #[.slice (some ⟨g5, 0, none⟩) ln c5, .slice (some ⟨g6, 0, none⟩) n6 c6] 26)).alloc (.cells #[.int .i64 mS, .int .i64 mQ, .bool mL, .string mX] 45)) = WA at *
                  have c0 := (QA.out.var 0 _ rfl).1
                  have c1 := (QA.out.var 1 _ rfl).1
                  have c0f := (QA.out.var 0 _ rfl).2
                  have c1f := (QA.out.var 1 _ rfl).2
                  have x0 := (VA.out 0 _ rfl).1
                  have x1 := (VA.out 1 _ rfl).1
                  have QB := Lib.hid (QA.out.next N1.out N2.out)
                  have VB := Lib.hid ((VM.out.far (i := 0) (.slice (some ⟨g5, 0, none⟩) ln c5) (show D ≠ w9.heap.size + 1 by omega)).far (i := 1) (.slice (some ⟨g6, 0, none⟩) n6 c6) (show D ≠ w9.heap.size + 1 by omega))
                  go_upto_region 14 with fail
                  obtain ⟨kM, hkM⟩ := rowKind OA.out
                  have nM := kind_ne hkM QA.out.dv (by decide)
                  have OB := Lib.hid (rowFar (i := 1) (rowFar (i := 0) OA.out nM (.slice (some ⟨g5, 0, none⟩) ln c5)) nM (.slice (some ⟨g6, 0, none⟩) n6 c6))
                  have hzB : w2.heap.size ≤ ((WA.setCell ⟨D, 0, none⟩ (.slice (some ⟨g5, 0, none⟩) ln c5)).setCell ⟨D, 1, none⟩ (.slice (some ⟨g6, 0, none⟩) n6 c6)).heap.size := by have h1 := QB.out.lo; have h2 := QB.out.zD; omega
                  have OK2 := Lib.hid (find_ok hR.out.1 hne.out)
                  rw [HNX2.out, HPS2.out] at OK2
                  have LT2 := Lib.hid (find_shorter hR.out.1 hne.out)
                  rw [HPS2.out, HN6.out] at LT2
                  have RUN := Lib.hid (run_step hR.out.1 hne.out)
                  rw [HNX2.out, HPS2.out, HMSG.out] at RUN
                  have lt6 : n6 < n8 := by rw [← hn8]; exact LT2.out
                  have GK := Lib.hid (show n6 < gk by rw [HK.out]; exact LT2.out)
                  clear kM hkM nM c0 c1 c0f c1f x0 x1 QA OA N1 N2 VA VM BA hne hDne
                  generalize ((WA.setCell ⟨D, 0, none⟩ (.slice (some ⟨g5, 0, none⟩) ln c5)).setCell ⟨D, 1, none⟩ (.slice (some ⟨g6, 0, none⟩) n6 c6)) = WB at *
                  have y0 := (VB.out 0 _ rfl).1
                  have y1 := (VB.out 1 _ rfl).1
                  have y2 := (VB.out 2 _ rfl).1
                  have y3 := (VB.out 3 _ rfl).1
                  have BC := Lib.hid (below_box (w := WB) (.cells #[.int .i64 mS, .int .i64 mQ, .bool mL, .string mX] 45) (Nat.le_refl _))
                  have QC := Lib.hid (QB.out.step BC.out)
                  have OC := Lib.hid (rowBelow OB.out BC.out (rowLt OB.out))
                  go_wp2_with (at_builtin; go_loud (refine wpList_append_lies _ rfl _ _ 31 rfl w2.heap.size 45 iM (msgV ⟨0, 0, false, ByteArray.mk #[]⟩) 4 40 Try.underlying31 HM4.out.1 HM4.out.2.1 HM4.out.2.2.1 HM4.out.2.2.2 rfl (by decide) (.slice (some ⟨g9, 0, none⟩) k c9) k (flatM ms1) rfl OC.out ⟨WB.heap.size, 0, none⟩ 1 1 (cellsM ⟨mS, mQ, mL, mX⟩) rfl rfl (news_box rfl) (cellsM_one _) (by decide) (by unfold maxLen; omega) (by omega) (by simp; omega) _ rfl ?_))
                  intro gA cA wC hown hgrow _ _
                  obtain ⟨kM, hkM⟩ := rowKind OC.out
                  have QD := Lib.hid (QC.out.grow hgrow (own_ge OC.out rfl) hkM (by decide) (by decide) (by decide))
                  have OD := Lib.hid (show wC.ownsRow w2.heap.size 45 4 (.slice (some ⟨gA, 0, none⟩) (k + 1) cA) (k + 1) (flatM (ms1 ++ [⟨mS, mQ, mL, mX⟩])) by
                    rw [flatM_append, flatM_one_]
                    exact hown)
                  have c0 := (QD.out.var 0 _ rfl).1
                  have c1 := (QD.out.var 1 _ rfl).1
                  clear y0 y1 y2 y3 BC QC OC QB OB VB hown hgrow kM hkM
                  go_wp2_with fail
                  refine (l22Find_any (some ⟨g5, 0, none⟩) ln c5 next2 (some ⟨g6, 0, none⟩) n6 c6 ps2 _ (own_ns QD.out.nr) (own_pts QD.out.pr) OK2.out).mono ?_
                  rintro e wD ⟨m2, gc2, cc2, rfl, hm2, hown2⟩
                  have QE := Lib.hid (QD.out.step hown2.b)
                  have OE := Lib.hid (rowBelow OD.out hown2.b (rowLt OD.out))
                  have NE := Lib.hid (own_ns hown2.own)
                  have HM2 := Lib.hid hm2
                  have M13 : m2 ≤ 13 := by rw [hm2]; exact find_len OK2.out
                  have K1 := Lib.hid (show k + 1 = (ms1 ++ [(⟨mS, mQ, mL, mX⟩ : Msg)]).length by rw [List.length_append, HKM.out]; rfl)
                  have RE := Lib.hid (show AsmOk next2 ps2 ∧ runP next (ps ++ [⟨t, s, q, fi, la, lo, tx⟩]) = ⟨(runP next2 ps2).next, (runP next2 ps2).ps, (ms1 ++ [⟨mS, mQ, mL, mX⟩]) ++ (runP next2 ps2).ms⟩ from ⟨OK2.out, by rw [hR.out.2, RUN.out, List.append_assoc]; rfl⟩)
                  clear hown2 hm2 QD OD c0 c1
                  go_wp2
                  go_roundg n6
                  case measure => exact GK.out
                  case rel => exact ⟨next2, ps2, ms1 ++ [⟨mS, mQ, mL, mX⟩], g5, c5, g6, n6, c6, gA, k + 1, cA, gc2, m2, cc2, Lib.hid HN6.out.symm, rfl, K1, rfl, by omega, M13, HM2, QE, OE, NE, RE⟩
          · have CR := Lib.hid (show ansR next ps ⟨t, s, q, fi, la, lo, tx⟩ = ⟨next, ps, []⟩ ∧ ansC next ps ⟨t, s, q, fi, la, lo, tx⟩ = 1 from by
              have ht : hasT ps t = true := by
                have h1 := (idx_some hx).2.1
                rw [← h1]
                exact hasT_yes (pAt_mem hj)
              rw [(ansR_yes AT.out).1, (ansR_yes AT.out).2]
              unfold addR addC
              rw [show (⟨t, s, q, fi, la, lo, tx⟩ : Part).tsn = t from rfl, ht, if_pos rfl, if_pos rfl]
              exact ⟨rfl, rfl⟩)
            rw [idxV_is.2 j hx]
            clear hx hj
            have r0 := (Q3.out.ab.r 0 _ rfl).1
            have r1 := (Q3.out.ab.r 1 _ rfl).1
            have r0f := (Q3.out.ab.r 0 _ rfl).2
            have r1f := (Q3.out.ab.r 1 _ rfl).2
            have lr0 := lt_of_cell r0
            have c0 := (Q3.out.var 0 _ rfl).1
            have c1 := (Q3.out.var 1 _ rfl).1
            have Z5 : VarN (w.heap.size + 1 + 1) [.slice (some ⟨g3, 0, none⟩) ln c3, .slice (some ⟨g7, 0, none⟩) lp c7] (((w3.setCell ⟨w.heap.size + 1 + 1, 0, none⟩ (.slice (some ⟨g3, 0, none⟩) ln c3)).setCell ⟨w.heap.size + 1 + 1, 1, none⟩ (.slice (some ⟨g7, 0, none⟩) lp c7)).alloc (.cells #[] 45)) := ((Q3.out.ab.r.set (i := 0) _).set (i := 1) _).alloc _ (by simpa using lr0)
            have z5 := (Z5 0 _ rfl).1
            have z6 := (Z5 1 _ rfl).1
            clear Z5
            go_wp2
            refine bodyPost_ret (v := ansV (some ⟨g3, 0, none⟩) ln c3 (some ⟨g7, 0, none⟩) lp c7 (some ⟨w3.heap.size, 0, none⟩) 0 0 1) ?_ rfl ?_
            rotate_left
            · exact Q3.out.done0 CR.out.1 CR.out.2 _ _
            · simp [results, Try.results15, go_sem, ansV, z5, z6]
      · have AT := Lib.hid (show ¬ addsTo next ps ⟨t, s, q, fi, la, lo, tx⟩ from fun h => hst (by have := h.2.2; rw [LN.out] at this; exact this))
        have hst2 : decide ((ln : Int) ≤ s) = true := decide_eq_true (by omega)
        have r0 := (A1.out.r 0 _ rfl).1
        have r1 := (A1.out.r 1 _ rfl).1
        have g0 := (A1.out.r 0 _ rfl).2
        have g1 := (A1.out.r 1 _ rfl).2
        have lr0 := lt_of_cell r0
        have hz1 := A1.out.z
        have Z5 : VarN (w.heap.size + 1 + 1) [.slice none 0 0, .slice none 0 0] (((w2.setCell ⟨w.heap.size + 1 + 1, 0, none⟩ (.slice none 0 0)).setCell ⟨w.heap.size + 1 + 1, 1, none⟩ (.slice none 0 0)).alloc (.cells #[] 45)) := ((A1.out.r.set (i := 0) (.slice none 0 0)).set (i := 1) (.slice none 0 0)).alloc _ (by simpa using lr0)
        have z5 := (Z5 0 _ rfl).1
        have z6 := (Z5 1 _ rfl).1
        clear Z5
        go_wp2
        refine bodyPost_ret (v := ansV none 0 0 none 0 0 (some ⟨w2.heap.size, 0, none⟩) 0 0 3) ?_ rfl ?_
        rotate_left
        · have Z := ans_zero_lit AT.out ((A1.out.b.setCell (p := ⟨w.heap.size + 2, 0, none⟩) (by show w.heap.size ≤ w.heap.size + 2; omega) (.slice none 0 0)).setCell (p := ⟨w.heap.size + 2, 1, none⟩) (by show w.heap.size ≤ w.heap.size + 2; omega) (.slice none 0 0))
          simpa using Z
        · simp [results, Try.results15, go_sem, ansV, z5, z6]
    · have AT := Lib.hid (show ¬ addsTo next ps ⟨t, s, q, fi, la, lo, tx⟩ from fun h => hd h.2.1)
      rw [dataOkV_no hd]
      clear hd
      have r0 := (A1.out.r 0 _ rfl).1
      have r1 := (A1.out.r 1 _ rfl).1
      have g0 := (A1.out.r 0 _ rfl).2
      have g1 := (A1.out.r 1 _ rfl).2
      have lr0 := lt_of_cell r0
      have hz1 := A1.out.z
      have Z5 : VarN (w.heap.size + 1 + 1) [.slice none 0 0, .slice none 0 0] (((w2.setCell ⟨w.heap.size + 1 + 1, 0, none⟩ (.slice none 0 0)).setCell ⟨w.heap.size + 1 + 1, 1, none⟩ (.slice none 0 0)).alloc (.cells #[] 45)) := ((A1.out.r.set (i := 0) (.slice none 0 0)).set (i := 1) (.slice none 0 0)).alloc _ (by simpa using lr0)
      have z5 := (Z5 0 _ rfl).1
      have z6 := (Z5 1 _ rfl).1
      clear Z5
      go_wp2
      refine bodyPost_ret (v := ansV none 0 0 none 0 0 (some ⟨w2.heap.size, 0, none⟩) 0 0 3) ?_ rfl ?_
      rotate_left
      · have Z := ans_zero_lit AT.out ((A1.out.b.setCell (p := ⟨w.heap.size + 2, 0, none⟩) (by show w.heap.size ≤ w.heap.size + 2; omega) (.slice none 0 0)).setCell (p := ⟨w.heap.size + 2, 1, none⟩) (by show w.heap.size ≤ w.heap.size + 2; omega) (.slice none 0 0))
        simpa using Z
      · simp [results, Try.results15, go_sem, ansV, z5, z6]
  · have AT := Lib.hid (show ¬ addsTo next ps ⟨t, s, q, fi, la, lo, tx⟩ from fun h => hok h.1)
    rw [asmV_no hok]
    clear hok
    have r0 := (A1.out.r 0 _ rfl).1
    have r1 := (A1.out.r 1 _ rfl).1
    have g0 := (A1.out.r 0 _ rfl).2
    have g1 := (A1.out.r 1 _ rfl).2
    have lr0 := lt_of_cell r0
    have hz1 := A1.out.z
    have Z5 : VarN (w.heap.size + 1 + 1) [.slice none 0 0, .slice none 0 0] (((w1.setCell ⟨w.heap.size + 1 + 1, 0, none⟩ (.slice none 0 0)).setCell ⟨w.heap.size + 1 + 1, 1, none⟩ (.slice none 0 0)).alloc (.cells #[] 45)) := ((A1.out.r.set (i := 0) (.slice none 0 0)).set (i := 1) (.slice none 0 0)).alloc _ (by simpa using lr0)
    have z5 := (Z5 0 _ rfl).1
    have z6 := (Z5 1 _ rfl).1
    clear Z5
    go_wp2
    refine bodyPost_ret (v := ansV none 0 0 none 0 0 (some ⟨w1.heap.size, 0, none⟩) 0 0 3) ?_ rfl ?_
    rotate_left
    · have Z := ans_zero_lit AT.out ((A1.out.b.setCell (p := ⟨w.heap.size + 2, 0, none⟩) (by show w.heap.size ≤ w.heap.size + 2; omega) (.slice none 0 0)).setCell (p := ⟨w.heap.size + 2, 1, none⟩) (by show w.heap.size ≤ w.heap.size + 2; omega) (.slice none 0 0))
      simpa using Z
    · simp [results, Try.results15, go_sem, ansV, z5, z6]

end Go.Proofs.Ytncbgejggfkdmaa

/- A list of parts, plain: one more part; how many messages there are. -/
namespace Go.Proofs.Ytncbgejggfkdmaa
open Go.RowKit Go.PlainAid

theorem runF_count : ∀ (k : Nat) (next : List Int) (ps : List Part), AsmOk next ps → (runF k next ps).ms.length + (runF k next ps).ps.length ≤ ps.length := by
  intro k
  induction k with
  | zero => intro next ps _; simp [runF]
  | succ k ih =>
    intro next ps ha
    by_cases h : findP next ps = []
    · simp [runF, h]
    · have h1 := find_shorter ha h
      have h2 := ih _ _ (find_ok ha h)
      have hb : (findP next ps).isEmpty = false := by simpa using h
      simp only [runF, hb, h, if_false, Bool.false_eq_true, List.length_cons]
      omega
theorem addR_count {next : List Int} {ps : List Part} {d : Part} (ha : AsmOk next ps) (hd : PartOk next.length d) : (addR next ps d).ms.length + (addR next ps d).ps.length ≤ ps.length + 1 := by
  by_cases h : addC ps d = 0
  · rw [addR_done h]
    have := runF_count (ps ++ [d]).length next (ps ++ [d]) (ha.push hd (addC_done h).1 (addC_done h).2)
    simpa [runP] using this
  · rw [addR_not h]
    simp
theorem ansR_count {next : List Int} {ps : List Part} {d : Part} : AsmOk next ps → (ansR next ps d).ms.length + (ansR next ps d).ps.length ≤ ps.length + 1 := fun ha => by
  by_cases h : addsTo next ps d
  · rw [(ansR_yes h).1]
    exact addR_count h.1 h.2
  · rw [(ansR_no h).1]
    simp
theorem go_step {m : Nat} {ds : List Part} {d : Part} {next : List Int} {ps : List Part} {ms : List Msg} (h : goP m ds (List.replicate m 0) [] = ⟨next, ps, ms⟩) (ha : AsmOk next ps) (hl : next.length = m) :
    (ansC next ps d ≠ 3 → goP m (ds ++ [d]) (List.replicate m 0) [] = ⟨(ansR next ps d).next, (ansR next ps d).ps, ms ++ (ansR next ps d).ms⟩) ∧ (ansC next ps d ≠ 0 → goP m (ds ++ [d]) (List.replicate m 0) [] = ⟨next, ps, ms⟩ ∧ (ansR next ps d).ms = []) := by
  rw [goP_snoc, h]
  by_cases hd : PartOk m d
  · have hs : addsTo next ps d := ⟨ha, by rw [hl]; exact hd⟩
    rw [if_pos hd, (ansR_yes hs).1, (ansR_yes hs).2]
    refine ⟨fun _ => rfl, fun h0 => ?_⟩
    rw [addR_not h0]
    simp
  · have hs : ¬ addsTo next ps d := fun h => hd (by have := h.2; rwa [hl] at this)
    rw [if_neg hd, (ansR_no hs).1, (ansR_no hs).2]
    exact ⟨fun h => absurd rfl h, fun _ => ⟨rfl, rfl⟩⟩
theorem go_next {m : Nat} (ds : List Part) (h : 1 ≤ m ∧ m ≤ 4) : AsmOk (goP m ds (List.replicate m 0) []).next (goP m ds (List.replicate m 0) []).ps ∧ (goP m ds (List.replicate m 0) []).next.length = m := by
  refine go_ok ds ⟨by simpa using h.1, by simpa using h.2, fun n hn => ?_, by simp, by simp, by simp⟩ (by simp)
  rw [List.eq_of_mem_replicate hn]
  exact ⟨by decide, by decide⟩

end Go.Proofs.Ytncbgejggfkdmaa

/- Messages that are appended; the contracts of AsmRun, the program's and the model's. -/
namespace Go.Proofs.Ytncbgejggfkdmaa
open Go.RowKit Go.PlainAid

/-- Messages of one's own that are appended to a row of one's own, each none or some. -/
theorem wp_catM {o : Oper} {a : Act} {w : World} {K : Act → World → Prop} {Q : Exit → Act → World → Prop} (s x : Operand) (hop : o.op = Op.call { callee := Callee.builtin Builtin.append, args := #[s, x], argTypes := #[31, 31] })
    (base base2 k n cap cc : Nat) (sa ad : Option Addr) (xs ys : List Msg) (hv : a.eval s = .slice sa k cap) (hown : w.ownsRow base 45 4 (.slice sa k cap) k (flatM xs))
    (hx : a.eval x = .slice ad n cc) (hsrc : w.ownsRow base2 45 4 (.slice ad n cc) n (flatM ys)) (him : k + n ≤ 10000000) (hb : base ≤ w.heap.size)
    (hK : ∀ g3 cap3 w', w'.ownsRow base 45 4 (.slice g3 (k + n) cap3) (k + n) (flatM (xs ++ ys)) → w.grownBy w' (Value.slice sa k cap).ownBlock → K (a.put o.dst (.slice g3 (k + n) cap3)) w') :
    Oper.wp Try.prog o a w K Q := by
  obtain ⟨i0, hi, hz0, hz1, hz2⟩ := info_parts info_mg
  obtain ⟨g3, cap3, w', hr, h2, h3⟩ : ∃ g3 cap3 w', (Builtin.append_ #[31, 31] o.type #[.slice sa k cap, .slice ad n cc]).run Try.prog w = .ok (.slice g3 (k + n) cap3) w' ∧ w'.ownsRow base 45 4 (.slice g3 (k + n) cap3) (k + n) (flatM (xs ++ ys)) ∧ w.grownBy w' (Value.slice sa k cap).ownBlock := by
    rcases hsrc.2 with ⟨h1, h0⟩ | ⟨g, cap', cur, h1, _⟩
    · obtain ⟨rfl, rfl, rfl⟩ : ad = none ∧ n = 0 ∧ cc = 0 := by simpa using h1
      have hy : ys = [] := by
        have := hsrc.1
        rw [flatM_length] at this
        exact List.eq_nil_of_length_eq_zero (by omega)
      subst hy
      rw [List.append_nil]
      exact ⟨sa, cap, w, run_append_owned_none w base 31 o.type 45 i0 4 Try.underlying31 hi _ k (flatM xs) hown, hown, ⟨rfl, rfl, rfl, Nat.le_refl _, fun _ _ _ => rfl⟩⟩
    · obtain ⟨rfl, rfl⟩ : ad = some ⟨g, 0, none⟩ ∧ cc = cap' := by simpa using h1
      have hl : (flatM ys).length = n * 4 := hsrc.1
      have hc : ∀ j u, (flatM ys)[j]? = some u → w.cell? ((⟨g, 0, none⟩ : Addr).add j) = some u := fun j u hu => by
        rw [mg_add, hsrc.cellAt j (by have := (List.getElem?_eq_some_iff.1 hu).1; omega), hu]
      obtain ⟨v', w', hr, h2, h3, h4, h5⟩ := run_append_own_at (P := Try.prog) w base 31 o.type 45 i0 (msgV ⟨0, 0, false, ByteArray.mk #[]⟩) 4 40 Try.underlying31 hi hz0 hz1 hz2 rfl (by decide) _ k (flatM xs) hown ⟨g, 0, none⟩ n cc (flatM ys) hl hc (flatM_one ys) (by unfold maxLen; omega) (by omega) hb
      rw [← flatM_append] at h2
      rcases h2.2 with ⟨rfl, h0⟩ | ⟨g3, cap3, cur3, rfl, hh⟩
      · exact ⟨none, 0, w', by rw [h0]; exact hr, by rw [h0] at h2 ⊢; exact h2, h3⟩
      · exact ⟨some ⟨g3, 0, none⟩, cap3, w', hr, h2, h3⟩
  unfold Oper.wp execOp
  simp only [hop, resolve, invoke, builtin, Sem.run_bind, Sem.run_pure, Result.andThen_ok, List.map_toArray, List.map_cons, List.map_nil, hv, hx, hr]
  exact hK g3 cap3 w' h2 h3

theorem list_catM {ops : Array Oper} {rest : List Oper} {o : Oper} {a : Act} {w : World} {Q : Exit → Act → World → Prop} (hg : o.guard = none) (s x : Operand) (hop : o.op = Op.call { callee := Callee.builtin Builtin.append, args := #[s, x], argTypes := #[31, 31] })
    (base base2 k n cap cc : Nat) (sa ad : Option Addr) (xs ys : List Msg) (hv : a.eval s = .slice sa k cap) (hown : w.ownsRow base 45 4 (.slice sa k cap) k (flatM xs))
    (hx : a.eval x = .slice ad n cc) (hsrc : w.ownsRow base2 45 4 (.slice ad n cc) n (flatM ys)) (him : k + n ≤ 10000000) (hb : base ≤ w.heap.size)
    (hK : ∀ g3 cap3 w', w'.ownsRow base 45 4 (.slice g3 (k + n) cap3) (k + n) (flatM (xs ++ ys)) → w.grownBy w' (Value.slice sa k cap).ownBlock → wpList Try.prog ops Q rest (a.put o.dst (.slice g3 (k + n) cap3)) w') :
    wpList Try.prog ops Q (o :: rest) a w :=
  wpList_plain hg fun _ h => wp_catM s x hop base base2 k n cap cc sa ad xs ys hv hown hx hsrc him hb fun g3 cap3 w' h2 h3 => h _ _ (hK g3 cap3 w' h2 h3)

end Go.Proofs.Ytncbgejggfkdmaa

/- The contracts of the laws' helpers on what has arrived: equality, an element. -/
namespace Go.Proofs.Ytncbgejggfkdmaa
open Go.RowKit Go.PlainAid

set_option maxHeartbeats 1000000 in
theorem sameInts_same (a b : Option Addr) (len cap cap2 : Nat) (es : List Int) (w : World) (h : Ns w a len cap es) (k : Ns w b len cap2 es) :
    Calls Try.prog 22 #[.slice a len cap, .slice b len cap2] w fun e w' => e = .returned (.bool true) ∧ Below w.heap.size w w' := by
  have hl := h.length
  have hm := h.len_int
  have HG := Lib.hid h
  have HK := Lib.hid k
  clear h k
  go_enter Try.func22, Try.ntmps22
  go_wp2
  go_loopw [5] (fun i wr => ∃ k : Nat, k ≤ len ∧ i = .int .i64 k ∧ Hid (Below w.heap.size w wr)) (fun i _ => len - (intOf i).toNat)
  case atStart => exact ⟨0, Nat.zero_le _, rfl, Lib.hid (Below.refl _ _)⟩
  case round =>
    obtain ⟨k, hk, rfl, hbel⟩ := hrel
    by_cases hlt : k < len
    · obtain ⟨x, rfl⟩ := HG.out.addr hlt
      obtain ⟨y, rfl⟩ := HK.out.addr hlt
      have p0 := HG.out.at hbel.out hlt
      have m0 := HK.out.at hbel.out hlt
      obtain ⟨c1, hc1⟩ : ∃ c1, nAt es k = c1 := ⟨_, rfl⟩
      rw [hc1] at p0 m0
      clear hc1
      go_wp2_with fail
      go_quiet (fail)
      go_wp2
      go_roundw
      case rel => exact ⟨k + 1, by omega, by go_num, Lib.hid (below_drewN hbel.out _)⟩
      case measure => simp [intOf]; omega
    · obtain rfl : k = len := by omega
      go_wp2
      go_ret
      exact ⟨rfl, hbel.out⟩

end Go.Proofs.Ytncbgejggfkdmaa

/- The contracts of the laws' helpers on assemblies: equality of parts, of messages, of assemblies. -/
namespace Go.Proofs.Ytncbgejggfkdmaa
open Go.RowKit Go.PlainAid

set_option maxHeartbeats 2000000 in
theorem sameParts_same (a b : Option Addr) (len cap cap2 : Nat) (ps : List Part) (w : World) (h : Pts w a len cap ps) (k : Pts w b len cap2 ps) :
    Calls Try.prog 21 #[.slice a len cap, .slice b len cap2] w fun e w' => e = .returned (.bool true) ∧ Below w.heap.size w w' := by
  have hl := h.length
  have hm := h.len_int
  have HG := Lib.hid h
  have HK := Lib.hid k
  clear h k
  go_enter Try.func21, Try.ntmps21
  go_wp2
  go_loopw [5] (fun i wr => ∃ k : Nat, k ≤ len ∧ i = .int .i64 k ∧ Hid (Below w.heap.size w wr)) (fun i _ => len - (intOf i).toNat)
  case atStart => exact ⟨0, Nat.zero_le _, rfl, Lib.hid (Below.refl _ _)⟩
  case round =>
    obtain ⟨k, hk, rfl, hbel⟩ := hrel
    by_cases hlt : k < len
    · obtain ⟨x, rfl⟩ := HG.out.addr hlt
      obtain ⟨y, rfl⟩ := HK.out.addr hlt
      obtain ⟨p0, p1, p2, p3, p4, p5, p6⟩ := HG.out.at hbel.out hlt
      obtain ⟨m0, m1, m2, m3, m4, m5, m6⟩ := HK.out.at hbel.out hlt
      obtain ⟨⟨t, s, q, fi, la, lo, tx⟩, hc1⟩ : ∃ c1, pAt ps k = c1 := ⟨_, rfl⟩
      rw [hc1] at p0 p1 p2 p3 p4 p5 p6 m0 m1 m2 m3 m4 m5 m6
      dsimp only at p0 p1 p2 p3 p4 p5 p6 m0 m1 m2 m3 m4 m5 m6
      clear hc1
      have hneq : ∀ w, (binOp .neq 28 (.agg #[.int .i64 t, .int .i64 s, .int .i64 q, .bool fi, .bool la, .bool lo, .string tx]) (.agg #[.int .i64 t, .int .i64 s, .int .i64 q, .bool fi, .bool la, .bool lo, .string tx])).run Try.prog w = .ok (.bool false) w := fun w => by go_simp
      go_wp2_with fail
      go_quiet (fail)
      go_wp2
      go_roundw
      case rel => exact ⟨k + 1, by omega, by go_num, Lib.hid (below_drewN hbel.out _)⟩
      case measure => simp [intOf]; omega
    · obtain rfl : k = len := by omega
      go_wp2
      go_ret
      exact ⟨rfl, hbel.out⟩

set_option maxHeartbeats 1000000 in
theorem sameAsm_same (an ap bn bp : Option Addr) (n c1 c2 l c3 c4 : Nat) (es : List Int) (ps : List Part) (w : World) (h1 : Ns w an n c1 es) (h2 : Ns w bn n c2 es) (h3 : Pts w ap l c3 ps) (h4 : Pts w bp l c4 ps) :
    Calls Try.prog 16 #[.agg #[.slice an n c1, .slice ap l c3], .agg #[.slice bn n c2, .slice bp l c4]] w fun e w' => e = .returned (.bool true) ∧ Below w.heap.size w w' := by
  have B2 := Lib.hid (show Below w.heap.size w ((w.alloc (.cells #[.slice an n c1, .slice ap l c3] 26)).alloc (.cells #[.slice bn n c2, .slice bp l c4] 26)) from (below_box _ (Nat.le_refl _)).alloc (by simp) _)
  have N1 := Lib.hid (h1.below B2.out)
  have N2 := Lib.hid (h2.below B2.out)
  have P1 := Lib.hid (h3.below B2.out)
  have P2 := Lib.hid (h4.below B2.out)
  have VA := Lib.hid ((VarN.new w [.slice an n c1, .slice ap l c3] 26).alloc (.cells #[.slice bn n c2, .slice bp l c4] 26) (by simp))
  have VB := Lib.hid (VarN.new_at (w := w.alloc (.cells #[.slice an n c1, .slice ap l c3] 26)) (d := w.heap.size + 1) (by simp) [.slice bn n c2, .slice bp l c4] 26)
  clear h1 h2 h3 h4
  go_enter Try.func16, Try.ntmps16
  go_wp2_with fail
  refine (sameInts_same an bn n c1 c2 es _ N1.out N2.out).mono ?_
  rintro e w1 ⟨rfl, hb1⟩
  have a1 := ((VA.out.below hb1 (by simp; omega)) 1 _ rfl).1
  have b1 := ((VB.out.below hb1 (by simp)) 1 _ rfl).1
  have Q1 := Lib.hid (P1.out.below hb1)
  have Q2 := Lib.hid (P2.out.below hb1)
  have B3 := Lib.hid (B2.out.trans (hb1.mono B2.out.size))
  clear hb1
  go_wp2_with fail
  refine (sameParts_same ap bp l c3 c4 ps _ Q1.out Q2.out).mono ?_
  rintro e w2 ⟨rfl, hb2⟩
  have B4 := Lib.hid (B3.out.trans (hb2.mono B3.out.size))
  clear hb2
  go_wp2
  go_ret
  exact ⟨rfl, B4.out⟩

end Go.Proofs.Ytncbgejggfkdmaa

/- The walks of the laws on a new assembly. -/
namespace Go.Proofs.Ytncbgejggfkdmaa
open Go.RowKit Go.PlainAid

theorem sAsmNew_at (m : Nat) (w : World) (h : 1 ≤ m ∧ m ≤ 4) : Calls Try.prog 68 #[.int .i64 (m : Int)] w (NewA m w) := sAsmNew_yes (m : Int) w (by omega)

end Go.Proofs.Ytncbgejggfkdmaa

/- The contract of the program's AsmRun. -/
namespace Go.Proofs.Ytncbgejggfkdmaa
open Go.RowKit Go.PlainAid

def runV (n : Int) (ds : List Part) : List Msg := if 1 ≤ n ∧ n ≤ 4 then runL n.toNat ds else []
/-- The messages of a list of parts, in a row of one's own. -/
def RunAns (n : Int) (ds : List Part) (w : World) (e : Ending) (w' : World) : Prop :=
  ∃ a k c, e = .returned (.slice a k c) ∧ w'.ownsRow w.heap.size 45 4 (.slice a k c) k (flatM (runV n ds)) ∧ Below w.heap.size w w'
theorem setKind {base e size n D e2 i : Nat} {v : Value} {xs : List Value} {c : Array Value} {W : World} (h : W.ownsRow base e size v n xs) (hD : W.heap[D]? = some (.cells c e2 (0, 0))) (hne : e ≠ e2) (u : Value) : (W.setCell ⟨D, i, none⟩ u).ownsRow base e size v n xs := by
  refine ⟨h.1, ?_⟩
  rcases h.2 with h1 | ⟨g, cap, cur, h1, h2, h3, h4⟩
  · exact .inl h1
  · exact .inr ⟨g, cap, cur, h1, h2, by rw [Below.heap_setCell _ _ _ _ (kind_ne h3 hD hne)]; exact h3, h4⟩
theorem ownB {w w' : World} {base e size n : Nat} {v : Value} {xs : List Value} (h : w.ownsRow base e size v n xs) (hb : Below w.heap.size w w') : w'.ownsRow base e size v n xs := row_same h fun x _ h2 => hb.block x h2
/-- Another kind of row has grown. -/
theorem ownGrown {base e size n r e2 : Nat} {c2 : Array Value} {v : Value} {xs : List Value} {w w' : World} (h : w.ownsRow base e size v n xs) (hg : w.grownBy w' (some r)) (hk : w.heap[r]? = some (.cells c2 e2 (0, 0))) (hne : e ≠ e2) : w'.ownsRow base e size v n xs := by
  refine ⟨h.1, ?_⟩
  rcases h.2 with h1 | ⟨g, cap, cur, h1, h2, h3, h4⟩
  · exact .inl h1
  · exact .inr ⟨g, cap, cur, h1, h2, by rw [hg.block g (Array.getElem?_eq_some_iff.1 h3).1 fun hh => kind_ne h3 hk hne (by simpa using hh)]; exact h3, h4⟩
theorem ownGrownO {base base2 e size size2 n n2 e2 : Nat} {v v2 : Value} {xs ys : List Value} {w w' : World} (h : w.ownsRow base e size v n xs) (hg : w.grownBy w' v2.ownBlock) (h2 : w.ownsRow base2 e2 size2 v2 n2 ys) (hne : e ≠ e2) : w'.ownsRow base e size v n xs := by
  rcases h2.2 with ⟨rfl, _⟩ | ⟨g, cap, cur, rfl, _, h3, _⟩
  · exact row_same h fun x _ hx => hg.block x hx (by simp [Value.ownBlock])
  · exact ownGrown h hg h3 hne
/-- The assembly of a run, in a variable at D. -/
structure Ar (w : World) (D : Nat) (a1 : Option Addr) (n1 c1 : Nat) (a2 : Option Addr) (n2 c2 : Nat) (next : List Int) (ps : List Part) (W : World) : Prop where
  dv : W.heap[D]? = some (.cells #[.slice a1 n1 c1, .slice a2 n2 c2] 26 (0, 0))
  n : W.ownsRow w.heap.size 3 1 (.slice a1 n1 c1) n1 (flatN next)
  p : W.ownsRow w.heap.size 28 7 (.slice a2 n2 c2) n2 (flatP ps)
  b : Below w.heap.size w W
  lo : w.heap.size ≤ D
section
variable {w W W' : World} {D n1 c1 n2 c2 m1 d1 m2 d2 B : Nat} {a1 a2 b1 b2 : Option Addr} {next next2 : List Int} {ps ps2 : List Part}
theorem Ar.zD (h : Ar w D a1 n1 c1 a2 n2 c2 next ps W) : D < W.heap.size := (Array.getElem?_eq_some_iff.1 h.dv).1
theorem Ar.var (h : Ar w D a1 n1 c1 a2 n2 c2 next ps W) : VarN D [.slice a1 n1 c1, .slice a2 n2 c2] W := var_of_heap h.dv
theorem Ar.step (h : Ar w D a1 n1 c1 a2 n2 c2 next ps W) (hb : Below W.heap.size W W') : Ar w D a1 n1 c1 a2 n2 c2 next ps W' :=
  ⟨(hb.block D h.zD).trans h.dv, ownB h.n hb, ownB h.p hb, h.b.trans (hb.mono h.b.size), h.lo⟩
theorem Ar.store (h : Ar w D a1 n1 c1 a2 n2 c2 next ps W) (h1 : W.ownsRow w.heap.size 3 1 (.slice b1 m1 d1) m1 (flatN next2)) (h2 : W.ownsRow w.heap.size 28 7 (.slice b2 m2 d2) m2 (flatP ps2)) :
    Ar w D b1 m1 d1 b2 m2 d2 next2 ps2 ((W.setCell ⟨D, 0, none⟩ (.slice b1 m1 d1)).setCell ⟨D, 1, none⟩ (.slice b2 m2 d2)) := by
  have e1 := heap_setCell_same W D 0 _ _ (.slice b1 m1 d1) h.dv
  exact ⟨box_set h.dv _ _, setKind (setKind h1 h.dv (by decide) _) e1 (by decide) _, setKind (setKind h2 h.dv (by decide) _) e1 (by decide) _, (h.b.setCell (p := ⟨D, 0, none⟩) h.lo _).setCell (p := ⟨D, 1, none⟩) h.lo _, h.lo⟩
theorem Ar.keep {base size n : Nat} {v : Value} {xs : List Value} (h : Ar w D a1 n1 c1 a2 n2 c2 next ps W) (h1 : W.ownsRow base 45 size v n xs) (x y : Value) : ((W.setCell ⟨D, 0, none⟩ x).setCell ⟨D, 1, none⟩ y).ownsRow base 45 size v n xs :=
  setKind (setKind h1 h.dv (by decide) _) (heap_setCell_same W D 0 _ _ x h.dv) (by decide) _
theorem Ar.grow {base n : Nat} {v : Value} {xs : List Value} (h : Ar w D a1 n1 c1 a2 n2 c2 next ps W) (hg : W.grownBy W' v.ownBlock) (h2 : W.ownsRow base 45 4 v n xs) (hB : w.heap.size ≤ base) : Ar w D a1 n1 c1 a2 n2 c2 next ps W' := by
  refine ⟨?_, ownGrownO h.n hg h2 (by decide), ownGrownO h.p hg h2 (by decide), Below.grown h.b hg h.b.size fun x hx => Nat.le_trans hB (own_ge h2 hx), h.lo⟩
  rcases h2.2 with ⟨rfl, _⟩ | ⟨g, cap, cur, rfl, _, h3, _⟩
  · exact (hg.block D h.zD (by simp [Value.ownBlock])).trans h.dv
  · exact (hg.block D h.zD fun hh => kind_ne h.dv h3 (by decide) (by simpa [Value.ownBlock] using hh)).trans h.dv
end
theorem runV_yes {m : Nat} (ds : List Part) (h : 1 ≤ m ∧ m ≤ 4) : runV (m : Int) ds = runL m ds := by
  unfold runV
  rw [if_pos (by omega)]
  rfl
theorem ok_keys {next : List Int} {ps : List Part} (h : AsmOk next ps) : ∀ p ∈ ps, Key p.tsn := fun p hp => by
  have := (h.ok p hp).1.1
  unfold Key
  omega

end Go.Proofs.Ytncbgejggfkdmaa

/- Regions that draw their order: each operation's own fact, whatever order comes; one variable is made and filled. -/
namespace Go.Proofs.Ytncbgejggfkdmaa
open Go.RowKit Go.PlainAid

/-- No operation waits for one behind it, where it must wait. -/
def low2B (ops : Array Oper) : Bool := (List.range ops.size).all fun i => ((ops[i]?).map fun o => o.after.all fun e => !Region.binds .any e || decide (e.on < i)).getD true
theorem low2B_spec {ops : Array Oper} (h : low2B ops = true) : ∀ i o, ops[i]? = some o → ∀ e ∈ o.after, Region.binds .any e = true → e.on < i := by
  intro i o ho e he hb
  have hlt : i < ops.size := (Array.getElem?_eq_some_iff.1 ho).1
  have := List.all_eq_true.1 h i (List.mem_range.2 hlt)
  rw [ho] at this
  simp only [Option.map_some, Option.getD_some, Array.all_eq_true_iff_forall_mem] at this
  have := this e he
  rw [hb] at this
  simpa using this
/-- A region, by an invariant on its slots' values and the world. -/
theorem region_vals2 {P : Program} {ops : Array Oper} {Q : Exit → Act → World → Prop} {id n : Nat} {a : Act} {w : World} (ds : List Nat) (Iv : (Nat → Bool) → (Nat → Value) → World → Prop) (hm : P.follows .mixedOrders = true) (hn : ops.size = n) (hlow : low2B ops = true)
    (hs : ∀ k ∈ ds, k < a.tmps.size) (h0 : Iv (fun _ => false) (valsOf a) w.drew)
    (hstep : ∀ i l b w, i < n → l i = false → (∀ o, ops[i]? = some o → ∀ e ∈ o.after, Region.binds .any e = true → l e.on = true) → (∀ k ∈ ds, k < b.tmps.size) → Iv l (valsOf b) w →
      wpOp P ops Q i (fun b' w' => (b' = b ∨ ∃ k ∈ ds, ∃ v, b' = b.put (some k) v) ∧ Iv (more l i) (valsOf b') w') b w)
    (hend : ∀ l (V : Nat → Value) w, (∀ i, i < n → l i = true) → Iv l V w → Q .normal (ds.foldl (fun b k => b.put (some k) (V k)) a) w) : (Code.region id ops true).wp P Q a w := by
  refine region_inv (n := n) (Inv := fun l b w => Fr0 ds a b ∧ Iv l (valsOf b) w) hm hn (low2B_spec hlow) ⟨Fr0.refl _ _, h0⟩ (fun i l b w hi hl hd hI => ?_) (fun l b w hall hI => ?_)
  · have h1 := hstep i l b w hi hl hd (fun k hk => by rw [hI.1.size]; exact hs k hk) hI.2
    refine wpOp_mono (fun b' w' hb => ⟨?_, hb.2⟩) h1
    rcases hb.1 with e | ⟨k, hk, v, e⟩
    · rw [e]; exact hI.1
    · rw [e]; exact hI.1.put hk v
  · rw [hI.1.eq hs]
    exact hend l (valsOf b) w hall hI.2
/-- Whether an operation waits for another. -/
def depB (ops : Array Oper) (i j : Nat) : Bool := ((ops[i]?).map fun o => o.after.any fun e => Region.binds .any e && e.on == j).getD false
theorem depB_spec {ops : Array Oper} {i j : Nat} {l : Nat → Bool} (h : depB ops i j = true) (hd : ∀ o, ops[i]? = some o → ∀ e ∈ o.after, Region.binds .any e = true → l e.on = true) : l j = true := by
  unfold depB at h
  cases ho : ops[i]? with
  | none => rw [ho] at h; cases h
  | some o =>
    rw [ho] at h
    simp only [Option.map_some, Option.getD_some, Array.any_eq_true'] at h
    obtain ⟨e, he, h2⟩ := h
    simp only [Bool.and_eq_true, beq_iff_eq] at h2
    rw [← h2.2]
    exact hd o ho e he h2.1
/-- A set of operations that holds whatever its own wait for. -/
def Shut (ops : Array Oper) (n : Nat) (l : Nat → Bool) : Prop := ∀ i j, i < n → l i = true → depB ops i j = true → l j = true
/-- What holds while the region runs. -/
structure Fac (ops : Array Oper) (n : Nat) (dst : Nat → Nat) (is ia : Nat) (keep : Nat → Bool) (G : Nat → Value → World → Prop) (G2 : Value → World → Prop) (n0 : Nat) (w0 : World) (V0 : Nat → Value) (l : Nat → Bool) (V : Nat → Value) (W : World) : Prop where
  b : Below n0 w0 W
  sh : Shut ops n l
  fr : ∀ k, (∀ i, i < n → i ≠ is → dst i ≠ k) → V k = V0 k
  f : ∀ i, i < n → i ≠ is → l i = true → (l is = false ∨ keep i = true) → G i (V (dst i)) W
  s : l is = true → G2 (V (dst ia)) W
theorem region_facts {P : Program} {ops : Array Oper} {Q : Exit → Act → World → Prop} {id n : Nat} {a : Act} {w : World} (dst : Nat → Nat) (is ia sv : Nat) (pre keep : Nat → Bool) (nd : Nat → Nat → Bool) (G : Nat → Value → World → Prop) (G2 : Value → World → Prop) (n0 : Nat) (w0 : World)
    (hm : P.follows .mixedOrders = true) (hn : ops.size = n) (hlow : low2B ops = true) (ha : ia < n ∧ ia ≠ is ∧ depB ops is ia = true) (hv : sv < n ∧ sv ≠ is ∧ depB ops is sv = true)
    (hinj : ∀ i j, i < n → j < n → i ≠ is → j ≠ is → dst i = dst j → i = j) (hs : ∀ i, i < n → i ≠ is → dst i < a.tmps.size)
    (hreach : ∀ l : Nat → Bool, Shut ops n l → l is = true → ∀ i, i < n → pre i = true → l i = true)
    (hnd : ∀ i j, i < n → i ≠ is → nd i j = true → depB ops i j = true ∧ (j < n ∧ j ≠ is) ∧ (pre i = true ∨ keep j = true)) (hnk : pre ia = true)
    (gm : ∀ i v W W', G i v W → Below W.heap.size W W' → G i v W') (g2m : ∀ v W W', G2 v W → Below W.heap.size W W' → G2 v W') (h0 : Below n0 w0 w.drew) (hn0 : n0 ≤ w0.heap.size)
    (hstep : ∀ i b W, i < n → i ≠ is → Below n0 w0 W → (∀ k, k < n → k ≠ is → dst k < b.tmps.size) → (∀ k, (∀ i, i < n → i ≠ is → dst i ≠ k) → valsOf b k = valsOf a k) → (∀ j, nd i j = true → G j (valsOf b (dst j)) W) →
      wpOp P ops Q i (fun b' W' => ∃ v, b' = b.put (some (dst i)) v ∧ G i v W' ∧ Below W.heap.size W W') b W)
    (hstore : ∀ b W, Below n0 w0 W → (∀ k, (∀ i, i < n → i ≠ is → dst i ≠ k) → valsOf b k = valsOf a k) → G ia (valsOf b (dst ia)) W → G sv (valsOf b (dst sv)) W →
      wpOp P ops Q is (fun b' W' => b' = b ∧ G2 (valsOf b (dst ia)) W' ∧ Below n0 w0 W' ∧ ∀ k v, k < n → keep k = true → G k v W → G k v W') b W)
    (his : is < n)
    (hend : ∀ (V : Nat → Value) W, Below n0 w0 W → (∀ i, i < n → i ≠ is → keep i = true → G i (V (dst i)) W) → G2 (V (dst ia)) W → Q .normal (((List.range n).filter fun i => i != is).foldl (fun b i => b.put (some (dst i)) (V (dst i))) a) W) : (Code.region id ops true).wp P Q a w := by
  have hds : ∀ k ∈ ((List.range n).filter fun i => i != is).map dst, ∃ i, i < n ∧ i ≠ is ∧ dst i = k := fun k hk => by
    obtain ⟨i, hi, rfl⟩ := List.mem_map.1 hk
    have := List.mem_filter.1 hi
    exact ⟨i, List.mem_range.1 this.1, by simpa using this.2, rfl⟩
  have hmem : ∀ i, i < n → i ≠ is → dst i ∈ ((List.range n).filter fun i => i != is).map dst := fun i hi hne => List.mem_map.2 ⟨i, List.mem_filter.2 ⟨List.mem_range.2 hi, by simpa using hne⟩, rfl⟩
  refine region_vals2 (((List.range n).filter fun i => i != is).map dst) (Fac ops n dst is ia keep G G2 n0 w0 (valsOf a)) hm hn hlow (fun k hk => by obtain ⟨i, hi, hne, rfl⟩ := hds k hk; exact hs i hi hne) ?_ ?_ ?_
  · exact ⟨h0, (fun i j _ h => by cases h), (fun _ _ => rfl), (fun i _ _ h => by cases h), (fun h => by cases h)⟩
  · intro i l b W hi hl hd hsb hI
    have hsz : ∀ k, k < n → k ≠ is → dst k < b.tmps.size := fun k hk hne => hsb _ (hmem k hk hne)
    have shut2 : Shut ops n (more l i) := fun x y hx hmx hxy => by
      unfold more at hmx ⊢
      by_cases e : x = i
      · subst e
        rw [depB_spec hxy hd, Bool.or_true]
      · have : l x = true := by simpa [e] using hmx
        rw [hI.sh x y hx this hxy, Bool.or_true]
    by_cases hei : i = is
    · subst hei
      have hga := hI.f ia ha.1 ha.2.1 (depB_spec ha.2.2 hd) (.inl hl)
      have hgv := hI.f sv hv.1 hv.2.1 (depB_spec hv.2.2 hd) (.inl hl)
      refine wpOp_mono ?_ (hstore b W hI.b hI.fr hga hgv)
      rintro b' W' ⟨rfl, h2, h3, h4⟩
      refine ⟨.inl rfl, ⟨h3, shut2, hI.fr, fun k hk hne hlk hor => ?_, fun _ => h2⟩⟩
      have hkeep : keep k = true := by
        rcases hor with h | h
        · simp [more] at h
        · exact h
      have hlk' : l k = true := by simpa [more, hne] using hlk
      exact h4 k _ hk hkeep (hI.f k hk hne hlk' (.inl hl))
    · have hdeps : ∀ j, nd i j = true → G j (valsOf b (dst j)) W := fun j hj => by
        obtain ⟨hj1, hj2, hj3⟩ := hnd i j hi hei hj
        refine hI.f j hj2.1 hj2.2 (depB_spec hj1 hd) ?_
        cases hls : l is with
        | false => exact .inl rfl
        | true =>
          right
          cases hp : pre i with
          | true =>
            have := hreach l hI.sh hls i hi hp
            rw [hl] at this
            cases this
          | false =>
            rcases hj3 with h | h
            · rw [hp] at h
              cases h
            · exact h
      refine wpOp_mono ?_ (hstep i b W hi hei hI.b hsz hI.fr hdeps)
      rintro b' W' ⟨v, rfl, h2, h3⟩
      refine ⟨.inr ⟨dst i, hmem i hi hei, v, rfl⟩, ?_⟩
      rw [vals_put (hsz i hi hei)]
      refine ⟨hI.b.trans (h3.mono (Nat.le_trans hn0 hI.b.size)), shut2, fun k hk => ?_, fun k hk hne hlk hor => ?_, fun hls => ?_⟩
      · unfold upd
        rw [if_neg (fun e => hk i hi hei e.symm)]
        exact hI.fr k hk
      · by_cases e : k = i
        · subst e
          simpa [upd] using h2
        · have hdne : dst k ≠ dst i := fun h => e (hinj k i hk hi hne hei h)
          unfold upd
          rw [if_neg hdne]
          have hlk' : l k = true := by simpa [more, e] using hlk
          have hor' : l is = false ∨ keep k = true := by
            rcases hor with h | h
            · left
              simpa [more, Ne.symm hei] using h
            · exact .inr h
          exact gm _ _ _ _ (hI.f k hk hne hlk' hor') h3
      · have hls' : l is = true := by simpa [more, Ne.symm hei] using hls
        have hdne : dst ia ≠ dst i := fun h => by
          have := hinj ia i ha.1 hi ha.2.1 hei h
          subst this
          have := hreach l hI.sh hls' ia hi hnk
          rw [hl] at this
          cases this
        unfold upd
        rw [if_neg hdne]
        exact g2m _ _ _ (hI.s hls') h3
  · intro l V W hall hI
    have h := hend V W hI.b (fun i hi hne hk => hI.f i hi hne (hall i hi) (.inr hk)) (hI.s (hall is his))
    rw [List.foldl_map]
    exact h

/-- Whether an operation waits, by some way, for another. -/
def reachB (ops : Array Oper) (n : Nat) : Nat → Nat → Nat → Bool
  | 0, x, i => x == i
  | f + 1, x, i => x == i || (List.range n).any fun k => depB ops x k && reachB ops n f k i
theorem reachB_spec {ops : Array Oper} {n : Nat} {l : Nat → Bool} (hl : Shut ops n l) : ∀ f x i, x < n → l x = true → reachB ops n f x i = true → l i = true
  | 0, x, i, _, h, hr => by
    have : x = i := by simpa [reachB] using hr
    exact this ▸ h
  | f + 1, x, i, hx, h, hr => by
    rcases Bool.or_eq_true_iff.1 (show (x == i || (List.range n).any fun k => depB ops x k && reachB ops n f k i) = true from hr) with h1 | h1
    · have : x = i := by simpa using h1
      exact this ▸ h
    · obtain ⟨k, hk, h2⟩ := List.any_eq_true.1 h1
      have h3 := Bool.and_eq_true_iff.1 h2
      exact reachB_spec hl f k i (List.mem_range.1 hk) (hl x k hx h h3.1) h3.2
/-- What is asked of a region's shape. -/
def shapeB (ops : Array Oper) (n : Nat) (dl : List Nat) (is ia sv : Nat) (pre keep : List Nat) (nd : List (List Nat)) : Bool :=
  low2B ops && decide (ops.size = n) && (decide (ia < n) && (ia != is) && depB ops is ia) && (decide (sv < n) && (sv != is) && depB ops is sv) && decide (is < n) &&
  ((List.range n).all fun i => (List.range n).all fun j => i == is || j == is || i == j || dl.getD i 0 != dl.getD j 0) &&
  ((List.range n).all fun i => !pre.contains i || reachB ops n n is i) && pre.contains ia &&
  ((List.range n).all fun i => i == is || (nd.getD i []).all fun j => depB ops i j && (decide (j < n) && j != is && (pre.contains i || keep.contains j)))
def dstL (dl : List Nat) (i : Nat) : Nat := dl.getD i 0
theorem region_by {P : Program} {ops : Array Oper} {Q : Exit → Act → World → Prop} {id : Nat} {a : Act} {w : World} (n : Nat) (dl : List Nat) (is ia sv : Nat) (pre keep : List Nat) (nd : List (List Nat)) (G : Nat → Value → World → Prop) (G2 : Value → World → Prop) (n0 : Nat) (w0 : World) (ds : List Nat)
    (hm : P.follows .mixedOrders = true) (hsh : shapeB ops n dl is ia sv pre keep nd = true) (hds : ((List.range n).filter fun i => i != is).map (dstL dl) = ds) (hs : ∀ k ∈ ds, k < a.tmps.size)
    (gm : ∀ i v W W', G i v W → Below W.heap.size W W' → G i v W') (g2m : ∀ v W W', G2 v W → Below W.heap.size W W' → G2 v W') (h0 : Below n0 w0 w.drew) (hn0 : n0 ≤ w0.heap.size)
    (hstep : ∀ i b W, i < n → i ≠ is → Below n0 w0 W → (∀ k ∈ ds, k < b.tmps.size) → (∀ k, k ∉ ds → valsOf b k = valsOf a k) → (∀ j, (nd.getD i []).contains j = true → G j (valsOf b (dstL dl j)) W) →
      wpOp P ops Q i (fun b' W' => ∃ v, b' = b.put (some (dstL dl i)) v ∧ G i v W' ∧ Below W.heap.size W W') b W)
    (hstore : ∀ b W, Below n0 w0 W → (∀ k, k ∉ ds → valsOf b k = valsOf a k) → G ia (valsOf b (dstL dl ia)) W → G sv (valsOf b (dstL dl sv)) W →
      wpOp P ops Q is (fun b' W' => b' = b ∧ G2 (valsOf b (dstL dl ia)) W' ∧ Below n0 w0 W' ∧ ∀ k v, k < n → keep.contains k = true → G k v W → G k v W') b W)
    (hend : ∀ (V : Nat → Value) W, Below n0 w0 W → (∀ i, i < n → i ≠ is → keep.contains i = true → G i (V (dstL dl i)) W) → G2 (V (dstL dl ia)) W → Q .normal (ds.foldl (fun b k => b.put (some k) (V k)) a) W) : (Code.region id ops true).wp P Q a w := by
  unfold shapeB at hsh
  simp only [Bool.and_eq_true, decide_eq_true_eq, bne_iff_ne, ne_eq] at hsh
  obtain ⟨⟨⟨⟨⟨⟨⟨⟨hlow, hn⟩, ⟨h1, h2⟩, h3⟩, ⟨h4, h5⟩, h6⟩, h7⟩, h8⟩, h9⟩, h10⟩, h11⟩ := hsh
  have hin : ∀ k, k ∉ ds → ∀ i, i < n → i ≠ is → dstL dl i ≠ k := fun k hk i hi hne e => hk (by rw [← hds, ← e]; exact List.mem_map.2 ⟨i, List.mem_filter.2 ⟨List.mem_range.2 hi, by simpa using hne⟩, rfl⟩)
  have hmem : ∀ i, i < n → i ≠ is → dstL dl i ∈ ds := fun i hi hne => by rw [← hds]; exact List.mem_map.2 ⟨i, List.mem_filter.2 ⟨List.mem_range.2 hi, by simpa using hne⟩, rfl⟩
  have hout : ∀ {k}, (∀ i, i < n → i ≠ is → dstL dl i ≠ k) → k ∉ ds := fun {k} h hk => by
    rw [← hds] at hk
    obtain ⟨i, hi, e⟩ := List.mem_map.1 hk
    have := List.mem_filter.1 hi
    exact h i (List.mem_range.1 this.1) (by simpa using this.2) e
  have hout2 : ∀ {b : Act}, (∀ k, (∀ i, i < n → i ≠ is → dstL dl i ≠ k) → valsOf b k = valsOf a k) → ∀ k, k ∉ ds → valsOf b k = valsOf a k := fun h k hk => h k (hin k hk)
  have hsz : ∀ {b : Act}, (∀ k, k < n → k ≠ is → dstL dl k < b.tmps.size) → ∀ k ∈ ds, k < b.tmps.size := fun h k hk => by
    rw [← hds] at hk
    obtain ⟨i, hi, rfl⟩ := List.mem_map.1 hk
    have := List.mem_filter.1 hi
    exact h i (List.mem_range.1 this.1) (by simpa using this.2)
  have hpre2 : ∀ i j, i < n → i ≠ is → (nd.getD i []).contains j = true → depB ops i j = true ∧ (j < n ∧ j ≠ is) ∧ (pre.contains i = true ∨ keep.contains j = true) := fun i j hi hne hj => by
    have hx := List.all_eq_true.1 h11 i (List.mem_range.2 hi)
    have hy : ((nd.getD i []).all fun j => depB ops i j && (decide (j < n) && j != is && (pre.contains i || keep.contains j))) = true := by
      rcases Bool.or_eq_true_iff.1 hx with h | h
      · exact absurd (by simpa using h) hne
      · exact h
    have hz := List.all_eq_true.1 hy j (List.contains_iff_mem.1 hj)
    simp only [Bool.and_eq_true, decide_eq_true_eq, bne_iff_ne, ne_eq, Bool.or_eq_true] at hz
    exact ⟨hz.1, ⟨hz.2.1.1, hz.2.1.2⟩, hz.2.2⟩
  refine region_facts (n := n) (dstL dl) is ia sv (fun i => pre.contains i) (fun i => keep.contains i) (fun i j => (nd.getD i []).contains j) G G2 n0 w0 hm hn hlow ⟨h1, h2, h3⟩ ⟨h4, h5, h6⟩ ?_ (fun i hi hne => hs _ (hmem i hi hne)) ?_ hpre2 h10 gm g2m h0 hn0 ?_ ?_ h7 ?_
  · intro i j hi hj hni hnj e
    have := List.all_eq_true.1 (List.all_eq_true.1 h8 i (List.mem_range.2 hi)) j (List.mem_range.2 hj)
    simp only [Bool.or_eq_true, beq_iff_eq, bne_iff_ne, ne_eq] at this
    rcases this with ((h | h) | h) | h
    · exact absurd h hni
    · exact absurd h hnj
    · exact h
    · exact absurd e h
  · intro l hl hls i hi hp
    have := List.all_eq_true.1 h9 i (List.mem_range.2 hi)
    rw [show pre.contains i = true from hp] at this
    exact reachB_spec hl n is i h7 hls (by simpa using this)
  · intro i b W hi hne hb hz hf hd
    exact hstep i b W hi hne hb (hsz hz) (hout2 hf) hd
  · intro b W hb hf hga hgv
    exact hstore b W hb (hout2 hf) hga hgv
  · intro V W hb hk h2
    have h := hend V W hb hk h2
    rw [← hds, List.foldl_map] at h
    exact h

end Go.Proofs.Ytncbgejggfkdmaa
