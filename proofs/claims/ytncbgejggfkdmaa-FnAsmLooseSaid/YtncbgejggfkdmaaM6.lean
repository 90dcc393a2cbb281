/- Texts that a proof needs, merged: K151, K26a, K152, K153, K154, K155. -/
import Derived.Test.YtncbgejggfkdmaaM5
import Derived.Lib.SliceRun

/- The contract of the program's release of all messages that are due. -/
namespace Go.Proofs.Ytncbgejggfkdmaa
open Go.RowKit Go.PlainAid

/-- Blocks below B are as they were, and of those that were there all but the list's, its links and the numbers' row. -/
structure Kr (B L M G : Nat) (ns : List (Nat × Part)) (w w' : World) : Prop where
  b : Below B w w'
  o : ∀ x, x < w.heap.size → x ≠ L → x ≠ M → x ≠ G → (∀ y ∈ ns, x ≠ y.1) → w'.heap[x]? = w.heap[x]?
theorem Kr.refl (B L M G : Nat) (ns : List (Nat × Part)) (w : World) : Kr B L M G ns w w := ⟨Below.refl _ _, fun _ _ _ _ _ _ => rfl⟩
theorem Kr.kp {B L M G : Nat} {ns ms : List (Nat × Part)} {a b c : World} (h : Kr B L M G ns a b) (k : Kp B L M ms b c) (hs : ∀ y ∈ ms, y ∈ ns) : Kr B L M G ns a c :=
  ⟨h.b.trans k.b, fun x h1 h2 h3 h4 h5 => (k.o x (Nat.lt_of_lt_of_le h1 h.b.size) h2 h3 fun y hy => h5 y (hs y hy)).trans (h.o x h1 h2 h3 h4 h5)⟩
theorem Kr.below {B L M G : Nat} {ns : List (Nat × Part)} {a b c : World} (h : Kr B L M G ns a b) (hB : B ≤ a.heap.size) (k : Below a.heap.size b c) : Kr B L M G ns a c :=
  ⟨h.b.trans (k.mono hB), fun x h1 h2 h3 h4 h5 => (k.block x h1).trans (h.o x h1 h2 h3 h4 h5)⟩
theorem Kr.set {B L M G i : Nat} {ns : List (Nat × Part)} {a b : World} (h : Kr B L M G ns a b) (hB : B ≤ G) (v : Value) : Kr B L M G ns a (b.setCell ⟨G, i, none⟩ v) :=
  ⟨h.b.setCell (p := ⟨G, i, none⟩) hB v, fun x h1 h2 h3 h4 h5 => (Below.heap_setCell _ _ _ _ (by simpa using h4)).trans (h.o x h1 h2 h3 h4 h5)⟩
/-- While messages are released: the parts ns1 still wait, the numbers are next1, the messages ms1 are out; R is the heap's size at the beginning. -/
structure Rl (B L M G R cn : Nat) (ns : List (Nat × Part)) (next : List Int) (ns1 : List (Nat × Part)) (next1 : List Int) (ms1 : List Msg) (v : Value) (w W : World) : Prop where
  run : runP next (psOf ns) = ⟨(runP next1 (psOf ns1)).next, (runP next1 (psOf ns1)).ps, ms1 ++ (runP next1 (psOf ns1)).ms⟩
  wl : Wl B W L M ns1
  ok : AsmOk next1 (psOf ns1)
  sub : ∀ y ∈ ns1, y ∈ ns
  nx : Nrow G next.length cn next1 W
  ln : next1.length = next.length
  out : W.ownsRow R 45 4 v ms1.length (flatM ms1)
  kr : Kr B L M G ns w W
/-- .. with the message that has just been taken out, at block mb. -/
structure Rk (B L M G R mb ln cn : Nat) (ns ns2 : List (Nat × Part)) (next2 : List Int) (ms1 : List Msg) (v : Value) (m : Msg) (w W : World) : Prop where
  wl : Wl B W L M ns2
  nx : Nrow G ln cn next2 W
  out : W.ownsRow R 45 4 v ms1.length (flatM ms1)
  kr : Kr B L M G ns w W
  mv : VarN mb [.int .i64 m.stream, .int .i64 m.ssn, .bool m.loose, .string m.text] W
  lo : R ≤ mb
theorem Rk.setN {B L M G R mb i ln cn : Nat} {ns ns2 : List (Nat × Part)} {next2 : List Int} {ms1 : List Msg} {v : Value} {m : Msg} {w W : World} (h : Rk B L M G R mb ln cn ns ns2 next2 ms1 v m w W) (_ : i < next2.length) (hB : B ≤ G) (hG : G < R) (hne : ∀ x, x = L ∨ x = M ∨ (∃ y ∈ ns2, x = y.1) → x ≠ G) (x : Int) :
    Rk B L M G R mb ln cn ns ns2 (next2.set i x) ms1 v m w (W.setCell ⟨G, i, none⟩ (.int .i64 x)) := by
  have hl := h.lo
  refine ⟨h.wl.same2 fun y hy => Below.heap_setCell _ _ _ _ (by simpa using hne y hy), h.nx.set i x, row_same h.out fun y h1 _ => Below.heap_setCell _ _ _ _ (by show y ≠ G; omega), h.kr.set hB _, h.mv.far _ (by omega), hl⟩
theorem Rk.drew {B L M G R mb ln cn : Nat} {ns ns2 : List (Nat × Part)} {next2 : List Int} {ms1 : List Msg} {v : Value} {m : Msg} {w W : World} (h : Rk B L M G R mb ln cn ns ns2 next2 ms1 v m w W) : Rk B L M G R mb ln cn ns ns2 next2 ms1 v m w W.drew :=
  ⟨h.wl.drewN 1, h.nx.blk rfl, h.out.drew, ⟨h.kr.b.drew, h.kr.o⟩, h.mv.drewN 1, h.lo⟩
theorem ns_of_var {G cap : Nat} {next : List Int} {W : World} (h : VarN G (flatN next) W) (hc : next.length ≤ cap) (hm : cap ≤ maxLen) : Ns W (some ⟨G, 0, none⟩) next.length cap next := by
  refine .inr ⟨_, rfl, hc, hm, rfl, fun i hi => ?_⟩
  rw [n_add]
  exact (h i _ (flatN_get next i hi)).1
theorem due_ssn {next : List Int} {d : Part} (h : dueP next d = true) (hl : d.loose = false) : d.ssn = nAt next d.stream.toNat := by
  unfold dueP at h
  rw [hl, Bool.false_or] at h
  simp only [Bool.and_eq_true, beq_iff_eq] at h
  exact h.2
section
variable {B L M G R m g cap k0 cn : Nat} {ns ns1 : List (Nat × Part)} {next next1 : List Int} {ms1 : List Msg} {v : Value} {w W W' : World}
/-- A message has been taken out. -/
theorem Rl.took (h : Rl B L M G R cn ns next ns1 next1 ms1 v w W) (hR : w.heap.size = R) (hG : G < R) (hGL : G ≠ L) (hGM : G ≠ M) (hGn : ∀ y ∈ ns, y.1 ≠ G) (hw : Wl B w L M ns) (hk : Kp B L M ns1 W W') :
    Nrow G next.length cn next1 W' ∧ W'.ownsRow R 45 4 v ms1.length (flatM ms1) ∧ Kr B L M G ns w W' := by
  have hlt := hw.lts
  have hz := h.kr.b.size
  refine ⟨h.nx.blk (hk.o G (by omega) hGL hGM fun y hy => (hGn y (h.sub y hy)).symm), row_same h.out fun x h1 h2 => hk.o x h2 (fun e => ?_) (fun e => ?_) (fun y hy e => ?_), h.kr.kp hk h.sub⟩
  · have := hlt L (.inl rfl); omega
  · have := hlt M (.inr (.inl rfl)); omega
  · have := hlt y.1 (.inr (.inr ⟨y, h.sub y hy, rfl⟩)); omega
end

theorem find_len {next : List Int} {ps : List Part} (ha : AsmOk next ps) : (findP next ps).length ≤ 13 := by
  by_cases h : findP next ps = []
  · rw [h]
    simp
  · obtain ⟨k, _, _, hc⟩ := find_is ha h
    exact hc.cn.len
theorem Rl.run_at {B L M G R cn : Nat} {ns ns1 : List (Nat × Part)} {next next1 : List Int} {ms1 : List Msg} {v : Value} {w W : World} (h : Rl B L M G R cn ns next ns1 next1 ms1 v w W) (_ : runP next (psOf ns) = ⟨next1, psOf ns1, ms1⟩) : Rl B L M G R cn ns next ns1 next1 ms1 v w W := h
theorem ptr_row {base m cap : Nat} {b : Option Addr} {bl : List Nat} {W : World} (h : W.ownsRow base 99 1 (.slice b m cap) m (bl.map fun b => .pointer (some ⟨b, 0, none⟩))) (hm : 0 < m) (hl : bl.length = m) :
    ∃ g, b = some ⟨g, 0, none⟩ ∧ base ≤ g ∧ g < W.heap.size ∧ ∀ i, i < m → W.cell? ⟨g, i, none⟩ = some (.pointer (some ⟨bl.getD i 0, 0, none⟩)) := by
  rcases h.2 with ⟨h1, h2⟩ | ⟨g, cap', cur, h1, h2, h3, _⟩
  · omega
  · obtain ⟨rfl, rfl⟩ : b = some ⟨g, 0, none⟩ ∧ cap = cap' := by simpa using h1
    refine ⟨g, rfl, h2, (Array.getElem?_eq_some_iff.1 h3).1, fun i hi => ?_⟩
    have := h.cellAt i (by omega)
    rw [this, List.getElem?_map, List.getElem?_eq_getElem (by omega), List.getD_eq_getElem?_getD, List.getElem?_eq_getElem (by omega)]
    rfl
theorem map_at {ns : List (Nat × Part)} {ch : List Nat} {i : Nat} (h : i < ch.length) : (ch.map (bAt ns)).getD i 0 = bAt ns (ch.getD i 0) := by
  rw [List.getD_eq_getElem?_getD, List.getD_eq_getElem?_getD, List.getElem?_map, List.getElem?_eq_getElem h]
  rfl

set_option maxHeartbeats 4000000 in
theorem release_any (B L M G cn : Nat) (ns : List (Nat × Part)) (next : List Int) (w : World) (h : Wl B w L M ns) (ha : AsmOk next (psOf ns)) (hx : Nrow G next.length cn next w) (hG : B ≤ G ∧ G < w.heap.size ∧ G ≠ L ∧ G ≠ M ∧ ∀ y ∈ ns, y.1 ≠ G) :
    Calls Try.prog 49 #[.pointer (some ⟨L, 0, none⟩), .slice (some ⟨G, 0, none⟩) next.length cn] w fun e w' => ∃ a cap ns1, e = .returned (.slice a (runP next (psOf ns)).ms.length cap) ∧ psOf ns1 = (runP next (psOf ns)).ps ∧ Rl B L M G w.heap.size cn ns next ns1 (runP next (psOf ns)).next (runP next (psOf ns)).ms (.slice a (runP next (psOf ns)).ms.length cap) w w' := by
  obtain ⟨hBG, hGl, hGL, hGM, hGn⟩ := hG
  have hBw : B ≤ w.heap.size := Nat.le_of_lt (Nat.lt_of_le_of_lt h.lo.1 h.lk.lt)
  have HW := Lib.hid h
  have hc := hx.len
  have HX := Lib.hid (ns_of_var hx.var hc.1 hc.2.1)
  have R0 := Lib.hid (show Rl B L M G w.heap.size cn ns next ns next [] (.slice none 0 0) w w from ⟨by cases runP next (psOf ns); rfl, h, ha, fun y hy => hy, hx, rfl, World.ownsRow_nil w _ _ _, Kr.refl _ _ _ _ _ _⟩)
  have HA := Lib.hid ha
  have HC := Lib.hid (And.intro hc.1 hc.2.1)
  have HGn := Lib.hid hGn
  obtain ⟨i0, hi, hz0, hz1, hz2⟩ := info_parts info_mg
  have HI := Lib.hid (And.intro hi (And.intro hz0 (And.intro hz1 hz2)))
  clear h ha hx hc hGn hi hz0 hz1 hz2
  obtain ⟨ln, hln⟩ : ∃ ln, next.length = ln := ⟨_, rfl⟩
  have HLN := Lib.hid hln
  rw [hln] at HX ⊢
  clear hln
  have D0 := due_any B L M ns (some ⟨G, 0, none⟩) ln cn next w HW.out HX.out HA.out
  go_enter Try.func49, Try.ntmps49
  go_wp2_with fail
  refine D0.mono ?_
  rintro e w1 ⟨a1, m1, cap1, rfl, hm1, ho1⟩
  have R1 := Lib.hid (show Rl B L M G w.heap.size cn ns next ns next [] (.slice none 0 0) w w1 from
    ⟨R0.out.run, HW.out.below ho1.b, HA.out, fun y hy => hy, R0.out.nx.below ho1.b hGl, rfl, row_same R0.out.out (fun x h1 h2 => by omega), R0.out.kr.below hBw ho1.b⟩)
  have Q1 := Lib.hid (show m1 = (findP next (psOf ns)).length ∧ w1.ownsRow w.heap.size 99 1 (.slice a1 m1 cap1) m1 (((findP next (psOf ns)).map (bAt ns)).map fun b => .pointer (some ⟨b, 0, none⟩)) from ⟨hm1, ho1.own⟩)
  clear hm1 ho1 R0 D0
  go_wp2
  go_loopg [5, 6] ns.length (fun gk v q wr => ∃ (ns1 : List (Nat × Part)) (next1 : List Int) (ms1 : List Msg) (a : Option Addr) (k cap : Nat) (b : Option Addr) (m cap2 : Nat), Hid (gk = ns1.length) ∧ v = .slice a k cap ∧ Hid (k = ms1.length) ∧ q = .slice b m cap2 ∧ k + ns1.length ≤ 12 ∧ m ≤ 13 ∧
    Hid (Rl B L M G w.heap.size cn ns next ns1 next1 ms1 (.slice a k cap) w wr) ∧ Hid (m = (findP next1 (psOf ns1)).length ∧ wr.ownsRow w.heap.size 99 1 (.slice b m cap2) m (((findP next1 (psOf ns1)).map (bAt ns1)).map fun b => .pointer (some ⟨b, 0, none⟩))))
  case atStart => exact ⟨ns, next, [], none, 0, 0, a1, m1, cap1, rfl, rfl, rfl, rfl, by have := HA.out.few; rw [psOf_length] at this; omega, by rw [Q1.out.1]; exact find_len HA.out, R1, Q1⟩
  case round =>
    obtain ⟨ns1, next1, ms1, a, k, cap, b, m, cap2, HK, rfl, HKM, rfl, hk12, hm13, hR, hQ⟩ := hrel
    clear R1 Q1
    have hb0 := hR.out.kr.b
    by_cases hm0 : m = 0
    · have E := Lib.hid (show findP next1 (psOf ns1) = [] from List.eq_nil_of_length_eq_zero (by rw [← hQ.out.1]; exact hm0))
      subst hm0
      go_wp2
      go_ret
      have ER := hR.out.run
      rw [run_stop E.out] at ER
      have e1 : runP next (psOf ns) = ⟨next1, psOf ns1, ms1⟩ := by rw [ER]; simp
      rw [e1]
      have hkm := HKM.out
      subst hkm
      exact ⟨a, cap, ns1, rfl, rfl, hR.out.run_at e1⟩
    · have hpos : (0 : Int) < (m : Int) := by omega
      have hposN : decide (0 < m) = true := decide_eq_true (by omega)
      have hne : findP next1 (psOf ns1) ≠ [] := fun h => hm0 (by rw [hQ.out.1, h]; rfl)
      obtain ⟨g, rfl, hg1, hg2, hrow⟩ := ptr_row hQ.out.2 (by omega) (by rw [List.length_map]; exact hQ.out.1.symm)
      obtain ⟨k0, hk0, hdue, hchn⟩ := find_is hR.out.ok hne
      have HCH := Lib.hid hchn
      have HNE := Lib.hid hne
      have hlts := Lib.hid HW.out.lts
      have hsub := Lib.hid hR.out.sub
      have hhead := find_head hR.out.ok hne
      have HH := Lib.hid hhead
      have HMEM := Lib.hid (pAt_mem (show (findP next1 (psOf ns1)).getD 0 0 < (psOf ns1).length from hchn.cn.lt _ (getD_in (List.length_pos_iff.2 hne))))
      have TK := take_any B L M k0 ns1 (findP next1 (psOf ns1)) g m cap2 wr hR.out.wl hchn hQ.out.1.symm (fun i hi => by rw [hrow i hi, map_at (by rw [← hQ.out.1]; exact hi)]) (fun x hx e => by
          have := hlts.out x (by
            rcases hx with hx | hx | ⟨y, hy, e⟩
            · exact .inl hx
            · exact .inr (.inl hx)
            · exact .inr (.inr ⟨y, hsub.out y hy, e⟩))
          omega) (fun p hp => (hR.out.ok.ok p hp).1.2.2.2.2)
      clear hrow hchn hhead hne hQ
      go_wp2_with fail
      refine TK.mono ?_
      rintro e w2 ⟨rfl, hw2, hk2⟩
      obtain ⟨t1, t2, t3⟩ := hR.out.took rfl hGl hGL hGM HGn.out HW.out hk2
      have E2 := Lib.hid (leftB_parts hR.out.wl.lk.nd (fun i hi => by have := HCH.out.cn.lt i hi; rwa [psOf_length] at this))
      obtain ⟨ns2, hns2⟩ : ∃ ns2, leftB ns1 ((findP next1 (psOf ns1)).map (bAt ns1)) = ns2 := ⟨_, rfl⟩
      have HS2 := Lib.hid (show ∀ y ∈ ns2, y ∈ ns1 from fun y hy => by rw [← hns2] at hy; exact (leftB_sub hy).1)
      rw [hns2] at hw2 E2
      have OK2 := Lib.hid (find_ok hR.out.ok HNE.out)
      have LT2 := Lib.hid (find_shorter hR.out.ok HNE.out)
      rw [← E2.out] at OK2 LT2
      have RUN := Lib.hid (run_step hR.out.ok HNE.out)
      rw [← E2.out] at RUN
      have DOK := Lib.hid (hR.out.ok.ok _ HMEM.out)
      have hl1 := hR.out.ok.n4
      have HL1 := Lib.hid hR.out.ln
      have hln4 : ln ≤ 4 := by have := HL1.out; have := HLN.out; omega
      obtain ⟨X, hX⟩ : ∃ X, textP (psOf ns1) (findP next1 (psOf ns1)) = X := ⟨_, rfl⟩
      obtain ⟨d, hd⟩ : ∃ d, pAt (psOf ns1) ((findP next1 (psOf ns1)).getD 0 0) = d := ⟨_, rfl⟩
      have EM := Lib.hid (show msgP (psOf ns1) (findP next1 (psOf ns1)) = ⟨d.stream, d.ssn, d.loose, X⟩ by unfold msgP; rw [hd, hX])
      have ED := Lib.hid (show headD (psOf ns1) (findP next1 (psOf ns1)) = d from hd)
      rw [hd] at DOK
      rw [ED.out] at HH OK2 RUN
      rw [EM.out] at RUN ⊢
      unfold msgV
      have RN := Lib.hid (hR.out.run)
      have K12 := Lib.hid (show Rk B L M G w.heap.size w2.heap.size ln cn ns ns2 next1 ms1 (.slice a k cap) ⟨d.stream, d.ssn, d.loose, X⟩ w (w2.alloc (.cells #[.int .i64 d.stream, .int .i64 d.ssn, .bool d.loose, .string X] 45)) from
        ⟨hw2.alloc _, by rw [← HLN.out]; exact t1.blk (heap_past _ _ (Nat.lt_of_lt_of_le hGl (Nat.le_trans hb0.size hk2.b.size))), row_same t2 (fun x h1 h2 => heap_past _ _ h2), t3.below hBw ((below_box _ (Nat.le_refl _)).mono t3.b.size), VarN.new w2 [.int .i64 d.stream, .int .i64 d.ssn, .bool d.loose, .string X] 45, Nat.le_trans hb0.size hk2.b.size⟩)
      obtain ⟨t, s, q, fi, la, lo, tx⟩ := d
      dsimp only at EM RUN K12 ⊢
      have s0 : 0 ≤ s := DOK.out.1.2.1.1
      obtain ⟨sn, rfl⟩ : ∃ sn : Nat, s = (sn : Int) := ⟨s.toNat, by omega⟩
      have hsn : sn < next1.length := by have := DOK.out.2; dsimp only at this; omega
      have hsi : (sn : Int) < (ln : Int) := by have := HL1.out; have := HLN.out; omega
      have SUB2 := Lib.hid (show ∀ y ∈ ns2, y ∈ ns from fun y hy => hsub.out y (HS2.out y hy))
      clear hw2 hk2 t1 t2 t3 TK HCH HMEM hd hX hns2 hR hb0 hsub HNE
      cases lo with
      | true =>
        have NXT := Lib.hid (show nextP next1 ⟨t, sn, q, fi, la, true, tx⟩ = next1 from rfl)
        rw [NXT.out] at OK2 RUN
        have y0 := (K12.out.mv 0 _ rfl).1
        have y1 := (K12.out.mv 1 _ rfl).1
        have y2 := (K12.out.mv 2 _ rfl).1
        have y3 := (K12.out.mv 3 _ rfl).1
        have hmv := Lib.hid (lt_of_cell y0)
        have OUT := Lib.hid (show ((w2.alloc (.cells #[.int .i64 sn, .int .i64 q, .bool true, .string X] 45)).alloc (.cells #[.int .i64 sn, .int .i64 q, .bool true, .string X] 45)).ownsRow w.heap.size 45 4 (.slice a k cap) k (flatM ms1) by have := row_same (w' := (w2.alloc (.cells #[.int .i64 sn, .int .i64 q, .bool true, .string X] 45)).alloc (.cells #[.int .i64 sn, .int .i64 q, .bool true, .string X] 45)) K12.out.out (fun x h1 h2 => heap_past _ _ h2); rw [← HKM.out] at this; exact this)
        have hbase := Lib.hid (show ∀ g, (Value.slice a k cap).ownBlock = some g → w.heap.size ≤ g from fun g hg => own_ge OUT.out hg)
        have hWs := K12.out.kr.b.size
        have hW2 := K12.out.lo
        go_wp2_with (at_builtin; go_loud (refine wpList_append_lies _ rfl _ _ 31 rfl w.heap.size 45 i0 (msgV ⟨0, 0, false, ByteArray.mk #[]⟩) 4 40 Try.underlying31 HI.out.1 HI.out.2.1 HI.out.2.2.1 HI.out.2.2.2 rfl (by decide) (.slice a k cap) k (flatM ms1) rfl OUT.out ⟨w2.heap.size + 1, 0, none⟩ 1 1 (cellsM ⟨sn, q, true, X⟩) rfl rfl (news_box (by simp)) (cellsM_one _) (by decide) (by unfold maxLen; omega) (by omega) (by simp; omega) _ rfl ?_))
        intro g3 cap3 w9 hown hgrow hat hlt9
        have hlow : ∀ x, x < w.heap.size → w9.heap[x]? = (w2.alloc (.cells #[.int .i64 sn, .int .i64 q, .bool true, .string X] 45)).heap[x]? := fun x hx => (hgrow.block x (by simp; omega) (fun e => by have := hbase.out x e.symm; omega)).trans (heap_past _ _ (by omega))
        have RL9 := Lib.hid (show Rl B L M G w.heap.size cn ns next ns2 next1 (ms1 ++ [⟨sn, q, true, X⟩]) (.slice (some ⟨g3, 0, none⟩) (k + 1) cap3) w w9 from by
          refine ⟨?_, K12.out.wl.same2 fun x hx => hlow x ?_, OK2.out, SUB2.out, by rw [HLN.out]; exact K12.out.nx.blk (hlow G hGl), HL1.out, ?_, ?_, ?_⟩
          · rw [RN.out, RUN.out, List.append_assoc]
            rfl
          · have := HW.out.lts x (by
              rcases hx with hx | hx | ⟨y, hy, e⟩
              · exact .inl hx
              · exact .inr (.inl hx)
              · exact .inr (.inr ⟨y, SUB2.out y hy, e⟩))
            omega
          · rw [List.length_append, ← HKM.out, flatM_append, flatM_one_]
            exact hown
          · exact Below.grown ((K12.out.kr.b).alloc (Nat.le_trans hBw hWs) _) hgrow (by simp; omega) fun g hg => Nat.le_trans hBw (hbase.out g hg)
          · exact fun x h1 h2 h3 h4 h5 => (hlow x h1).trans (K12.out.kr.o x h1 h2 h3 h4 h5))
        have hcn : (next1).length = ln := HL1.out.trans HLN.out
        have HX9 := Lib.hid (show Ns w9 (some ⟨G, 0, none⟩) ln cn next1 by have := ns_of_var (cap := cn) RL9.out.nx.var (by rw [hcn, ← HLN.out]; exact HC.out.1) HC.out.2; rw [hcn] at this; exact this)
        have D9 := due_any B L M ns2 (some ⟨G, 0, none⟩) ln cn _ w9 RL9.out.wl HX9.out OK2.out
        have K13 := Lib.hid (show k + 1 = (ms1 ++ [(⟨sn, q, true, X⟩ : Msg)]).length by rw [List.length_append, HKM.out]; rfl)
        have LT3 : ns2.length < ns1.length := by have := LT2.out; rw [psOf_length, psOf_length] at this; exact this
        have GK := Lib.hid (show ns2.length < gk by rw [HK.out]; exact LT3)
        have k13 : k + 1 + ns2.length ≤ 12 := by omega
        have hs9 := RL9.out.kr.b.size
        clear hown hgrow hat hlt9 hlow hcn y0 y1 y2 y3 OUT LT3
        go_wp2_with fail
        refine D9.mono ?_
        rintro e w10 ⟨a2, m2, cap4, rfl, hm2, ho2⟩
        have RL10 := Lib.hid (show Rl B L M G w.heap.size cn ns next ns2 next1 (ms1 ++ [⟨sn, q, true, X⟩]) (.slice (some ⟨g3, 0, none⟩) (k + 1) cap3) w w10 from
          ⟨RL9.out.run, RL9.out.wl.below ho2.b, OK2.out, SUB2.out, RL9.out.nx.below ho2.b (by omega), RL9.out.ln, row_same RL9.out.out (fun x h1 h2 => ho2.b.block x h2), RL9.out.kr.below hBw (ho2.b.mono hs9)⟩)
        have Q10 := Lib.hid (show m2 = (findP next1 (psOf ns2)).length ∧ w10.ownsRow w.heap.size 99 1 (.slice a2 m2 cap4) m2 (((findP next1 (psOf ns2)).map (bAt ns2)).map fun b => .pointer (some ⟨b, 0, none⟩)) from ⟨hm2, row_low ho2.own hs9⟩)
        have M13 : m2 ≤ 13 := by rw [hm2]; exact find_len OK2.out
        clear hm2 ho2 D9
        go_wp2
        go_roundg ns2.length
        case measure => exact GK.out
        case rel => exact ⟨ns2, next1, ms1 ++ [⟨sn, q, true, X⟩], _, k + 1, cap3, a2, m2, cap4, rfl, rfl, K13, rfl, k13, M13, RL10, Q10⟩
      | false =>
        have NXT := Lib.hid (show nextP next1 ⟨t, sn, q, fi, la, false, tx⟩ = next1.set sn (addS q 1) from rfl)
        rw [NXT.out] at OK2 RUN
        have SSN := Lib.hid (show q = nAt next1 sn from due_ssn (d := ⟨t, sn, q, fi, la, false, tx⟩) HH.out rfl)
        have hq := DOK.out.1.2.2.1
        have hserq : Ser q := ⟨hq.1, by have := hq.2; dsimp only at this; omega⟩
        have SA : ∀ w, Calls Try.prog 23 #[.int .i64 q, .int .i64 1] w fun e w' => e = .returned (.int .i64 (addS q 1)) ∧ w' = w := fun w => (serialAdd_same q 1 w).mono fun e w' h => ⟨h.1.trans (by rw [addV_yes 1 hserq]), h.2⟩
        have SAH := Lib.hid SA
        have gx := (K12.out.nx.var sn _ (flatN_get next1 sn hsn)).1
        have gf := (K12.out.nx.var sn _ (flatN_get next1 sn hsn)).2
        rw [← SSN.out] at gx
        have y0 := (K12.out.mv 0 _ rfl).1
        have y2 := (K12.out.mv 2 _ rfl).1
        have N2 := Lib.hid (K12.out.setN hsn hBG hGl (fun x hx e => by rcases hx with rfl | rfl | ⟨y, hy, rfl⟩; exact hGL e.symm; exact hGM e.symm; exact HGn.out y (SUB2.out y hy) e) (addS q 1))
        clear SA hq hserq
        go_upto_region 7 with fail
        go_cut [] from 23 to 32 (fun wx => Hid (Rk B L M G w.heap.size w2.heap.size ln cn ns ns2 (next1.set sn (addS q 1)) ms1 (.slice a k cap) ⟨sn, q, false, X⟩ w wx))
        case first =>
          go_region_law (go_simp; go_at_call 23; refine (SAH.out _).mono ?_; rintro e wc ⟨rfl, rfl⟩; dsimp only)
          all_goals
            go_wp2_with fail
            go_meet
            exact Lib.hid N2.out.drew
        case rest =>
          have RKH := hcut
          clear K12 N2 gx gf y0 y2 hcut
          have y0 := (RKH.out.mv 0 _ rfl).1
          have y1 := (RKH.out.mv 1 _ rfl).1
          have y2 := (RKH.out.mv 2 _ rfl).1
          have y3 := (RKH.out.mv 3 _ rfl).1
          have hmv := Lib.hid (lt_of_cell y0)
          have OUT := Lib.hid (show (wc.alloc (.cells #[.int .i64 sn, .int .i64 q, .bool false, .string X] 45)).ownsRow w.heap.size 45 4 (.slice a k cap) k (flatM ms1) by have := row_same (w' := wc.alloc (.cells #[.int .i64 sn, .int .i64 q, .bool false, .string X] 45)) RKH.out.out (fun x h1 h2 => heap_past _ _ h2); rw [← HKM.out] at this; exact this)
          have hbase := Lib.hid (show ∀ g, (Value.slice a k cap).ownBlock = some g → w.heap.size ≤ g from fun g hg => own_ge OUT.out hg)
          have hWs := RKH.out.kr.b.size
          have hW2 := RKH.out.lo
          go_wp2_with (at_builtin; go_loud (refine wpList_append_lies _ rfl _ _ 31 rfl w.heap.size 45 i0 (msgV ⟨0, 0, false, ByteArray.mk #[]⟩) 4 40 Try.underlying31 HI.out.1 HI.out.2.1 HI.out.2.2.1 HI.out.2.2.2 rfl (by decide) (.slice a k cap) k (flatM ms1) rfl OUT.out ⟨wc.heap.size, 0, none⟩ 1 1 (cellsM ⟨sn, q, false, X⟩) rfl rfl (news_box rfl) (cellsM_one _) (by decide) (by unfold maxLen; omega) (by omega) (by simp; omega) _ rfl ?_))
          intro g3 cap3 w9 hown hgrow hat hlt9
          have hlow : ∀ x, x < w.heap.size → w9.heap[x]? = wc.heap[x]? := fun x hx => (hgrow.block x (by simp; omega) (fun e => by have := hbase.out x e.symm; omega)).trans (heap_past _ _ (by omega))
          have RL9 := Lib.hid (show Rl B L M G w.heap.size cn ns next ns2 (next1.set sn (addS q 1)) (ms1 ++ [⟨sn, q, false, X⟩]) (.slice (some ⟨g3, 0, none⟩) (k + 1) cap3) w w9 from by
            refine ⟨?_, RKH.out.wl.same2 fun x hx => hlow x ?_, OK2.out, SUB2.out, by rw [HLN.out]; exact RKH.out.nx.blk (hlow G hGl), by rw [List.length_set]; exact HL1.out, ?_, ?_, ?_⟩
            · rw [RN.out, RUN.out, List.append_assoc]
              rfl
            · have := HW.out.lts x (by
                rcases hx with hx | hx | ⟨y, hy, e⟩
                · exact .inl hx
                · exact .inr (.inl hx)
                · exact .inr (.inr ⟨y, SUB2.out y hy, e⟩))
              omega
            · rw [List.length_append, ← HKM.out, flatM_append, flatM_one_]
              exact hown
            · exact Below.grown ((RKH.out.kr.b).alloc (Nat.le_trans hBw hWs) _) hgrow (by simp; omega) fun g hg => Nat.le_trans hBw (hbase.out g hg)
            · exact fun x h1 h2 h3 h4 h5 => (hlow x h1).trans (RKH.out.kr.o x h1 h2 h3 h4 h5))
          have hcn : ((next1.set sn (addS q 1))).length = ln := by rw [List.length_set]; exact HL1.out.trans HLN.out
          have HX9 := Lib.hid (show Ns w9 (some ⟨G, 0, none⟩) ln cn ((next1.set sn (addS q 1))) by have := ns_of_var (cap := cn) RL9.out.nx.var (by rw [hcn, ← HLN.out]; exact HC.out.1) HC.out.2; rw [hcn] at this; exact this)
          have D9 := due_any B L M ns2 (some ⟨G, 0, none⟩) ln cn _ w9 RL9.out.wl HX9.out OK2.out
          have K13 := Lib.hid (show k + 1 = (ms1 ++ [(⟨sn, q, false, X⟩ : Msg)]).length by rw [List.length_append, HKM.out]; rfl)
          have LT3 : ns2.length < ns1.length := by have := LT2.out; rw [psOf_length, psOf_length] at this; exact this
          have GK := Lib.hid (show ns2.length < gk by rw [HK.out]; exact LT3)
          have k13 : k + 1 + ns2.length ≤ 12 := by omega
          have hs9 := RL9.out.kr.b.size
          clear hown hgrow hat hlt9 hlow hcn y0 y1 y2 y3 OUT LT3
          go_wp2_with fail
          refine D9.mono ?_
          rintro e w10 ⟨a2, m2, cap4, rfl, hm2, ho2⟩
          have RL10 := Lib.hid (show Rl B L M G w.heap.size cn ns next ns2 (next1.set sn (addS q 1)) (ms1 ++ [⟨sn, q, false, X⟩]) (.slice (some ⟨g3, 0, none⟩) (k + 1) cap3) w w10 from
            ⟨RL9.out.run, RL9.out.wl.below ho2.b, OK2.out, SUB2.out, RL9.out.nx.below ho2.b (by omega), RL9.out.ln, row_same RL9.out.out (fun x h1 h2 => ho2.b.block x h2), RL9.out.kr.below hBw (ho2.b.mono hs9)⟩)
          have Q10 := Lib.hid (show m2 = (findP ((next1.set sn (addS q 1))) (psOf ns2)).length ∧ w10.ownsRow w.heap.size 99 1 (.slice a2 m2 cap4) m2 (((findP ((next1.set sn (addS q 1))) (psOf ns2)).map (bAt ns2)).map fun b => .pointer (some ⟨b, 0, none⟩)) from ⟨hm2, row_low ho2.own hs9⟩)
          have M13 : m2 ≤ 13 := by rw [hm2]; exact find_len OK2.out
          clear hm2 ho2 D9
          go_wp2
          go_roundg ns2.length
          case measure => exact GK.out
          case rel => exact ⟨ns2, (next1.set sn (addS q 1)), ms1 ++ [⟨sn, q, false, X⟩], _, k + 1, cap3, a2, m2, cap4, rfl, rfl, K13, rfl, k13, M13, RL10, Q10⟩

end Go.Proofs.Ytncbgejggfkdmaa

/- The contracts of the program's chapter 12: whether a part, an init is valid; the flags of a part. -/
namespace Go.Proofs.Ytncbgejggfkdmaa
open Go.RowKit Go.PlainAid

set_option maxHeartbeats 400000 in
theorem dataValid_any (a b c : Int) (fi la lo : Bool) (t : ByteArray) (w : World) :
    Calls Try.prog 76 #[.agg #[.int .i64 a, .int .i64 b, .int .i64 c, .bool fi, .bool la, .bool lo, .string t]] w fun e w' => e = .returned (.bool (dataOkV a b c t)) ∧ Below w.heap.size w w' := by
  by_cases h1 : Ser a
  · have H1 := Lib.hid h1
    clear h1
    by_cases h2 : Ser b
    · have H2 := Lib.hid h2
      clear h2
      by_cases h3 : Ser c
      · have H3 := Lib.hid h3
        clear h3
        have E : dataOkV a b c t = (decide ((0 : Int) < t.size) && decide ((t.size : Int) ≤ 20)) := by
          by_cases g : 1 ≤ t.size ∧ t.size ≤ 20
          · rw [dataOkV_yes ⟨ser_le H1.out, ser_le H2.out, ser_le H3.out, g.1, g.2⟩, decide_eq_true (show (0 : Int) < t.size by omega), decide_eq_true (show (t.size : Int) ≤ 20 by omega)]; rfl
          · rw [dataOkV_no fun h => g h.2.2.2]
            by_cases g0 : (0 : Int) < t.size
            · rw [decide_eq_true g0, decide_eq_false (show ¬ (t.size : Int) ≤ 20 by omega)]; rfl
            · rw [decide_eq_false g0]; rfl
        rw [E]
        clear E
        by_cases g0 : (0 : Int) < t.size
        · have t0 := g0
          rw [decide_eq_true g0, Bool.true_and]
          go_enter Try.func76, Try.ntmps76
          go_wp2_with fail
          refine (serialValid_yes a _ H1.out).mono ?_
          rintro e w1 ⟨rfl, rfl⟩
          go_wp2_with fail
          refine (serialValid_yes b _ H2.out).mono ?_
          rintro e w1 ⟨rfl, rfl⟩
          go_wp2_with fail
          refine (serialValid_yes c _ H3.out).mono ?_
          rintro e w1 ⟨rfl, rfl⟩
          go_wp2
          go_ret
          exact ⟨rfl, below_box _ (Nat.le_refl _)⟩
        · rw [decide_eq_false g0, Bool.false_and]
          go_enter Try.func76, Try.ntmps76
          go_wp2_with fail
          refine (serialValid_yes a _ H1.out).mono ?_
          rintro e w1 ⟨rfl, rfl⟩
          go_wp2_with fail
          refine (serialValid_yes b _ H2.out).mono ?_
          rintro e w1 ⟨rfl, rfl⟩
          go_wp2_with fail
          refine (serialValid_yes c _ H3.out).mono ?_
          rintro e w1 ⟨rfl, rfl⟩
          go_wp2
          go_ret
          exact ⟨rfl, below_box _ (Nat.le_refl _)⟩
      · have H3 := Lib.hid h3
        clear h3
        rw [dataOkV_no fun h => ser_not H3.out h.2.2.1]
        go_enter Try.func76, Try.ntmps76
        go_wp2_with fail
        refine (serialValid_yes a _ H1.out).mono ?_
        rintro e w1 ⟨rfl, rfl⟩
        go_wp2_with fail
        refine (serialValid_yes b _ H2.out).mono ?_
        rintro e w1 ⟨rfl, rfl⟩
        go_wp2_with fail
        refine (serialValid_no c _ H3.out).mono ?_
        rintro e w1 ⟨rfl, rfl⟩
        go_wp2
        go_ret
        exact ⟨rfl, below_box _ (Nat.le_refl _)⟩
    · have H2 := Lib.hid h2
      clear h2
      rw [dataOkV_no fun h => ser_not H2.out h.2.1]
      go_enter Try.func76, Try.ntmps76
      go_wp2_with fail
      refine (serialValid_yes a _ H1.out).mono ?_
      rintro e w1 ⟨rfl, rfl⟩
      go_wp2_with fail
      refine (serialValid_no b _ H2.out).mono ?_
      rintro e w1 ⟨rfl, rfl⟩
      go_wp2
      go_ret
      exact ⟨rfl, below_box _ (Nat.le_refl _)⟩
  · have H1 := Lib.hid h1
    clear h1
    rw [dataOkV_no fun h => ser_not H1.out h.1]
    go_enter Try.func76, Try.ntmps76
    go_wp2_with fail
    refine (serialValid_no a _ H1.out).mono ?_
    rintro e w1 ⟨rfl, rfl⟩
    go_wp2
    go_ret
    exact ⟨rfl, below_box _ (Nat.le_refl _)⟩

end Go.Proofs.Ytncbgejggfkdmaa

/- The contracts of the program's chapter 22: whether numbers, a part, an assembly is valid; the parts of an assembly as links. -/
namespace Go.Proofs.Ytncbgejggfkdmaa
open Go.RowKit Go.PlainAid

/-- Numbers of streams are valid. -/
def NextOk (next : List Int) : Prop := 1 ≤ next.length ∧ next.length ≤ 4 ∧ ∀ n ∈ next, 0 ≤ n ∧ n ≤ 65535
instance (next : List Int) : Decidable (NextOk next) := by unfold NextOk; infer_instance
def nextOkV (next : List Int) : Bool := decide (NextOk next)
theorem nextOkV_yes {next : List Int} (h : NextOk next) : nextOkV next = true := decide_eq_true h
theorem nextOkV_no {next : List Int} (h : ¬ NextOk next) : nextOkV next = false := decide_eq_false h
theorem AsmOk.next {next : List Int} {ps : List Part} (h : AsmOk next ps) : NextOk next := ⟨h.n1, h.n4, fun n hn => by have := h.nums n hn; exact ⟨this.1, by have := this.2; omega⟩⟩
theorem NextOk.ser {next : List Int} (h : NextOk next) : ∀ n ∈ next, Ser n := fun n hn => ⟨(h.2.2 n hn).1, by have := (h.2.2 n hn).2; omega⟩
def partOkV (n : Nat) (p : Part) : Bool := decide (PartOk n p)
theorem partOkV_yes {n : Nat} {p : Part} (h : PartOk n p) : partOkV n p = true := decide_eq_true h
theorem partOkV_no {n : Nat} {p : Part} (h : ¬ PartOk n p) : partOkV n p = false := decide_eq_false h

set_option maxHeartbeats 1000000 in
theorem nextValid_any (a : Option Addr) (len cap : Nat) (next : List Int) (w : World) (h : Ns w a len cap next) :
    Calls Try.prog 75 #[.slice a len cap] w fun e w' => e = .returned (.bool (nextOkV next)) ∧ w = w' := by
  have hl := h.length
  have hm := h.len_int
  have HG := Lib.hid h
  clear h
  by_cases h1 : (len : Int) < 1
  · have V := Lib.hid (nextOkV_no (next := next) fun h => by have := h.1; omega)
    clear hl
    go_enter Try.func75, Try.ntmps75
    go_wp2
    go_ret
    exact ⟨ret_b V.out.symm, rfl⟩
  · by_cases h4 : (4 : Int) < len
    · have V := Lib.hid (nextOkV_no (next := next) fun h => by have := h.2.1; omega)
      clear hl
      go_enter Try.func75, Try.ntmps75
      go_wp2
      go_ret
      exact ⟨ret_b V.out.symm, rfl⟩
    · have HL := Lib.hid hl
      clear hl
      go_enter Try.func75, Try.ntmps75
      go_wp2
      go_loop [15] (fun i => ∃ k : Nat, k ≤ len ∧ i = .int .i64 k ∧ Hid (∀ n ∈ next.take k, Ser n)) (fun i => len - (intOf i).toNat)
      case atStart => exact ⟨0, Nat.zero_le _, rfl, Lib.hid (by simp)⟩
      case round =>
        obtain ⟨k, hk, rfl, hok⟩ := hrel
        by_cases hlt : k < len
        · obtain ⟨x, rfl⟩ := HG.out.addr hlt
          have p0 := HG.out.at (Below.refl _ _) hlt
          have hkl : k < next.length := by rw [HL.out]; exact hlt
          obtain ⟨e, he⟩ : ∃ e, nAt next k = e := ⟨_, rfl⟩
          have HM := Lib.hid (nAt_mem hkl)
          have O := Lib.hid (take_nAt hkl)
          rw [he] at p0 HM O
          clear he
          by_cases hs : Ser e
          · have HS := Lib.hid hs
            have O2 := Lib.hid (show ∀ n ∈ next.take (k + 1), Ser n by
              rw [O.out]
              intro n hn
              rcases List.mem_append.1 hn with hn | hn
              · exact hok.out n hn
              · rw [List.mem_singleton.1 hn]; exact hs)
            clear hs
            go_wp2_with fail
            refine (serialValid_yes e _ HS.out).mono ?_
            rintro e w1 ⟨rfl, rfl⟩
            go_wp2
            go_round
            case rel => exact ⟨k + 1, by omega, by go_num, O2⟩
            case measure => simp [intOf]; omega
          · have HS := Lib.hid hs
            have V := Lib.hid (nextOkV_no (next := next) fun h => hs (h.ser e HM.out))
            clear hs
            go_wp2_with fail
            refine (serialValid_no e _ HS.out).mono ?_
            rintro e w1 ⟨rfl, rfl⟩
            go_wp2
            go_ret
            exact ⟨ret_b V.out.symm, rfl⟩
        · obtain rfl : k = len := by omega
          have V := Lib.hid (nextOkV_yes (next := next) (by
            have := hok.out
            have hl := HL.out
            rw [List.take_of_length_le (by omega)] at this
            exact ⟨by omega, by omega, fun n hn => by have := this n hn; exact ⟨this.1, by have := this.2; omega⟩⟩))
          go_wp2
          go_ret
          exact ⟨ret_b V.out.symm, rfl⟩

set_option maxHeartbeats 1000000 in
theorem partOf_any (p : Part) (n : Nat) (w : World) :
    Calls Try.prog 43 #[partV p, .int .i64 n] w fun e w' => e = .returned (.bool (partOkV n p)) ∧ Below w.heap.size w w' := by
  obtain ⟨t, s, q, fi, la, lo, tx⟩ := p
  have HB := below_box (w := w) (.cells #[.int .i64 t, .int .i64 s, .int .i64 q, .bool fi, .bool la, .bool lo, .string tx] 28) (Nat.le_refl _)
  have V0 := VarN.new w [.int .i64 t, .int .i64 s, .int .i64 q, .bool fi, .bool la, .bool lo, .string tx] 28
  have hV : Hid (∀ w', Below (w.alloc (.cells #[.int .i64 t, .int .i64 s, .int .i64 q, .bool fi, .bool la, .bool lo, .string tx] 28)).heap.size (w.alloc (.cells #[.int .i64 t, .int .i64 s, .int .i64 q, .bool fi, .bool la, .bool lo, .string tx] 28)) w' → w'.cell? ⟨w.heap.size, 1, none⟩ = some (.int .i64 s)) :=
    Lib.hid fun w' hb => ((V0.below hb (by simp)) 1 _ rfl).1
  by_cases hd : DataOk t s q tx
  · have D := Lib.hid (dataOkV_yes hd)
    have HD := Lib.hid hd
    have E := Lib.hid (show decide (s < (n : Int)) = partOkV n ⟨t, s, q, fi, la, lo, tx⟩ by
      by_cases h : s < (n : Int)
      · rw [decide_eq_true h, partOkV_yes ⟨hd, h⟩]
      · rw [decide_eq_false h, partOkV_no fun k => h k.2])
    clear hd V0
    unfold partV
    go_enter Try.func43, Try.ntmps43
    go_wp2_with fail
    refine (dataValid_any t s q fi la lo tx _).mono ?_
    rw [D.out]
    rintro e w1 ⟨rfl, hb1⟩
    have c1 := hV.out w1 hb1
    have HB1 := Lib.hid (HB.trans (hb1.mono HB.size))
    clear hb1
    go_wp2
    go_ret
    exact ⟨ret_b E.out, HB1.out⟩
  · have D := Lib.hid (dataOkV_no hd)
    have E := Lib.hid (partOkV_no (n := n) (p := ⟨t, s, q, fi, la, lo, tx⟩) fun k => hd k.1)
    clear hd V0
    unfold partV
    go_enter Try.func43, Try.ntmps43
    go_wp2_with fail
    refine (dataValid_any t s q fi la lo tx _).mono ?_
    rw [D.out]
    rintro e w1 ⟨rfl, hb1⟩
    have HB1 := Lib.hid (HB.trans (hb1.mono HB.size))
    clear hb1
    go_wp2
    go_ret
    exact ⟨ret_b E.out.symm, HB1.out⟩

end Go.Proofs.Ytncbgejggfkdmaa

/- The contracts of the program's chapter 22: the parts of an assembly as links; whether an assembly is valid; a copy of numbers. -/
namespace Go.Proofs.Ytncbgejggfkdmaa
open Go.RowKit Go.PlainAid

theorem hasT_take {ps : List Part} {k : Nat} {t : Int} (h : hasT (ps.take k) t = false) (hk : k ≤ ps.length) : ∀ i, i < k → (pAt ps i).tsn ≠ t := fun i hi => by
  refine hasT_no h (pAt ps i) ?_
  have e : pAt ps i = pAt (ps.take k) i := by
    unfold pAt
    rw [List.getD_eq_getElem?_getD, List.getD_eq_getElem?_getD, List.getElem?_take_of_lt hi]
  rw [e]
  exact pAt_mem (by rw [List.length_take]; omega)
theorem hasT_took {ps : List Part} {k : Nat} {t : Int} (h : hasT (ps.take k) t = true) (hk : k ≤ ps.length) : ∃ i, i < k ∧ (pAt ps i).tsn = t := by
  unfold hasT at h
  rw [List.any_eq_true] at h
  obtain ⟨p, hp, e⟩ := h
  obtain ⟨i, hi, rfl⟩ := mem_at hp
  rw [List.length_take] at hi
  refine ⟨i, by omega, ?_⟩
  have e2 : pAt (ps.take k) i = pAt ps i := by
    unfold pAt
    rw [List.getD_eq_getElem?_getD, List.getD_eq_getElem?_getD, List.getElem?_take_of_lt (by omega)]
  rw [← e2]
  simpa using e
/-- While the parts of an assembly are linked: k of them are. -/
structure Lg (w : World) (L M n : Nat) (ps : List Part) (k : Nat) (an : Option Addr) (ln cn : Nat) (ap : Option Addr) (lp cp : Nat) (W : World) : Prop where
  wl : ∃ ns, psOf ns = ps.take k ∧ Wl (w.heap.size + 1) W L M ns
  pre : PreOk n ps k
  box : VarN w.heap.size [.slice an ln cn, .slice ap lp cp] W
  b : Below w.heap.size w W

set_option maxRecDepth 8000 in
set_option maxHeartbeats 4000000 in
theorem waitListOf_any (an : Option Addr) (ln cn : Nat) (next : List Int) (ap : Option Addr) (lp cp : Nat) (ps : List Part) (w : World) (h : Ns w an ln cn next) (hp : Pts w ap lp cp ps) (hk : ∀ p ∈ ps, Key p.tsn) :
    Calls Try.prog 42 #[.agg #[.slice an ln cn, .slice ap lp cp]] w fun e w' => ((AsmOk next ps ∧ ∃ L M ns, e = .returned (.tuple #[.pointer (some ⟨L, 0, none⟩), .bool true]) ∧ psOf ns = ps ∧ Wl w.heap.size w' L M ns) ∨ (¬ AsmOk next ps ∧ e = .returned (.tuple #[.pointer none, .bool false]))) ∧ Below w.heap.size w w' := by
  have hl := h.length
  have hlp := hp.length
  have hmp := hp.len_int
  have HBX := below_box (w := w) (.cells #[.slice an ln cn, .slice ap lp cp] 26) (Nat.le_refl _)
  have HG := Lib.hid (h.below HBX)
  have HP := Lib.hid hp
  have HKY := Lib.hid hk
  have NV := nextValid_any an ln cn next _ HG.out
  have LN := Lib.hid hl
  have LP := Lib.hid hlp
  have HB := Lib.hid HBX
  clear h hp hk hl hlp HBX
  cases hv : nextOkV next with
  | false =>
    have N := Lib.hid (show ¬ AsmOk next ps from fun h => by rw [nextOkV_yes h.next] at hv; cases hv)
    rw [hv] at NV
    clear hv
    go_enter Try.func42, Try.ntmps42
    go_wp2_with fail
    refine NV.mono ?_
    rintro e w1 ⟨rfl, rfl⟩
    go_wp2
    go_ret2
    exact ⟨.inr ⟨N.out, rfl⟩, HB.out⟩
  | true =>
    have N := Lib.hid (of_decide_eq_true hv : NextOk next)
    rw [hv] at NV
    clear hv
    have hmm := @run_makeMap Try.prog
    have L0 := Lib.hid (show Lg w (w.heap.size + 2) (w.heap.size + 1) ln ps 0 an ln cn ap lp cp (((w.alloc (.cells #[.slice an ln cn, .slice ap lp cp] 26)).alloc (.map #[] 0)).alloc (.cells #[.pointer none, .pointer none, .map (some (w.heap.size + 1))] 101)) from by
      refine ⟨⟨[], by simp [psOf], ?_⟩, ⟨fun i hi => absurd hi (Nat.not_lt_zero _), fun i j _ hj => absurd hj (Nat.not_lt_zero _)⟩, ((VarN.new w _ _).alloc _ (by first | (simp; done) | (simp; omega))).alloc _ (by first | (simp; done) | (simp; omega)), (HB.out.alloc (by simp) _).alloc (by first | (simp; done) | (simp; omega)) _⟩
      refine ⟨⟨?_, fun i hi => by simp at hi, by simp, fun x hx => by simp at hx⟩, ⟨.map [], ?_⟩, by simp [psOf], fun p hp => by simp [psOf] at hp, by omega, fun x hx => by simp at hx, by omega, by omega, fun x hx => by simp at hx⟩
      · have := VarN.new_at (w := (w.alloc (.cells #[.slice an ln cn, .slice ap lp cp] 26)).alloc (.map #[] 0)) (d := w.heap.size + 2) (by simp) [.pointer none, .pointer none, .map (some (w.heap.size + 1))] 101
        exact this
      · have := Tab.new (w.alloc (.cells #[.slice an ln cn, .slice ap lp cp] 26))
        rw [show (w.alloc (.cells #[.slice an ln cn, .slice ap lp cp] 26)).heap.size = w.heap.size + 1 by simp] at this
        exact this.block (heap_past _ _ (by simp)))
    go_enter Try.func42, Try.ntmps42
    go_wp2_with fail
    refine NV.mono ?_
    rintro e w1 ⟨rfl, rfl⟩
    go_wp2
    go_loopw [17] (fun i wr => ∃ k : Nat, k ≤ lp ∧ i = .int .i64 k ∧ k ≤ 12 ∧ Hid (Lg w (w.heap.size + 2) (w.heap.size + 1) ln ps k an ln cn ap lp cp wr)) (fun i _ => lp - (intOf i).toNat)
    case atStart => exact ⟨0, Nat.zero_le _, rfl, by omega, L0⟩
    case round =>
      obtain ⟨k, hk, rfl, hk12, hL⟩ := hrel
      clear L0 hmm
      by_cases hlt : k < lp
      · obtain ⟨x, rfl⟩ := HP.out.addr hlt
        obtain ⟨p0, p1, p2, p3, p4, p5, p6⟩ := HP.out.at hL.out.b hlt
        have hkl : k < ps.length := by rw [LP.out]; exact hlt
        have HKP := Lib.hid (HKY.out _ (pAt_mem hkl))
        have HPM := Lib.hid (pAt_mem hkl)
        have HTK := Lib.hid (take_pAt hkl)
        obtain ⟨⟨t, s, q, fi, la, lo, tx⟩, he⟩ : ∃ e, pAt ps k = e := ⟨_, rfl⟩
        have HE := Lib.hid he
        rw [he] at p0 p1 p2 p3 p4 p5 p6 HKP HPM HTK
        dsimp only at p0 p1 p2 p3 p4 p5 p6
        have b0 := (hL.out.box 0 _ rfl).1
        obtain ⟨ns, hns, hwl⟩ := hL.out.wl
        have HNS := Lib.hid hns
        have hnl : ns.length = k := by rw [← psOf_length, hns, List.length_take]; omega
        have HNL := Lib.hid hnl
        have HW := Lib.hid (hwl.alloc (.cells #[.int .i64 t, .int .i64 s, .int .i64 q, .bool fi, .bool la, .bool lo, .string tx] 28))
        have hsz := hL.out.b.size
        have hsl : w.heap.size < wr.heap.size := hL.out.box.lt
        have HB2 := Lib.hid (hL.out.b.alloc hsz (.cells #[.int .i64 t, .int .i64 s, .int .i64 q, .bool fi, .bool la, .bool lo, .string tx] 28))
        have HBOX := Lib.hid (hL.out.box.alloc (.cells #[.int .i64 t, .int .i64 s, .int .i64 q, .bool fi, .bool la, .bool lo, .string tx] 28) (by have := hL.out.box.lt; exact this))
        have FU := full_any _ _ _ ns _ HW.out (by omega)
        have HS := has_any _ _ _ ns t _ HW.out HKP.out
        rw [hns] at HS
        rw [hnl] at FU
        have PRE := Lib.hid hL.out.pre
        clear he hns hwl hnl hL
        by_cases hc12 : 12 ≤ k
        · have NO := Lib.hid (show ¬ AsmOk next ps from fun h => by have := h.few; have := LP.out; omega)
          rw [decide_eq_true hc12] at FU
          go_wp2_with fail
          refine FU.mono ?_
          rintro e w2 ⟨rfl, rfl⟩
          go_wp2
          go_ret2
          exact ⟨.inr ⟨NO.out, rfl⟩, HB2.out⟩
        · rw [decide_eq_false hc12] at FU
          cases hht : hasT (ps.take k) t with
          | true =>
            rw [hht] at HS
            have NO := Lib.hid (show ¬ AsmOk next ps from fun h => by
              obtain ⟨i, hi, e⟩ := hasT_took hht (by omega)
              exact h.pre.2 i k hi hkl (by rw [HE.out]; exact e))
            clear hht
            go_wp2_with fail
            refine FU.mono ?_
            rintro e w2 ⟨rfl, rfl⟩
            go_wp2_with fail
            refine HS.mono ?_
            rintro e w2 ⟨rfl, rfl⟩
            go_wp2
            go_ret2
            exact ⟨.inr ⟨NO.out, rfl⟩, HB2.out⟩
          | false =>
            rw [hht] at HS
            have HT := Lib.hid hht
            have PO := fun w => partOf_any ⟨t, s, q, fi, la, lo, tx⟩ ln w
            have PE := partV_eq t s q fi la lo tx
            rw [PE] at PO
            clear hht
            by_cases hpo : PartOk ln ⟨t, s, q, fi, la, lo, tx⟩
            · have POK := Lib.hid hpo
              rw [partOkV_yes hpo] at PO
              have POH := Lib.hid PO
              clear hpo PO
              go_wp2_with fail
              refine FU.mono ?_
              rintro e w2 ⟨rfl, rfl⟩
              go_wp2_with fail
              refine HS.mono ?_
              rintro e w2 ⟨rfl, rfl⟩
              clear FU HS
              go_wp2_with fail
              refine (POH.out _).mono ?_
              rintro e w3 ⟨rfl, hb3⟩
              have HW3 := Lib.hid (HW.out.below hb3)
              have HBOX3 := Lib.hid (HBOX.out.below hb3 (by simp; omega))
              have V3 := (VarN.new wr [.int .i64 t, .int .i64 s, .int .i64 q, .bool fi, .bool la, .bool lo, .string tx] 28).below hb3 (by simp)
              have q0 := (V3 0 _ rfl).1
              have q1 := (V3 1 _ rfl).1
              have q2 := (V3 2 _ rfl).1
              have q3 := (V3 3 _ rfl).1
              have q4 := (V3 4 _ rfl).1
              have q5 := (V3 5 _ rfl).1
              have q6 := (V3 6 _ rfl).1
              have HB3 := Lib.hid (HB2.out.trans (hb3.mono (by simp; omega)))
              have AD := add_any _ _ _ ns ⟨t, s, q, fi, la, lo, tx⟩ w3 HW3.out (by rw [HNL.out]; omega) HKP.out (by rw [HNS.out]; exact HT.out)
              rw [PE] at AD
              clear hb3 V3 p0 p1 p2 p3 p4 p5 p6 b0
              go_wp2_with fail
              refine AD.mono ?_
              rintro e w4 ⟨rfl, d, hw4, hd4, hk4⟩
              have L4 := Lib.hid (show Lg w (w.heap.size + 2) (w.heap.size + 1) ln ps (k + 1) an ln cn (some x) lp cp w4 from
                ⟨⟨_, by rw [psOf_append, HNS.out, HTK.out]; rfl, hw4⟩, PRE.out.more (by rw [HE.out]; exact POK.out) (by rw [HE.out]; exact hasT_take HT.out (by omega)),
                 HBOX3.out.blk (hk4.b.block _ (by omega)), HB3.out.trans (hk4.b.mono (Nat.le_succ _))⟩)
              clear hw4 hd4 hk4 AD PE
              go_wp2
              go_roundw
              case rel => exact ⟨k + 1, by omega, by go_num, by omega, L4⟩
              case measure => simp [intOf]; omega
            · rw [partOkV_no hpo] at PO
              have POH := Lib.hid PO
              have NO := Lib.hid (show ¬ AsmOk next ps from fun h => hpo (by have := h.ok _ HPM.out; rw [LN.out] at this; exact this))
              clear hpo PO
              go_wp2_with fail
              refine FU.mono ?_
              rintro e w2 ⟨rfl, rfl⟩
              go_wp2_with fail
              refine HS.mono ?_
              rintro e w2 ⟨rfl, rfl⟩
              clear FU HS
              go_wp2_with fail
              refine (POH.out _).mono ?_
              rintro e w3 ⟨rfl, hb3⟩
              have HB3 := Lib.hid (HB2.out.trans (hb3.mono (by simp; omega)))
              clear hb3
              go_wp2
              go_ret2
              exact ⟨.inr ⟨NO.out, rfl⟩, HB3.out⟩
      · obtain rfl : k = lp := by omega
        have OK := Lib.hid (show AsmOk next ps from pre_all N.out.ser (by rw [LN.out, LP.out]; exact hL.out.pre) N.out.1 N.out.2.1 (by rw [LP.out]; exact hk12))
        go_wp2
        go_ret2
        obtain ⟨ns, h1, h2⟩ := hL.out.wl
        have e : ps.take k = ps := List.take_of_length_le (by rw [LP.out]; exact Nat.le_refl _)
        exact ⟨.inl ⟨OK.out, _, _, ns, rfl, h1.trans e, ⟨h2.lk, h2.tab, h2.td, h2.key, h2.ml, h2.fm, by have := h2.lo.1; omega, by have := h2.lo.2.1; omega, fun x hx => by have := h2.lo.2.2 x hx; omega⟩⟩, hL.out.b⟩

set_option maxHeartbeats 400000 in
theorem asmValid_any (an : Option Addr) (ln cn : Nat) (next : List Int) (ap : Option Addr) (lp cp : Nat) (ps : List Part) (w : World) (h : Ns w an ln cn next) (hp : Pts w ap lp cp ps) (hk : ∀ p ∈ ps, Key p.tsn) :
    Calls Try.prog 18 #[.agg #[.slice an ln cn, .slice ap lp cp]] w fun e w' => e = .returned (.bool (asmV next ps)) ∧ Below w.heap.size w w' := by
  have HB := below_box (w := w) (.cells #[.slice an ln cn, .slice ap lp cp] 26) (Nat.le_refl _)
  have WL := waitListOf_any an ln cn next ap lp cp ps _ (h.below HB) (hp.below HB) hk
  have HB := Lib.hid HB
  go_enter Try.func18, Try.ntmps18
  go_wp2_with fail
  refine WL.mono ?_
  rintro e w1 ⟨⟨hok, L, M, ns, rfl, _, _⟩ | ⟨hno, rfl⟩, hb2⟩
  · have V := Lib.hid (asmV_yes hok)
    go_wp2
    go_ret
    exact ⟨ret_b V.out.symm, HB.out.trans (hb2.mono HB.out.size)⟩
  · have V := Lib.hid (asmV_no hno)
    go_wp2
    go_ret
    exact ⟨ret_b V.out.symm, HB.out.trans (hb2.mono HB.out.size)⟩

end Go.Proofs.Ytncbgejggfkdmaa

/- The contract of the program's taking of a part; what a part does to an assembly. -/
namespace Go.Proofs.Ytncbgejggfkdmaa
open Go.RowKit Go.PlainAid

/-- What a part does to an assembly, valid or not. -/
def addsTo (next : List Int) (ps : List Part) (d : Part) : Prop := AsmOk next ps ∧ PartOk next.length d
instance (next : List Int) (ps : List Part) (d : Part) : Decidable (addsTo next ps d) := by unfold addsTo; infer_instance
def ansR (next : List Int) (ps : List Part) (d : Part) : Ran := if addsTo next ps d then addR next ps d else ⟨[], [], []⟩
def ansC (next : List Int) (ps : List Part) (d : Part) : Int := if addsTo next ps d then addC ps d else 3
/-- The value of an answer. -/
def ansV (a1 : Option Addr) (n1 c1 : Nat) (a2 : Option Addr) (n2 c2 : Nat) (a3 : Option Addr) (n3 c3 : Nat) (code : Int) : Value := .tuple #[.agg #[.slice a1 n1 c1, .slice a2 n2 c2], .slice a3 n3 c3, .int .i64 code]
/-- An answer's memory is its own, from R on. -/
structure AnsOwn (R : Nat) (a1 : Option Addr) (n1 c1 : Nat) (a2 : Option Addr) (n2 c2 : Nat) (a3 : Option Addr) (n3 c3 : Nat) (r : Ran) (W : World) : Prop where
  o1 : W.ownsRow R 3 1 (.slice a1 n1 c1) n1 (flatN r.next)
  o2 : W.ownsRow R 28 7 (.slice a2 n2 c2) n2 (flatP r.ps)
  o3 : W.ownsRow R 45 4 (.slice a3 n3 c3) n3 (flatM r.ms)
def AddAns (next : List Int) (ps : List Part) (d : Part) (w : World) (e : Ending) (w' : World) : Prop :=
  ∃ a1 n1 c1 a2 n2 c2 a3 n3 c3, e = .returned (ansV a1 n1 c1 a2 n2 c2 a3 n3 c3 (ansC next ps d)) ∧ AnsOwn w.heap.size a1 n1 c1 a2 n2 c2 a3 n3 c3 (ansR next ps d) w' ∧ Below w.heap.size w w'

set_option maxRecDepth 100000 in
set_option maxHeartbeats 1000000 in
theorem clone_any (a : Option Addr) (len cap : Nat) (next : List Int) (w : World) (h : Ns w a len cap next) (hn : len ≤ 1000) :
    Calls Try.prog 44 #[.slice a len cap] w fun e w' => ∃ a2 cap2, e = .returned (.slice a2 len cap2) ∧ w'.ownsRow w.heap.size 3 1 (.slice a2 len cap2) len (flatN next) ∧ Below w.heap.size w w' := by
  rcases h with ⟨rfl, rfl, rfl, rfl⟩ | ⟨x, rfl, h1, h2, h3, h4⟩
  · have hc : ∀ w, (binOp .eql 23 (.slice none 0 0) (.slice none 0 0)).run Try.prog w = .ok (.bool true) w := fun w => Lib.run_eql_slice_nil w 23 3 none 0 0 0 0 Try.underlying23
    go_enter Try.func44, Try.ntmps44
    go_wp2
    go_ret
    exact ⟨none, 0, rfl, World.ownsRow_nil _ _ _ _, Below.refl _ _⟩
  · have hns : Ns w (some x) len cap next := .inr ⟨x, rfl, h1, h2, h3, h4⟩
    have HN := Lib.hid hns
    have HL := Lib.hid h3
    have O := Lib.hid (World.ownsRow_lit (base := w.heap.size) (e := 3) (size := 1) w #[] 0 (Nat.le_refl _) (by decide) rfl)
    have hc : ∀ w, (binOp .eql 23 (.slice (some x) len cap) (.slice none 0 0)).run Try.prog w = .ok (.bool false) w := fun w => Lib.run_eql_slice_nil w 23 3 (some x) len cap 0 0 Try.underlying23
    clear h4 hns h3 h1 h2
    go_enter Try.func44, Try.ntmps44
    go_wp2_with (at_builtin; go_loud (refine list_catN rfl _ _ rfl w.heap.size 0 len len cap w.heap.size 0 x [] next (Nat.zero_add _) rfl O.out rfl HL.out (ns_flat (HN.out.below (below_box _ (Nat.le_refl _)))) (by omega) (by simp) ?_))
    intro g3 cap3 w9 hown hgrow _
    have HO := Lib.hid hown
    have HB := Lib.hid (show Below w.heap.size w w9 from Below.grown (below_box _ (Nat.le_refl _)) hgrow (by simp) fun k e => by cases e; exact Nat.le_refl _)
    clear hown hgrow
    go_wp2
    go_ret
    exact ⟨_, cap3, rfl, HO.out, HB.out⟩

end Go.Proofs.Ytncbgejggfkdmaa

/- The contract of the program's AsmAdd. -/
namespace Go.Proofs.Ytncbgejggfkdmaa
open Go.RowKit Go.PlainAid

/-- While a part is added: the assembly's box, the part's, the answer's. -/
structure Ab (w : World) (an : Option Addr) (ln cn : Nat) (ap : Option Addr) (lp cp : Nat) (p : Part) (W : World) : Prop where
  a : VarN w.heap.size [.slice an ln cn, .slice ap lp cp] W
  d : VarN (w.heap.size + 1) (cellsP p) W
  r : VarN (w.heap.size + 2) [.slice none 0 0, .slice none 0 0] W
  b : Below w.heap.size w W
  z : w.heap.size + 3 ≤ W.heap.size
section
variable {w W W' : World} {an : Option Addr} {ln cn : Nat} {ap : Option Addr} {lp cp : Nat} {p : Part}
theorem Ab.step (h : Ab w an ln cn ap lp cp p W) (hb : Below (w.heap.size + 3) W W') : Ab w an ln cn ap lp cp p W' :=
  ⟨h.a.below hb (by omega), h.d.below hb (by omega), h.r.below hb (by omega), h.b.trans (hb.mono (by omega)), Nat.le_trans h.z hb.size⟩
theorem Ab.start : Ab w an ln cn ap lp cp p (((w.alloc (.cells #[.slice an ln cn, .slice ap lp cp] 26)).alloc (.cells (cellsP p).toArray 28)).alloc (.cells #[.slice none 0 0, .slice none 0 0] 26)) :=
  ⟨((VarN.new w [.slice an ln cn, .slice ap lp cp] _).alloc _ (by first | (simp; done) | (simp; omega))).alloc _ (by first | (simp; done) | (simp; omega)),
   (VarN.new_at (w := w.alloc (.cells #[.slice an ln cn, .slice ap lp cp] 26)) (d := w.heap.size + 1) (by simp) (cellsP p) _).alloc _ (by first | (simp; done) | (simp; omega)),
   VarN.new_at (w := (w.alloc (.cells #[.slice an ln cn, .slice ap lp cp] 26)).alloc (.cells (cellsP p).toArray 28)) (d := w.heap.size + 2) (by simp) [.slice none 0 0, .slice none 0 0] _,
   ((below_box _ (Nat.le_refl _)).alloc (by simp) _).alloc (by first | (simp; done) | (simp; omega)) _, by simp⟩
end
theorem far_row {base d i e size n : Nat} {v : Value} {xs : List Value} {W : World} (h : W.ownsRow base e size v n xs) (hd : d < base) (u : Value) : (W.setCell ⟨d, i, none⟩ u).ownsRow base e size v n xs :=
  row_same h fun x h1 _ => Below.heap_setCell _ _ _ _ (by show x ≠ d; omega)
theorem ansR_yes {next : List Int} {ps : List Part} {d : Part} (h : addsTo next ps d) : ansR next ps d = addR next ps d ∧ ansC next ps d = addC ps d := by
  unfold ansR ansC
  rw [if_pos h, if_pos h]
  exact ⟨rfl, rfl⟩
theorem ansR_no {next : List Int} {ps : List Part} {d : Part} (h : ¬ addsTo next ps d) : ansR next ps d = ⟨[], [], []⟩ ∧ ansC next ps d = 3 := by
  unfold ansR ansC
  rw [if_neg h, if_neg h]
  exact ⟨rfl, rfl⟩
/-- The zero answer. -/
theorem ans_zero {next : List Int} {ps : List Part} {d : Part} {w W : World} (h : ¬ addsTo next ps d) (hb : Below w.heap.size w W) : AddAns next ps d w (.returned (ansV none 0 0 none 0 0 none 0 0 3)) W := by
  obtain ⟨e1, e2⟩ := ansR_no h
  refine ⟨none, 0, 0, none, 0, 0, none, 0, 0, by rw [e2], ?_, hb⟩
  rw [e1]
  exact ⟨World.ownsRow_nil _ _ _ _, World.ownsRow_nil _ _ _ _, World.ownsRow_nil _ _ _ _⟩

set_option maxRecDepth 8000 in
set_option maxHeartbeats 8000000 in
theorem asmAdd_any (an : Option Addr) (ln cn : Nat) (next : List Int) (ap : Option Addr) (lp cp : Nat) (ps : List Part) (d : Part) (w : World) (h : Ns w an ln cn next) (hp : Pts w ap lp cp ps) (hk : ∀ p ∈ ps, Key p.tsn) :
    Calls Try.prog 14 #[.agg #[.slice an ln cn, .slice ap lp cp], partV d] w (AddAns next ps d w) := by
  obtain ⟨t, s, q, fi, la, lo, tx⟩ := d
  have A0 := Lib.hid (Ab.start (w := w) (an := an) (ln := ln) (cn := cn) (ap := ap) (lp := lp) (cp := cp) (p := ⟨t, s, q, fi, la, lo, tx⟩))
  have WL := waitListOf_any an ln cn next ap lp cp ps _ (h.below A0.out.b) (hp.below A0.out.b) hk
  have hll := h.length
  have LN := Lib.hid hll
  have LP := Lib.hid hp.length
  have HN := Lib.hid h
  have hsz : (((w.alloc (.cells #[.slice an ln cn, .slice ap lp cp] 26)).alloc (.cells (cellsP ⟨t, s, q, fi, la, lo, tx⟩).toArray 28)).alloc (.cells #[.slice none 0 0, .slice none 0 0] 26)).heap.size = w.heap.size + 3 := by simp
  rw [hsz] at WL
  have PE := partV_eq t s q fi la lo tx
  have PO := fun w => partOf_any ⟨t, s, q, fi, la, lo, tx⟩ ln w
  rw [PE] at PO ⊢
  have POH := Lib.hid PO
  clear h hp hk hll hsz PE PO
  go_enter Try.func14, Try.ntmps14
  go_wp2_with fail
  refine WL.mono ?_
  rintro e w1 ⟨⟨hok, L, M, ns, rfl, hns, hwl⟩ | ⟨hno, rfl⟩, hb1⟩
  · have A1 := Lib.hid (A0.out.step hb1)
    have OK := Lib.hid hok
    have NS := Lib.hid hns
    have HW := Lib.hid hwl
    have d0 := (A1.out.d 0 _ rfl).1
    have d1 := (A1.out.d 1 _ rfl).1
    have d2 := (A1.out.d 2 _ rfl).1
    have d3 := (A1.out.d 3 _ rfl).1
    have d4 := (A1.out.d 4 _ rfl).1
    have d5 := (A1.out.d 5 _ rfl).1
    have d6 := (A1.out.d 6 _ rfl).1
    have a0 := (A1.out.a 0 _ rfl).1
    dsimp only at d0 d1 d2 d3 d4 d5 d6
    clear A0 hok hns hwl hb1 WL
    go_wp2_with fail
    refine (POH.out _).mono ?_
    rintro e w2 ⟨rfl, hb2⟩
    have A2 := Lib.hid (A1.out.step (hb2.mono A1.out.z))
    have HW2 := Lib.hid (HW.out.below hb2)
    clear hb2 d0 d1 d2 d3 d4 d5 d6 a0 A1 HW
    by_cases hpo : PartOk ln ⟨t, s, q, fi, la, lo, tx⟩
    · have PV := Lib.hid (partOkV_yes hpo)
      have AT := Lib.hid (show addsTo next ps ⟨t, s, q, fi, la, lo, tx⟩ from ⟨OK.out, by rw [LN.out]; exact hpo⟩)
      have HTK := Lib.hid (show Key t from ⟨by have := hpo.1.1.1; dsimp only at this; omega, by have := hpo.1.1.2; dsimp only at this; omega⟩)
      have POK := Lib.hid hpo
      clear hpo
      rw [PV.out]
      have a0 := (A2.out.a 0 _ rfl).1
      have d0 := (A2.out.d 0 _ rfl).1
      have hl4 : ln ≤ 4 := by have := OK.out.n4; rw [LN.out] at this; exact this
      have hl1 : 1 ≤ ln := by have := OK.out.n1; rw [LN.out] at this; exact this
      dsimp only at d0
      go_wp2_with fail
      refine (clone_any an ln cn next _ (HN.out.below A2.out.b) (by omega)).mono ?_
      rintro e w3 ⟨a2, cap2, rfl, hrow, hb3⟩
      have A3 := Lib.hid (A2.out.step (hb3.mono A2.out.z))
      have HW3 := Lib.hid (HW2.out.below hb3)
      obtain ⟨G, rfl, hG1, hG2⟩ : ∃ G, a2 = some ⟨G, 0, none⟩ ∧ w2.heap.size ≤ G ∧ G < w3.heap.size := by
        rcases hrow.2 with ⟨_, h0⟩ | ⟨g, cap', cur, h1, h2, h3, _⟩
        · omega
        · have e : a2 = some ⟨g, 0, none⟩ ∧ cap2 = cap' := by simpa using h1
          exact ⟨g, e.1, h2, (Array.getElem?_eq_some_iff.1 h3).1⟩
      have NR := Lib.hid (Nrow.of hrow)
      have z3 := A3.out.z
      have z2 := A2.out.z
      have HG := Lib.hid (show w.heap.size + 3 ≤ G ∧ G ≠ L ∧ G ≠ M ∧ ∀ y ∈ ns, y.1 ≠ G from by
        have hlt := HW2.out.lts
        refine ⟨by omega, fun e => ?_, fun e => ?_, fun y hy e => ?_⟩
        · have := hlt L (.inl rfl); omega
        · have := hlt M (.inr (.inl rfl)); omega
        · have := hlt y.1 (.inr (.inr ⟨y, hy, rfl⟩)); omega)
      have f0 := (A3.out.d 0 _ rfl).1
      dsimp only at f0
      have HS := has_any _ L M ns t w3 HW3.out HTK.out
      rw [NS.out] at HS
      clear hrow hb3 a0 d0 A2 HW2 PV
      cases hht : hasT ps t with
      | true =>
        rw [hht] at HS
        have AR := Lib.hid (show ansR next ps ⟨t, s, q, fi, la, lo, tx⟩ = ⟨next, ps, []⟩ ∧ ansC next ps ⟨t, s, q, fi, la, lo, tx⟩ = 1 by
          obtain ⟨e1, e2⟩ := ansR_yes AT.out
          rw [e1, e2]
          unfold addR addC
          rw [if_pos (show hasT ps t = true from hht), if_pos (show hasT ps t = true from hht)]
          exact ⟨rfl, rfl⟩)
        clear hht
        go_wp2_with fail
        refine HS.mono ?_
        rintro e w4 ⟨rfl, rfl⟩
        clear HS f0
        have hl2 : ns.length ≤ 12 := by have := OK.out.few; rw [← NS.out, psOf_length] at this; exact this
        go_wp2_with fail
        refine (list_any _ L M ns w3 HW3.out (by omega)).mono ?_
        rintro e w6 ⟨a6, cap6, rfl, ho6⟩
        have A6 := Lib.hid (A3.out.step (ho6.b.mono z3))
        have O1 := Lib.hid (show w6.ownsRow (w.heap.size + 3) 3 1 (.slice (some ⟨G, 0, none⟩) ln cap2) ln (flatN next) from row_low (NR.out.below ho6.b hG2) HG.out.1)
        have O2 := Lib.hid (show w6.ownsRow (w.heap.size + 3) 28 7 (.slice a6 ns.length cap6) ns.length (flatP ps) from by
          rw [← NS.out]
          exact row_low ho6.own z3)
        have r0 := (A6.out.r 0 _ rfl).1
        have r1 := (A6.out.r 1 _ rfl).1
        have g0 := (A6.out.r 0 _ rfl).2
        have g1 := (A6.out.r 1 _ rfl).2
        clear ho6 A3
        go_wp2
        refine bodyPost_ret (v := ansV (some ⟨G, 0, none⟩) ln cap2 a6 ns.length cap6 none 0 0 1) ?_ rfl ?_
        · simp [results, Try.results14, go_sem, ansV, r0, r1]
        · refine ⟨some ⟨G, 0, none⟩, ln, cap2, a6, ns.length, cap6, none, 0, 0, by rw [AR.out.2], ?_, (A6.out.b.setCell (p := ⟨w.heap.size + 2, 0, none⟩) (by show w.heap.size ≤ w.heap.size + 2; omega) _).setCell (p := ⟨w.heap.size + 2, 1, none⟩) (by show w.heap.size ≤ w.heap.size + 2; omega) _⟩
          rw [AR.out.1]
          exact ⟨row_low (far_row (far_row O1.out (by omega) _) (by omega) _) (by omega), row_low (far_row (far_row O2.out (by omega) _) (by omega) _) (by omega), World.ownsRow_nil _ _ _ _⟩
      | false =>
        rw [hht] at HS
        have FU := full_any _ L M ns w3 HW3.out (by rw [← psOf_length, NS.out]; have := OK.out.few; omega)
        rw [← psOf_length, NS.out] at FU
        have HT := Lib.hid hht
        clear hht
        by_cases h12 : 12 ≤ ps.length
        · rw [decide_eq_true h12] at FU
          have AR := Lib.hid (show ansR next ps ⟨t, s, q, fi, la, lo, tx⟩ = ⟨next, ps, []⟩ ∧ ansC next ps ⟨t, s, q, fi, la, lo, tx⟩ = 2 by
            obtain ⟨e1, e2⟩ := ansR_yes AT.out
            rw [e1, e2]
            unfold addR addC
            rw [if_neg (show ¬ hasT ps t = true by rw [HT.out]; decide), if_neg (show ¬ hasT ps t = true by rw [HT.out]; decide), if_pos h12, if_pos h12]
            exact ⟨rfl, rfl⟩)
          clear h12
          go_wp2_with fail
          refine HS.mono ?_
          rintro e w4 ⟨rfl, rfl⟩
          go_wp2_with fail
          refine FU.mono ?_
          rintro e w4 ⟨rfl, rfl⟩
          clear HS FU f0
          have hl2 : ns.length ≤ 12 := by have := OK.out.few; rw [← NS.out, psOf_length] at this; exact this
          go_wp2_with fail
          refine (list_any _ L M ns w3 HW3.out (by omega)).mono ?_
          rintro e w6 ⟨a6, cap6, rfl, ho6⟩
          have A6 := Lib.hid (A3.out.step (ho6.b.mono z3))
          have O1 := Lib.hid (show w6.ownsRow (w.heap.size + 3) 3 1 (.slice (some ⟨G, 0, none⟩) ln cap2) ln (flatN next) from row_low (NR.out.below ho6.b hG2) HG.out.1)
          have O2 := Lib.hid (show w6.ownsRow (w.heap.size + 3) 28 7 (.slice a6 ns.length cap6) ns.length (flatP ps) from by
            rw [← NS.out]
            exact row_low ho6.own z3)
          have r0 := (A6.out.r 0 _ rfl).1
          have r1 := (A6.out.r 1 _ rfl).1
          have g0 := (A6.out.r 0 _ rfl).2
          have g1 := (A6.out.r 1 _ rfl).2
          clear ho6 A3
          go_wp2
          refine bodyPost_ret (v := ansV (some ⟨G, 0, none⟩) ln cap2 a6 ns.length cap6 none 0 0 2) ?_ rfl ?_
          · simp [results, Try.results14, go_sem, ansV, r0, r1]
          · refine ⟨some ⟨G, 0, none⟩, ln, cap2, a6, ns.length, cap6, none, 0, 0, by rw [AR.out.2], ?_, (A6.out.b.setCell (p := ⟨w.heap.size + 2, 0, none⟩) (by show w.heap.size ≤ w.heap.size + 2; omega) _).setCell (p := ⟨w.heap.size + 2, 1, none⟩) (by show w.heap.size ≤ w.heap.size + 2; omega) _⟩
            rw [AR.out.1]
            exact ⟨row_low (far_row (far_row O1.out (by omega) _) (by omega) _) (by omega), row_low (far_row (far_row O2.out (by omega) _) (by omega) _) (by omega), World.ownsRow_nil _ _ _ _⟩
        · rw [decide_eq_false h12] at FU
          have AR := Lib.hid (show ansR next ps ⟨t, s, q, fi, la, lo, tx⟩ = runP next (ps ++ [⟨t, s, q, fi, la, lo, tx⟩]) ∧ ansC next ps ⟨t, s, q, fi, la, lo, tx⟩ = 0 by
            obtain ⟨e1, e2⟩ := ansR_yes AT.out
            have e3 : addC ps ⟨t, s, q, fi, la, lo, tx⟩ = 0 := by
              unfold addC
              rw [if_neg (show ¬ hasT ps t = true by rw [HT.out]; decide), if_neg h12]
            rw [e1, e2, e3]
            exact ⟨addR_done e3, rfl⟩)
          have AOK := Lib.hid (OK.out.push (by rw [LN.out]; exact POK.out) HT.out (Nat.lt_of_not_le h12))
          have hn12 : ps.length < 12 := Nat.lt_of_not_le h12
          have f1 := (A3.out.d 1 _ rfl).1
          have f2 := (A3.out.d 2 _ rfl).1
          have f3 := (A3.out.d 3 _ rfl).1
          have f4 := (A3.out.d 4 _ rfl).1
          have f5 := (A3.out.d 5 _ rfl).1
          have f6 := (A3.out.d 6 _ rfl).1
          dsimp only at f1 f2 f3 f4 f5 f6
          have hnl := Lib.hid (show ns.length = ps.length by rw [← psOf_length, NS.out])
          have AD := add_any _ L M ns ⟨t, s, q, fi, la, lo, tx⟩ w3 HW3.out (by rw [hnl.out]; omega) HTK.out (by rw [NS.out]; exact HT.out)
          rw [partV_eq] at AD
          clear h12
          go_wp2_with fail
          refine HS.mono ?_
          rintro e w4 ⟨rfl, rfl⟩
          go_wp2_with fail
          refine FU.mono ?_
          rintro e w4 ⟨rfl, rfl⟩
          clear HS FU
          go_wp2_with fail
          refine AD.mono ?_
          rintro e w4 ⟨rfl, db, hw4, hd4, hk4⟩
          have A4 := Lib.hid (A3.out.step hk4.b)
          have HW4 := Lib.hid hw4
          have NR4 := Lib.hid (NR.out.blk (hk4.o G hG2 HG.out.2.1 HG.out.2.2.1 fun y hy => (HG.out.2.2.2 y hy).symm))
          have NS4 := Lib.hid (show psOf (ns ++ [(db, ⟨t, s, q, fi, la, lo, tx⟩)]) = ps ++ [⟨t, s, q, fi, la, lo, tx⟩] by rw [psOf_append, NS.out]; rfl)
          have z4 := A4.out.z
          have hG4 : G < w4.heap.size := Nat.lt_of_lt_of_le hG2 hk4.b.size
          have RE := release_any _ L M G cap2 (ns ++ [(db, ⟨t, s, q, fi, la, lo, tx⟩)]) next w4 HW4.out (by rw [NS4.out]; exact AOK.out) (by rw [LN.out]; exact NR4.out) ⟨HG.out.1, hG4, HG.out.2.1, HG.out.2.2.1, fun y hy => by
            rcases List.mem_append.1 hy with hy | hy
            · exact HG.out.2.2.2 y hy
            · have e : y = (db, ⟨t, s, q, fi, la, lo, tx⟩) := by simpa using hy
              rw [e]
              show db ≠ G
              omega⟩
          rw [NS4.out, LN.out] at RE
          clear hw4 hk4 hd4 f0 f1 f2 f3 f4 f5 f6 AD A3 HW3
          go_wp2_with fail
          refine RE.mono ?_
          rintro e w5 ⟨a3, cap3, ns5, rfl, hps5, hrl⟩
          have RL := Lib.hid hrl
          have PS5 := Lib.hid hps5
          have A5 := Lib.hid (A4.out.step hrl.kr.b)
          have z5 := A5.out.z
          have h5l : ns5.length ≤ 12 := by have := hrl.ok.few; rwa [psOf_length] at this
          clear hrl hps5 RE
          go_wp2_with fail
          refine (list_any _ L M ns5 w5 RL.out.wl (by omega)).mono ?_
          rintro e w6 ⟨a6, cap6, rfl, ho6⟩
          have A6 := Lib.hid (A5.out.step (ho6.b.mono z5))
          have O1 := Lib.hid (show w6.ownsRow (w.heap.size + 3) 3 1 (.slice (some ⟨G, 0, none⟩) ln cap2) ln (flatN (runP next (ps ++ [⟨t, s, q, fi, la, lo, tx⟩])).next) from by
            have h1 := (RL.out.nx.below ho6.b (by have := RL.out.kr.b.size; omega))
            unfold Nrow at h1
            rw [LN.out] at h1
            exact row_low h1 HG.out.1)
          have O2 := Lib.hid (show w6.ownsRow (w.heap.size + 3) 28 7 (.slice a6 ns5.length cap6) ns5.length (flatP (runP next (ps ++ [⟨t, s, q, fi, la, lo, tx⟩])).ps) from by
            rw [← PS5.out]
            exact row_low ho6.own z5)
          have O3 := Lib.hid (show w6.ownsRow (w.heap.size + 3) 45 4 (.slice a3 (runP next (ps ++ [⟨t, s, q, fi, la, lo, tx⟩])).ms.length cap3) (runP next (ps ++ [⟨t, s, q, fi, la, lo, tx⟩])).ms.length (flatM (runP next (ps ++ [⟨t, s, q, fi, la, lo, tx⟩])).ms) from
            row_low (row_same RL.out.out fun x _ h2 => ho6.b.block x h2) z4)
          have r0 := (A6.out.r 0 _ rfl).1
          have r1 := (A6.out.r 1 _ rfl).1
          have g0 := (A6.out.r 0 _ rfl).2
          have g1 := (A6.out.r 1 _ rfl).2
          generalize (runP next (ps ++ [⟨t, s, q, fi, la, lo, tx⟩])).ms.length = n3 at *
          clear ho6 RL PS5 A5 A4
          go_wp2
          refine bodyPost_ret (v := ansV (some ⟨G, 0, none⟩) ln cap2 a6 ns5.length cap6 a3 n3 cap3 0) ?_ rfl ?_
          · simp [results, Try.results14, go_sem, ansV, r0, r1]
          · refine ⟨some ⟨G, 0, none⟩, ln, cap2, a6, ns5.length, cap6, a3, n3, cap3, by rw [AR.out.2], ?_, (A6.out.b.setCell (p := ⟨w.heap.size + 2, 0, none⟩) (by show w.heap.size ≤ w.heap.size + 2; omega) _).setCell (p := ⟨w.heap.size + 2, 1, none⟩) (by show w.heap.size ≤ w.heap.size + 2; omega) _⟩
            rw [AR.out.1]
            exact ⟨row_low (far_row (far_row O1.out (by omega) _) (by omega) _) (by omega), row_low (far_row (far_row O2.out (by omega) _) (by omega) _) (by omega), row_low (far_row (far_row O3.out (by omega) _) (by omega) _) (by omega)⟩
    · have PV := Lib.hid (partOkV_no hpo)
      have AT := Lib.hid (show ¬ addsTo next ps ⟨t, s, q, fi, la, lo, tx⟩ from fun h => hpo (by have := h.2; rw [LN.out] at this; exact this))
      rw [PV.out]
      clear hpo
      have r0 := (A2.out.r 0 _ rfl).1
      have r1 := (A2.out.r 1 _ rfl).1
      have g0 := (A2.out.r 0 _ rfl).2
      have g1 := (A2.out.r 1 _ rfl).2
      go_wp2
      refine bodyPost_ret (v := ansV none 0 0 none 0 0 none 0 0 3) ?_ rfl ?_
      · simp [results, Try.results14, go_sem, ansV, r0, r1]
      · exact ans_zero AT.out ((A2.out.b.setCell (p := ⟨w.heap.size + 2, 0, none⟩) (by show w.heap.size ≤ w.heap.size + 2; omega) _).setCell (p := ⟨w.heap.size + 2, 1, none⟩) (by show w.heap.size ≤ w.heap.size + 2; omega) _)
  · have AT := Lib.hid (show ¬ addsTo next ps ⟨t, s, q, fi, la, lo, tx⟩ from fun h => hno h.1)
    have A1 := Lib.hid (A0.out.step hb1)
    clear A0 hno hb1 WL
    have r0 := (A1.out.r 0 _ rfl).1
    have r1 := (A1.out.r 1 _ rfl).1
    have g0 := (A1.out.r 0 _ rfl).2
    have g1 := (A1.out.r 1 _ rfl).2
    go_wp2
    refine bodyPost_ret (v := ansV none 0 0 none 0 0 none 0 0 3) ?_ rfl ?_
    · simp [results, Try.results14, go_sem, ansV, r0, r1]
    · exact ans_zero AT.out ((A1.out.b.setCell (p := ⟨w.heap.size + 2, 0, none⟩) (by show w.heap.size ≤ w.heap.size + 2; omega) _).setCell (p := ⟨w.heap.size + 2, 1, none⟩) (by show w.heap.size ≤ w.heap.size + 2; omega) _)

end Go.Proofs.Ytncbgejggfkdmaa
