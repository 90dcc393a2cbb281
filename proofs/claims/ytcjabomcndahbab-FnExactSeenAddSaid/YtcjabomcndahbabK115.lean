/- The contract of the program's heap that is emptied into a value. -/
import Derived.Test.YtcjabomcndahbabK113
import Derived.Test.YtcjabomcndahbabK114
import Derived.Test.YtcjabomcndahbabK11
import Derived.Deep.LoopGhost
namespace Go.Proofs.Ytcjabomcndahbab
open Go.RowKit Go.PlainAid

/-- While the parts are taken out of the heap: the heap, the answer's box, the value at D, its row. -/
structure Ss (w : World) (B g P m cap : Nat) (es : List Int) (D k : Nat) (c2 : Int) (q : Option Addr) (cap2 : Nat) (ds : List Int) (W : World) : Prop where
  hp : Hp B P g m cap es W
  rb : VarN w.heap.size [.int .i64 0, .slice none 0 0] W
  ob : VarN D [.int .i64 c2, .slice q k cap2] W
  own : W.ownsRow (w.heap.size + 1) 3 1 (.slice q k cap2) k (flatN ds)
  f : Fh g P w W
  d1 : w.heap.size < D
  ne : ∀ x, (Value.slice q k cap2).ownBlock = some x → x ≠ D
  gw : g < w.heap.size
  pw : P < w.heap.size
section
variable {w W W' : World} {B g P m m2 cap D k cap2 g3 cap3 : Nat} {es es2 ds : List Int} {c2 z : Int} {q : Option Addr}
theorem Ss.up (h : Ss w B g P m cap es D k c2 q cap2 ds W) (hb : Below W.heap.size W W') : Ss w B g P m cap es D k c2 q cap2 ds W' :=
  ⟨h.hp.up hb, h.rb.below hb (lt_of_cell (h.rb 0 _ rfl).1), h.ob.below hb (lt_of_cell (h.ob 0 _ rfl).1), ownUp h.own hb, h.f.trans (.of_below hb), h.d1, h.ne, h.gw, h.pw⟩
theorem Ss.pop (h : Ss w B g P m cap es D k c2 q cap2 ds W) (hp : Hp B P g m2 cap es2 W') (hf : Fh g P W W') : Ss w B g P m2 cap es2 D k c2 q cap2 ds W' := by
  have h1 := h.gw
  have h2 := h.pw
  have h3 := h.d1
  refine ⟨hp, h.rb.fh hf (lt_of_cell (h.rb 0 _ rfl).1) (by omega) (by omega), h.ob.fh hf (lt_of_cell (h.ob 0 _ rfl).1) (by omega) (by omega), own_fh h.own hf (fun e => ?_) (fun e => ?_), h.f.trans hf, h.d1, h.ne, h.gw, h.pw⟩
  · have := own_ge h.own e; omega
  · have := own_ge h.own e; omega
theorem Ss.push (h : Ss w B g P m cap es D k c2 q cap2 ds W) (hown : W'.ownsRow (w.heap.size + 1) 3 1 (.slice (some ⟨g3, 0, none⟩) (k + 1) cap3) (k + 1) (flatN (ds ++ [z]))) (hgrow : W.grownBy W' (Value.slice q k cap2).ownBlock) (hat : (Value.slice q k cap2).ownBlock = some g3 ∨ g3 = W.heap.size) :
    VarN D [.int .i64 c2, .slice q k cap2] W' ∧ Ss w B g P m cap es D (k + 1) c2 (some ⟨g3, 0, none⟩) cap3 (ds ++ [z]) (W'.setCell ⟨D, 1, none⟩ (.slice (some ⟨g3, 0, none⟩) (k + 1) cap3)) := by
  have h1 := h.gw
  have h2 := h.pw
  have h3 := h.d1
  have hD := lt_of_cell (h.ob 0 _ rfl).1
  have hblk : ∀ x, (Value.slice q k cap2).ownBlock = some x → w.heap.size + 1 ≤ x := fun x e => own_ge h.own e
  have hne : g3 ≠ D := by
    rcases hat with e | e
    · exact h.ne _ e
    · have : D < W.heap.size := hD
      omega
  have V := VarN.plusO h.ob hgrow hD (fun e => h.ne _ e rfl)
  have hrow : (Value.slice (some ⟨g, 0, none⟩) m cap).ownBlock ≠ (Value.slice q k cap2).ownBlock := fun e => by have := hblk g e.symm; omega
  refine ⟨V, ⟨⟨(VarN.plusO h.hp.pb hgrow (lt_of_cell h.hp.cell) (fun e => by have := hblk _ e; omega)).far _ (by omega), rowFar (h.hp.own.kept hgrow (.inr hrow)) (by omega) _, h.hp.ne, h.hp.bp⟩, (VarN.plusO h.rb hgrow (lt_of_cell (h.rb 0 _ rfl).1) (fun e => by have := hblk _ e; omega)).far _ (by omega), V.set (i := 1) _, rowFar hown hne _, ?_, h.d1, fun x e => ?_, h.gw, h.pw⟩⟩
  · refine ⟨hgrow.os.trans h.f.os, hgrow.tape.trans h.f.tape, hgrow.output.trans h.f.output, by have := hgrow.size; have := h.f.size; simp; omega, fun b hb hg hP => ?_⟩
    rw [Below.heap_setCell _ _ _ _ (show b ≠ D by omega), hgrow.block b (Nat.lt_of_lt_of_le hb h.f.size) (fun e => by have := hblk b e.symm; omega)]
    exact h.f.block b hb hg hP
  · have : g3 = x := by simpa [Value.ownBlock] using e
    omega
theorem Ss.fin (h : Ss w B g P m cap es D k c2 q cap2 ds W) (x y : Value) :
    ((W.setCell ⟨w.heap.size, 0, none⟩ x).setCell ⟨w.heap.size, 1, none⟩ y).ownsRow w.heap.size 3 1 (.slice q k cap2) k (flatN ds) ∧ Fh g P w ((W.setCell ⟨w.heap.size, 0, none⟩ x).setCell ⟨w.heap.size, 1, none⟩ y) := by
  have hne : ∀ x, (Value.slice q k cap2).ownBlock = some x → x ≠ w.heap.size := fun x e => by have := own_ge h.own e; omega
  refine ⟨ownN_low (ownFar (ownFar h.own hne) hne) (Nat.le_succ _), h.f.os, h.f.tape, h.f.output, by simpa using h.f.size, fun b hb hg hP => ?_⟩
  rw [Below.heap_setCell _ _ _ _ (show b ≠ w.heap.size by omega), Below.heap_setCell _ _ _ _ (show b ≠ w.heap.size by omega)]
  exact h.f.block b hb hg hP
end

set_option maxHeartbeats 4000000 in
theorem hSeen_any (B P g n cap : Nat) (es : List Int) (c : Int) (S : Int → Prop) (w : World) (h : Hp B P g n cap es w) (hn : n ≤ 1000) (hc : Ser c) (h1 : Go1 S 0 es) (hS : ∀ j, S j → 1 ≤ j ∧ j ≤ 16) :
    Calls Try.prog 36 #[.pointer (some ⟨P, 0, none⟩), .int .i64 c] w fun e w' => ∃ (q : Option Addr) (k cap2 : Nat) (m : Int) (ds : List Int), e = .returned (.agg #[.int .i64 (addS c m), .slice q k cap2]) ∧ Moved S m ds ∧ w'.ownsRow w.heap.size 3 1 (.slice q k cap2) k (flatN ds) ∧ Fh g P w w' := by
  have hta : ∀ (v : Value) (w : World), (Instr.typeAssert (.iface 3 v) 20 3 false).run Try.prog w = .ok v w := fun v w => by kernel_rfl
  have HP0 := Lib.hid (show Hp B P g n cap es (w.alloc (.cells #[.int .i64 0, .slice none 0 0] 25)) ∧ VarN w.heap.size [.int .i64 0, .slice none 0 0] (w.alloc (.cells #[.int .i64 0, .slice none 0 0] 25)) ∧ Fh g P w (w.alloc (.cells #[.int .i64 0, .slice none 0 0] 25)) from
    ⟨h.up (below_box _ (Nat.le_refl _)), VarN.new w [.int .i64 0, .slice none 0 0] _, .of_below (below_box _ (Nat.le_refl _))⟩)
  have G0 := Lib.hid h1
  have HS := Lib.hid hS
  have HC := Lib.hid hc
  have gw := h.lt.1
  have pw := h.lt.2
  clear h h1 hS hc
  go_enter Try.func36, Try.ntmps36
  go_wp2
  go_loopw [5] (fun v wr => ∃ (k m : Nat) (es : List Int), k ≤ 16 ∧ m ≤ 1000 ∧ v = .int .i64 k ∧ Hid (Go1 S k es) ∧ Hid (Hp B P g m cap es wr ∧ VarN w.heap.size [.int .i64 0, .slice none 0 0] wr ∧ Fh g P w wr)) (fun v _ => 17 - (intOf v).toNat)
  case atStart => exact ⟨0, n, es, by omega, hn, rfl, G0, HP0⟩
  case round =>
    obtain ⟨k, m, es1, hk, hm, rfl, hG, hH⟩ := hrel
    clear HP0 G0
    have e1 : IntKind.i64.wrap ((k : Int) + 1) = (k : Int) + 1 := IntWalk.i64_in _ ⟨by omega, by omega⟩
    have hl := hH.out.1.len
    by_cases hstop : es1.length = 0 ∨ nAt es1 0 ≠ (k : Int) + 1
    · have HST := Lib.hid (go1_stop hG.out hstop)
      have HZ := Lib.hid (show m = 0 ∨ nAt es1 0 ≠ (k : Int) + 1 by rw [hl] at hstop; exact hstop)
      clear hstop
      go_wp2_with fail
      refine (hNext_no B P g m cap es1 ((k : Int) + 1) _ hH.out.1 HZ.out).mono ?_
      rintro e w2 ⟨rfl, rfl⟩
      go_wp2_with fail
      refine (serialAdd_any c k _).mono ?_
      rw [addV_yes k HC.out]
      rintro e w2 ⟨rfl, rfl⟩
      obtain ⟨c2, hc2⟩ : ∃ c2, addS c k = c2 := ⟨_, rfl⟩
      rw [hc2]
      have HC2 := Lib.hid hc2
      have G2 := Lib.hid (go2_start hG.out HST.out)
      have S0 := Lib.hid (show Ss w B g P m cap es1 wr.heap.size 0 c2 none 0 [] (wr.alloc (.cells #[.int .i64 c2, .slice none 0 0] 25)) from
        ⟨hH.out.1.up (below_box _ (Nat.le_refl _)), hH.out.2.1.alloc _ (lt_of_cell (hH.out.2.1 0 _ rfl).1), VarN.new wr [.int .i64 c2, .slice none 0 0] _, World.ownsRow_nil _ _ _ _, hH.out.2.2.trans (.of_below (below_box _ (Nat.le_refl _))), lt_of_cell (hH.out.2.1 0 _ rfl).1, fun x e => (by cases e), gw, pw⟩)
      generalize hD : wr.heap.size = D at S0
      clear hc2 hG hH HST HZ
      go_wp2
      have W16 : (0 : Int) ≤ (k : Int) := by omega
      go_loopg [] m (fun gk wr => ∃ (es : List Int) (r : Nat) (q : Option Addr) (cap2 : Nat) (ds : List Int), gk ≤ 1000 ∧ Hid (Go2 S k es ds) ∧ Hid (Ss w B g P gk cap es D r c2 q cap2 ds wr))
      case atStart => exact ⟨es1, 0, none, 0, [], hm, G2, S0⟩
      case round =>
        obtain ⟨es2, r, q, cap2, ds, hgk, hG2, hS2⟩ := hrel
        clear S0 G2
        have hl2 := hS2.out.hp.len
        have hc0 := hS2.out.hp.cell
        by_cases hz : gk = 0
        · subst hz
          have MV := Lib.hid (go2_end hG2.out hl2)
          have o0 := (hS2.out.ob 0 _ rfl).1
          have o1 := (hS2.out.ob 1 _ rfl).1
          have r0 := (hS2.out.rb 0 _ rfl).1
          have r1 := (hS2.out.rb 1 _ rfl).1
          have s0 := (hS2.out.rb 0 _ rfl).2
          have s1 := (hS2.out.rb 1 _ rfl).2
          have K := Lib.hid (hS2.out.fin (.int .i64 c2) (.slice q r cap2))
          clear hS2 hG2 hl2
          go_wp2_with fail
          refine (hLen_any _ _ _ _).mono ?_
          rintro e w3 ⟨rfl, rfl⟩
          go_wp2
          refine bodyPost_ret (v := .agg #[.int .i64 c2, .slice q r cap2]) ?_ rfl ?_
          · simp [results, Try.results36, go_sem, r0, r1]
          · exact ⟨q, r, cap2, k, ds, by rw [HC2.out], MV.out, K.out⟩
        · obtain ⟨p, hp⟩ : ∃ p, p + 1 = gk := ⟨gk - 1, by omega⟩
          have HN := Lib.hid (show gk = p + 1 from hp.symm)
          have cond : (0 : Int) < (gk : Int) := by omega
          have hgp : p < gk := by omega
          have HH := Lib.hid (show HeapOk es2 gk from hl2 ▸ hG2.out.heap)
          have hf2 := Lib.hid (go2_few hG2.out)
          have hr1 : r + 1 ≤ 10000000 := by
            have h1 := go2_few hG2.out
            have h2 := hS2.out.own.1
            rw [flatN_length] at h2
            omega
          have S2d := Lib.hid (hS2.out.up (Below.drew (Below.refl _ _)))
          have o1 := (hS2.out.ob 1 _ rfl).1
          clear hp hz hl2
          go_wp2_with fail
          refine (hLen_any _ _ _ _).mono ?_
          rintro e w3 ⟨rfl, rfl⟩
          go_wp2_with fail
          clear hS2
          go_region_law (first
            | (go_simp; go_at_call 57; refine (hPop_any B P g gk p cap es2 _ S2d.out.hp HN.out hgk HH.out).mono ?_; rintro e w5 ⟨z, rest, rfl, hpp, hhp, hff⟩; have S5 := Lib.hid (S2d.out.pop hhp hff); have G5 := Lib.hid (go2_step hG2.out HS.out hpp); have SA := Lib.hid (S5.out.up (below_box (.cells #[.int .i64 (z - (k : Int))] 3) (Nat.le_refl _))); have hzr : (1 : Int) ≤ z ∧ z ≤ 16 := HS.out z (hG2.out.sub z (hpp.perm.mem_iff.1 List.mem_cons_self)); have wz : IntKind.i64.wrap (z - (k : Int)) = z - (k : Int) := IntWalk.i64_in _ ⟨by omega, by omega⟩; have o1 := (S5.out.ob 1 _ rfl).1; have o2 := (SA.out.ob 1 _ rfl).1; clear hpp hhp hff hzr; dsimp only)
            | (refine step_addN (by rfl) _ _ (by rfl) (w.heap.size + 1) r _ cap2 q _ ds (z - (k : Int)) (by rfl) SA.out.own (by rfl) (news_box rfl) hr1 (Nat.le_of_lt (Nat.lt_of_le_of_lt SA.out.d1 (lt_of_cell (SA.out.ob 0 _ rfl).1))) ?_; intro g3 cap3 w9 hown3 hgrow3 hat3; have S9 := Lib.hid (SA.out.push hown3 hgrow3 hat3); have v0 := (S9.out.1 0 _ rfl).1; have v1 := (S9.out.1 1 _ rfl).1; have f0 := (S9.out.1 0 _ rfl).2; have f1 := (S9.out.1 1 _ rfl).2; clear hown3 hgrow3 hat3))
          all_goals
            go_wp2
            go_roundg p
            case measure => exact hgp
            case rel => exact ⟨_, _, _, _, _, Nat.le_of_lt (Nat.lt_of_lt_of_le hgp hgk), G5, Lib.hid S9.out.2⟩
    · have hs2 : es1.length ≠ 0 ∧ nAt es1 0 = (k : Int) + 1 := ⟨fun h => hstop (.inl h), Classical.byContradiction fun h => hstop (.inr h)⟩
      obtain ⟨p, hp⟩ : ∃ p, p + 1 = m := ⟨m - 1, by omega⟩
      have HN := Lib.hid (show m = p + 1 from hp.symm)
      have hgp : p < m := by omega
      have HH := Lib.hid (show HeapOk es1 m from hl ▸ hG.out.heap)
      have H0 := Lib.hid hs2.2
      have hk15 : (k : Int) + 1 ≤ 16 := by
        have := (hG.out.mem _).1 (nAt_mem (es := es1) (i := 0) (by omega))
        have := HS.out _ this.1
        omega
      clear hstop hs2 hp hl
      go_wp2_with fail
      refine (hNext_yes B P g m p cap es1 ((k : Int) + 1) _ hH.out.1 HN.out hm HH.out H0.out).mono ?_
      rintro e w2 ⟨rfl, z, rest, hpp, hhp, hff⟩
      have G5 := Lib.hid (go1_step hG.out hpp H0.out)
      have H5 := Lib.hid (show Hp B P g p cap rest w2 ∧ VarN w.heap.size [.int .i64 0, .slice none 0 0] w2 ∧ Fh g P w w2 from ⟨hhp, hH.out.2.1.fh hff (lt_of_cell (hH.out.2.1 0 _ rfl).1) (by omega) (by omega), hH.out.2.2.trans hff⟩)
      clear hpp hhp hff hG hH
      go_wp2
      go_roundw
      case rel => exact ⟨k + 1, p, rest, by omega, by omega, by go_num, Lib.hid (by have := G5.out; simpa using this), H5⟩
      case measure => simp [intOf]; omega

end Go.Proofs.Ytcjabomcndahbab
