/- The receipt of what has arrived (the model's). -/
import Derived.Test.YtcjabomcndahbaaK93
import Derived.Test.YtcjabomcndahbaaK97
import Derived.Test.YtcjabomcndahbaaK28
import Derived.Deep.AppendLies
import Derived.Laws.OwnMore
namespace Go.Proofs.Ytcjabomcndahbaa
open Go.RowKit Go.PlainAid

theorem info_gapN : (Try.prog.info? 76).map (fun i => (i.zero, i.size, i.bytes)) = some (some (.agg #[.int .i64 0, .int .i64 0]), 2, 16) := by kernel_rfl
theorem own_gapsN {W : World} {base g cap k : Nat} {gs : List (Int × Int)} (h : W.ownsRow base 76 2 (.slice (some ⟨g, 0, none⟩) k cap) k (flat gs)) : Gaps W (some ⟨g, 0, none⟩) k cap gs := by
  have e : ∀ j, (⟨g, 0, none⟩ : Addr).add j = ⟨g, j, none⟩ := fun j => by unfold Addr.add; split <;> simp_all
  have hl : gs.length = k := by have := h.1; rw [flat_length] at this; omega
  have hc : k ≤ cap ∧ cap ≤ maxLen := by
    rcases h.2 with ⟨h1, _⟩ | ⟨g', cap', cur, h1, _, _, h4, h5, _⟩
    · exact absurd h1 (by intro e; cases e)
    · obtain ⟨rfl, _, rfl⟩ : g = g' ∧ True ∧ cap = cap' := by simpa using h1
      exact ⟨h4, h5⟩
  refine .inr ⟨_, rfl, hc.1, hc.2, hl, fun i hi => ?_⟩
  obtain ⟨f1, f2⟩ := flat_get gs i (by omega)
  have c1 := h.cellAt (i * 2) (by omega)
  have c2 := h.cellAt (i * 2 + 1) (by omega)
  rw [e]
  exact ⟨c1.trans f1, c2.trans f2⟩
theorem flat_last (hs : List (Int × Int)) (f t u : Int) : (flat (hs ++ [(f, t)])).set (hs.length * 2 + 1) (.int .i64 u) = flat (hs ++ [(f, u)]) := by
  rw [flat_append, flat_append, List.set_append_right _ _ (by rw [flat_length]; omega), flat_length]
  have e : hs.length * 2 + 1 - 2 * hs.length = 1 := by omega
  rw [e]
  rfl
theorem lit_ownG (X : World) (e B : Nat) (he : X.heap.size = e) (hb : B ≤ e) : (X.alloc (.cells #[] 76)).ownsRow B 76 2 (.slice (some ⟨e, 0, none⟩) 0 0) 0 (flat []) := by
  subst he
  exact World.ownsRow_lit X #[] 0 hb (by decide) rfl
theorem gaps_ends (gs : List (Int × Int)) : gs = [] ∨ ∃ hs f t, gs = hs ++ [(f, t)] := by
  rcases List.eq_nil_or_concat gs with h | ⟨hs, x, h⟩
  · exact .inl h
  · exact .inr ⟨hs, x.1, x.2, by rw [h, List.concat_eq_append]⟩
/-- What is answered for a receipt: its blocks in memory that is new. -/
structure OwnG (k : Nat) (v : Value) (gs : List (Int × Int)) (w W : World) : Prop where
  own : W.ownsRow w.heap.size 76 2 v k (flat gs)
  b : Below w.heap.size w W
/-- While a receipt is made: the argument, the answer's box, the receipt, its row. -/
structure Sg (w : World) (c : Int) (a : Option Addr) (len cap : Nat) (m g cap2 : Nat) (gs : List (Int × Int)) (W : World) : Prop where
  pb : VarN w.heap.size [.int .i64 c, .slice a len cap] W
  rb : VarN (w.heap.size + 1) [.int .i64 0, .slice none 0 0] W
  ob : VarN (w.heap.size + 3) [.int .i64 c, .slice (some ⟨g, 0, none⟩) m cap2] W
  own : W.ownsRow (w.heap.size + 2) 76 2 (.slice (some ⟨g, 0, none⟩) m cap2) m (flat gs)
  b : Below w.heap.size w W
  ne : g ≠ w.heap.size + 3
section
variable {w W W' : World} {c : Int} {a : Option Addr} {len cap m g cap2 : Nat} {gs : List (Int × Int)}
theorem Sg.up (h : Sg w c a len cap m g cap2 gs W) (hb : Below W.heap.size W W') : Sg w c a len cap m g cap2 gs W' :=
  ⟨h.pb.below hb (lt_of_cell (h.pb 0 _ rfl).1), h.rb.below hb (lt_of_cell (h.rb 0 _ rfl).1), h.ob.below hb (lt_of_cell (h.ob 0 _ rfl).1), ownUp h.own hb, h.b.trans (hb.mono h.b.size), h.ne⟩
theorem Sg.ge (h : Sg w c a len cap m g cap2 gs W) : w.heap.size + 2 ≤ g := own_ge h.own rfl
theorem Sg.push {g2 cap3 : Nat} {W1 : World} {f t : Int} (h : Sg w c a len cap m g cap2 gs W) (hgrow : W.grownBy W1 (some g)) (hown : W1.ownsRow (w.heap.size + 2) 76 2 (.slice (some ⟨g2, 0, none⟩) (m + 1) cap3) (m + 1) (flat gs ++ [.int .i64 f, .int .i64 t])) (hat : g2 = g ∨ g2 = W.heap.size) :
    Sg w c a len cap (m + 1) g2 cap3 (gs ++ [(f, t)]) (W1.setCell ⟨w.heap.size + 3, 1, none⟩ (.slice (some ⟨g2, 0, none⟩) (m + 1) cap3)) := by
  have h1 := lt_of_cell (h.ob 0 _ rfl).1
  have h2 := h.ge
  have h3 := h.ne
  have hne : g2 ≠ w.heap.size + 3 := by omega
  exact ⟨(h.pb.plus hgrow (by omega) (by omega)).far _ (by omega), (h.rb.plus hgrow (by omega) (by omega)).far _ (by omega), (h.ob.plus hgrow h1 (by omega)).set (i := 1) _, rowFar (by rw [flat_append]; exact hown) hne _, (Below.grown h.b hgrow h.b.size fun x hx => by cases hx; omega).setCell (p := ⟨w.heap.size + 3, 1, none⟩) (by show w.heap.size ≤ w.heap.size + 3; omega) _, hne⟩
theorem Sg.more {hs : List (Int × Int)} {f t u : Int} {j : Nat} (h : Sg w c a len cap m g cap2 (hs ++ [(f, t)]) W) (hm : hs.length * 2 + 1 = j) : Sg w c a len cap m g cap2 (hs ++ [(f, u)]) (W.setCell ⟨g, j, none⟩ (.int .i64 u)) := by
  subst hm
  have h2 := h.ge
  have h3 := h.ne
  have hs' := (h.own.stored (hs.length * 2 + 1) (.int .i64 u)).1
  rw [flat_last] at hs'
  exact ⟨h.pb.far _ (by omega), h.rb.far _ (by omega), h.ob.far _ (by omega), hs', h.b.setCell (p := ⟨g, hs.length * 2 + 1, none⟩) (by show w.heap.size ≤ g; omega) _, h3⟩
theorem Sg.fin (h : Sg w c a len cap m g cap2 gs W) (x y : Value) : OwnG m (.slice (some ⟨g, 0, none⟩) m cap2) gs w ((W.setCell ⟨w.heap.size + 1, 0, none⟩ x).setCell ⟨w.heap.size + 1, 1, none⟩ y) := by
  have h2 := h.ge
  exact ⟨rowFar (rowFar (ownN_low h.own (by omega)) (by omega) x) (by omega) y, (h.b.setCell (p := ⟨w.heap.size + 1, 0, none⟩) (Nat.le_succ _) _).setCell (p := ⟨w.heap.size + 1, 1, none⟩) (Nat.le_succ _) _⟩
end

set_option maxHeartbeats 4000000 in
theorem l21Sack_any (c : Int) (a : Option Addr) (len cap : Nat) (es : List Int) (w : World) (h : Ns w a len cap es) (hs : AscOk 1 es) :
    Calls Try.prog 62 #[.agg #[.int .i64 c, .slice a len cap]] w fun e w' => ∃ m g cap2 gs, e = .returned (.agg #[.int .i64 c, .slice (some ⟨g, 0, none⟩) m cap2]) ∧ Told es gs ∧ OwnG m (.slice (some ⟨g, 0, none⟩) m cap2) gs w w' := by
  obtain ⟨i0, hi, hz0, hz1, hz2⟩ := info_parts info_gapN
  have HI := Lib.hid (And.intro hi (And.intro hz0 (And.intro hz1 hz2)))
  clear hi hz0 hz1 hz2
  have HG := Lib.hid h
  have HA := Lib.hid hs
  have W0 := Lib.hid (show Sg w c a len cap 0 (w.heap.size + 2) 0 [] ((((w.alloc (.cells #[.int .i64 c, .slice a len cap] 26)).alloc (.cells #[.int .i64 0, .slice none 0 0] 41)).alloc (.cells #[] 76)).alloc (.cells #[.int .i64 c, .slice (some ⟨w.heap.size + 2, 0, none⟩) 0 0] 41)) from
    ⟨(((VarN.new w [.int .i64 c, .slice a len cap] _).alloc _ (by simp)).alloc _ (by simp; omega)).alloc _ (by simp; omega),
     ((VarN.new_at (w := w.alloc (.cells #[.int .i64 c, .slice a len cap] 26)) (d := w.heap.size + 1) (by simp) [.int .i64 0, .slice none 0 0] _).alloc _ (by simp)).alloc _ (by simp),
     VarN.new_at (d := w.heap.size + 3) (by simp) [.int .i64 c, .slice (some ⟨w.heap.size + 2, 0, none⟩) 0 0] _,
     ownN_alloc (lit_ownG _ _ _ (by simp) (Nat.le_refl _)),
     (((below_box _ (Nat.le_refl _)).alloc (by simp) _).alloc (by simp; omega) _).alloc (by simp; omega) _, by omega⟩)
  clear h hs
  go_enter Try.func62, Try.ntmps62
  go_wp2
  go_loopw [4] (fun i wr => ∃ (k m g cap2 : Nat) (gs : List (Int × Int)), (2 ≤ k ∧ k ≤ 17) ∧ i = .int .i64 k ∧ Hid (Tl es k gs) ∧ Hid (Sg w c a len cap m g cap2 gs wr)) (fun i _ => 17 - (intOf i).toNat)
  case atStart => exact ⟨2, 0, w.heap.size + 2, 0, [], by omega, rfl, Lib.hid (tl_start HA.out), W0⟩
  case round =>
    obtain ⟨k, m, g, cap2, gs, hk, rfl, hT, hS⟩ := hrel
    clear W0
    have w1 : IntKind.i64.wrap ((k : Int) + 1) = (k : Int) + 1 := IntWalk.i64_in _ ⟨by omega, by omega⟩
    have w2 : IntKind.i64.wrap ((k : Int) - 1) = (k : Int) - 1 := IntWalk.i64_in _ ⟨by omega, by omega⟩
    have v1 := (hS.out.pb 1 _ rfl).1
    have o1 := (hS.out.ob 1 _ rfl).1
    have hga := Lib.hid (HG.out.below hS.out.b)
    have hml : gs.length = m := by have := hS.out.own.1; rw [flat_length] at this; omega
    have hm8 := tl_few hT.out
    have wm : IntKind.i64.wrap ((m : Int) - 1) = (m : Int) - 1 := IntWalk.i64_in _ ⟨by omega, by omega⟩
    by_cases hlt : k ≤ 16
    · have cond : (k : Int) ≤ 16 := by omega
      go_wp2_with fail
      refine (l21Has_any a len cap es k _ hga.out).mono ?_
      rintro e w5 ⟨rfl, hb5⟩
      have S5 := Lib.hid (hS.out.up hb5)
      clear hb5 hS v1 o1
      have o1 := (S5.out.ob 1 _ rfl).1
      have f1 := (S5.out.ob 1 _ rfl).2
      by_cases hin : (k : Int) ∈ es
      · have D := decide_eq_true hin
        rw [D]
        rcases gaps_ends gs with rfl | ⟨hs, f, t, rfl⟩
        · have TN := Lib.hid (tl_new hT.out hin (by omega) (by omega) (.inl rfl))
          obtain rfl : m = 0 := by simpa using hml.symm
          clear hin D
          have SA := Lib.hid (S5.out.up (below_box (.cells #[.int .i64 k, .int .i64 k] 76) (Nat.le_refl _)))
          have hlo5 : w.heap.size + 3 < w5.heap.size := lt_of_cell (S5.out.ob 0 _ rfl).1
          clear S5 hT
          go_wp2_with (at_builtin; go_loud (refine wpList_append_lies _ rfl _ _ 39 rfl (w.heap.size + 2) 76 i0 (.agg #[.int .i64 0, .int .i64 0]) 2 16 Try.underlying39 HI.out.1 HI.out.2.1 HI.out.2.2.1 HI.out.2.2.2 rfl (by decide) (.slice (some ⟨g, 0, none⟩) 0 cap2) 0 (flat ([])) rfl SA.out.own ⟨w5.heap.size, 0, none⟩ 1 1 [.int .i64 k, .int .i64 k] rfl rfl (news_box rfl) (by simp [Value.oneCell']) (by decide) (by unfold maxLen; omega) (by omega) (by simp; omega) _ rfl ?_))
          intro g3 cap3 w9 hown hgrow hat hlt9
          have hat' : g3 = g ∨ g3 = (w5.alloc (.cells #[.int .i64 k, .int .i64 k] 76)).heap.size := by
            rcases hat with h | h
            · exact .inl (by simpa [Value.ownBlock] using h.symm)
            · exact .inr (by simpa using h)
          have SP := Lib.hid (SA.out.push hgrow hown hat')
          have V9 := SA.out.ob.plus hgrow (lt_of_cell (SA.out.ob 0 _ rfl).1) (fun e => SA.out.ne e.symm)
          have v1 := (V9 1 _ rfl).1
          have f1 := (V9 1 _ rfl).2
          clear V9 hown hgrow hat hat' hlt9 SA o1
          go_wp2
          go_roundw
          case rel => exact ⟨k + 1, 0 + 1, g3, cap3, _, by omega, by go_num, TN, SP⟩
          case measure => simp [intOf]; omega
        · obtain ⟨q, hq⟩ : ∃ q, hs.length = q := ⟨_, rfl⟩
          have hqm : q + 1 = m := by rw [← hml, ← hq]; simp
          have wq : IntKind.i64.wrap ((m : Int) - 1) = (q : Int) := by rw [wm]; omega
          have c0 : (0 : Int) < (m : Int) := by omega
          have hqlt : q < m := by omega
          have p1 : w5.cell? ⟨g, q * 2 + 1, none⟩ = some (.int .i64 t) := by
            have := S5.out.own.cellAt (q * 2 + 1) (by omega)
            rw [(flat_get (hs ++ [(f, t)]) q (by simp; omega)).2] at this
            rw [this, List.getD_eq_getElem?_getD, List.getElem?_append_right (by omega)]
            simp [hq]
          have pf := S5.out.own.frozenAt (q * 2 + 1)
          clear wm
          by_cases ht : t = (k : Int) - 1
          · have TN := Lib.hid (tl_more (f := f) (ht ▸ hT.out) hin (by omega))
            have SM := Lib.hid (S5.out.more (j := q * 2 + 1) (u := k) (by rw [hq]))
            clear hin D hT
            go_wp2
            go_roundw
            case rel => exact ⟨k + 1, m, g, cap2, _, by omega, by go_num, TN, SM⟩
            case measure => simp [intOf]; omega
          · have TN := Lib.hid (tl_new hT.out hin (by omega) (by omega) (.inr (by rw [lastOf_append]; exact ht)))
            clear hin D
            have SA := Lib.hid (S5.out.up (below_box (.cells #[.int .i64 k, .int .i64 k] 76) (Nat.le_refl _)))
            have hlo5 : w.heap.size + 3 < w5.heap.size := lt_of_cell (S5.out.ob 0 _ rfl).1
            clear S5 hT
            go_wp2_with (at_builtin; go_loud (refine wpList_append_lies _ rfl _ _ 39 rfl (w.heap.size + 2) 76 i0 (.agg #[.int .i64 0, .int .i64 0]) 2 16 Try.underlying39 HI.out.1 HI.out.2.1 HI.out.2.2.1 HI.out.2.2.2 rfl (by decide) (.slice (some ⟨g, 0, none⟩) m cap2) m (flat (hs ++ [(f, t)])) rfl SA.out.own ⟨w5.heap.size, 0, none⟩ 1 1 [.int .i64 k, .int .i64 k] rfl rfl (news_box rfl) (by simp [Value.oneCell']) (by decide) (by unfold maxLen; omega) (by omega) (by simp; omega) _ rfl ?_))
            intro g3 cap3 w9 hown hgrow hat hlt9
            have hat' : g3 = g ∨ g3 = (w5.alloc (.cells #[.int .i64 k, .int .i64 k] 76)).heap.size := by
              rcases hat with h | h
              · exact .inl (by simpa [Value.ownBlock] using h.symm)
              · exact .inr (by simpa using h)
            have SP := Lib.hid (SA.out.push hgrow hown hat')
            have V9 := SA.out.ob.plus hgrow (lt_of_cell (SA.out.ob 0 _ rfl).1) (fun e => SA.out.ne e.symm)
            have v1 := (V9 1 _ rfl).1
            have f1 := (V9 1 _ rfl).2
            clear V9 hown hgrow hat hat' hlt9 SA o1
            go_wp2
            go_roundw
            case rel => exact ⟨k + 1, m + 1, g3, cap3, _, by omega, by go_num, TN, SP⟩
            case measure => simp [intOf]; omega
      · have D := decide_eq_false hin
        rw [D]
        have TN := Lib.hid (tl_no hT.out hin)
        clear hin hT
        go_wp2
        go_roundw
        case rel => exact ⟨k + 1, m, g, cap2, gs, by omega, by go_num, TN, S5⟩
        case measure => simp [intOf]; omega
    · have hk17 : (k : Int) = 17 := by omega
      have HT := Lib.hid (tl_end (hk17 ▸ hT.out) HA.out)
      have o0 := (hS.out.ob 0 _ rfl).1
      have r0 := (hS.out.rb 0 _ rfl).1
      have r1 := (hS.out.rb 1 _ rfl).1
      have s0 := (hS.out.rb 0 _ rfl).2
      have s1 := (hS.out.rb 1 _ rfl).2
      have OC := Lib.hid (hS.out.fin (.int .i64 c) (.slice (some ⟨g, 0, none⟩) m cap2))
      clear hS hT
      go_wp2
      refine bodyPost_ret (v := .agg #[.int .i64 c, .slice (some ⟨g, 0, none⟩) m cap2]) ?_ rfl ?_
      · simp [results, Try.results62, go_sem, r0, r1]
      · exact ⟨m, g, cap2, gs, rfl, HT.out, OC.out⟩

end Go.Proofs.Ytcjabomcndahbaa
