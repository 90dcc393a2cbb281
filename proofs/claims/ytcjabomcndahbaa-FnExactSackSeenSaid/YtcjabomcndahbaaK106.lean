/- The contract of the program's SeenSack. -/
import Derived.Test.YtcjabomcndahbaaK105
import Derived.Test.YtcjabomcndahbaaK102
namespace Go.Proofs.Ytcjabomcndahbaa
open Go.RowKit Go.PlainAid

theorem tl_skip {es : List Int} {k k2 : Int} {gs : List (Int × Int)} (h : Tl es k gs) (hk : k ≤ k2) (hn : ∀ j, k ≤ j → j < k2 → j ∉ es) : Tl es k2 gs :=
  ⟨h.gaps, fun j => (h.mem j).trans ⟨fun ⟨h1, h2⟩ => ⟨h1, by omega⟩, fun ⟨h1, h2⟩ => ⟨h1, Classical.byContradiction fun hj => hn j (by omega) h2 h1⟩⟩, by have := h.last; omega⟩
theorem asc_last : ∀ {l : Int} {es : List Int}, AscOk l es → ∀ j ∈ es, j ≤ lastE l es
  | _, [], _, j, hj => absurd hj (by simp)
  | l, x :: xs, h, j, hj => by
    rcases List.mem_cons.1 hj with rfl | hj
    · exact (lastE_range h.2 h.1.2).1
    · exact asc_last (l := x) h.2 j hj
theorem asc_behind : ∀ {l e : Int} {es ds : List Int}, AscOk l ((es ++ [e]) ++ ds) → AscOk e ds
  | _, _, [], _, h => h.2
  | _, _, _ :: _, _, h => asc_behind (es := _) h.2
theorem asc_between {es : List Int} {k : Nat} (ha : AscOk 1 es) (hk : k < es.length) : lastE 1 (es.take k) + 1 ≤ nAt es k ∧ nAt es k ≤ 16 ∧ (∀ j, lastE 1 (es.take k) + 1 ≤ j → j < nAt es k → j ∉ es) ∧ lastE 1 (es.take (k + 1)) = nAt es k := by
  have e : es = es.take (k + 1) ++ es.drop (k + 1) := (List.take_append_drop _ _).symm
  have ha2 : AscOk 1 (es.take (k + 1)) := by rw [e] at ha; exact asc_left ha
  rw [take_nAt hk] at ha2
  obtain ⟨h1, h2, h3⟩ := asc_snoc.1 ha2
  refine ⟨h2, h3, fun j hj1 hj2 hj => ?_, by rw [take_nAt hk, lastE_snoc]⟩
  rw [← List.take_append_drop k es] at hj
  rcases List.mem_append.1 hj with hj | hj
  · have : j ≤ lastE 1 (es.take k) := by
      clear hj2 hj1
      revert hj h1
      generalize es.take k = xs
      intro h1 hj
      exact asc_last h1 j hj
    omega
  · have hd : es.drop k = nAt es k :: es.drop (k + 1) := by
      rw [List.drop_eq_getElem_cons hk]
      congr 1
      unfold nAt
      rw [List.getD_eq_getElem?_getD, List.getElem?_eq_getElem hk]
      rfl
    rw [hd] at hj
    rcases List.mem_cons.1 hj with hj | hj
    · omega
    · have : AscOk (nAt es k) (es.drop (k + 1)) := by
        rw [e, take_nAt hk] at ha
        exact asc_behind ha
      have := asc_low this j hj
      omega
/-- While a receipt is made: the argument, the answer's box, the receipt's row. -/
structure Sp (w : World) (c : Int) (a : Option Addr) (len cap m : Nat) (q : Option Addr) (cap2 : Nat) (gs : List (Int × Int)) (W : World) : Prop where
  pb : VarN w.heap.size [.int .i64 c, .slice a len cap] W
  rb : VarN (w.heap.size + 1) [.int .i64 0, .slice none 0 0] W
  own : W.ownsRow (w.heap.size + 2) 76 2 (.slice q m cap2) m (flat gs)
  b : Below w.heap.size w W
section
variable {w W W' : World} {c : Int} {a q : Option Addr} {len cap m g cap2 : Nat} {gs : List (Int × Int)}
theorem Sp.up (h : Sp w c a len cap m q cap2 gs W) (hb : Below W.heap.size W W') : Sp w c a len cap m q cap2 gs W' :=
  ⟨h.pb.below hb (lt_of_cell (h.pb 0 _ rfl).1), h.rb.below hb (lt_of_cell (h.rb 0 _ rfl).1), ownUp h.own hb, h.b.trans (hb.mono h.b.size)⟩
theorem Sp.push {v : Value} {g2 cap3 : Nat} {W1 : World} {f t : Int} (h : Sp w c a len cap m q cap2 gs W) (hv : v = .slice q m cap2) (hgrow : W.grownBy W1 v.ownBlock) (hown : W1.ownsRow (w.heap.size + 2) 76 2 (.slice (some ⟨g2, 0, none⟩) (m + 1) cap3) (m + 1) (flat gs ++ [.int .i64 f, .int .i64 t])) :
    Sp w c a len cap (m + 1) (some ⟨g2, 0, none⟩) cap3 (gs ++ [(f, t)]) W1 := by
  subst hv
  have hblk : ∀ x, (Value.slice q m cap2).ownBlock = some x → w.heap.size + 2 ≤ x := fun x e => own_ge h.own e
  exact ⟨VarN.plusO h.pb hgrow (lt_of_cell (h.pb 0 _ rfl).1) (fun e => by have := hblk _ e; omega), VarN.plusO h.rb hgrow (lt_of_cell (h.rb 0 _ rfl).1) (fun e => by have := hblk _ e; omega), by rw [flat_append]; exact hown, Below.grown h.b hgrow h.b.size fun x hx => by have := hblk x hx; omega⟩
theorem Sp.more {hs : List (Int × Int)} {f t u : Int} {j : Nat} (h : Sp w c a len cap m (some ⟨g, 0, none⟩) cap2 (hs ++ [(f, t)]) W) (hm : hs.length * 2 + 1 = j) : Sp w c a len cap m (some ⟨g, 0, none⟩) cap2 (hs ++ [(f, u)]) (W.setCell ⟨g, j, none⟩ (.int .i64 u)) := by
  subst hm
  have h2 : w.heap.size + 2 ≤ g := own_ge h.own rfl
  have hs' := (h.own.stored (hs.length * 2 + 1) (.int .i64 u)).1
  rw [flat_last] at hs'
  exact ⟨h.pb.far _ (by omega), h.rb.far _ (by omega), hs', h.b.setCell (p := ⟨g, hs.length * 2 + 1, none⟩) (by show w.heap.size ≤ g; omega) _⟩
theorem Sp.fin (h : Sp w c a len cap m q cap2 gs W) (x y : Value) : OwnG m (.slice q m cap2) gs w ((W.setCell ⟨w.heap.size + 1, 0, none⟩ x).setCell ⟨w.heap.size + 1, 1, none⟩ y) := by
  have hne : ∀ x, (Value.slice q m cap2).ownBlock = some x → x ≠ w.heap.size + 1 := fun x e => by have := own_ge h.own e; omega
  exact ⟨ownN_low (ownFar (ownFar h.own hne) hne) (show w.heap.size ≤ w.heap.size + 2 by omega), (h.b.setCell (p := ⟨w.heap.size + 1, 0, none⟩) (Nat.le_succ _) _).setCell (p := ⟨w.heap.size + 1, 1, none⟩) (Nat.le_succ _) _⟩
end
/-- What the program's SeenSack answers. -/
def GotSackP (w : World) (c : Int) (es : List Int) (e : Ending) (w' : World) : Prop :=
  (SeenOk c es ∧ ∃ m q cap2 gs, e = .returned (.tuple #[.agg #[.int .i64 c, .slice q m cap2], .bool true]) ∧ Told es gs ∧ OwnG m (.slice q m cap2) gs w w')
  ∨ (¬ SeenOk c es ∧ e = .returned (.tuple #[.agg #[.int .i64 0, .slice none 0 0], .bool false]) ∧ Below w.heap.size w w')

set_option maxHeartbeats 4000000 in
theorem seenSack_any (c : Int) (a : Option Addr) (len cap : Nat) (es : List Int) (w : World) (h : Ns w a len cap es) :
    Calls Try.prog 29 #[.agg #[.int .i64 c, .slice a len cap]] w (GotSackP w c es) := by
  obtain ⟨i0, hi, hz0, hz1, hz2⟩ := info_parts info_gapN
  have HI := Lib.hid (And.intro hi (And.intro hz0 (And.intro hz1 hz2)))
  clear hi hz0 hz1 hz2
  have HP := Lib.hid ((below_box (w := w) (.cells #[.int .i64 c, .slice a len cap] 26) (Nat.le_refl _)).alloc (by simp) (.cells #[.int .i64 0, .slice none 0 0] 41))
  have HG := Lib.hid (h.below HP.out)
  have hl := h.length
  have hm := h.len_int
  have H0 := Lib.hid h
  have S0 := Lib.hid (show Sp w c a len cap 0 none 0 [] ((w.alloc (.cells #[.int .i64 c, .slice a len cap] 26)).alloc (.cells #[.int .i64 0, .slice none 0 0] 41)) from
    ⟨(VarN.new w [.int .i64 c, .slice a len cap] 26).alloc _ (by simp), VarN.new_at (w := w.alloc (.cells #[.int .i64 c, .slice a len cap] 26)) (d := w.heap.size + 1) (by simp) [.int .i64 0, .slice none 0 0] _, World.ownsRow_nil _ _ _ _, HP.out⟩)
  clear h
  by_cases hs : SeenOk c es
  · have S1 := Lib.hid (seenV_yes hs)
    have HO := Lib.hid hs
    have hl16 : len ≤ 16 := by have := asc_few hs.2 (by decide); omega
    clear hs
    go_enter Try.func29, Try.ntmps29
    go_wp2_with fail
    refine (seenValid_any c a len cap es _ HG.out).mono ?_
    rw [S1.out]
    rintro e w1 ⟨rfl, hb1⟩
    have S1 := Lib.hid (S0.out.up hb1)
    have v1 := (S1.out.pb 1 _ rfl).1
    clear hb1 S0 HG HP
    go_wp2
    go_loopw [4, 15] (fun gv iv wr => ∃ (i m cap2 : Nat) (q : Option Addr) (gs : List (Int × Int)), i ≤ len ∧ iv = .int .i64 i ∧ gv = .slice q m cap2 ∧ Hid (Tl es (lastE 1 (es.take i) + 1) gs) ∧ Hid (Sp w c a len cap m q cap2 gs wr)) (fun _ iv _ => len - (intOf iv).toNat)
    case atStart => exact ⟨0, 0, 0, none, [], Nat.zero_le _, rfl, rfl, Lib.hid (tl_start HO.out.2), S1⟩
    case round =>
      obtain ⟨i, m, cap2, q, gs, hi, rfl, rfl, hT, hS⟩ := hrel
      clear S1 v1
      have hml : gs.length = m := by have := hS.out.own.1; rw [flat_length] at this; omega
      have hm9 : m ≤ 8 := hml ▸ tl_few hT.out
      by_cases hlt : i < len
      · have wi : IntKind.i64.wrap ((i : Int) + 1) = (i : Int) + 1 := IntWalk.i64_in _ ⟨by omega, by omega⟩
        obtain ⟨x, rfl⟩ := H0.out.addr hlt
        have p0 := H0.out.at hS.out.b hlt
        have hkl : i < es.length := by omega
        obtain ⟨b1, b2, b3, b4⟩ := asc_between HO.out.2 hkl
        have hin := nAt_mem hkl
        have L2 := (lastE_range (show AscOk 1 (es.take i) from by have := HO.out.2; rw [← List.take_append_drop i es] at this; exact asc_left this) (by decide)).1
        obtain ⟨e, he⟩ : ∃ e, nAt es i = e := ⟨_, rfl⟩
        rw [he] at p0 b1 b2 b3 b4 hin
        have TS := Lib.hid (tl_skip hT.out b1 b3)
        have B4 := Lib.hid b4
        have we : IntKind.i64.wrap (e + 1) = e + 1 := IntWalk.i64_in _ ⟨by omega, by omega⟩
        have e2 : 2 ≤ e := by omega
        clear b1 b3 b4 he hT hkl L2
        rcases gaps_ends gs with rfl | ⟨hs, f, t, rfl⟩
        · have TN := Lib.hid (tl_new TS.out hin e2 b2 (.inl rfl))
          obtain rfl : m = 0 := by simpa using hml.symm
          clear hin TS
          have SA := Lib.hid (hS.out.up (below_box (.cells #[.int .i64 e, .int .i64 e] 76) (Nat.le_refl _)))
          have hlo5 : w.heap.size + 2 ≤ wr.heap.size := lt_of_cell (hS.out.rb 0 _ rfl).1
          clear hS
          go_wp2_with (at_builtin; go_loud (refine wpList_append_lies _ rfl _ _ 39 rfl (w.heap.size + 2) 76 i0 (.agg #[.int .i64 0, .int .i64 0]) 2 16 Try.underlying39 HI.out.1 HI.out.2.1 HI.out.2.2.1 HI.out.2.2.2 rfl (by decide) (.slice q 0 cap2) 0 (flat ([])) rfl SA.out.own ⟨wr.heap.size, 0, none⟩ 1 1 [.int .i64 e, .int .i64 e] rfl rfl (news_box rfl) (by simp [Value.oneCell']) (by decide) (by unfold maxLen; omega) (by omega) (by simp; omega) _ rfl ?_))
          intro g3 cap3 w9 hown hgrow hat hlt9
          have SP := Lib.hid (SA.out.push rfl hgrow hown)
          clear hown hgrow hat hlt9 SA
          go_wp2
          go_roundw
          case rel => exact ⟨i + 1, 0 + 1, cap3, some ⟨g3, 0, none⟩, _, by omega, by go_num, rfl, by rw [B4.out]; exact TN, SP⟩
          case measure => simp [intOf]; omega
        · obtain ⟨y, hq⟩ : ∃ y, hs.length = y := ⟨_, rfl⟩
          have hqm : y + 1 = m := by rw [← hml, ← hq]; simp
          obtain ⟨g, rfl⟩ : ∃ g, q = some ⟨g, 0, none⟩ := by
            rcases hS.out.own.2 with ⟨_, h0⟩ | ⟨g', cap', cur, hv, _⟩
            · omega
            · exact ⟨g', by have := hv; simp at this; exact this.1⟩
          have wq : IntKind.i64.wrap ((m : Int) - 1) = (y : Int) := by rw [IntWalk.i64_in _ ⟨by omega, by omega⟩]; omega
          have y0 : (0 : Int) ≤ (y : Int) := by omega
          have hqlt : y < m := by omega
          have hqi : (y : Int) < (m : Int) := by omega
          have p1 : wr.cell? ⟨g, y * 2 + 1, none⟩ = some (.int .i64 t) := by
            have := hS.out.own.cellAt (y * 2 + 1) (by omega)
            rw [(flat_get (hs ++ [(f, t)]) y (by simp; omega)).2] at this
            rw [this, List.getD_eq_getElem?_getD, List.getElem?_append_right (by omega)]
            simp [hq]
          have pf := hS.out.own.frozenAt (y * 2 + 1)
          have ht16 : 0 ≤ t ∧ t ≤ 16 := by
            have h1 := last_range TS.out.gaps (by decide) (by decide)
            rw [lastOf_append] at h1
            exact h1
          have wt : IntKind.i64.wrap (t + 1) = t + 1 := IntWalk.i64_in _ ⟨by omega, by omega⟩
          have HQ := Lib.hid (And.intro hq hqm)
          clear hq hqm hml
          by_cases ht : t + 1 = e
          · have TN := Lib.hid (tl_more (f := f) (k := e) (by have := TS.out; rwa [show t = e - 1 by omega] at this) hin b2)
            have SM := Lib.hid (hS.out.more (j := y * 2 + 1) (u := e) (by rw [HQ.out.1]))
            clear hin TS hS
            go_wp2
            go_roundw
            case rel => exact ⟨i + 1, m, cap2, some ⟨g, 0, none⟩, _, by omega, by go_num, rfl, by rw [B4.out]; exact TN, SM⟩
            case measure => simp [intOf]; omega
          · have TN := Lib.hid (tl_new TS.out hin e2 b2 (.inr (by rw [lastOf_append]; show t ≠ _; omega)))
            have ht2 : decide (t + 1 = e) = false := decide_eq_false ht
            have ht3 : (t + 1 == e) = false := by simpa using ht
            clear hin TS
            have SA := Lib.hid (hS.out.up (below_box (.cells #[.int .i64 e, .int .i64 e] 76) (Nat.le_refl _)))
            have hlo5 : w.heap.size + 2 ≤ wr.heap.size := lt_of_cell (hS.out.rb 0 _ rfl).1
            clear hS pf
            go_wp2_with (at_builtin; go_loud (refine wpList_append_lies _ rfl _ _ 39 rfl (w.heap.size + 2) 76 i0 (.agg #[.int .i64 0, .int .i64 0]) 2 16 Try.underlying39 HI.out.1 HI.out.2.1 HI.out.2.2.1 HI.out.2.2.2 rfl (by decide) (.slice (some ⟨g, 0, none⟩) m cap2) m (flat (hs ++ [(f, t)])) rfl SA.out.own ⟨wr.heap.size, 0, none⟩ 1 1 [.int .i64 e, .int .i64 e] rfl rfl (news_box rfl) (by simp [Value.oneCell']) (by decide) (by unfold maxLen; omega) (by omega) (by simp; omega) _ rfl ?_))
            intro g3 cap3 w9 hown hgrow hat hlt9
            have SP := Lib.hid (SA.out.push rfl hgrow hown)
            clear hown hgrow hat hlt9 SA p1
            go_wp2
            go_roundw
            case rel => exact ⟨i + 1, m + 1, cap3, some ⟨g3, 0, none⟩, _, by omega, by go_num, rfl, by rw [B4.out]; exact TN, SP⟩
            case measure => simp [intOf]; omega
      · obtain rfl : i = len := by omega
        have HT := Lib.hid (show Told es gs from by
          have h1 := hT.out
          rw [List.take_of_length_le (by omega)] at h1
          have h2 := lastE_range HO.out.2 (by decide)
          exact tl_end (tl_skip h1 (by omega) fun j hj1 hj2 hj => by have := asc_last HO.out.2 j hj; omega) HO.out.2)
        have o0 := (hS.out.pb 0 _ rfl).1
        have r0 := (hS.out.rb 0 _ rfl).1
        have r1 := (hS.out.rb 1 _ rfl).1
        have s0 := (hS.out.rb 0 _ rfl).2
        have s1 := (hS.out.rb 1 _ rfl).2
        have K := Lib.hid (show GotSackP w c es (.returned (.tuple #[.agg #[.int .i64 c, .slice q m cap2], .bool true])) ((wr.setCell ⟨w.heap.size + 1, 0, none⟩ (.int .i64 c)).setCell ⟨w.heap.size + 1, 1, none⟩ (.slice q m cap2)) from .inl ⟨HO.out, m, q, cap2, gs, rfl, HT.out, hS.out.fin _ _⟩)
        clear hS hT
        go_wp2
        refine bodyPost_ret (v := .tuple #[.agg #[.int .i64 c, .slice q m cap2], .bool true]) ?_ rfl K.out
        simp [results, Try.results29, go_sem, r0, r1]
  · have S1 := Lib.hid (seenV_no hs)
    have HO := Lib.hid hs
    clear hs
    go_enter Try.func29, Try.ntmps29
    go_wp2_with fail
    refine (seenValid_any c a len cap es _ HG.out).mono ?_
    rw [S1.out]
    rintro e w1 ⟨rfl, hb1⟩
    have R1 := S0.out.up hb1
    have r0 := (R1.rb 0 _ rfl).1
    have r1 := (R1.rb 1 _ rfl).1
    have s0 := (R1.rb 0 _ rfl).2
    have s1 := (R1.rb 1 _ rfl).2
    have K := Lib.hid (show GotSackP w c es (.returned (.tuple #[.agg #[.int .i64 0, .slice none 0 0], .bool false])) ((w1.setCell ⟨w.heap.size + 1, 0, none⟩ (.int .i64 0)).setCell ⟨w.heap.size + 1, 1, none⟩ (.slice none 0 0)) from .inr ⟨HO.out, rfl, (R1.b.setCell (p := ⟨w.heap.size + 1, 0, none⟩) (Nat.le_succ _) _).setCell (p := ⟨w.heap.size + 1, 1, none⟩) (Nat.le_succ _) _⟩)
    clear hb1 R1 S0 HG HP
    go_wp2
    refine bodyPost_ret (v := .tuple #[.agg #[.int .i64 0, .slice none 0 0], .bool false]) ?_ rfl K.out
    simp [results, Try.results29, go_sem, r0, r1]

end Go.Proofs.Ytcjabomcndahbaa
