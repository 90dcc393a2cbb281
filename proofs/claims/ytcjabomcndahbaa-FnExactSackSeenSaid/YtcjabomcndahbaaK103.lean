/- What has arrived, of a receipt (the model's SackSeen). -/
import Derived.Test.YtcjabomcndahbaaK101
namespace Go.Proofs.Ytcjabomcndahbaa
open Go.RowKit Go.PlainAid

/-- While the parts of a receipt are collected: the argument, the answer's box, the value at D, its row. -/
structure Sb (w : World) (c : Int) (a : Option Addr) (len cap D m g cap2 : Nat) (ds : List Int) (W : World) : Prop where
  pb : VarN w.heap.size [.int .i64 c, .slice a len cap] W
  rb : VarN (w.heap.size + 1) [.int .i64 0, .slice none 0 0] W
  ob : VarN D [.int .i64 c, .slice (some ⟨g, 0, none⟩) m cap2] W
  own : W.ownsRow (w.heap.size + 2) 3 1 (.slice (some ⟨g, 0, none⟩) m cap2) m (flatN ds)
  b : Below w.heap.size w W
  ne : g ≠ D
  n1 : w.heap.size + 2 ≤ D
section
variable {w W W' : World} {c : Int} {a : Option Addr} {len cap D m g cap2 : Nat} {ds : List Int}
theorem Sb.up (h : Sb w c a len cap D m g cap2 ds W) (hb : Below W.heap.size W W') : Sb w c a len cap D m g cap2 ds W' :=
  ⟨h.pb.below hb (lt_of_cell (h.pb 0 _ rfl).1), h.rb.below hb (lt_of_cell (h.rb 0 _ rfl).1), h.ob.below hb (lt_of_cell (h.ob 0 _ rfl).1), ownUp h.own hb, h.b.trans (hb.mono h.b.size), h.ne, h.n1⟩
theorem Sb.push {g2 cap3 : Nat} {W1 : World} {z : Int} (h : Sb w c a len cap D m g cap2 ds W) (hgrow : W.grownBy W1 (some g)) (hown : W1.ownsRow (w.heap.size + 2) 3 1 (.slice (some ⟨g2, 0, none⟩) (m + 1) cap3) (m + 1) (flatN ds ++ [.int .i64 z])) (hat : g2 = g ∨ g2 = W.heap.size) :
    Sb w c a len cap D (m + 1) g2 cap3 (ds ++ [z]) (W1.setCell ⟨D, 1, none⟩ (.slice (some ⟨g2, 0, none⟩) (m + 1) cap3)) := by
  have h1 := lt_of_cell (h.ob 0 _ rfl).1
  have h2 : w.heap.size + 2 ≤ g := own_ge h.own rfl
  have h3 := h.ne
  have h4 := h.n1
  have hne : g2 ≠ D := by omega
  exact ⟨(h.pb.plus hgrow (by omega) (by omega)).far _ (by omega), (h.rb.plus hgrow (by omega) (by omega)).far _ (by omega), (h.ob.plus hgrow h1 (by omega)).set (i := 1) _, rowFar (by rw [flatN_append]; exact hown) hne _, (Below.grown h.b hgrow h.b.size fun x hx => by cases hx; omega).setCell (p := ⟨D, 1, none⟩) (by show w.heap.size ≤ D; omega) _, hne, h4⟩
theorem Sb.fin (h : Sb w c a len cap D m g cap2 ds W) (x y : Value) : OwnN m (.slice (some ⟨g, 0, none⟩) m cap2) ds w ((W.setCell ⟨w.heap.size + 1, 0, none⟩ x).setCell ⟨w.heap.size + 1, 1, none⟩ y) := by
  have h2 : w.heap.size + 2 ≤ g := own_ge h.own rfl
  exact ⟨rowFar (rowFar (ownN_low h.own (by omega)) (by omega) x) (by omega) y, (h.b.setCell (p := ⟨w.heap.size + 1, 0, none⟩) (Nat.le_succ _) _).setCell (p := ⟨w.heap.size + 1, 1, none⟩) (Nat.le_succ _) _⟩
end
/-- What SackSeen answers. -/
def GotSeen (w : World) (c : Int) (gs : List (Int × Int)) (e : Ending) (w' : World) : Prop :=
  (SackOk c gs ∧ ∃ m g cap2 ds, e = .returned (.tuple #[.agg #[.int .i64 c, .slice (some ⟨g, 0, none⟩) m cap2], .bool true]) ∧ Told ds gs ∧ OwnN m (.slice (some ⟨g, 0, none⟩) m cap2) ds w w')
  ∨ (¬ SackOk c gs ∧ e = .returned (.tuple #[.agg #[.int .i64 0, .slice none 0 0], .bool false]) ∧ Below w.heap.size w w')

set_option maxHeartbeats 4000000 in
theorem sSackSeen_any (c : Int) (a : Option Addr) (len cap : Nat) (gs : List (Int × Int)) (w : World) (h : Gaps w a len cap gs) :
    Calls Try.prog 36 #[.agg #[.int .i64 c, .slice a len cap]] w (GotSeen w c gs) := by
  obtain ⟨i0, hi, hz0, hz1, hz2⟩ := info_parts info_n
  have HI := Lib.hid (And.intro hi (And.intro hz0 (And.intro hz1 hz2)))
  clear hi hz0 hz1 hz2
  have HP := Lib.hid ((below_box (w := w) (.cells #[.int .i64 c, .slice a len cap] 41) (Nat.le_refl _)).alloc (by simp) (.cells #[.int .i64 0, .slice none 0 0] 26))
  have HG := Lib.hid (h.below HP.out)
  have hll := h.length
  have H0 := Lib.hid h
  have V0 := Lib.hid ((VarN.new w [.int .i64 c, .slice a len cap] 41).alloc (.cells #[.int .i64 0, .slice none 0 0] 26) (by simp))
  have R0 := Lib.hid (VarN.new_at (w := w.alloc (.cells #[.int .i64 c, .slice a len cap] 41)) (d := w.heap.size + 1) (by simp) [.int .i64 0, .slice none 0 0] 26)
  clear h
  by_cases hs : SackOk c gs
  · have S1 := Lib.hid (sackV_yes hs)
    have HO := Lib.hid hs
    have hl8 : len ≤ 8 := by have := gaps_few hs.2 (by decide); omega
    clear hs
    go_enter Try.func36, Try.ntmps36
    go_wp2_with fail
    refine (l12Sack_any c a len cap gs _ HG.out).mono ?_
    rw [S1.out]
    rintro e w1 ⟨rfl, hb1⟩
    have V1 := V0.out.below hb1 (by simp; omega)
    have v0 := (V1 0 _ rfl).1
    have v1 := (V1 1 _ rfl).1
    have hlo : w.heap.size + 2 ≤ w1.heap.size := by have := hb1.size; simp at this; omega
    have W0 := Lib.hid (show Sb w c a len cap (w1.heap.size + 1) 0 w1.heap.size 0 [] ((w1.alloc (.cells #[] 3)).alloc (.cells #[.int .i64 c, .slice (some ⟨w1.heap.size, 0, none⟩) 0 0] 26)) from
      ⟨(V1.alloc _ (by omega)).alloc _ (by simp; omega), ((R0.out.below hb1 (by simp)).alloc _ (by omega)).alloc _ (by simp; omega), VarN.new_at (by simp) [.int .i64 c, .slice (some ⟨w1.heap.size, 0, none⟩) 0 0] _, ownN_alloc (lit_ownN w1 _ _ rfl hlo), ((HP.out.trans (hb1.mono HP.out.size)).alloc (by omega) _).alloc (by simp; omega) _, by omega, by omega⟩)
    clear hb1 V1 V0 R0 HG HP S1
    generalize hD : w1.heap.size + 1 = D at W0
    go_wp2
    go_loopw [5] (fun iv wr => ∃ (i m g cap2 : Nat) (ds : List Int), i ≤ len ∧ iv = .int .i64 i ∧ Hid (So gs i ds) ∧ Hid (Sb w c a len cap D m g cap2 ds wr)) (fun iv _ => len - (intOf iv).toNat)
    case atStart => exact ⟨0, 0, w1.heap.size, 0, [], Nat.zero_le _, rfl, Lib.hid (so_start gs), W0⟩
    case round =>
      obtain ⟨i, m, g, cap2, ds, hi, rfl, hT, hS⟩ := hrel
      clear W0 v0 v1
      have v1 := (hS.out.pb 1 _ rfl).1
      by_cases hlt : i < len
      · have cond : (i : Int) < (len : Int) := by omega
        have wi : IntKind.i64.wrap ((i : Int) + 1) = (i : Int) + 1 := IntWalk.i64_in _ ⟨by omega, by omega⟩
        obtain ⟨f, hf⟩ : ∃ f, (gs.getD i (0, 0)).1 = f := ⟨_, rfl⟩
        obtain ⟨t, ht⟩ : ∃ t, (gs.getD i (0, 0)).2 = t := ⟨_, rfl⟩
        obtain ⟨hSl, hf2, hft, ht16⟩ := so_in hT.out HO.out.2 (by omega) hf ht
        have HF := Lib.hid (And.intro hf ht)
        have hSl := Lib.hid hSl
        have hG' := H0.out.below hS.out.b
        rcases hG' with ⟨rfl, rfl, rfl, rfl⟩ | ⟨x, rfl, h7, h8, h9, h10⟩
        · omega
        obtain ⟨p0, p1⟩ := h10 i hlt
        rw [hf] at p0
        rw [ht] at p1
        clear h10 hf ht hT
        go_wp2
        go_loopw [6] (fun kv wr => ∃ (k : Int) (m g cap2 : Nat) (ds : List Int), (f ≤ k ∧ k ≤ t + 1) ∧ kv = .int .i64 k ∧ Hid (Sl gs i f k ds) ∧ Hid (Sb w c (some x) len cap D m g cap2 ds wr)) (fun kv _ => (t + 1 - intOf kv).toNat)
        case atStart => exact ⟨f, m, g, cap2, ds, by omega, rfl, hSl, hS⟩
        case round =>
          obtain ⟨k, m, g, cap2, ds, hk, rfl, hSl, hS⟩ := hrel
          clear v1
          have v1 := (hS.out.pb 1 _ rfl).1
          have o1 := (hS.out.ob 1 _ rfl).1
          have hml : ds.length = m := by have := hS.out.own.1; rw [flatN_length] at this; omega
          have hm15 := sl_few hSl.out
          obtain ⟨p0, p1⟩ : wr.cell? (x.add (i * 2)) = some (.int .i64 f) ∧ wr.cell? ⟨(x.add (i * 2)).block, (x.add (i * 2)).off + 1, none⟩ = some (.int .i64 t) := by
            rcases H0.out.below hS.out.b with ⟨e, _⟩ | ⟨x', e, _, _, _, h10⟩
            · cases e
            · obtain rfl : x = x' := by simpa using e
              have := h10 i hlt
              rw [HF.out.1, HF.out.2] at this
              exact this
          by_cases hkt : k ≤ t
          · have wk : IntKind.i64.wrap (k + 1) = k + 1 := IntWalk.i64_in _ ⟨by omega, by omega⟩
            have TN := Lib.hid (sl_step hSl.out hk.1 (by omega))
            have SA := Lib.hid (hS.out.up (below_box (.cells #[.int .i64 k] 3) (Nat.le_refl _)))
            have hlo5 : w.heap.size + 2 ≤ wr.heap.size := by have := hS.out.n1; have := lt_of_cell (hS.out.ob 0 _ rfl).1; omega
            clear hS hSl
            go_wp2_with (at_builtin; go_loud (refine wpList_append_lies _ rfl _ _ 24 rfl (w.heap.size + 2) 3 i0 (.int .i64 0) 1 8 Try.underlying24 HI.out.1 HI.out.2.1 HI.out.2.2.1 HI.out.2.2.2 rfl (by decide) (.slice (some ⟨g, 0, none⟩) m cap2) m (flatN ds) rfl SA.out.own ⟨wr.heap.size, 0, none⟩ 1 1 [.int .i64 k] rfl rfl (news_box rfl) (by simp [Value.oneCell']) (by decide) (by unfold maxLen; omega) (by omega) (by simp; omega) _ rfl ?_))
            intro g3 cap3 w9 hown hgrow hat hlt9
            have hat' : g3 = g ∨ g3 = (wr.alloc (.cells #[.int .i64 k] 3)).heap.size := by
              rcases hat with h | h
              · exact .inl (by simpa [Value.ownBlock] using h.symm)
              · exact .inr (by simpa using h)
            have SP := Lib.hid (SA.out.push hgrow hown hat')
            have V9 := SA.out.ob.plus hgrow (lt_of_cell (SA.out.ob 0 _ rfl).1) (fun e => SA.out.ne e.symm)
            have v9 := (V9 1 _ rfl).1
            have f9 := (V9 1 _ rfl).2
            clear V9 hown hgrow hat hat' hlt9 SA o1 v1 p0 p1
            go_wp2
            go_roundw
            case rel => exact ⟨k + 1, m + 1, g3, cap3, _, by omega, by go_num, TN, SP⟩
            case measure => simp [intOf]; omega
          · obtain rfl : k = t + 1 := by omega
            have TO := Lib.hid (so_out hSl.out (by omega) HF.out.1 HF.out.2)
            have ncond : ¬ (t + 1 : Int) ≤ t := by omega
            clear hSl hkt
            go_wp2
            go_roundw
            case rel => exact ⟨i + 1, m, g, cap2, ds, by omega, by go_num, TO, hS⟩
            case measure => simp [intOf]; omega
      · obtain rfl : i = len := by omega
        have ncond : ¬ (i : Int) < (i : Int) := by omega
        have HT := Lib.hid (so_end hT.out hll.symm HO.out.2)
        have o0 := (hS.out.ob 0 _ rfl).1
        have o1 := (hS.out.ob 1 _ rfl).1
        have r0 := (hS.out.rb 0 _ rfl).1
        have r1 := (hS.out.rb 1 _ rfl).1
        have s0 := (hS.out.rb 0 _ rfl).2
        have s1 := (hS.out.rb 1 _ rfl).2
        have K := Lib.hid (show GotSeen w c gs _ _ from .inl ⟨HO.out, m, g, cap2, ds, rfl, HT.out, hS.out.fin (.int .i64 c) (.slice (some ⟨g, 0, none⟩) m cap2)⟩)
        clear hS hT hlt
        go_wp2
        refine bodyPost_ret (v := .tuple #[.agg #[.int .i64 c, .slice (some ⟨g, 0, none⟩) m cap2], .bool true]) ?_ rfl K.out
        simp [results, Try.results36, go_sem, r0, r1]
  · have S1 := Lib.hid (sackV_no hs)
    have HO := Lib.hid hs
    clear hs
    go_enter Try.func36, Try.ntmps36
    go_wp2_with fail
    refine (l12Sack_any c a len cap gs _ HG.out).mono ?_
    rw [S1.out]
    rintro e w1 ⟨rfl, hb1⟩
    have R1 := R0.out.below hb1 (by simp)
    have r0 := (R1 0 _ rfl).1
    have r1 := (R1 1 _ rfl).1
    have s0 := (R1 0 _ rfl).2
    have s1 := (R1 1 _ rfl).2
    have B1 := HP.out.trans (hb1.mono HP.out.size)
    have K := Lib.hid (show GotSeen w c gs (.returned (.tuple #[.agg #[.int .i64 0, .slice none 0 0], .bool false])) ((w1.setCell ⟨w.heap.size + 1, 0, none⟩ (.int .i64 0)).setCell ⟨w.heap.size + 1, 1, none⟩ (.slice none 0 0)) from .inr ⟨HO.out, rfl, (B1.setCell (p := ⟨w.heap.size + 1, 0, none⟩) (Nat.le_succ _) _).setCell (p := ⟨w.heap.size + 1, 1, none⟩) (Nat.le_succ _) _⟩)
    clear hb1 V0 HG HP R0 R1 B1
    go_wp2
    refine bodyPost_ret (v := .tuple #[.agg #[.int .i64 0, .slice none 0 0], .bool false]) ?_ rfl K.out
    simp [results, Try.results36, go_sem, r0, r1]

end Go.Proofs.Ytcjabomcndahbaa
