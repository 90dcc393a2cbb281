/- The contracts of the program's chapter 12: the blocks of a receipt collected into a slice, and the receipt read out of a chunk. -/
import Derived.Maps.AppendAt
import Derived.RangeFuncBox
import Derived.Test.YtifphigdklkpjaaK35
import Derived.Test.YtifphigdklkpjaaK30
namespace Go.Proofs.Ytifphigdklkpjaa
open Go.RowKit Go.PlainAid Go.Shelf
attribute [local go_sem] Oper.semAt_some
attribute [local go_sem] wide_fn

theorem VarN.putObj {d l : Nat} {vs : List Value} {W : World} {o : Obj} (h : VarN d vs W) (o' : Obj) (hl : W.heap[l]? = some o) (ho : o.isCells = false) : VarN d vs (W.putObj l o') := fun i v hi =>
  ⟨cell_kept (h i v hi).1 (grownBy_putObj' W l o') (fun r e => by cases e; exact ⟨_, hl, ho⟩), (frozen_kept (h i v hi).1 (grownBy_putObj' W l o') (fun r e => by cases e; exact ⟨_, hl, ho⟩)).trans (h i v hi).2⟩
theorem own_blk {w : World} {base n x : Nat} {e : TypeId} {size : Nat} {v : Value} {xs : List Value} (h : w.ownsRow base e size v n xs) (hx : v.ownBlock = some x) : base ≤ x ∧ x < w.heap.size := by
  rcases h.2 with ⟨rfl, _⟩ | ⟨g, cap, cur, rfl, h2, h3, _⟩
  · cases hx
  · obtain rfl : g = x := by simpa [Value.ownBlock] using hx
    exact ⟨h2, (Array.getElem?_eq_some_iff.1 h3).1⟩
theorem own_aside {w w' : World} {base n c : Nat} {e : TypeId} {size : Nat} {v : Value} {xs : List Value} (h : w.ownsRow base e size v n xs) (ha : Aside w.heap.size c w w') (hc : c < base) : w'.ownsRow base e size v n xs := by
  refine ⟨h.1, ?_⟩
  rcases h.2 with h0 | ⟨g, cap, cur, rfl, h2, h3, h4⟩
  · exact .inl h0
  · exact .inr ⟨g, cap, cur, rfl, h2, (ha g (Array.getElem?_eq_some_iff.1 h3).1 (by omega)).trans h3, h4⟩
theorem below_putObj {n l : Nat} {W : World} {o : Obj} (o' : Obj) (hn : n ≤ l) (hl : W.heap[l]? = some o) : Below n W (W.putObj l o') :=
  (Below.refl n W).grown (grownBy_putObj' W l o') (by have := (Array.getElem?_eq_some_iff.1 hl).1; omega) (fun k e => by cases e; exact hn)

/-- A range over an iterator that may move block c alone of those that lay. -/
theorem range_hand {g : Operand} {ps : Array Tmp} {assign body : Code} {Q : Exit → Act → World → Prop} {a : Act} {w : World} {gf : Nat} {lb : Array Value} (hg : a.eval g = .func (.func gf) #[] lb)
    (eg : ∀ args w, (callFunc gf args).run Try.prog w = .ok (.enter gf args) w) {encs : Nat → Array Value} (hps : ∀ k, (encs k).size = ps.size) (K B c Z : Nat) (hcZ : c < Z) (hBc : B ≤ c) (hZ : Z ≤ w.heap.size)
    (E : World → Prop) (hE : ∀ W l o o', w.heap.size ≤ l → W.heap[l]? = some o → E W → E (W.putObj l o'))
    (I : Nat → World → Prop) (hIp : ∀ k W l o o', w.heap.size ≤ l → W.heap[l]? = some o → o.isCells = false → I k W → I k (W.putObj l o')) (hIf : ∀ k W W', I k W → Fr B c W W' → I k W')
    (h0 : ∀ r, I 0 ((w.alloc (.deferred (some []))).alloc (.loop r)))
    (hseq : ∀ (l : Nat) (J : Nat → World → Prop) (W : World), Below w.heap.size w W → (∀ k W W', J k W → Fr B c W W' → J k W') →
      (∀ k W, k < K → J k W → YieldAt Fence.wide 2 Try.prog l (encs k) W fun e W' => e = .returned (.bool true) ∧ J (k + 1) W' ∧ Below Z W W') → J 0 W →
      CallsIn Fence.wide 3 Try.prog gf (#[.func (.yield l) #[] #[]] ++ lb) W fun e W' => (∃ v, e = .returned v) ∧ J K W' ∧ E W')
    (A : Nat → Act → World → Prop) (hAp : ∀ k a₁ W l o o', w.heap.size ≤ l → W.heap[l]? = some o → o.isCells = false → A k a₁ W → A k a₁ (W.putObj l o'))
    (hassign : ∀ (l k : Nat) (W : World), k < K → I k W →
      assign.wpIn (Fence.wide.inRound l) 2 Try.prog (Exit.then (fun a₁ W1 => A k a₁ W1 ∧ KeepsOthers W W1 ∧ Below Z W W1) (fun _ _ _ => False)) { tmps := (ps.zip (encs k)).foldl (fun t (p, v) => t.setIfInBounds p v) a.tmps, defers := [] } W)
    (hbody : ∀ (l k : Nat) (a₁ : Act) (W : World), k < K → A k a₁ W → body.wpIn (Fence.wide.inRound l) 2 Try.prog (fun e _ W' => e = .normal ∧ I (k + 1) W' ∧ KeepsOthers W W' ∧ Below Z W W') a₁ W)
    (hdone : ∀ (D : Nat) (W : World), w.heap.size ≤ D → I K W → E W → W.heap[D]? = some (.deferred (some [])) → Q .normal { a with defers := { target := .collected D, args := #[] } :: a.defers } W) :
    (Code.rangeFunc g ps assign body).wpIn Fence.wide 4 Try.prog Q a w := by
  refine wpIn_rangeFunc ?_
  intro fn hfn
  obtain ⟨rec, hrec⟩ : ∃ rec : LoopState → Option Code → Loop, rec = fun st pe => { state := st, pending := pe, fn, tmps := a.tmps, params := ps, assign, body, defers := w.heap.size } := ⟨_, rfl⟩
  obtain ⟨W1, hW1⟩ : ∃ W1, (w.alloc (.deferred (some []))).alloc (.loop (rec .ready none)) = W1 := ⟨_, rfl⟩
  have hL1 : W1.heap[w.heap.size + 1]? = some (.loop (rec .ready none)) := by
    rw [← hW1]
    have := World.alloc_heap_new (w.alloc (.deferred (some []))) (.loop (rec .ready none))
    rwa [World.size_alloc] at this
  have hK1 : W1.heap[w.heap.size]? = some (.deferred (some [])) := by
    rw [← hW1]
    exact (Below.heap_alloc _ _ _ (by simp)).trans (World.alloc_heap_new w _)
  have hI1 : I 0 W1 := by
    rw [← hW1]
    exact h0 _
  have hb1 : Below w.heap.size w W1 := by
    rw [← hW1]
    exact ((Below.refl _ w).alloc (Nat.le_refl _) _).alloc (by simp) _
  refine ⟨w.heap.size + 1, [{ target := .collected w.heap.size, args := #[] }], W1, { target := .fn (.func gf) lb, args := #[.func (.yield (w.heap.size + 1)) #[] #[]] }, W1, gf,
    #[.func (.yield (w.heap.size + 1)) #[] #[]] ++ lb, W1, ?_, ?_, ?_, ?_, fun _ => by omega, ?_⟩
  · rw [← hW1, hrec]
    exact run_enterLoop_outer _ _ _ _ _
  · simp only [resolve, hg]
    simp [go_sem]
  · intro f' hf'
    exact trivial
  · simp [invoke, go_sem, eg]
  · refine (hseq (w.heap.size + 1) (fun k W => I k W ∧ W.heap[w.heap.size + 1]? = some (.loop (rec .ready none)) ∧ W.heap[w.heap.size]? = some (.deferred (some []))) W1 hb1 ?_ ?_ ⟨hI1, hL1, hK1⟩).mono ?_
    · rintro k W W' ⟨hi, hl, hk⟩ hf
      exact ⟨hIf _ _ _ hi hf, (hf.aside _ (Array.getElem?_eq_some_iff.1 hl).1 (by omega)).trans hl, (hf.aside _ (Array.getElem?_eq_some_iff.1 hk).1 (by omega)).trans hk⟩
    · rintro k W hkK ⟨hi, hl, hk⟩
      have hy := run_yield (P := Try.prog) (args := encs k) hl (by rw [hrec]; exact hps k)
      rw [hrec] at hy
      refine ⟨fn, _, assign, body, hy, roundIn_of_wpIn hfn (wpIn_mono (hassign _ k W hkK hi) ?_)⟩
      rintro e a1 W2 h2
      cases e with
      | normal =>
        obtain ⟨hA, hk2, hb2⟩ := h2
        have hl2 := hk2.same _ _ hl rfl
        have hd2 := hk2.same _ _ hk rfl
        refine ⟨_, run_beginRound hl2 (by rw [hrec]), ?_⟩
        have hlt : w.heap.size + 1 < W2.heap.size := (Array.getElem?_eq_some_iff.1 hl2).1
        refine wpIn_mono (hbody _ k a1 _ hkK (hAp _ _ _ _ _ _ (by omega) hl2 rfl hA)) ?_
        rintro e a3 W3 ⟨rfl, hi3, hk3, hb3⟩
        have hl3 := hk3.same _ _ (World.putObj_heap_same hlt) rfl
        have hd3 := hk3.same _ _ ((World.putObj_heap_other (by omega)).trans hd2) rfl
        have hr := run_endRound (P := Try.prog) none hl3
        refine ⟨_, _, hr, rfl, ⟨hIp _ _ _ _ _ (by omega) hl3 rfl hi3, ?_, (World.putObj_heap_other (by omega)).trans hd3⟩, ?_⟩
        · rw [World.putObj_heap_same (Array.getElem?_eq_some_iff.1 hl3).1, hrec]
          rfl
        · exact ((hb2.trans (below_putObj _ (by omega) hl2)).trans hb3).trans (below_putObj _ (by omega) hl3)
      | ret => exact h2.elim
      | exit id => exact h2.elim
      | goto t => exact h2.elim
      | panic ch => exact h2.elim
      | outgrown => exact h2.elim
    · rintro e W2 ⟨⟨v, rfl⟩, ⟨hi, hl, hk⟩, he⟩
      exact ⟨none, _, by have := run_endLoop (P := Try.prog) hl (by rw [hrec]; simp); rw [hrec] at this; exact this, hdone _ _ (Nat.le_refl _) (hIp _ _ _ _ _ (by omega) hl rfl hi) (hE _ _ _ _ (by omega) hl he) ((World.putObj_heap_other (by omega)).trans hk)⟩

theorem own_cells {w : World} {base n x : Nat} {e : TypeId} {size : Nat} {v : Value} {xs : List Value} {o : Obj} (h : w.ownsRow base e size v n xs) (hx : v.ownBlock = some x) (ho : w.heap[x]? = some o) : o.isCells = true := by
  rcases h.2 with ⟨rfl, _⟩ | ⟨g, cap, cur, rfl, h2, h3, _⟩
  · cases hx
  · obtain rfl : g = x := by simpa [Value.ownBlock] using hx
    rw [h3] at ho
    cases ho
    rfl
theorem VarN.growO {d : Nat} {ob : Option Nat} {vs : List Value} {w w' : World} (h : VarN d vs w) (hg : w.grownBy w' ob) (hd : d < w.heap.size) (hne : ∀ x, ob = some x → d ≠ x) : VarN d vs w' := fun i v hi =>
  ⟨(hg.cell_far ⟨d, i, none⟩ hd (by intro e; exact hne d e.symm rfl)).trans (h i v hi).1, (hg.frozen_far ⟨d, i, none⟩ hd (by intro e; exact hne d e.symm rfl)).trans (h i v hi).2⟩
theorem Cur.putObj {c l : Nat} {s : ByteArray} {p : Int} {W : World} {o : Obj} (h : Cur c s p W) (o' : Obj) (hn : c < l) (hl : W.heap[l]? = some o) : Cur c s p (W.putObj l o') :=
  h.keepZ (below_putObj o' (Nat.le_refl l) hl) hn
theorem Fr.putObj {B c l : Nat} {w W : World} {o : Obj} (h : Fr B c w W) (o' : Obj) (hB : B ≤ l) (hn : w.heap.size ≤ l) (hl : W.heap[l]? = some o) : Fr B c w (W.putObj l o') :=
  ⟨h.below.trans (below_putObj o' hB hl), h.aside.trans (below_aside (below_putObj o' hn hl) (Nat.le_refl _))⟩
/-- What AppendSeq's loop keeps: the row of the blocks so far. -/
def Row (s : ByteArray) (Z B c : Nat) (W0 : World) (k : Nat) (W : World) : Prop :=
  (∃ v, VarN Z [v] W ∧ W.ownsRow (Z + 1) 38 2 v k (flat (gapsAt s k)) ∧ Z < W.heap.size) ∧ Fr B c W0 W
def RowA (s : ByteArray) (Z B c Bc : Nat) (W0 : World) (k : Nat) (a₁ : Act) (W : World) : Prop :=
  Row s Z B c W0 k W ∧ ∃ Bx, Bx < W.heap.size ∧ Z < Bx ∧ VarN Bx [.int .i64 (be s (2 + 4 * k) 2), .int .i64 (be s (4 + 4 * k) 2)] W ∧ a₁ = { tmps := #[.slice none 0 0, .func (.func 41) #[] #[.pointer (some ⟨Bc, 0, none⟩)], .pointer (some ⟨Z, 0, none⟩), undef, .slice none 0 0, .pointer (some ⟨Bx, 0, none⟩), .func (.func 41) #[] #[.pointer (some ⟨Bc, 0, none⟩)], .agg #[.int .i64 (be s (2 + 4 * k) 2), .int .i64 (be s (4 + 4 * k) 2)], undef, undef, undef, undef, undef], defers := [] }
theorem Row.putObj {s : ByteArray} {Z B c k l : Nat} {W0 W : World} {o : Obj} (h : Row s Z B c W0 k W) (o' : Obj) (hB : B ≤ l) (hn : W0.heap.size ≤ l) (hl : W.heap[l]? = some o) (ho : o.isCells = false) : Row s Z B c W0 k (W.putObj l o') := by
  obtain ⟨⟨v, h1, h2, h3⟩, h4⟩ := h
  exact ⟨⟨v, h1.putObj o' hl ho, ownsRow_putObj h2 _ hl ho, Nat.lt_of_lt_of_le h3 (below_putObj o' hB hl).size⟩, h4.putObj o' hB hn hl⟩

set_option maxRecDepth 100000 in
set_option maxHeartbeats 2000000 in
theorem appendSeq_any (c Bc B K : Nat) (s : ByteArray) (hs : s.size ≤ 100000000) (h2 : 2 ≤ s.size) (hK : K = (s.size - 2) / 4) (hB : B ≤ c) (hbc : Bc ≠ c) (W0 : World) (hcur : Cur c s 2 W0) (hbox : W0.cell? ⟨Bc, 0, none⟩ = some (.pointer (some ⟨c, 0, none⟩))) :
    CallsIn Fence.wide 4 Try.prog 40 #[.slice none 0 0, .func (.func 41) #[] #[.pointer (some ⟨Bc, 0, none⟩)]] W0 fun e w' => ∃ v, e = .returned v ∧ w'.ownsRow (W0.heap.size + 1) 38 2 v K (flat (gapsAt s K)) ∧ Fr B c W0 w' ∧ Cur c s (2 + 4 * (K : Int)) w' := by
  obtain ⟨i0, hi, hz0, hz1, hz2⟩ := info_parts info_gap
  have hK100 : K ≤ 25000000 := by omega
  have HK := Lib.hid hK
  clear hK
  have hc0 := hcur.1
  have hb0 := lt_of_cell hbox
  refine callsIn_of_wp_marks Try.func40 rfl trivial ?_ rfl
  simp only [Try.ntmps40, List.size_toArray, List.length_cons, List.length_nil, Nat.reduceAdd, Nat.reduceSub, Array.replicate_succ, Array.replicate_zero, List.push_toArray, List.append_toArray, List.nil_append, List.cons_append]
  gi_wp2
  have bS := VarN.new W0 [.slice none 0 0] 26
  have hF0 : Fr B c W0 (W0.alloc (.cells #[.slice none 0 0] 26)) := (Fr.refl B c W0).alloc (by omega) _
  have hcur1 : Cur c s 2 (W0.alloc (.cells #[.slice none 0 0] 26)) := hcur.grow ((Below.refl _ W0).alloc (Nat.le_refl _) _)
  have hbox1 : (W0.alloc (.cells #[.slice none 0 0] 26)).cell? ⟨Bc, 0, none⟩ = some (.pointer (some ⟨c, 0, none⟩)) := kept_cell ((Below.refl _ W0).alloc (Nat.le_refl _) _) hb0 hbox
  refine range_hand (gf := 41) (lb := #[.pointer (some ⟨Bc, 0, none⟩)]) rfl (enters_of Try.func41 (by kernel_rfl) rfl)
    (encs := fun k => #[.agg #[.int .i64 (be s (2 + 4 * k) 2), .int .i64 (be s (4 + 4 * k) 2)]]) (fun _ => rfl) K B c W0.heap.size hc0 hB (by simp) (Cur c s (2 + 4 * (K : Int))) ?hE (Row s W0.heap.size B c W0) ?hIp ?hIf ?h0 ?hseq (RowA s W0.heap.size B c Bc W0) ?hAp ?hassign ?hbody ?hdone
  case hE =>
    intro W l o o' hn hl h
    exact h.putObj o' (by simp at hn; omega) hl
  case hIp =>
    intro k W l o o' hn hl ho h
    exact h.putObj o' (by simp at hn; omega) (by simp at hn; omega) hl ho
  case hIf =>
    rintro k W W' ⟨⟨v, h1, h2, h3⟩, h4⟩ hf
    exact ⟨⟨v, h1.aside hf.aside h3 (by omega), own_aside h2 hf.aside (by omega), Nat.lt_of_lt_of_le h3 hf.size⟩, h4.trans hf⟩
  case h0 =>
    intro r
    refine ⟨⟨_, (bS.alloc _ (by simp)).alloc _ (by simp; omega), World.ownsRow_nil _ _ _ _, by simp; omega⟩, (hF0.alloc (by omega) _).alloc (by omega) _⟩
  case hseq =>
    intro l J W hb hJ hY hj
    exact blocks_walk l c Bc B W0.heap.size K s hs h2 HK.out hB hc0 hb0 hbc J hJ hY W (hcur1.keepZ hb (by simp; omega)) (kept_cell hb (by simp; omega) hbox1) hj
  case hAp =>
    rintro k a₁ W l o o' hn hl ho ⟨h1, Bx, h2, h3, h4, rfl⟩
    exact ⟨h1.putObj o' (by simp at hn; omega) (by simp at hn; omega) hl ho, Bx, Nat.lt_of_lt_of_le h2 (below_putObj o' (Nat.le_refl l) hl).size, h3, h4.putObj o' hl ho, rfl⟩
  case hassign =>
    rintro l k W hk ⟨⟨v, h1, h2, h3⟩, h4⟩
    gi_wp2
    have hb1 := (Below.refl W0.heap.size W).alloc (by omega) (.cells #[.int .i64 (be s (2 + 4 * k) 2), .int .i64 (be s (4 + 4 * k) 2)] 38)
    have hw1 := (Below.refl W.heap.size W).alloc (Nat.le_refl _) (.cells #[.int .i64 (be s (2 + 4 * k) 2), .int .i64 (be s (4 + 4 * k) 2)] 38)
    exact ⟨⟨⟨⟨v, h1.below hw1 h3, own_aside h2 (below_aside (r := c) hw1 (Nat.le_refl _)) (by omega), Nat.lt_of_lt_of_le h3 hw1.size⟩, h4.grow (by omega) hw1⟩, W.heap.size, by simp, h3, VarN.new W [.int .i64 (be s (2 + 4 * k) 2), .int .i64 (be s (4 + 4 * k) 2)] 38, rfl⟩, KeepsOthers.alloc _ _, hb1⟩
  case hbody =>
    rintro l k a₁ W hk ⟨⟨⟨v, h1, h2, h3⟩, h4⟩, Bx, h5, h6, h7, rfl⟩
    have c0 := (h1 0 _ rfl).1
    have f0 := (h1 0 _ rfl).2
    have x0 := (h7 0 _ rfl).1
    have x1 := (h7 1 _ rfl).1
    gi_wp2_with (gi_at_builtin; refine wpListIn_append_own _ rfl _ _ 26 rfl (W0.heap.size + 1) 38 i0 _ 2 16 Try.underlying26 hi hz0 hz1 hz2 rfl (by decide) v k (flat (gapsAt s k)) rfl (h2.alloc _) ⟨W.heap.size, 0, none⟩ 1 1 [.int .i64 (be s (2 + 4 * k) 2), .int .i64 (be s (4 + 4 * k) 2)] rfl rfl (news2 (q := 0)) (by simp [Value.oneCell']) (by unfold maxLen; omega) (by omega) (by simp; omega) ?_; intro v' w1 hown' hgrow _; obtain ⟨g', cap', rfl⟩ := ownsRow_succ hown'; have V1 := (h1.alloc _ h3).growO hgrow (by simp; omega) (fun x hx => by have := (own_blk h2 hx).1; omega); have c1 := (V1 0 _ rfl).1; have f1 := (V1 0 _ rfl).2)
    have hgg : g' ≠ W0.heap.size := by have : W0.heap.size + 1 ≤ g' := own_ge hown' rfl; omega
    have b1 := ((Below.refl W0.heap.size W).alloc (by omega) (.cells #[.int .i64 (be s (2 + 4 * k) 2), .int .i64 (be s (4 + 4 * k) 2)] 38)).grown hgrow (by simp; omega) (fun x hx => by have := (own_blk h2 hx).1; omega)
    have b2 := b1.setCell (p := ⟨W0.heap.size, 0, none⟩) (Nat.le_refl _) (.slice (some ⟨g', 0, none⟩) (k + 1) cap')
    refine ⟨⟨⟨_, V1.set (i := 0) _, ?_, ?_⟩, h4.below.trans (b2.mono (by omega)), h4.aside.trans (below_aside b2 (Nat.le_refl _))⟩, ((KeepsOthers.alloc _ _).trans (KeepsOthers.of_grownBy hgrow (fun j o hj ho => own_cells (h2.alloc _) hj ho))).trans (KeepsOthers.setCell _ _ _), b2⟩
    · rw [gapsAt, flat_append]
      exact own_set hown' hgg _
    · exact Nat.lt_of_lt_of_le h3 b2.size
  case hdone =>
    rintro D W hD ⟨⟨v, h1, h2, h3⟩, h4⟩ he hd
    have c0 := (h1 0 _ rfl).1
    gi_wp2
    refine ⟨by simp, .inl ⟨_, _, rfl, run_takeDeferred hd, ?_⟩⟩
    simp at hD
    exact ⟨_, results_tmp rfl _ _ _, v, rfl, ownsRow_putObj h2 _ hd rfl, h4.putObj _ (by omega) (by omega) hd, he.putObj _ (by omega) hd⟩

set_option maxRecDepth 100000 in
set_option maxHeartbeats 1000000 in
theorem collect_any (c Bc B K : Nat) (s : ByteArray) (hs : s.size ≤ 100000000) (h2 : 2 ≤ s.size) (hK : K = (s.size - 2) / 4) (hB : B ≤ c) (hbc : Bc ≠ c) (W0 : World) (hcur : Cur c s 2 W0) (hbox : W0.cell? ⟨Bc, 0, none⟩ = some (.pointer (some ⟨c, 0, none⟩))) :
    Calls Try.prog 23 #[.func (.func 41) #[] #[.pointer (some ⟨Bc, 0, none⟩)]] W0 fun e w' => ∃ v, e = .returned v ∧ w'.ownsRow (W0.heap.size + 1) 38 2 v K (flat (gapsAt s K)) ∧ Fr B c W0 w' ∧ Cur c s (2 + 4 * (K : Int)) w' := by
  have HK := Lib.hid hK
  clear hK
  refine (callsIn_wide (n := 5)).1 ?_
  refine callsIn_of_wp Try.func23 rfl trivial ?_ rfl
  simp only [Try.ntmps23, List.size_toArray, List.length_cons, List.length_nil, Nat.reduceAdd, Nat.reduceSub, Array.replicate_succ, Array.replicate_zero, List.push_toArray, List.append_toArray, List.nil_append, List.cons_append]
  gi_wp2_with (gi_at_call 40; refine (appendSeq_any c Bc B K s hs h2 HK.out hB hbc W0 hcur hbox).mono ?_; rintro e w1 ⟨v, rfl, h3, h4, h5⟩)
  exact bodyPost_ret (results_tmp rfl _ _ _) rfl ⟨v, rfl, h3, h4, h5⟩

set_option maxHeartbeats 400000 in
theorem blocks_any (c : Nat) (W0 : World) :
    Calls Try.prog 24 #[.pointer (some ⟨c, 0, none⟩)] W0 fun e w' => e = .returned (.func (.func 41) #[] #[.pointer (some ⟨W0.heap.size, 0, none⟩)]) ∧ w' = W0.alloc (.cells #[.pointer (some ⟨c, 0, none⟩)] 69) := by
  go_enter Try.func24, Try.ntmps24
  go_wp2
  exact bodyPost_ret (results_tmp rfl _ _ _) rfl ⟨rfl, rfl⟩

end Go.Proofs.Ytifphigdklkpjaa
