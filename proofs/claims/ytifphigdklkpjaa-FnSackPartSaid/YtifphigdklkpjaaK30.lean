/- The contracts of chapter 12's model: receipts, read. -/
import Derived.Test.YtifphigdklkpjaaK29
import Derived.Test.YtifphigdklkpjaaK20v
import Derived.Deep.AppendLies
import Derived.Deep.RegionLaw
import Derived.Laws.OwnMore
namespace Go.Proofs.Ytifphigdklkpjaa
open Go.RowKit Go.PlainAid

theorem l1At_be (s : ByteArray) (p : Nat) (z : Int) (hz : z = p) (w : World) (hs : s.size ≤ maxLen) (h : p + 2 ≤ s.size) :
    Calls Try.prog 27 #[.string s, .int .i64 z] w fun e w' => e = .returned (.int .i64 (be s p 2)) ∧ ∃ q, w' = w.drewN q := by
  subst hz
  rw [be_two]
  exact l1At_any s p w hs h
theorem l1At_int (s : ByteArray) (z : Int) (w : World) (hs : s.size ≤ maxLen) (h0 : 0 ≤ z) (h : z + 2 ≤ s.size) :
    Calls Try.prog 27 #[.string s, .int .i64 z] w fun e w' => e = .returned (.int .i64 (be s z.toNat 2)) ∧ ∃ q, w' = w.drewN q :=
  l1At_be s z.toNat z (by omega) w hs (by omega)
theorem info_gap : (Try.prog.info? 38).map (fun i => (i.zero, i.size, i.bytes)) = some (some (.agg #[.int .i64 0, .int .i64 0]), 2, 16) := by kernel_rfl
theorem own_drewN {w : World} {base : Nat} {e : TypeId} {size : Nat} {v : Value} {n : Nat} {xs : List Value} (h : w.ownsRow base e size v n xs) (q : Nat) : (w.drewN q).ownsRow base e size v n xs := by
  unfold World.ownsRow at h ⊢
  rw [World.heap_drewN]
  exact h

theorem own_set {w : World} {base d i : Nat} {e : TypeId} {size n m g cap : Nat} {xs : List Value} (h : w.ownsRow base e size (.slice (some ⟨g, 0, none⟩) m cap) n xs) (hd : g ≠ d) (v : Value) :
    (w.setCell ⟨d, i, none⟩ v).ownsRow base e size (.slice (some ⟨g, 0, none⟩) m cap) n xs := by
  refine ⟨h.1, ?_⟩
  rcases h.2 with ⟨h1, _⟩ | ⟨g', cap', cur, h1, h2, h3, h4⟩
  · exact absurd h1 (by intro e; cases e)
  · obtain ⟨rfl, rfl, rfl⟩ : g = g' ∧ m = n ∧ cap = cap' := by simpa using h1
    exact .inr ⟨g, cap, cur, rfl, h2, by rw [Below.heap_setCell _ _ _ _ (by simpa using hd)]; exact h3, h4⟩
theorem news2 {w : World} {q : Nat} {x y : Value} {T : TypeId} : ∀ j u, [x, y][j]? = some u → ((w.drewN q).alloc (.cells #[x, y] T)).cell? ((⟨w.heap.size, 0, none⟩ : Addr).add j) = some u := by
  have e : (w.drewN q).heap.size = w.heap.size := by rw [World.heap_drewN]
  rw [← e]
  exact World.news_of_block (heap_alloc_new (w.drewN q) _)
theorem VarN.grown {d g : Nat} {vs : List Value} {w w' : World} (h : VarN d vs w) (hg : w.grownBy w' (some g)) (hd : d < w.heap.size) (hne : d ≠ g) : VarN d vs w' := fun i v hi =>
  ⟨(hg.cell_far ⟨d, i, none⟩ hd (by simpa using hne)).trans (h i v hi).1, (hg.frozen_far ⟨d, i, none⟩ hd (by simpa using hne)).trans (h i v hi).2⟩

theorem own_gaps {W : World} {base g cap k : Nat} {gs : List (Int × Int)} (h : W.ownsRow base 38 2 (.slice (some ⟨g, 0, none⟩) k cap) k (flat gs)) : Gaps W (some ⟨g, 0, none⟩) k cap gs := by
  have e : ∀ j, (⟨g, 0, none⟩ : Addr).add j = ⟨g, j, none⟩ := fun j => by unfold Addr.add; split <;> simp_all
  have hl : gs.length = k := by have := h.1; rw [flat_length] at this; omega
  have hc : k ≤ cap ∧ cap ≤ maxLen := by
    rcases h.2 with ⟨h1, _⟩ | ⟨g', cap', cur, h1, _, _, h4, h5, _⟩
    · exact absurd h1 (by intro e; cases e)
    · obtain ⟨rfl, _, rfl⟩ : g = g' ∧ True ∧ cap = cap' := by simpa using h1
      exact ⟨h4, h5⟩
  refine .inr ⟨_, rfl, hc.1, hc.2, hl, fun i hi => ?_⟩
  obtain ⟨f1, f2⟩ := flat_get gs i (by omega)
  have c1 := h.cellAt (i * 2) (by omega)
  have c2 := h.cellAt (i * 2 + 1) (by omega)
  rw [e]
  exact ⟨c1.trans f1, c2.trans f2⟩
def noSackV : Value := .tuple #[.agg #[.int .i64 0, .slice none 0 0], .bool false]
/-- What the reading of a receipt answers: the receipt with its blocks in memory that is new, or none. -/
def GotS (w : World) (c : Int) (k : Nat) (gs : List (Int × Int)) (ok : Bool) (e : Ending) (w' : World) : Prop :=
  if ok then ∃ g cap, e = .returned (.tuple #[.agg #[.int .i64 c, .slice (some ⟨g, 0, none⟩) k cap], .bool true]) ∧ w.heap.size ≤ g ∧ Gaps w' (some ⟨g, 0, none⟩) k cap gs else e = .returned noSackV

set_option maxHeartbeats 4000000 in
theorem sSackGet_form (b : ByteArray) (K : Nat) (w : World) (hz : b.size = 2 + 4 * K) (hm : b.size ≤ 100000000) (ok : Bool) (hok : Hid (sackV (be b 0 2) (gapsAt b K) = ok)) :
    Calls Try.prog 9 #[.agg #[.int .i64 3, .int .i64 0, .string b]] w fun e w' => GotS w (be b 0 2) K (gapsAt b K) ok e w' ∧ Below w.heap.size w w' := by
  obtain ⟨i0, hi, hz0, hz1, hz2⟩ := info_parts info_gap
  have hm' : b.size ≤ maxLen := Nat.le_trans hm (by decide)
  have dz : (b.size : Int) % 4 = 2 := by omega
  go_enter Try.func9, Try.ntmps9
  go_wp2_with fail
  refine (l1At_be b 0 0 rfl _ hm' (by omega)).mono ?_
  rintro e w1 ⟨rfl, q, rfl⟩
  have e0 : ((w.alloc (.cells #[.int .i64 3, .int .i64 0, .string b] 24)).alloc (.cells #[.int .i64 0, .slice none 0 0] 28)).heap.size = w.heap.size + 1 + 1 := by simp
  have C0 := ((VarN.new w [.int .i64 3, .int .i64 0, .string b] 24).alloc (.cells #[.int .i64 0, .slice none 0 0] 28) (by simp)).drewN q
  have R0 := (VarN.new_at (w := w.alloc (.cells #[.int .i64 3, .int .i64 0, .string b] 24)) (d := w.heap.size + 1) (by simp) [.int .i64 0, .slice none 0 0] 28).drewN q
  have B0 := below_drewN ((below_box (.cells #[.int .i64 3, .int .i64 0, .string b] 24) (Nat.le_refl w.heap.size)).alloc (by simp) (.cells #[.int .i64 0, .slice none 0 0] 28)) q
  have e1 : (((w.alloc (.cells #[.int .i64 3, .int .i64 0, .string b] 24)).alloc (.cells #[.int .i64 0, .slice none 0 0] 28)).drewN q).heap.size = w.heap.size + 1 + 1 := by rw [World.heap_drewN]; exact e0
  clear e0
  generalize ((w.alloc (.cells #[.int .i64 3, .int .i64 0, .string b] 24)).alloc (.cells #[.int .i64 0, .slice none 0 0] 28)).drewN q = W at *
  have c2 := (C0 2 _ rfl).1
  have HC := Lib.hid C0
  have HR := Lib.hid R0
  have HB := Lib.hid B0
  have HE := Lib.hid e1
  have HZ := Lib.hid hz
  have hk100 : K ≤ 25000000 := by omega
  clear C0 R0 B0 hz dz
  go_wp2
  have O0 := Lib.hid (show ((W.alloc (.cells #[] 38)).alloc (.cells #[.int .i64 (be b 0 2), .slice (some ⟨w.heap.size + 1 + 1, 0, none⟩) 0 0] 28)).ownsRow (w.heap.size + 1 + 1) 38 2 (.slice (some ⟨w.heap.size + 1 + 1, 0, none⟩) 0 0) 0 (flat (gapsAt b 0)) by
    have o := (World.ownsRow_lit (base := W.heap.size) (e := 38) (size := 2) W #[] 0 (Nat.le_refl _) (by decide) rfl).alloc (.cells #[.int .i64 (be b 0 2), .slice (some ⟨w.heap.size + 1 + 1, 0, none⟩) 0 0] 28)
    rw [HE.out] at o
    exact o)
  have S0 := Lib.hid (VarN.new_at (w := W.alloc (.cells #[] 38)) (d := w.heap.size + 1 + 1 + 1) (by simp [HE.out]) [.int .i64 (be b 0 2), .slice (some ⟨w.heap.size + 1 + 1, 0, none⟩) 0 0] 28)
  have hlt : w.heap.size + 1 < W.heap.size := by have := HE.out; omega
  have C1 := Lib.hid ((HC.out.alloc (.cells #[] 38) (by omega)).alloc (.cells #[.int .i64 (be b 0 2), .slice (some ⟨w.heap.size + 1 + 1, 0, none⟩) 0 0] 28) (by simp; omega))
  have R1 := Lib.hid ((HR.out.alloc (.cells #[] 38) hlt).alloc (.cells #[.int .i64 (be b 0 2), .slice (some ⟨w.heap.size + 1 + 1, 0, none⟩) 0 0] 28) (by simp; omega))
  have B1 := Lib.hid ((HB.out.alloc HB.out.size (.cells #[] 38)).alloc (Nat.le_trans HB.out.size (by simp)) (.cells #[.int .i64 (be b 0 2), .slice (some ⟨w.heap.size + 1 + 1, 0, none⟩) 0 0] 28))
  go_loopw [5] (fun i wr => ∃ (k g cap : Nat), k ≤ K ∧ i = .int .i64 (2 + 4 * (k : Int)) ∧ Hid (wr.ownsRow (w.heap.size + 1 + 1) 38 2 (.slice (some ⟨g, 0, none⟩) k cap) k (flat (gapsAt b k))) ∧ g ≠ w.heap.size + 1 + 1 + 1 ∧ Hid (VarN (w.heap.size + 1 + 1 + 1) [.int .i64 (be b 0 2), .slice (some ⟨g, 0, none⟩) k cap] wr) ∧ Hid (VarN w.heap.size [.int .i64 3, .int .i64 0, .string b] wr) ∧ Hid (VarN (w.heap.size + 1) [.int .i64 0, .slice none 0 0] wr) ∧ Hid (Below w.heap.size w wr)) (fun i _ => (2 + 4 * K) - (intOf i).toNat)
  case atStart => exact ⟨0, w.heap.size + 1 + 1, 0, Nat.zero_le _, rfl, O0, by omega, S0, C1, R1, B1⟩
  case round =>
    obtain ⟨k, g, cap, hk, rfl, hown, hg, hs, hcc, hrr, hbel⟩ := hrel
    clear O0 S0 C1 R1 B1 c2
    have y2 := (hcc.out 2 _ rfl).1
    have s0 := (hs.out 0 _ rfl).1
    have s1 := (hs.out 1 _ rfl).1
    have sf1 := (hs.out 1 _ rfl).2
    by_cases hkl : k < K
    · have cond : (2 + 4 * (k : Int)) < (b.size : Int) := by have := HZ.out; omega
      have v1 : IntKind.i64.wrap (2 + 4 * (k : Int) + 2) = 2 + 4 * (k : Int) + 2 := IntWalk.i64_in _ (by omega)
      have i1 : 2 + 4 * k + 2 ≤ b.size := by have := HZ.out; omega
      have i2 : 4 + 4 * k + 2 ≤ b.size := by have := HZ.out; omega
      go_wp2_with fail
      have hnw : w.heap.size + 1 + 1 + 1 < wr.heap.size := lt_of_cell s0
      have hne1 : ¬ w.heap.size + 1 + 1 + 1 = wr.heap.size := by omega
      have hne2 : ¬ w.heap.size = wr.heap.size := by omega
      have hne3 : w.heap.size + 1 + 1 + 1 ≠ w.heap.size := by omega
      have hgB : w.heap.size + 1 + 1 ≤ g := own_ge hown.out rfl
      have s1a := fun (q : Nat) (o : Obj) => past_cell (((hs.out.drewN q) 1 _ rfl).1) o
      have tn1 : (2 + 4 * (k : Int)).toNat = 2 + 4 * k := by omega
      have tn2 : (2 + 4 * (k : Int) + 2).toNat = 4 + 4 * k := by omega
      go_region_law (first
          | (refine step_append_lies _ (by rfl) _ _ _ (by rfl) (w.heap.size + 1 + 1) 38 i0 _ 2 16 Try.underlying26 hi hz0 hz1 hz2 rfl (by omega) _ k (flat (gapsAt b k)) (by rfl) ((own_drewN hown.out _).alloc _) ⟨wr.heap.size, 0, none⟩ 1 1 [.int .i64 (be b (2 + 4 * k) 2), .int .i64 (be b (4 + 4 * k) 2)] (by rfl) (by rfl) news2 (by simp [Value.oneCell']) (by omega) (by unfold maxLen; omega) (by omega) (by simp; omega) (wr.heap.size + 1) (by simp) ?_; intro gg cap2 w1 hown1 hgrow hat hlt1; have S1 := VarN.grown (g := g) (VarN.alloc (VarN.drewN hs.out _) _ (by simp; omega)) hgrow (by simp; omega) (by omega); have P1 := VarN.grown (g := g) (VarN.alloc (VarN.drewN hcc.out _) _ (by simp; omega)) hgrow (by simp; omega) (by omega); have p2 := (P1 2 _ rfl).1; have z0 := (S1 0 _ rfl).1; have z1 := (S1 1 _ rfl).1; have zf := (S1 1 _ rfl).2)
          | (go_simp; go_at_call 27; refine (l1At_int b _ _ hm' (by omega) (by omega)).mono ?_; rintro e w3 ⟨rfl, q', rfl⟩; dsimp only))
      all_goals
        have hgn : gg ≠ w.heap.size + 1 + 1 + 1 := by
          rcases hat with h | h
          · have : g = gg := by simpa [Value.ownBlock] using h
            omega
          · omega
        have RR := VarN.grown (g := g) (VarN.alloc (VarN.drewN hrr.out _) _ (by simp; omega)) hgrow (by simp; omega) (by omega)
        have hsz := hbel.out.size
        have BB := Below.grown (Below.alloc (below_drewN hbel.out _) (by simp; omega) _) hgrow (by simp; omega) (fun x hx => by
          have e : g = x := by simpa [Value.ownBlock] using hx
          omega)
        have OO := Lib.hid (own_set (i := 1) hown1 hgn (.slice (some ⟨gg, 0, none⟩) (k + 1) cap2))
        have SS := Lib.hid (S1.set (i := 1) (.slice (some ⟨gg, 0, none⟩) (k + 1) cap2))
        have PP := Lib.hid (P1.far (i := 1) (.slice (some ⟨gg, 0, none⟩) (k + 1) cap2) hne3)
        have QQ := Lib.hid (RR.far (d := w.heap.size + 1 + 1 + 1) (i := 1) (.slice (some ⟨gg, 0, none⟩) (k + 1) cap2) (by omega))
        have TT := Lib.hid (BB.setCell (p := ⟨w.heap.size + 1 + 1 + 1, 1, none⟩) (by show w.heap.size ≤ w.heap.size + 1 + 1 + 1; omega) (.slice (some ⟨gg, 0, none⟩) (k + 1) cap2))
        clear S1 P1 RR BB hown1 hgrow hat hlt1 hown hs hcc hrr hbel s1a
        go_wp2
        go_roundw
        case rel => exact ⟨k + 1, gg, cap2, by omega, by go_num, by rw [gapsAt, flat_append]; exact OO, hgn, SS, PP, QQ, TT⟩
        case measure => simp [intOf]; omega
    · obtain rfl : k = K := by omega
      have ncond : ¬ (2 + 4 * (k : Int)) < (b.size : Int) := by have := HZ.out; omega
      have hgB : w.heap.size + 1 + 1 ≤ g := own_ge hown.out rfl
      have GG := Lib.hid (own_gaps hown.out)
      go_wp2_with fail
      refine (l12Sack_any (be b 0 2) _ k cap (gapsAt b k) _ GG.out).mono ?_
      rw [hok.out]
      rintro e w9 ⟨rfl, hb9⟩
      have G9 := GG.out.below hb9
      have S9 := hs.out.below hb9 (lt_of_cell s0)
      have R9 := hrr.out.below hb9 (lt_of_cell (hrr.out 0 _ rfl).1)
      have B9 := hbel.out.trans (hb9.mono hbel.out.size)
      clear s0 s1 sf1 y2 hown hs hcc hrr hbel hb9
      have s0 := (S9 0 _ rfl).1
      have s1 := (S9 1 _ rfl).1
      have r0 := (R9 0 _ rfl).1
      have r1 := (R9 1 _ rfl).1
      have g0 := (R9 0 _ rfl).2
      have g1 := (R9 1 _ rfl).2
      have hNg : w.heap.size + 1 ≠ g := by omega
      have e' : ∀ j, (⟨g, 0, none⟩ : Addr).add j = ⟨g, j, none⟩ := fun j => by unfold Addr.add; split <;> simp_all
      cases ok
      · go_wp2
        refine bodyPost_ret (v := noSackV) ?_ rfl ?_
        · simp [results, Try.results9, go_sem, noSackV, r0, r1]
        · exact ⟨rfl, by repeat (first | with_reducible exact B9 | refine Below.setCell ?_ (by exact Nat.le_succ _) _)⟩
      · have GF : ∀ x y : Value, Gaps ((w9.setCell ⟨w.heap.size + 1, 0, none⟩ x).setCell ⟨w.heap.size + 1, 1, none⟩ y) (some ⟨g, 0, none⟩) k cap (gapsAt b k) := by
          intro x y
          rcases G9 with ⟨h, _⟩ | ⟨a, h, h7, h8, h9, h10⟩
          · cases h
          · obtain rfl : ⟨g, 0, none⟩ = a := by simpa using h
            refine .inr ⟨_, rfl, h7, h8, h9, fun i hi => ?_⟩
            have := h10 i hi
            rw [e'] at this ⊢
            exact ⟨cell_far hNg (cell_far hNg this.1), cell_far hNg (cell_far hNg this.2)⟩
        have GF := Lib.hid GF
        clear G9 e'
        go_wp2
        refine bodyPost_ret (v := .tuple #[.agg #[.int .i64 (be b 0 2), .slice (some ⟨g, 0, none⟩) k cap], .bool true]) ?_ rfl ?_
        · simp [results, Try.results9, go_sem, r0, r1]
        · exact ⟨⟨g, cap, rfl, by omega, GF.out _ _⟩, by repeat (first | with_reducible exact B9 | refine Below.setCell ?_ (by exact Nat.le_succ _) _)⟩

set_option maxHeartbeats 1000000 in
theorem sSackGet_other (k f : Int) (b : ByteArray) (w : World) (hm : b.size ≤ 100000000) (h : ¬ (k = 3 ∧ f = 0 ∧ b.size % 4 = 2)) :
    Calls Try.prog 9 #[.agg #[.int .i64 k, .int .i64 f, .string b]] w fun e w' => e = .returned noSackV ∧ Below w.heap.size w w' := by
  have hB := Lib.hid ((below_box (.cells #[.int .i64 k, .int .i64 f, .string b] 24) (Nat.le_refl w.heap.size)).alloc (by simp) (.cells #[.int .i64 0, .slice none 0 0] 28))
  by_cases hk : k = 3
  · subst hk
    by_cases hf : f = 0
    · subst hf
      have hz : ¬ b.size % 4 = 2 := fun x => h ⟨rfl, rfl, x⟩
      have hz2 : ¬ (b.size : Int) % 4 = 2 := by omega
      have hz3 : ((b.size : Int) % 4 == 2) = false := by simpa using hz2
      clear h hz
      go_enter Try.func9, Try.ntmps9
      go_wp2
      refine bodyPost_ret (v := noSackV) ?_ rfl ?_
      · simp [results, Try.results9, go_sem, noSackV]
      · exact ⟨rfl, hB.out⟩
    · clear h
      go_enter Try.func9, Try.ntmps9
      go_wp2
      refine bodyPost_ret (v := noSackV) ?_ rfl ?_
      · simp [results, Try.results9, go_sem, noSackV]
      · exact ⟨rfl, hB.out⟩
  · clear h
    go_enter Try.func9, Try.ntmps9
    go_wp2
    refine bodyPost_ret (v := noSackV) ?_ rfl ?_
    · simp [results, Try.results9, go_sem, noSackV]
    · exact ⟨rfl, hB.out⟩

/-- A chunk holds a receipt. -/
def sackGot (k f : Int) (b : ByteArray) : Bool := decide (k = 3 ∧ f = 0 ∧ b.size % 4 = 2) && sackV (be b 0 2) (gapsAt b ((b.size - 2) / 4))
theorem sSackGet_any (k f : Int) (b : ByteArray) (w : World) (hm : b.size ≤ 100000000) :
    Calls Try.prog 9 #[.agg #[.int .i64 k, .int .i64 f, .string b]] w fun e w' => GotS w (be b 0 2) ((b.size - 2) / 4) (gapsAt b ((b.size - 2) / 4)) (sackGot k f b) e w' ∧ Below w.heap.size w w' := by
  by_cases h : k = 3 ∧ f = 0 ∧ b.size % 4 = 2
  · obtain ⟨rfl, rfl, hz⟩ := h
    exact sSackGet_form b ((b.size - 2) / 4) w (by omega) hm _ (Lib.hid (by unfold sackGot; rw [decide_eq_true ⟨rfl, rfl, hz⟩, Bool.true_and]))
  · refine (sSackGet_other k f b w hm h).mono ?_
    rintro e w' ⟨rfl, hb⟩
    refine ⟨?_, hb⟩
    unfold sackGot GotS
    rw [decide_eq_false h, Bool.false_and]
    rfl

end Go.Proofs.Ytifphigdklkpjaa
