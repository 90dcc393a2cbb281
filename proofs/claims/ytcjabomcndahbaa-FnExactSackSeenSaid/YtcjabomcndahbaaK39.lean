/- The contracts of the exact law's marks: what is written into the blocks of an answer, and whether it still lies there. -/
import Derived.Test.YtcjabomcndahbaaK32
import Derived.Test.YtcjabomcndahbaaK33
namespace Go.Proofs.Ytcjabomcndahbaa
open Go.RowKit Go.PlainAid

/-- The marks of n blocks. -/
def marksG (n : Nat) : List (Int × Int) := (List.range n).map fun i : Nat => (1 + 2 * (i : Int), 2 + 2 * (i : Int))
theorem marksG_length (n : Nat) : (marksG n).length = n := by simp [marksG]
theorem marksG_get (n k : Nat) (h : k < n) : (marksG n).getD k (0, 0) = (1 + 2 * (k : Int), 2 + 2 * (k : Int)) := by
  rw [List.getD_eq_getElem?_getD]
  simp [marksG, h]
theorem Fill.gapsC {d len cap : Nat} {gs : List (Int × Int)} {w : World} (h : Fill d len len gs w) (hl : gs.length = len) (hc : len ≤ cap) (hm : cap ≤ maxLen) : Gaps w (some ⟨d, 0, none⟩) len cap gs := by
  refine .inr ⟨_, rfl, hc, hm, hl, fun i hi => ?_⟩
  obtain ⟨u, v, h1, h2, _, _, h5⟩ := h i hi
  obtain ⟨rfl, rfl⟩ := h5 hi
  rw [addr_add]
  exact ⟨h1, h2⟩
theorem own_fill {w : World} {base g n cap : Nat} {xs : List Value} (gs : List (Int × Int)) (h : w.ownsRow base 76 2 (.slice (some ⟨g, 0, none⟩) n cap) n xs) : Fill g n 0 gs w ∧ n ≤ cap ∧ cap ≤ maxLen ∧ base ≤ g ∧ g < w.heap.size := by
  rcases h.2 with ⟨h1, _⟩ | ⟨g', cap', cur, h1, h2, h3, h4, h5, h6, _⟩
  · exact absurd h1 (by intro e; cases e)
  · obtain ⟨rfl, _, rfl⟩ : g = g' ∧ True ∧ cap = cap' := by simpa using h1
    refine ⟨fun i hi => ?_, h4, h5, h2, (Array.getElem?_eq_some_iff.1 h3).1⟩
    have q1 : i * 2 < cur.size := by omega
    have q2 : i * 2 + 1 < cur.size := by omega
    exact ⟨cur[i * 2], cur[i * 2 + 1], by unfold World.cell?; simp [h3, q1], by unfold World.cell?; simp [h3, q2], by unfold World.frozen?; simp [h3], by unfold World.frozen?; simp [h3], fun h => absurd h (by omega)⟩

set_option maxHeartbeats 1000000 in
theorem markGapS_any (g n cap : Nat) (w : World) (hn : n ≤ 1000) (h : Fill g n 0 (marksG n) w) :
    Calls Try.prog 76 #[.slice (some ⟨g, 0, none⟩) n cap, .int .i64 1] w fun e w' => e = .returned (.int .i64 (1 + 2 * (n : Int))) ∧ Fill g n n (marksG n) w' ∧ Aside w.heap.size g w w' ∧ Below g w w' := by
  have HF := Lib.hid h
  clear h
  go_enter Try.func76, Try.ntmps76
  go_wp2
  go_loopw [1, 5] (fun m i wr => ∃ j : Nat, j ≤ n ∧ i = .int .i64 j ∧ m = .int .i64 (1 + 2 * (j : Int)) ∧ Hid (Fill g n j (marksG n) wr) ∧ Hid (Aside w.heap.size g w wr) ∧ Hid (Below g w wr)) (fun _ i _ => n - (intOf i).toNat)
  case atStart => exact ⟨0, Nat.zero_le _, rfl, rfl, HF, Lib.hid (Aside.refl _ _ _), Lib.hid (Below.refl _ _)⟩
  case round =>
    obtain ⟨j, hj, rfl, rfl, hfi, has, hbel⟩ := hrel
    clear HF
    by_cases hlt : j < n
    · have hm := marksG_get n j hlt
      obtain ⟨u, v, s0, s1, s2, s3, _⟩ := hfi.out j hlt
      have FP := Lib.hid (hfi.out.put (f := 1 + 2 * (j : Int)) (t := 2 + 2 * (j : Int)) hlt (by rw [hm]) (by rw [hm]))
      have BB := Lib.hid ((hbel.out.setCell (p := ⟨g, j * 2, none⟩) (Nat.le_refl _) (.int .i64 (1 + 2 * (j : Int)))).setCell (p := ⟨g, j * 2 + 1, none⟩) (Nat.le_refl _) (.int .i64 (2 + 2 * (j : Int))))
      have AA := Lib.hid (fun b hb hr => (Below.heap_setCell _ ⟨g, j * 2 + 1, none⟩ (.int .i64 (2 + 2 * (j : Int))) b (by simpa using hr)).trans ((Below.heap_setCell wr ⟨g, j * 2, none⟩ (.int .i64 (1 + 2 * (j : Int))) b (by simpa using hr)).trans (has.out b hb hr)) : Aside w.heap.size g w ((wr.setCell ⟨g, j * 2, none⟩ (.int .i64 (1 + 2 * (j : Int)))).setCell ⟨g, j * 2 + 1, none⟩ (.int .i64 (2 + 2 * (j : Int)))))
      have s1' : ∀ x : Value, (wr.setCell ⟨g, j * 2, none⟩ x).cell? ⟨g, j * 2 + 1, none⟩ = some v := fun x => cell_other (by omega) s1
      have k1 : IntKind.i64.wrap (1 + 2 * (j : Int) + 1) = 2 + 2 * (j : Int) := (IntWalk.i64_in _ (by omega)).trans (by omega)
      have k2 : IntKind.i64.wrap (2 + 2 * (j : Int) + 1) = 3 + 2 * (j : Int) := (IntWalk.i64_in _ (by omega)).trans (by omega)
      clear hm hfi has hbel s1
      go_wp2
      go_roundw
      case rel => exact ⟨j + 1, by omega, by go_num, by go_num, FP, AA, BB⟩
      case measure => simp [intOf]; omega
    · obtain rfl : j = n := by omega
      go_wp2
      go_ret
      exact ⟨rfl, hfi.out, has.out, hbel.out⟩

set_option maxHeartbeats 1000000 in
theorem heldGapS_any (a : Option Addr) (n cap : Nat) (w : World) (hn : n ≤ 1000) (h : Gaps w a n cap (marksG n)) :
    Calls Try.prog 77 #[.slice a n cap, .int .i64 1] w fun e w' => e = .returned (.int .i64 (1 + 2 * (n : Int))) ∧ Below w.heap.size w w' := by
  have HG := Lib.hid h
  clear h
  go_enter Try.func77, Try.ntmps77
  go_wp2
  go_loopw [1, 5] (fun m i wr => ∃ j : Nat, j ≤ n ∧ i = .int .i64 j ∧ m = .int .i64 (1 + 2 * (j : Int)) ∧ Hid (Below w.heap.size w wr)) (fun _ i _ => n - (intOf i).toNat)
  case atStart => exact ⟨0, Nat.zero_le _, rfl, rfl, Lib.hid (Below.refl _ _)⟩
  case round =>
    obtain ⟨j, hj, rfl, rfl, hbel⟩ := hrel
    by_cases hlt : j < n
    · have hG := HG.out
      rcases hG with ⟨_, h0, _, _⟩ | ⟨x, rfl, h1, h2, h3, h4⟩
      · omega
      obtain ⟨p0, p1⟩ := h4 j hlt
      rw [marksG_get n j hlt] at p0 p1
      have q0 : wr.cell? (x.add (j * 2)) = some (.int .i64 (1 + 2 * (j : Int))) := (hbel.out.cell (World.block_lt_of_cell? w _ p0)).trans p0
      have q1 : wr.cell? ⟨(x.add (j * 2)).block, (x.add (j * 2)).off + 1, none⟩ = some (.int .i64 (2 + 2 * (j : Int))) := (hbel.out.cell (World.block_lt_of_cell? w _ p1)).trans p1
      have k1 : IntKind.i64.wrap (1 + 2 * (j : Int) + 1) = 2 + 2 * (j : Int) := (IntWalk.i64_in _ (by omega)).trans (by omega)
      have k2 : IntKind.i64.wrap (2 + 2 * (j : Int) + 1) = 3 + 2 * (j : Int) := (IntWalk.i64_in _ (by omega)).trans (by omega)
      clear p0 p1 h4 h2
      go_wp2
      go_roundw
      case rel => exact ⟨j + 1, by omega, by go_num, by go_num, hbel⟩
      case measure => simp [intOf]; omega
    · obtain rfl : j = n := by omega
      go_wp2
      go_ret
      exact ⟨rfl, hbel.out⟩

/-- The blocks of an answer, before they are marked: in memory of its own between C and D. -/
def Mk (a : Option Addr) (n cap C D : Nat) (W : World) : Prop :=
  (a = none ∧ n = 0 ∧ cap = 0) ∨ ∃ g, a = some ⟨g, 0, none⟩ ∧ n ≤ cap ∧ cap ≤ maxLen ∧ (C ≤ g ∧ g < D) ∧ g < W.heap.size ∧ Fill g n 0 (marksG n) W
theorem Mk.of_own {a : Option Addr} {n cap C : Nat} {gs : List (Int × Int)} {W : World} (h : W.ownsRow C 76 2 (.slice a n cap) n (flat gs)) : Mk a n cap C W.heap.size W := by
  have h0 := h
  rcases h.2 with ⟨h1, rfl⟩ | ⟨g, cap', cur, h1, _⟩
  · exact .inl (by simpa using h1)
  · obtain ⟨rfl, rfl⟩ : a = some ⟨g, 0, none⟩ ∧ cap = cap' := by simpa using h1
    obtain ⟨f1, f2, f3, f4, f5⟩ := own_fill (marksG n) h0
    exact .inr ⟨g, rfl, f2, f3, ⟨f4, f5⟩, f5, f1⟩
theorem Mk.below {a : Option Addr} {n cap C D : Nat} {W W' : World} (h : Mk a n cap C D W) (hb : Below W.heap.size W W') : Mk a n cap C D W' := by
  rcases h with h | ⟨g, h1, h2, h3, h4, h5, h6⟩
  · exact .inl h
  · exact .inr ⟨g, h1, h2, h3, h4, Nat.lt_of_lt_of_le h5 hb.size, h6.below hb⟩
/-- Of the blocks that were there none has turned but that of a. -/
def Aw (a : Option Addr) (w w' : World) : Prop := ∀ b, b < w.heap.size → (∀ g, a = some ⟨g, 0, none⟩ → b ≠ g) → w'.heap[b]? = w.heap[b]?
theorem VarN.aw {d : Nat} {a : Option Addr} {vs : List Value} {w w' : World} (h : VarN d vs w) (ha : Aw a w w') (hd : d < w.heap.size) (hne : ∀ g, a = some ⟨g, 0, none⟩ → d ≠ g) : VarN d vs w' := fun i v hi => by
  have e := ha d hd hne
  obtain ⟨h1, h2⟩ := h i v hi
  exact ⟨by unfold World.cell? at h1 ⊢; simp only [e]; exact h1, by unfold World.frozen? at h2 ⊢; simp only [e]; exact h2⟩
theorem Mk.far {a : Option Addr} {n cap C D d : Nat} {W : World} (h : Mk a n cap C D W) (hd : D ≤ d) : ∀ g, a = some ⟨g, 0, none⟩ → d ≠ g := fun g e => by
  rcases h with ⟨h1, _⟩ | ⟨g', h1, _, _, h4, _⟩
  · rw [h1] at e
    cases e
  · rw [h1] at e
    obtain rfl : g' = g := by simpa using e
    omega
theorem gaps_lt {W : World} {g n cap : Nat} {gs : List (Int × Int)} (h : Gaps W (some ⟨g, 0, none⟩) n cap gs) : g < W.heap.size ∨ n = 0 := by
  rcases h with ⟨e, _⟩ | ⟨a, e, _, _, _, h10⟩
  · cases e
  · obtain rfl : ⟨g, 0, none⟩ = a := by simpa using e
    by_cases hk0 : 0 < n
    · have := (h10 0 hk0).1
      rw [addr_add] at this
      exact .inl (lt_of_cell this)
    · exact .inr (by omega)
theorem Gaps.under {W W' : World} {g n cap C : Nat} {gs : List (Int × Int)} (h : Gaps W (some ⟨g, 0, none⟩) n cap gs) (hb : Below C W W') (hg : g < C ∨ n = 0) : Gaps W' (some ⟨g, 0, none⟩) n cap gs := by
  rcases h with ⟨e, _⟩ | ⟨a, e, h7, h8, h9, h10⟩
  · cases e
  · obtain rfl : ⟨g, 0, none⟩ = a := by simpa using e
    refine .inr ⟨_, rfl, h7, h8, h9, fun i hi => ?_⟩
    have := h10 i hi
    rw [addr_add] at this ⊢
    rcases hg with hg | h0
    · exact ⟨kept_cell hb hg this.1, kept_cell hb hg this.2⟩
    · omega

set_option maxHeartbeats 400000 in
theorem markGapS_none (w : World) :
    Calls Try.prog 76 #[.slice none 0 0, .int .i64 1] w fun e w' => e = .returned (.int .i64 1) ∧ w' = w := by
  go_enter Try.func76, Try.ntmps76
  go_wp2
  go_loopw [1, 5] (fun m i wr => m = .int .i64 1 ∧ i = .int .i64 0 ∧ wr = w) (fun _ _ _ => 0)
  case atStart => exact ⟨rfl, rfl, rfl⟩
  case round =>
    obtain ⟨rfl, rfl, rfl⟩ := hrel
    go_wp2
    go_ret
    exact ⟨rfl, rfl⟩

set_option maxHeartbeats 400000 in
theorem markSack_none (c : Int) (w : World) :
    Calls Try.prog 44 #[.agg #[.int .i64 c, .slice none 0 0], .int .i64 1] w fun e w' => e = .returned (.int .i64 1) ∧ Below w.heap.size w w' := by
  go_enter Try.func44, Try.ntmps44
  go_wp2_with fail
  refine (markGapS_none _).mono ?_
  rintro e w1 ⟨rfl, rfl⟩
  go_wp2
  go_ret
  exact ⟨rfl, below_box _ (Nat.le_refl _)⟩

set_option maxHeartbeats 400000 in
theorem markSack_some (c : Int) (g n cap : Nat) (w : World) (hn : n ≤ 1000) (hg : g < w.heap.size) (h : Fill g n 0 (marksG n) w) :
    Calls Try.prog 44 #[.agg #[.int .i64 c, .slice (some ⟨g, 0, none⟩) n cap], .int .i64 1] w fun e w' => e = .returned (.int .i64 (1 + 2 * (n : Int))) ∧ Fill g n n (marksG n) w' ∧ Aside w.heap.size g w w' ∧ Below g w w' := by
  have F1 := Lib.hid (h.below (below_box (.cells #[.int .i64 c, .slice (some ⟨g, 0, none⟩) n cap] 41) (Nat.le_refl _)))
  clear h
  go_enter Try.func44, Try.ntmps44
  go_wp2_with fail
  refine (markGapS_any g n cap _ hn F1.out).mono ?_
  rintro e w1 ⟨rfl, hf, ha, hb⟩
  have HF := Lib.hid hf
  have HA := Lib.hid ((aside_alloc (r := g) w (.cells #[.int .i64 c, .slice (some ⟨g, 0, none⟩) n cap] 41) (Nat.le_refl _)).trans (ha.less (by simp)))
  have HB := Lib.hid ((below_box (.cells #[.int .i64 c, .slice (some ⟨g, 0, none⟩) n cap] 41) (Nat.le_of_lt hg)).trans hb)
  clear hf ha hb
  go_wp2
  go_ret
  exact ⟨rfl, HF.out, HA.out, HB.out⟩

theorem markSack_any (c : Int) (a : Option Addr) (n cap C D : Nat) (w : World) (hn : n ≤ 1000) (hC : C ≤ w.heap.size) (h : Mk a n cap C D w) :
    Calls Try.prog 44 #[.agg #[.int .i64 c, .slice a n cap], .int .i64 1] w fun e w' => e = .returned (.int .i64 (1 + 2 * (n : Int))) ∧ Gaps w' a n cap (marksG n) ∧ Aw a w w' ∧ w.heap.size ≤ w'.heap.size ∧ Below C w w' := by
  rcases h with ⟨rfl, rfl, rfl⟩ | ⟨g, rfl, h2, h3, h4, h5, h6⟩
  · refine (markSack_none c w).mono ?_
    rintro e w' ⟨rfl, hb⟩
    exact ⟨rfl, .inl ⟨rfl, rfl, rfl, rfl⟩, fun b hb' _ => hb.block b hb', hb.size, hb.mono hC⟩
  · refine (markSack_some c g n cap w hn h5 h6).mono ?_
    rintro e w' ⟨rfl, hf, ha, hb⟩
    exact ⟨rfl, hf.gapsC (marksG_length n) h2 h3, fun b hb' hne => ha b hb' (hne g rfl), hb.size, hb.mono h4.1⟩

set_option maxHeartbeats 400000 in
theorem heldSack_any (c : Int) (a : Option Addr) (n cap : Nat) (w : World) (hn : n ≤ 1000) (h : Gaps w a n cap (marksG n)) :
    Calls Try.prog 45 #[.agg #[.int .i64 c, .slice a n cap], .int .i64 1] w fun e w' => e = .returned (.int .i64 (1 + 2 * (n : Int))) ∧ Below w.heap.size w w' := by
  have G1 := Lib.hid (h.below (below_box (.cells #[.int .i64 c, .slice a n cap] 41) (Nat.le_refl _)))
  have hq : ¬ 1 + 2 * (n : Int) < 0 := by omega
  clear h
  go_enter Try.func45, Try.ntmps45
  go_wp2_with fail
  refine (heldGapS_any a n cap _ hn G1.out).mono ?_
  rintro e w1 ⟨rfl, hb⟩
  have HB := Lib.hid ((below_box (.cells #[.int .i64 c, .slice a n cap] 41) (Nat.le_refl _)).trans (hb.mono (by simp)))
  clear hb
  go_wp2
  go_ret
  exact ⟨rfl, HB.out⟩
theorem heldSack_none (c : Int) (w : World) :
    Calls Try.prog 45 #[.agg #[.int .i64 c, .slice none 0 0], .int .i64 1] w fun e w' => e = .returned (.int .i64 1) ∧ Below w.heap.size w w' :=
  heldSack_any c none 0 0 w (by omega) (.inl ⟨rfl, rfl, rfl, rfl⟩)
theorem eqSack_none (w : World) :
    Calls Try.prog 43 #[.agg #[.int .i64 0, .slice none 0 0], .agg #[.int .i64 0, .slice none 0 0]] w fun e w' => e = .returned (.bool true) ∧ Below w.heap.size w w' :=
  eqSack_same 0 none none 0 0 0 [] w (.inl ⟨rfl, rfl, rfl, rfl⟩) (.inl ⟨rfl, rfl, rfl, rfl⟩)

end Go.Proofs.Ytcjabomcndahbaa
