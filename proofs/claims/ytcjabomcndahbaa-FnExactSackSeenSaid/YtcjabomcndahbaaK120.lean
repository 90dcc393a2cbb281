/- Receipts that are copied and marked, for the exact laws of chapter 21. -/
import Derived.Test.YtcjabomcndahbaaK119
import Derived.Test.YtcjabomcndahbaaK39
import Derived.Test.YtcjabomcndahbaaK108
namespace Go.Proofs.Ytcjabomcndahbaa
open Go.RowKit Go.PlainAid

set_option maxHeartbeats 1000000 in
theorem toGapF_any (a : Option Addr) (len cap : Nat) (gs : List (Int × Int)) (w : World) (h : Gaps w a len cap gs) (hn : len ≤ 1048576) :
    Calls Try.prog 79 #[.slice a len cap] w fun e w' => (∃ d, e = .returned (.slice (some ⟨d, 0, none⟩) len len) ∧ w.heap.size ≤ d ∧ Fill d len len gs w' ∧ d < w'.heap.size) ∧ Below w.heap.size w w' := by
  have hl := h.length
  obtain ⟨i0, hi, hz0, hz1, hz2⟩ := info_parts info_gap
  obtain ⟨CS, hCS, hmk⟩ : ∃ CS : Array Value, CS.size = len * 2 ∧ ∀ w, (Instr.makeSlice 39 (.int .i64 len) (.int .i64 len)).run Try.prog w = .ok (.slice (some ⟨w.heap.size, 0, none⟩) len len) (w.alloc (.cells CS 76)) := by
    refine ⟨madeCells (Value.agg #[.int .i64 0, .int .i64 0]).cells (len * 2), size_madeCells _ _, fun w => ?_⟩
    have r := run_make w 39 76 i0 _ Try.underlying39 hi hz0 .i64 .i64 len len (by omega) (Int.le_refl _) (by rw [hz2]; omega) (by omega)
    rw [hz1] at r
    exact r
  have HG := Lib.hid h
  have HF := Lib.hid (Fill.new w len CS 76 gs hCS)
  clear h hCS hi hz0 hz1 hz2
  go_enter Try.func79, Try.ntmps79
  go_wp2
  go_loopw [4] (fun i wr => ∃ k : Nat, k ≤ len ∧ i = .int .i64 k ∧ Hid (Fill w.heap.size len k gs wr) ∧ w.heap.size < wr.heap.size ∧ Hid (Below w.heap.size w wr)) (fun i _ => len - (intOf i).toNat)
  case atStart => exact ⟨0, Nat.zero_le _, rfl, HF, by simp, Lib.hid (below_box _ (Nat.le_refl _))⟩
  case round =>
    obtain ⟨k, hk, rfl, hfi, hsz, hbel⟩ := hrel
    by_cases hlt : k < len
    · have hG := HG.out
      rcases hG with ⟨_, h0, _, _⟩ | ⟨x, rfl, h1, h2, h3, h4⟩
      · omega
      obtain ⟨p0, p1⟩ := h4 k hlt
      obtain ⟨f, hf⟩ : ∃ f, (gs.getD k (0, 0)).1 = f := ⟨_, rfl⟩
      obtain ⟨t, ht⟩ : ∃ t, (gs.getD k (0, 0)).2 = t := ⟨_, rfl⟩
      rw [hf] at p0
      rw [ht] at p1
      have q0 : wr.cell? (x.add (k * 2)) = some (.int .i64 f) := (hbel.out.cell (World.block_lt_of_cell? w _ p0)).trans p0
      have q1 : wr.cell? ⟨(x.add (k * 2)).block, (x.add (k * 2)).off + 1, none⟩ = some (.int .i64 t) := (hbel.out.cell (World.block_lt_of_cell? w _ p1)).trans p1
      have hkl : k < gs.length := by omega
      have HFT := Lib.hid (And.intro hf ht)
      clear p0 p1 h4 hf ht HF
      go_wp2_with fail
      refine (toGap_any f t _).mono ?_
      rintro e w2 ⟨rfl, hb2⟩
      have F2 := hfi.out.below hb2
      have hz2 := hb2.size
      have FP := Lib.hid (F2.put hlt HFT.out.1 HFT.out.2)
      obtain ⟨u, v, s0, s1, s2, s3, _⟩ := F2 k hlt
      have BB := Lib.hid (((hbel.out.trans (hb2.mono hbel.out.size)).setCell (p := ⟨w.heap.size, k * 2, none⟩) (Nat.le_refl _) (.int .i64 f)).setCell (p := ⟨w.heap.size, k * 2 + 1, none⟩) (Nat.le_refl _) (.int .i64 t))
      clear F2 hb2 hfi hbel q0 q1
      go_wp2
      go_roundw
      case rel => exact ⟨k + 1, by omega, by go_num, FP, by simp; omega, BB⟩
      case measure => simp [intOf]; omega
    · obtain rfl : k = len := by omega
      clear HF
      go_wp2
      go_ret
      exact ⟨⟨w.heap.size, rfl, Nat.le_refl _, hfi.out, hsz⟩, hbel.out⟩

set_option maxHeartbeats 1000000 in
theorem toSackF_any (c : Int) (a : Option Addr) (len cap : Nat) (gs : List (Int × Int)) (w : World) (h : Gaps w a len cap gs) (hn : len ≤ 1048576) :
    Calls Try.prog 47 #[.agg #[.int .i64 c, .slice a len cap]] w fun e w' => (∃ d, e = .returned (.agg #[.int .i64 c, .slice (some ⟨d, 0, none⟩) len len]) ∧ w.heap.size ≤ d ∧ Fill d len len gs w' ∧ d < w'.heap.size) ∧ Below w.heap.size w w' := by
  have hl := h.length
  have G1 := ((h.below (below_box (.cells #[.int .i64 c, .slice a len cap] 63) (Nat.le_refl _))).below (below_box (.cells #[.int .i64 0, .slice none 0 0] 41) (Nat.le_refl _))).below (below_box (.cells #[.int .i64 c, .slice none 0 0] 41) (Nat.le_refl _))
  have R0 := (VarN.new_at (w := w.alloc (.cells #[.int .i64 c, .slice a len cap] 63)) (d := w.heap.size + 1) (by simp) [.int .i64 0, .slice none 0 0] 41).alloc (.cells #[.int .i64 c, .slice none 0 0] 41) (by simp)
  have O0 := VarN.new_at (w := (w.alloc (.cells #[.int .i64 c, .slice a len cap] 63)).alloc (.cells #[.int .i64 0, .slice none 0 0] 41)) (d := w.heap.size + 1 + 1) (by simp) [.int .i64 c, .slice none 0 0] 41
  have B0 := ((below_box (.cells #[.int .i64 c, .slice a len cap] 63) (Nat.le_refl w.heap.size)).alloc (by simp) (.cells #[.int .i64 0, .slice none 0 0] 41)).alloc (by simp; omega) (.cells #[.int .i64 c, .slice none 0 0] 41)
  have G1 := Lib.hid G1
  have R0 := Lib.hid R0
  have O0 := Lib.hid O0
  have B0 := Lib.hid B0
  clear h
  go_enter Try.func47, Try.ntmps47
  go_wp2_with fail
  refine (toGapF_any a len cap gs _ G1.out hn).mono ?_
  rintro e w1 ⟨⟨d, rfl, hd, hF, hdl⟩, hb1⟩
  have hd2 : w.heap.size + 1 + 1 < d := by simp at hd; omega
  have R1 := R0.out.below hb1 (by simp)
  have O1 := O0.out.below hb1 (by simp)
  have B1 := B0.out.trans (hb1.mono (by simp; omega))
  have FF := Lib.hid (((hF.far (e := w.heap.size + 1 + 1) (i := 1) (by omega) (.slice (some ⟨d, 0, none⟩) len len)).far (e := w.heap.size + 1) (i := 0) (by omega) (.int .i64 c)).far (e := w.heap.size + 1) (i := 1) (by omega) (.slice (some ⟨d, 0, none⟩) len len))
  have BB := Lib.hid (((B1.setCell (p := ⟨w.heap.size + 1 + 1, 1, none⟩) (by show w.heap.size ≤ w.heap.size + 1 + 1; omega) (.slice (some ⟨d, 0, none⟩) len len)).setCell (p := ⟨w.heap.size + 1, 0, none⟩) (Nat.le_succ _) (.int .i64 c)).setCell (p := ⟨w.heap.size + 1, 1, none⟩) (Nat.le_succ _) (.slice (some ⟨d, 0, none⟩) len len))
  have r0 := (R1 0 _ rfl).1
  have r1 := (R1 1 _ rfl).1
  have g0 := (R1 0 _ rfl).2
  have g1 := (R1 1 _ rfl).2
  have o0 := (O1 0 _ rfl).1
  have o1 := (O1 1 _ rfl).1
  have og1 := (O1 1 _ rfl).2
  have HD := Lib.hid hd2
  have HL := Lib.hid hdl
  clear hb1 hd hF hdl R1 O1 B1 hd2 G1 R0 O0 B0
  go_wp2
  refine bodyPost_ret (v := .agg #[.int .i64 c, .slice (some ⟨d, 0, none⟩) len len]) ?_ rfl ?_
  · simp [results, Try.results47, go_sem, r0, r1]
  · exact ⟨⟨d, rfl, by have := HD.out; omega, FF.out, by simpa using HL.out⟩, BB.out⟩

set_option maxHeartbeats 1000000 in
theorem markGapBig_any (g n cap : Nat) (w : World) (hn : n ≤ 1048576) (h : Fill g n 0 (marksG n) w) :
    Calls Try.prog 76 #[.slice (some ⟨g, 0, none⟩) n cap, .int .i64 1] w fun e w' => e = .returned (.int .i64 (1 + 2 * (n : Int))) ∧ Fill g n n (marksG n) w' ∧ Aside w.heap.size g w w' ∧ Below g w w' := by
  have HF := Lib.hid h
  clear h
  go_enter Try.func76, Try.ntmps76
  go_wp2
  go_loopw [1, 5] (fun m i wr => ∃ j : Nat, j ≤ n ∧ i = .int .i64 j ∧ m = .int .i64 (1 + 2 * (j : Int)) ∧ Hid (Fill g n j (marksG n) wr) ∧ Hid (Aside w.heap.size g w wr) ∧ Hid (Below g w wr)) (fun _ i _ => n - (intOf i).toNat)
  case atStart => exact ⟨0, Nat.zero_le _, rfl, rfl, HF, Lib.hid (Aside.refl _ _ _), Lib.hid (Below.refl _ _)⟩
  case round =>
    obtain ⟨j, hj, rfl, rfl, hfi, has, hbel⟩ := hrel
    clear HF
    by_cases hlt : j < n
    · have hm := marksG_get n j hlt
      obtain ⟨u, v, s0, s1, s2, s3, _⟩ := hfi.out j hlt
      have FP := Lib.hid (hfi.out.put (f := 1 + 2 * (j : Int)) (t := 2 + 2 * (j : Int)) hlt (by rw [hm]) (by rw [hm]))
      have BB := Lib.hid ((hbel.out.setCell (p := ⟨g, j * 2, none⟩) (Nat.le_refl _) (.int .i64 (1 + 2 * (j : Int)))).setCell (p := ⟨g, j * 2 + 1, none⟩) (Nat.le_refl _) (.int .i64 (2 + 2 * (j : Int))))
      have AA := Lib.hid (fun b hb hr => (Below.heap_setCell _ ⟨g, j * 2 + 1, none⟩ (.int .i64 (2 + 2 * (j : Int))) b (by simpa using hr)).trans ((Below.heap_setCell wr ⟨g, j * 2, none⟩ (.int .i64 (1 + 2 * (j : Int))) b (by simpa using hr)).trans (has.out b hb hr)) : Aside w.heap.size g w ((wr.setCell ⟨g, j * 2, none⟩ (.int .i64 (1 + 2 * (j : Int)))).setCell ⟨g, j * 2 + 1, none⟩ (.int .i64 (2 + 2 * (j : Int)))))
      have s1' : ∀ x : Value, (wr.setCell ⟨g, j * 2, none⟩ x).cell? ⟨g, j * 2 + 1, none⟩ = some v := fun x => cell_other (by omega) s1
      have k1 : IntKind.i64.wrap (1 + 2 * (j : Int) + 1) = 2 + 2 * (j : Int) := (IntWalk.i64_in _ (by omega)).trans (by omega)
      have k2 : IntKind.i64.wrap (2 + 2 * (j : Int) + 1) = 3 + 2 * (j : Int) := (IntWalk.i64_in _ (by omega)).trans (by omega)
      clear hm hfi has hbel s1
      go_wp2
      go_roundw
      case rel => exact ⟨j + 1, by omega, by go_num, by go_num, FP, AA, BB⟩
      case measure => simp [intOf]; omega
    · obtain rfl : j = n := by omega
      go_wp2
      go_ret
      exact ⟨rfl, hfi.out, has.out, hbel.out⟩

set_option maxHeartbeats 400000 in
theorem markSackBig (c : Int) (g n cap : Nat) (w : World) (hn : n ≤ 1048576) (hg : g < w.heap.size) (h : Fill g n 0 (marksG n) w) :
    Calls Try.prog 44 #[.agg #[.int .i64 c, .slice (some ⟨g, 0, none⟩) n cap], .int .i64 1] w fun e w' => e = .returned (.int .i64 (1 + 2 * (n : Int))) ∧ Fill g n n (marksG n) w' ∧ Aside w.heap.size g w w' ∧ Below g w w' := by
  have F1 := Lib.hid (h.below (below_box (.cells #[.int .i64 c, .slice (some ⟨g, 0, none⟩) n cap] 41) (Nat.le_refl _)))
  clear h
  go_enter Try.func44, Try.ntmps44
  go_wp2_with fail
  refine (markGapBig_any g n cap _ hn F1.out).mono ?_
  rintro e w1 ⟨rfl, hf, ha, hb⟩
  have HF := Lib.hid hf
  have HA := Lib.hid ((aside_alloc (r := g) w (.cells #[.int .i64 c, .slice (some ⟨g, 0, none⟩) n cap] 41) (Nat.le_refl _)).trans (ha.less (by simp)))
  have HB := Lib.hid ((below_box (.cells #[.int .i64 c, .slice (some ⟨g, 0, none⟩) n cap] 41) (Nat.le_of_lt hg)).trans hb)
  clear hf ha hb
  go_wp2
  go_ret
  exact ⟨rfl, HF.out, HA.out, HB.out⟩

theorem Gaps.lts {w : World} {a : Option Addr} {len cap : Nat} {gs : List (Int × Int)} (h : Gaps w a len cap gs) : ∀ x, a = some x → 0 < len → x.block < w.heap.size := fun x hx hl => by
  rcases h with ⟨rfl, _⟩ | ⟨y, hy, _, _, _, h5⟩
  · cases hx
  · obtain rfl : x = y := by rw [hx] at hy; simpa using hy
    have := World.block_lt_of_cell? w _ (h5 0 hl).1
    rwa [add_block] at this
theorem Gaps.mgC {C : Nat} {w w' : World} {a : Option Addr} {len cap : Nat} {gs : List (Int × Int)} (h : Gaps w a len cap gs) (hb : Below C w w') (hlt : ∀ x, a = some x → 0 < len → x.block < C) : Gaps w' a len cap gs := by
  rcases h with h | ⟨y, rfl, h1, h2, h3, h5⟩
  · exact .inl h
  · exact .inr ⟨y, rfl, h1, h2, h3, fun i hi => ⟨(hb.cell (by rw [add_block]; exact hlt y rfl (by omega))).trans (h5 i hi).1, (hb.cell (by show (y.add (i * 2)).block < C; rw [add_block]; exact hlt y rfl (by omega))).trans (h5 i hi).2⟩⟩
/-- A receipt's row of one's own is marked. -/
theorem markRowG {C k : Nat} {a : Option Addr} {cap : Nat} {gs : List (Int × Int)} {W : World} (c : Int) (h : W.ownsRow C 76 2 (.slice a k cap) k (flat gs)) (hC : C ≤ W.heap.size) (hk : k ≤ 1000) :
    Calls Try.prog 44 #[.agg #[.int .i64 c, .slice a k cap], .int .i64 1] W fun e w' => e = .returned (.int .i64 (1 + 2 * (k : Int))) ∧ Gaps w' a k cap (marksG k) ∧ W.heap.size ≤ w'.heap.size ∧ Mg C (Value.slice a k cap).ownBlock W w' := by
  refine (markSack_any c a k cap C W.heap.size W hk hC (Mk.of_own h)).mono ?_
  rintro e w' ⟨rfl, hg, ha, hs, hb⟩
  exact ⟨rfl, hg, hs, hb, fun x hx hne => ha x hx fun g e hg => hne (by rw [e, hg]; rfl)⟩
/-- A receipt's copy that may be marked. -/
structure FreG (d len : Nat) (gs : List (Int × Int)) (w : World) : Prop where
  f : Fill d len len gs w
  l : d < w.heap.size
theorem FreG.below {d len : Nat} {gs : List (Int × Int)} {w w' : World} (h : FreG d len gs w) (hb : Below w.heap.size w w') : FreG d len gs w' := ⟨h.f.below hb, Nat.lt_of_lt_of_le h.l hb.size⟩
theorem markFilG {d len : Nat} {gs : List (Int × Int)} {W : World} (c : Int) (h : FreG d len gs W) (hk : len ≤ 1048576) :
    Calls Try.prog 44 #[.agg #[.int .i64 c, .slice (some ⟨d, 0, none⟩) len len], .int .i64 1] W fun e w' => e = .returned (.int .i64 (1 + 2 * (len : Int))) ∧ W.heap.size ≤ w'.heap.size ∧ Mg d (some d) W w' := by
  refine (markSackBig c d len len W hk h.l (fun i hi => ?_)).mono ?_
  · obtain ⟨u, v, h1, h2, h3, h4, _⟩ := h.f i hi
    exact ⟨u, v, h1, h2, h3, h4, fun h => absurd h (by omega)⟩
  · rintro e w' ⟨rfl, _, ha, hb⟩
    exact ⟨rfl, hb.size, hb, fun x hx hne => ha x hx fun e => hne (by rw [e])⟩
/-- What SeenSack answers to any value. -/
def SackV (c : Int) (es : List Int) (cw : Int) (bw : Bool) (gs : List (Int × Int)) : Prop := (SeenOk c es ∧ cw = c ∧ bw = true ∧ Told es gs) ∨ (¬ SeenOk c es ∧ cw = 0 ∧ bw = false ∧ gs = [])
theorem sackV_some (c : Int) (es : List Int) : ∃ cw bw gs, SackV c es cw bw gs := by
  by_cases h : SeenOk c es
  · obtain ⟨gs, hg⟩ := told_seen_some h.2
    exact ⟨c, true, gs, .inl ⟨h, rfl, rfl, hg⟩⟩
  · exact ⟨0, false, [], .inr ⟨h, rfl, rfl, rfl⟩⟩
theorem sackV_few {c : Int} {es : List Int} {cw : Int} {bw : Bool} {gs : List (Int × Int)} (h : SackV c es cw bw gs) : gs.length ≤ 8 := by
  rcases h with ⟨_, _, _, h⟩ | ⟨_, _, _, rfl⟩
  · have := gaps_few h.gaps (by decide); omega
  · simp
section
variable (c : Int) (a : Option Addr) (len cap : Nat) (es : List Int) (cw : Int) (bw : Bool) (gs : List (Int × Int)) (k1 : Nat) (w : World)
theorem seenSack_gown (h : Ns w a len cap es) (hv : SackV c es cw bw gs) (hk : gs.length = k1) :
    Calls Try.prog 29 #[.agg #[.int .i64 c, .slice a len cap]] w fun e w' => ∃ q cap2, e = .returned (.tuple #[.agg #[.int .i64 cw, .slice q k1 cap2], .bool bw]) ∧ OwnG k1 (.slice q k1 cap2) gs w w' := by
  rcases hv with ⟨h1, rfl, rfl, h2⟩ | ⟨h1, rfl, rfl, rfl⟩
  · exact seenSack_own _ a len cap es gs k1 w h h1 h2 hk
  · obtain rfl : k1 = 0 := hk.symm
    refine (seenSack_not c a len cap es w h h1).mono ?_
    rintro e w' ⟨rfl, hb⟩
    exact ⟨none, 0, rfl, World.ownsRow_nil _ _ _ _, hb⟩
theorem seenSack_gis (h : Ns w a len cap es) (hv : SackV c es cw bw gs) (hk : gs.length = k1) :
    Calls Try.prog 29 #[.agg #[.int .i64 c, .slice a len cap]] w fun e w' => ∃ q cap2, e = .returned (.tuple #[.agg #[.int .i64 cw, .slice q k1 cap2], .bool bw]) ∧ Gaps w' q k1 cap2 gs ∧ Below w.heap.size w w' := by
  refine (seenSack_gown c a len cap es cw bw gs k1 w h hv hk).mono ?_
  rintro e w' ⟨q, cap2, rfl, ho⟩
  exact ⟨q, cap2, rfl, ho.gaps, ho.b⟩
theorem sSeenSack_gis (h : Ns w a len cap es) (hv : SackV c es cw bw gs) (hk : gs.length = k1) :
    Calls Try.prog 30 #[.agg #[.int .i64 c, .slice a len cap]] w fun e w' => ∃ q cap2, e = .returned (.tuple #[.agg #[.int .i64 cw, .slice q k1 cap2], .bool bw]) ∧ Gaps w' q k1 cap2 gs ∧ Below w.heap.size w w' := by
  rcases hv with ⟨h1, rfl, rfl, h2⟩ | ⟨h1, rfl, rfl, rfl⟩
  · exact sSeenSack_is _ a len cap es gs k1 w h h1 h2 hk
  · obtain rfl : k1 = 0 := hk.symm
    refine (sSeenSack_not c a len cap es w h h1).mono ?_
    rintro e w' ⟨rfl, hb⟩
    exact ⟨none, 0, rfl, .inl ⟨rfl, rfl, rfl, rfl⟩, hb⟩
end
/-- What SackSeen answers to any receipt. -/
def BackV (c : Int) (gs : List (Int × Int)) (cw : Int) (bw : Bool) (es : List Int) : Prop := (SackOk c gs ∧ cw = c ∧ bw = true ∧ Told es gs) ∨ (¬ SackOk c gs ∧ cw = 0 ∧ bw = false ∧ es = [])
theorem backV_some (c : Int) (gs : List (Int × Int)) : ∃ cw bw es, BackV c gs cw bw es := by
  by_cases h : SackOk c gs
  · obtain ⟨es, hg⟩ := told_sack h.2
    exact ⟨c, true, es, .inl ⟨h, rfl, rfl, hg⟩⟩
  · exact ⟨0, false, [], .inr ⟨h, rfl, rfl, rfl⟩⟩
theorem backV_few {c : Int} {gs : List (Int × Int)} {cw : Int} {bw : Bool} {es : List Int} (h : BackV c gs cw bw es) : es.length ≤ 16 := by
  rcases h with ⟨_, _, _, h⟩ | ⟨_, _, _, rfl⟩
  · have := asc_few h.asc (by decide); omega
  · simp
section
variable (c : Int) (a : Option Addr) (len cap : Nat) (gs : List (Int × Int)) (cw : Int) (bw : Bool) (es : List Int) (k1 : Nat) (w : World)
theorem sackSeen_gown (h : Gaps w a len cap gs) (hv : BackV c gs cw bw es) (hk : es.length = k1) :
    Calls Try.prog 34 #[.agg #[.int .i64 c, .slice a len cap]] w fun e w' => ∃ q cap2, e = .returned (.tuple #[.agg #[.int .i64 cw, .slice q k1 cap2], .bool bw]) ∧ OwnN k1 (.slice q k1 cap2) es w w' := by
  rcases hv with ⟨h1, rfl, rfl, h2⟩ | ⟨h1, rfl, rfl, rfl⟩
  · exact sackSeen_own _ a len cap es gs k1 w h h1 h2 hk
  · obtain rfl : k1 = 0 := hk.symm
    refine (sackSeen_not c a len cap gs w h h1).mono ?_
    rintro e w' ⟨rfl, hb⟩
    exact ⟨none, 0, rfl, World.ownsRow_nil _ _ _ _, hb⟩
theorem sackSeen_gis (h : Gaps w a len cap gs) (hv : BackV c gs cw bw es) (hk : es.length = k1) :
    Calls Try.prog 34 #[.agg #[.int .i64 c, .slice a len cap]] w fun e w' => ∃ q cap2, e = .returned (.tuple #[.agg #[.int .i64 cw, .slice q k1 cap2], .bool bw]) ∧ Ns w' q k1 cap2 es ∧ Below w.heap.size w w' := by
  refine (sackSeen_gown c a len cap gs cw bw es k1 w h hv hk).mono ?_
  rintro e w' ⟨q, cap2, rfl, ho⟩
  exact ⟨q, cap2, rfl, ho.ns, ho.b⟩
theorem sSackSeen_gis (h : Gaps w a len cap gs) (hv : BackV c gs cw bw es) (hk : es.length = k1) :
    Calls Try.prog 36 #[.agg #[.int .i64 c, .slice a len cap]] w fun e w' => ∃ q cap2, e = .returned (.tuple #[.agg #[.int .i64 cw, .slice q k1 cap2], .bool bw]) ∧ Ns w' q k1 cap2 es ∧ Below w.heap.size w w' := by
  rcases hv with ⟨h1, rfl, rfl, h2⟩ | ⟨h1, rfl, rfl, rfl⟩
  · exact sSackSeen_is _ a len cap es gs k1 w h h1 h2 hk
  · obtain rfl : k1 = 0 := hk.symm
    refine (sSackSeen_not c a len cap gs w h h1).mono ?_
    rintro e w' ⟨rfl, hb⟩
    exact ⟨none, 0, rfl, Ns.nil _, hb⟩
end
theorem szSack_any (c : Int) (a : Option Addr) (len cap : Nat) (gs : List (Int × Int)) (w : World) (h : Gaps w a len cap gs) :
    Calls Try.prog 46 #[.agg #[.int .i64 c, .slice a len cap], .int .i64 1048576] w fun e w' => (∃ z : Int, e = .returned (.int .i64 z) ∧ (z = -1 ∨ (0 ≤ z ∧ len ≤ 1048576))) ∧ Below w.heap.size w w' := by
  have hm : len ≤ 9223372036854775807 := by
    rcases h with ⟨_, rfl, _⟩ | ⟨_, _, h1, h2, _⟩
    · omega
    · unfold maxLen at h2
      omega
  by_cases hl : len ≤ 1048576
  · refine (szSack_yes c a len cap w hl).mono ?_
    rintro e w' ⟨rfl, hb⟩
    exact ⟨⟨_, rfl, .inr ⟨by omega, hl⟩⟩, hb⟩
  · refine (szSack_no c a len cap w (by omega) hm).mono ?_
    rintro e w' ⟨rfl, hb⟩
    exact ⟨⟨_, rfl, .inl rfl⟩, hb⟩

end Go.Proofs.Ytcjabomcndahbaa
