/- What has arrived and its receipt, at their answers; the draw of a receipt. -/
import Derived.Test.YtcjabomcndahbaaK106
import Derived.Test.YtcjabomcndahbaaK107
import Derived.Test.YtcjabomcndahbaaK33
import Derived.Test.YtcjabomcndahbaaK98
import Derived.Test.YtcjabomcndahbaaK29
namespace Go.Proofs.Ytcjabomcndahbaa
open Go.RowKit Go.PlainAid

theorem own_gapsO {W : World} {base k cap : Nat} {q : Option Addr} {gs : List (Int × Int)} (h : W.ownsRow base 76 2 (.slice q k cap) k (flat gs)) : Gaps W q k cap gs := by
  rcases h.2 with ⟨h1, h2⟩ | ⟨g, cap', cur, h1, _⟩
  · have hl := h.1
    rw [flat_length] at hl
    obtain ⟨rfl, rfl, rfl⟩ : q = none ∧ k = 0 ∧ cap = 0 := by simpa using h1
    exact .inl ⟨rfl, rfl, rfl, List.eq_nil_of_length_eq_zero (by omega)⟩
  · obtain ⟨rfl, rfl⟩ : q = some ⟨g, 0, none⟩ ∧ cap = cap' := by simpa using h1
    exact own_gapsN h
theorem OwnG.gaps {k cap : Nat} {q : Option Addr} {gs : List (Int × Int)} {w W : World} (h : OwnG k (.slice q k cap) gs w W) : Gaps W q k cap gs := own_gapsO h.own
section
variable (c : Int) (a : Option Addr) (len cap : Nat) (es : List Int) (gs : List (Int × Int)) (m : Nat) (w : World)
theorem seenSack_own (h : Ns w a len cap es) (hs : SeenOk c es) (ht : Told es gs) (hm : gs.length = m) :
    Calls Try.prog 29 #[.agg #[.int .i64 c, .slice a len cap]] w fun e w' => ∃ q cap2, e = .returned (.tuple #[.agg #[.int .i64 c, .slice q m cap2], .bool true]) ∧ OwnG m (.slice q m cap2) gs w w' := by
  refine (seenSack_any c a len cap es w h).mono ?_
  rintro e w' (⟨_, m', q, cap2, gs', rfl, ht', ho⟩ | ⟨h1, _⟩)
  · obtain rfl := told_gaps ht ht'
    obtain rfl : m' = m := by have := ho.gaps.length; omega
    exact ⟨q, cap2, rfl, ho⟩
  · exact absurd hs h1
theorem seenSack_is (h : Ns w a len cap es) (hs : SeenOk c es) (ht : Told es gs) (hm : gs.length = m) :
    Calls Try.prog 29 #[.agg #[.int .i64 c, .slice a len cap]] w fun e w' => ∃ q cap2, e = .returned (.tuple #[.agg #[.int .i64 c, .slice q m cap2], .bool true]) ∧ Gaps w' q m cap2 gs ∧ Below w.heap.size w w' := by
  refine (seenSack_own c a len cap es gs m w h hs ht hm).mono ?_
  rintro e w' ⟨q, cap2, rfl, ho⟩
  exact ⟨q, cap2, rfl, ho.gaps, ho.b⟩
theorem seenSack_not (h : Ns w a len cap es) (hs : ¬ SeenOk c es) :
    Calls Try.prog 29 #[.agg #[.int .i64 c, .slice a len cap]] w fun e w' => e = .returned (.tuple #[.agg #[.int .i64 0, .slice none 0 0], .bool false]) ∧ Below w.heap.size w w' := by
  refine (seenSack_any c a len cap es w h).mono ?_
  rintro e w' (⟨h1, _⟩ | ⟨_, rfl, hb⟩)
  · exact absurd h1 hs
  · exact ⟨rfl, hb⟩
theorem sSeenSack_is (h : Ns w a len cap es) (hs : SeenOk c es) (ht : Told es gs) (hm : gs.length = m) :
    Calls Try.prog 30 #[.agg #[.int .i64 c, .slice a len cap]] w fun e w' => ∃ q cap2, e = .returned (.tuple #[.agg #[.int .i64 c, .slice q m cap2], .bool true]) ∧ Gaps w' q m cap2 gs ∧ Below w.heap.size w w' := by
  refine (sSeenSack_any c a len cap es w h).mono ?_
  rintro e w' (⟨_, m', g, cap2, gs', rfl, ht', ho⟩ | ⟨h1, _⟩)
  · obtain rfl := told_gaps ht ht'
    obtain rfl : m' = m := by have := ho.gaps.length; omega
    exact ⟨_, cap2, rfl, ho.gaps, ho.b⟩
  · exact absurd hs h1
theorem sSeenSack_not (h : Ns w a len cap es) (hs : ¬ SeenOk c es) :
    Calls Try.prog 30 #[.agg #[.int .i64 c, .slice a len cap]] w fun e w' => e = .returned (.tuple #[.agg #[.int .i64 0, .slice none 0 0], .bool false]) ∧ Below w.heap.size w w' := by
  refine (sSeenSack_any c a len cap es w h).mono ?_
  rintro e w' (⟨h1, _⟩ | ⟨_, rfl, hb⟩)
  · exact absurd h1 hs
  · exact ⟨rfl, hb⟩
theorem sackSeen_own (h : Gaps w a len cap gs) (hs : SackOk c gs) (ht : Told es gs) (hm : es.length = m) :
    Calls Try.prog 34 #[.agg #[.int .i64 c, .slice a len cap]] w fun e w' => ∃ q cap2, e = .returned (.tuple #[.agg #[.int .i64 c, .slice q m cap2], .bool true]) ∧ OwnN m (.slice q m cap2) es w w' := by
  refine (sackSeen_any c a len cap gs w h).mono ?_
  rintro e w' (⟨_, m', q, cap2, es', rfl, ht', ho⟩ | ⟨h1, _⟩)
  · obtain rfl := told_seen ht ht'
    obtain rfl : m' = m := by have := ho.ns.length; omega
    exact ⟨q, cap2, rfl, ho⟩
  · exact absurd hs h1
theorem sackSeen_is (h : Gaps w a len cap gs) (hs : SackOk c gs) (ht : Told es gs) (hm : es.length = m) :
    Calls Try.prog 34 #[.agg #[.int .i64 c, .slice a len cap]] w fun e w' => ∃ q cap2, e = .returned (.tuple #[.agg #[.int .i64 c, .slice q m cap2], .bool true]) ∧ Ns w' q m cap2 es ∧ Below w.heap.size w w' := by
  refine (sackSeen_own c a len cap es gs m w h hs ht hm).mono ?_
  rintro e w' ⟨q, cap2, rfl, ho⟩
  exact ⟨q, cap2, rfl, ho.ns, ho.b⟩
theorem sackSeen_not (h : Gaps w a len cap gs) (hs : ¬ SackOk c gs) :
    Calls Try.prog 34 #[.agg #[.int .i64 c, .slice a len cap]] w fun e w' => e = .returned (.tuple #[.agg #[.int .i64 0, .slice none 0 0], .bool false]) ∧ Below w.heap.size w w' := by
  refine (sackSeen_any c a len cap gs w h).mono ?_
  rintro e w' (⟨h1, _⟩ | ⟨_, rfl, hb⟩)
  · exact absurd h1 hs
  · exact ⟨rfl, hb⟩
theorem sSackSeen_is (h : Gaps w a len cap gs) (hs : SackOk c gs) (ht : Told es gs) (hm : es.length = m) :
    Calls Try.prog 36 #[.agg #[.int .i64 c, .slice a len cap]] w fun e w' => ∃ q cap2, e = .returned (.tuple #[.agg #[.int .i64 c, .slice q m cap2], .bool true]) ∧ Ns w' q m cap2 es ∧ Below w.heap.size w w' := by
  refine (sSackSeen_any c a len cap gs w h).mono ?_
  rintro e w' (⟨_, m', g, cap2, es', rfl, ht', ho⟩ | ⟨h1, _⟩)
  · obtain rfl := told_seen ht ht'
    obtain rfl : m' = m := by have := ho.ns.length; omega
    exact ⟨_, cap2, rfl, ho.ns, ho.b⟩
  · exact absurd hs h1
theorem sSackSeen_not (h : Gaps w a len cap gs) (hs : ¬ SackOk c gs) :
    Calls Try.prog 36 #[.agg #[.int .i64 c, .slice a len cap]] w fun e w' => e = .returned (.tuple #[.agg #[.int .i64 0, .slice none 0 0], .bool false]) ∧ Below w.heap.size w w' := by
  refine (sSackSeen_any c a len cap gs w h).mono ?_
  rintro e w' (⟨h1, _⟩ | ⟨_, rfl, hb⟩)
  · exact absurd h1 hs
  · exact ⟨rfl, hb⟩
end
theorem told_ok {c : Int} {es : List Int} {gs : List (Int × Int)} (ht : Told es gs) : SeenOk c es ↔ SackOk c gs := ⟨fun h => ⟨h.1, ht.gaps⟩, fun h => ⟨h.1, ht.asc⟩⟩
theorem block_blk (n : Int) (gs : List (Int × Int)) : blockV n gs = true ↔ Blk gs n := by
  unfold blockV Blk
  rw [List.any_eq_true]
  exact ⟨fun ⟨g, h1, h2⟩ => ⟨g, h1, of_decide_eq_true h2⟩, fun ⟨g, h1, h2⟩ => ⟨g, h1, decide_eq_true h2⟩⟩
/-- A receipt tells what has arrived. -/
theorem told_has {c x : Int} {es : List Int} {gs : List (Int × Int)} (hs : SeenOk c es) (ht : Told es gs) : hasV c x gs = hasSV c es x := by
  unfold hasV hasSV
  rw [decide_eq_true ((told_ok ht).1 hs), Bool.true_and, Bool.eq_iff_iff, Bool.and_eq_true, Bool.or_eq_true, block_blk, decide_eq_true_iff, decide_eq_true_iff, decide_eq_true_iff]
  exact ⟨fun h => ⟨hs, ser_of h.1, h.2.elim (fun h => .inr ((ht.mem _).2 h)) .inl⟩, fun h => ⟨ser_le h.2.1, h.2.2.elim .inr (fun h => .inl ((ht.mem _).1 h))⟩⟩
/-- A receipt was drawn. -/
def DrewSS (w : World) (e : Ending) (w' : World) : Prop :=
  ∃ (c : Int) (g k cap : Nat) (gs : List (Int × Int)), e = .returned (.agg #[.int .i64 c, .slice (some ⟨g, 0, none⟩) k cap]) ∧ (-1 ≤ c ∧ c ≤ 65536) ∧ k ≤ 10 ∧ Gaps w' (some ⟨g, 0, none⟩) k cap gs ∧ Small gs ∧ Below w.heap.size w w'
theorem gap_add (g j : Nat) : (⟨g, 0, none⟩ : Addr).add j = ⟨g, j, none⟩ := by unfold Addr.add; split <;> simp_all
theorem Gaps.far {w : World} {g k cap d i : Nat} {gs : List (Int × Int)} (h : Gaps w (some ⟨g, 0, none⟩) k cap gs) (hd : d ≠ g) (v : Value) : Gaps (w.setCell ⟨d, i, none⟩ v) (some ⟨g, 0, none⟩) k cap gs := by
  rcases h with ⟨e, _⟩ | ⟨a, e, h7, h8, h9, h10⟩
  · cases e
  · obtain rfl : ⟨g, 0, none⟩ = a := by simpa using e
    refine .inr ⟨_, rfl, h7, h8, h9, fun i hi => ?_⟩
    have := h10 i hi
    rw [gap_add] at this ⊢
    exact ⟨cell_far hd this.1, cell_far hd this.2⟩

set_option maxHeartbeats 1000000 in
theorem drawSackSeen_any (a0 : Option Addr) (len0 cap0 : Nat) (zs : List Int) (w : World) (h : IsRow .u8 w a0 len0 cap0 zs) :
    Calls Try.prog 35 #[.slice a0 len0 cap0] w (DrewSS w) := by
  have H := Lib.hid h
  clear h
  go_enter Try.func35, Try.ntmps35
  go_wp2_with fail
  refine (l6Open_any a0 len0 cap0 zs _ (isRow_up H.out (below_box _ (Nat.le_refl _)))).mono ?_
  rintro e w1 ⟨r, rfl, hr1, hb1⟩
  have hsz := hb1.size
  go_wp2_with fail
  refine (l91Sack_any _ r 0 _ hr1 (by omega)).mono ?_
  rintro e w2 ⟨c, g, k, cap, gs, rfl, hc, hk, hg, hG, hs, hr2, hb2⟩
  have hb := hb1.trans hb2
  have R := (VarN.new w [.int .i64 0, .slice none 0 0] 41).below hb (by simp)
  have hB := (below_box (.cells (List.toArray [.int .i64 0, .slice none 0 0]) 41) (Nat.le_refl w.heap.size)).trans (hb.mono (by simp))
  have hne : w.heap.size ≠ g := by simp at hsz; omega
  have HG := Lib.hid ((hG.far (i := 0) hne (.int .i64 c)).far (i := 1) hne (.slice (some ⟨g, 0, none⟩) k cap))
  have HB := Lib.hid ((hB.setCell (p := ⟨w.heap.size, 0, none⟩) (Nat.le_refl _) (.int .i64 c)).setCell (p := ⟨w.heap.size, 1, none⟩) (Nat.le_refl _) (.slice (some ⟨g, 0, none⟩) k cap))
  have r0 := (R 0 _ rfl).1
  have r1 := (R 1 _ rfl).1
  have g0 := (R 0 _ rfl).2
  have g1 := (R 1 _ rfl).2
  clear hr1 hb1 hG hb hb2 R hB hsz hr2
  go_wp2
  refine bodyPost_ret (v := .agg #[.int .i64 c, .slice (some ⟨g, 0, none⟩) k cap]) ?_ rfl ?_
  · simp [results, Try.results35, go_sem, r0, r1]
  · exact ⟨c, g, k, cap, gs, rfl, hc, hk, HG.out, hs, HB.out⟩

end Go.Proofs.Ytcjabomcndahbaa
