/- The draws of what has arrived. -/
import Derived.Test.YtcjabomcndahbaaK97
namespace Go.Proofs.Ytcjabomcndahbaa
open Go.RowKit Go.PlainAid

/-- What a draw of a value answers to a row of bytes. -/
def DrewSeen (w : World) (e : Ending) (w' : World) : Prop :=
  ∃ (c : Int) (a : Option Addr) (k cap : Nat) (es : List Int), e = .returned (.agg #[.int .i64 c, .slice a k cap]) ∧ k ≤ 17 ∧ (-1 ≤ c ∧ c ≤ 65536) ∧ (∀ j ∈ es, 0 ≤ j ∧ j ≤ 18) ∧ OwnN k (.slice a k cap) es w w'

theorem isRow_up {w w' : World} {a : Option Addr} {len cap : Nat} {zs : List Int} (h : IsRow .u8 w a len cap zs) (hb : Below w.heap.size w w') : IsRow .u8 w' a len cap zs := by
  rcases h with h | ⟨x, rfl, hl, hm, hz, hc, hw⟩
  · exact .inl h
  · exact .inr ⟨x, rfl, hl, hm, hz, fun i hi => (hb.cell (World.block_lt_of_cell? w _ (hc i hi))).trans (hc i hi), hw⟩

theorem drawSeenValid_any (a : Option Addr) (len cap : Nat) (zs : List Int) (w : World) (h : IsRow .u8 w a len cap zs) :
    Calls Try.prog 37 #[.slice a len cap] w (DrewSeen w) := by
  have HB := Lib.hid (below_box (w := w) (.cells #[.int .i64 0, .slice none 0 0] 26) (Nat.le_refl _))
  have RB := Lib.hid (VarN.new w [.int .i64 0, .slice none 0 0] 26)
  go_enter Try.func37, Try.ntmps37
  go_wp2_with fail
  refine (l6Open_any a len cap zs _ (isRow_up h HB.out)).mono ?_
  rintro e w1 ⟨r, rfl, hr1, hb1⟩
  go_wp2_with fail
  refine (l92Seen_any _ r 0 _ hr1 (by omega)).mono ?_
  rintro e w2 ⟨c, a2, k, cap2, es, rfl, hk, hc, he, ho, _, hb2⟩
  have hbb := hb1.trans hb2
  have R2 := Lib.hid (RB.out.below hbb (by simp))
  have hsz : w.heap.size + 1 ≤ w1.heap.size := by have := hb1.size; simpa using this
  have hne : ∀ g, (Value.slice a2 k cap2).ownBlock = some g → g ≠ w.heap.size := fun g hg => by have := own_ge ho hg; omega
  have K := Lib.hid (show DrewSeen w (.returned (.agg #[.int .i64 c, .slice a2 k cap2])) ((w2.setCell ⟨w.heap.size, 0, none⟩ (.int .i64 c)).setCell ⟨w.heap.size, 1, none⟩ (.slice a2 k cap2)) from ⟨c, a2, k, cap2, es, rfl, hk, hc, he, ownN_low (ownFar (ownFar ho hne) hne) (by omega), ((HB.out.trans (hbb.mono (by simp))).setCell (p := ⟨w.heap.size, 0, none⟩) (Nat.le_refl _) _).setCell (p := ⟨w.heap.size, 1, none⟩) (Nat.le_refl _) _⟩)
  have r0 := (R2.out 0 _ rfl).1
  have r1 := (R2.out 1 _ rfl).1
  have s0 := (R2.out 0 _ rfl).2
  have s1 := (R2.out 1 _ rfl).2
  clear hr1 hb1 hb2 hbb hk hc he ho hne R2
  go_wp2
  refine bodyPost_ret (v := .agg #[.int .i64 c, .slice a2 k cap2]) ?_ rfl K.out
  simp [results, Try.results37, go_sem, r0, r1]

theorem drawSeenSack_any (a : Option Addr) (len cap : Nat) (zs : List Int) (w : World) (h : IsRow .u8 w a len cap zs) :
    Calls Try.prog 28 #[.slice a len cap] w (DrewSeen w) := by
  have HB := Lib.hid (below_box (w := w) (.cells #[.int .i64 0, .slice none 0 0] 26) (Nat.le_refl _))
  have RB := Lib.hid (VarN.new w [.int .i64 0, .slice none 0 0] 26)
  go_enter Try.func28, Try.ntmps28
  go_wp2_with fail
  refine (l6Open_any a len cap zs _ (isRow_up h HB.out)).mono ?_
  rintro e w1 ⟨r, rfl, hr1, hb1⟩
  go_wp2_with fail
  refine (l92Seen_any _ r 0 _ hr1 (by omega)).mono ?_
  rintro e w2 ⟨c, a2, k, cap2, es, rfl, hk, hc, he, ho, _, hb2⟩
  have hbb := hb1.trans hb2
  have R2 := Lib.hid (RB.out.below hbb (by simp))
  have hsz : w.heap.size + 1 ≤ w1.heap.size := by have := hb1.size; simpa using this
  have hne : ∀ g, (Value.slice a2 k cap2).ownBlock = some g → g ≠ w.heap.size := fun g hg => by have := own_ge ho hg; omega
  have K := Lib.hid (show DrewSeen w (.returned (.agg #[.int .i64 c, .slice a2 k cap2])) ((w2.setCell ⟨w.heap.size, 0, none⟩ (.int .i64 c)).setCell ⟨w.heap.size, 1, none⟩ (.slice a2 k cap2)) from ⟨c, a2, k, cap2, es, rfl, hk, hc, he, ownN_low (ownFar (ownFar ho hne) hne) (by omega), ((HB.out.trans (hbb.mono (by simp))).setCell (p := ⟨w.heap.size, 0, none⟩) (Nat.le_refl _) _).setCell (p := ⟨w.heap.size, 1, none⟩) (Nat.le_refl _) _⟩)
  have r0 := (R2.out 0 _ rfl).1
  have r1 := (R2.out 1 _ rfl).1
  have s0 := (R2.out 0 _ rfl).2
  have s1 := (R2.out 1 _ rfl).2
  clear hr1 hb1 hb2 hbb hk hc he ho hne R2
  go_wp2
  refine bodyPost_ret (v := .agg #[.int .i64 c, .slice a2 k cap2]) ?_ rfl K.out
  simp [results, Try.results28, go_sem, r0, r1]

theorem drawSeenNew_any (a : Option Addr) (len cap : Nat) (zs : List Int) (w : World) (h : IsRow .u8 w a len cap zs) :
    Calls Try.prog 15 #[.slice a len cap] w (DrewN (fun n => -1 ≤ n ∧ n ≤ 65536) w) := by
  go_enter Try.func15, Try.ntmps15
  go_wp2_with fail
  refine (l6Open_any a len cap zs _ h).mono ?_
  rintro e w1 ⟨r, rfl, hr1, hb1⟩
  go_wp2_with fail
  refine (l91Word_any _ r 0 _ hr1 (by omega)).mono ?_
  rintro e w2 ⟨n, rfl, hn, _, hb2⟩
  have K := Lib.hid (show DrewN (fun n => -1 ≤ n ∧ n ≤ 65536) w (.returned (.int .i64 n)) w2 from ⟨n, rfl, hn, hb1.trans hb2⟩)
  clear hr1 hb1 hb2 hn
  go_wp2
  go_ret
  exact K.out

end Go.Proofs.Ytcjabomcndahbaa
