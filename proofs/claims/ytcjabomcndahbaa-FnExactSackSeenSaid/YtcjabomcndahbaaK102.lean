/- The receipt of what has arrived (the model's SeenSack). -/
import Derived.Test.YtcjabomcndahbaaK101
namespace Go.Proofs.Ytcjabomcndahbaa
open Go.RowKit Go.PlainAid

/-- What SeenSack answers. -/
def GotSack (w : World) (c : Int) (es : List Int) (e : Ending) (w' : World) : Prop :=
  (SeenOk c es ∧ ∃ m g cap2 gs, e = .returned (.tuple #[.agg #[.int .i64 c, .slice (some ⟨g, 0, none⟩) m cap2], .bool true]) ∧ Told es gs ∧ OwnG m (.slice (some ⟨g, 0, none⟩) m cap2) gs w w')
  ∨ (¬ SeenOk c es ∧ e = .returned (.tuple #[.agg #[.int .i64 0, .slice none 0 0], .bool false]) ∧ Below w.heap.size w w')

set_option maxHeartbeats 1000000 in
theorem sSeenSack_any (c : Int) (a : Option Addr) (len cap : Nat) (es : List Int) (w : World) (h : Ns w a len cap es) :
    Calls Try.prog 30 #[.agg #[.int .i64 c, .slice a len cap]] w (GotSack w c es) := by
  have HP := Lib.hid ((below_box (w := w) (.cells #[.int .i64 c, .slice a len cap] 26) (Nat.le_refl _)).alloc (by simp) (.cells #[.int .i64 0, .slice none 0 0] 41))
  have HG := Lib.hid (h.below HP.out)
  have V0 := Lib.hid ((VarN.new w [.int .i64 c, .slice a len cap] 26).alloc (.cells #[.int .i64 0, .slice none 0 0] 41) (by simp))
  have R0 := Lib.hid (VarN.new_at (w := w.alloc (.cells #[.int .i64 c, .slice a len cap] 26)) (d := w.heap.size + 1) (by simp) [.int .i64 0, .slice none 0 0] 41)
  clear h
  by_cases hs : SeenOk c es
  · have S1 := Lib.hid (seenV_yes hs)
    have HO := Lib.hid hs
    clear hs
    go_enter Try.func30, Try.ntmps30
    go_wp2_with fail
    refine (sSeenValid_any c a len cap es _ HG.out).mono ?_
    rw [S1.out]
    rintro e w1 ⟨rfl, hb1⟩
    have v0 := (V0.out.below hb1 (by simp; omega) 0 _ rfl).1
    have v1 := (V0.out.below hb1 (by simp; omega) 1 _ rfl).1
    have G1 := Lib.hid (HG.out.below hb1)
    have R1 := Lib.hid (R0.out.below hb1 (by simp))
    have B1 := Lib.hid (HP.out.trans (hb1.mono HP.out.size))
    clear hb1 V0 HG HP R0
    go_wp2_with fail
    refine (l21Sack_any c a len cap es _ G1.out HO.out.2).mono ?_
    rintro e w2 ⟨m, g, cap2, gs, rfl, ht, ho⟩
    have R2 := R1.out.below ho.b (lt_of_cell (R1.out 0 _ rfl).1)
    have hgl : w.heap.size + 1 < g := Nat.lt_of_lt_of_le (lt_of_cell (R1.out 0 _ rfl).1) (own_ge ho.own rfl)
    have r0 := (R2 0 _ rfl).1
    have r1 := (R2 1 _ rfl).1
    have s0 := (R2 0 _ rfl).2
    have s1 := (R2 1 _ rfl).2
    have K := Lib.hid (show GotSack w c es (.returned (.tuple #[.agg #[.int .i64 c, .slice (some ⟨g, 0, none⟩) m cap2], .bool true])) ((w2.setCell ⟨w.heap.size + 1, 0, none⟩ (.int .i64 c)).setCell ⟨w.heap.size + 1, 1, none⟩ (.slice (some ⟨g, 0, none⟩) m cap2)) from .inl ⟨HO.out, m, g, cap2, gs, rfl, ht, rowFar (rowFar (ownN_low ho.own B1.out.size) (by omega) _) (by omega) _, ((B1.out.trans (ho.b.mono B1.out.size)).setCell (p := ⟨w.heap.size + 1, 0, none⟩) (Nat.le_succ _) _).setCell (p := ⟨w.heap.size + 1, 1, none⟩) (Nat.le_succ _) _⟩)
    clear ht ho R2 R1 G1 B1
    go_wp2
    refine bodyPost_ret (v := .tuple #[.agg #[.int .i64 c, .slice (some ⟨g, 0, none⟩) m cap2], .bool true]) ?_ rfl K.out
    simp [results, Try.results30, go_sem, r0, r1]
  · have S1 := Lib.hid (seenV_no hs)
    have HO := Lib.hid hs
    clear hs
    go_enter Try.func30, Try.ntmps30
    go_wp2_with fail
    refine (sSeenValid_any c a len cap es _ HG.out).mono ?_
    rw [S1.out]
    rintro e w1 ⟨rfl, hb1⟩
    have R1 := R0.out.below hb1 (by simp)
    have r0 := (R1 0 _ rfl).1
    have r1 := (R1 1 _ rfl).1
    have s0 := (R1 0 _ rfl).2
    have s1 := (R1 1 _ rfl).2
    have B1 := HP.out.trans (hb1.mono HP.out.size)
    have K := Lib.hid (show GotSack w c es (.returned (.tuple #[.agg #[.int .i64 0, .slice none 0 0], .bool false])) ((w1.setCell ⟨w.heap.size + 1, 0, none⟩ (.int .i64 0)).setCell ⟨w.heap.size + 1, 1, none⟩ (.slice none 0 0)) from .inr ⟨HO.out, rfl, (B1.setCell (p := ⟨w.heap.size + 1, 0, none⟩) (Nat.le_succ _) _).setCell (p := ⟨w.heap.size + 1, 1, none⟩) (Nat.le_succ _) _⟩)
    clear hb1 V0 HG HP R0 R1 B1
    go_wp2
    refine bodyPost_ret (v := .tuple #[.agg #[.int .i64 0, .slice none 0 0], .bool false]) ?_ rfl K.out
    simp [results, Try.results30, go_sem, r0, r1]

end Go.Proofs.Ytcjabomcndahbaa
