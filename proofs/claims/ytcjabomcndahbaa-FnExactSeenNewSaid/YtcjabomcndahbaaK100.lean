/- The draw for SeenHas. -/
import Derived.Test.YtcjabomcndahbaaK99
namespace Go.Proofs.Ytcjabomcndahbaa
open Go.RowKit Go.PlainAid

theorem drawSeenHas_any (a0 : Option Addr) (len cap0 : Nat) (zs : List Int) (w : World) (h : IsRow .u8 w a0 len cap0 zs) :
    Calls Try.prog 22 #[.slice a0 len cap0] w (DrewSN w) := by
  have HB := Lib.hid (below_box (w := w) (.cells #[.int .i64 0, .slice none 0 0] 26) (Nat.le_refl _))
  have RB := Lib.hid (VarN.new w [.int .i64 0, .slice none 0 0] 26)
  go_enter Try.func22, Try.ntmps22
  go_wp2_with fail
  refine (drawSeenAdd_any a0 len cap0 zs _ (isRow_up h HB.out)).mono ?_
  rintro e w2 ⟨c, a, k, cap, es, t, rfl, hk, hc, he, ht, ho⟩
  have R2 := Lib.hid (RB.out.below ho.b (by simp))
  have hne : ∀ g, (Value.slice a k cap).ownBlock = some g → g ≠ w.heap.size := fun g hg => by have := own_ge ho.own hg; simp at this; omega
  have K := Lib.hid (show DrewSN w (.returned (.tuple #[.agg #[.int .i64 c, .slice a k cap], .int .i64 t])) ((w2.setCell ⟨w.heap.size, 0, none⟩ (.int .i64 c)).setCell ⟨w.heap.size, 1, none⟩ (.slice a k cap)) from ⟨c, a, k, cap, es, t, rfl, hk, hc, he, ht, ownN_low (ownFar (ownFar ho.own hne) hne) (by simp), ((HB.out.trans (ho.b.mono (by simp))).setCell (p := ⟨w.heap.size, 0, none⟩) (Nat.le_refl _) _).setCell (p := ⟨w.heap.size, 1, none⟩) (Nat.le_refl _) _⟩)
  have r0 := (R2.out 0 _ rfl).1
  have r1 := (R2.out 1 _ rfl).1
  have s0 := (R2.out 0 _ rfl).2
  have s1 := (R2.out 1 _ rfl).2
  clear ho hk hc he ht hne R2 h
  go_wp2
  refine bodyPost_ret (v := .tuple #[.agg #[.int .i64 c, .slice a k cap], .int .i64 t]) ?_ rfl K.out
  simp [results, Try.results22, go_sem, r0, r1]

end Go.Proofs.Ytcjabomcndahbaa
