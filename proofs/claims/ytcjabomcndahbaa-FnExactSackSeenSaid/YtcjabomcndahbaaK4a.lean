/- The drawing functions once more: besides the reader they touch no block that was there. -/
import Derived.Test.YtcjabomcndahbaaK4
namespace Go.Proofs.Ytcjabomcndahbaa
open Go.RowKit

/-- Of the blocks below C none but block r has turned. -/
def Aside (C r : Nat) (w w' : World) : Prop := ∀ b, b < C → b ≠ r → w'.heap[b]? = w.heap[b]?
theorem Aside.refl (C r : Nat) (w : World) : Aside C r w w := fun _ _ _ => rfl
theorem Aside.trans {C r : Nat} {a b c : World} (h : Aside C r a b) (k : Aside C r b c) : Aside C r a c := fun i hi hr => (k i hi hr).trans (h i hi hr)
theorem Aside.less {C D r : Nat} {a b : World} (h : Aside C r a b) (hD : D ≤ C) : Aside D r a b := fun i hi hr => h i (by omega) hr
theorem Aside.cell {C r b i : Nat} {w w' : World} {v : Value} (h : Aside C r w w') (hb : b < C) (hr : b ≠ r) (hc : w.cell? ⟨b, i, none⟩ = some v) : w'.cell? ⟨b, i, none⟩ = some v :=
  (World.cell?_of_block (w := w) (h b hb hr)).trans hc
theorem Aside.frozen {C r b i : Nat} {w w' : World} (h : Aside C r w w') (hb : b < C) (hr : b ≠ r) (hf : w.frozen? ⟨b, i, none⟩ = false) : w'.frozen? ⟨b, i, none⟩ = false :=
  (World.frozen?_of_block (w := w) (h b hb hr)).trans hf
theorem below_aside {C D r : Nat} {w w' : World} (h : Below D w w') (hD : C ≤ D) : Aside C r w w' := fun b hb _ => h.block b (by omega)
theorem Only.aside {r C : Nat} {w w' : World} (h : Only r w w') : Aside C r w w' := by
  obtain ⟨u, q, rfl⟩ := h
  intro b _ hr
  rw [World.heap_drewN]
  exact Below.heap_setCell _ _ _ _ (by simpa using hr)
theorem aside_alloc {C r : Nat} (w : World) (o : Obj) (h : C ≤ w.heap.size) : Aside C r w (w.alloc o) := below_aside ((Below.refl C w).alloc h o) (Nat.le_refl _)

set_option maxHeartbeats 1000000 in
theorem l91Word_as (B r m : Nat) (w : World) (h : Rd B r m w) (hm : m ≤ 100000000) :
    Calls Try.prog 48 #[.pointer (some ⟨r, 0, none⟩)] w fun e w' => DrewInt B r (m + 3) (fun n => -1 ≤ n ∧ n ≤ 65536) w e w' ∧ Aside w.heap.size r w w' := by
  go_enter Try.func48, Try.ntmps48
  go_wp2_with fail
  refine (pick_any B r m 12 _ h (by omega) (by omega) (by omega)).mono ?_
  rintro e w1 ⟨k, rfl, k0, k1, hr1, ho1⟩
  have hb1 := ho1.below h.1
  have ha1 : Aside w.heap.size r w w1 := ho1.aside
  have HZ1 := Lib.hid ho1.size
  by_cases c0 : k = 0
  · subst c0
    go_wp2_with fail
    refine (pick_any B r (m + 1) 6 _ (hr1.alloc _) (by omega) (by omega) (by omega)).mono ?_
    rintro e w2 ⟨j, rfl, j0, j1, hr2, ho2⟩
    obtain ⟨z, z0, z1, hz⟩ : ∃ z : Int, -1 ≤ z ∧ z ≤ 65536 ∧ w2.cell? ⟨w1.heap.size, j.toNat, none⟩ = some (.int .i64 z) := by
      rcases (show j = 0 ∨ j = 1 ∨ j = 2 ∨ j = 3 ∨ j = 4 ∨ j = 5 by omega) with rfl | rfl | rfl | rfl | rfl | rfl
      all_goals
        refine ⟨_, ?_, ?_, tab_at ho2 hr1.2.1 _ _ rfl⟩
        all_goals decide
    have HA := Lib.hid (ha1.trans ((aside_alloc w1 _ (by rw [HZ1.out]; exact Nat.le_refl _)).trans ho2.aside))
    go_wp2
    go_ret
    exact ⟨⟨z, rfl, ⟨z0, z1⟩, hr2.mono (by omega), hb1.trans ((hr1.below_alloc _).trans (ho2.below h.1))⟩, HA.out⟩
  · by_cases c1 : k = 1 ∨ k = 2
    · rcases c1 with rfl | rfl
      all_goals
        go_wp2_with fail
        refine (pick_any B r (m + 1) 6 _ hr1 (by omega) (by omega) (by omega)).mono ?_
        rintro e w2 ⟨j, rfl, j0, j1, hr2, ho2⟩
        go_wp2
        go_ret
        exact ⟨⟨_, rfl, ⟨by omega, by omega⟩, hr2.mono (by omega), hb1.trans (ho2.below h.1)⟩, ha1.trans ho2.aside⟩
    · have c2 : ¬ k = 1 := by omega
      have c3 : ¬ k = 2 := by omega
      clear c1
      by_cases c4 : k = 3
      · subst c4
        go_wp2_with fail
        refine (pick_any B r (m + 1) 256 _ hr1 (by omega) (by omega) (by omega)).mono ?_
        rintro e w2 ⟨j, rfl, j0, j1, hr2, ho2⟩
        go_wp2_with fail
        refine (pick_any B r (m + 2) 256 _ hr2 (by omega) (by omega) (by omega)).mono ?_
        rintro e w3 ⟨i, rfl, i0, i1, hr3, ho3⟩
        go_wp2
        go_ret
        exact ⟨⟨_, rfl, ⟨by omega, by omega⟩, hr3.mono (by omega), hb1.trans ((ho2.below h.1).trans (ho3.below h.1))⟩, ha1.trans (ho2.aside.trans ho3.aside)⟩
      · go_wp2_with fail
        refine (pick_any B r (m + 1) 20 _ hr1 (by omega) (by omega) (by omega)).mono ?_
        rintro e w2 ⟨j, rfl, j0, j1, hr2, ho2⟩
        go_wp2
        go_ret
        exact ⟨⟨_, rfl, ⟨by omega, by omega⟩, hr2.mono (by omega), hb1.trans (ho2.below h.1)⟩, ha1.trans ho2.aside⟩

end Go.Proofs.Ytcjabomcndahbaa
