/- A variable of several cells, at a block of its own. -/
import Derived.Test.YtodpbjomiplphabK4a
namespace Go.Proofs.Ytodpbjomiplphab
open Go.RowKit

/-- The values vs lie at block c, from its first cell on, and may be written. -/
def VarN (c : Nat) (vs : List Value) (w : World) : Prop := ∀ i v, vs[i]? = some v → w.cell? ⟨c, i, none⟩ = some v ∧ w.frozen? ⟨c, i, none⟩ = false
theorem VarN.new (w : World) (vs : List Value) (T : TypeId) : VarN w.heap.size vs (w.alloc (.cells vs.toArray T)) := fun i v h =>
  ⟨by rw [World.cell?_alloc_at _ _ _ _ rfl]; simpa using h, by simp⟩
theorem VarN.aside {c C r : Nat} {vs : List Value} {w w' : World} (h : VarN c vs w) (ha : Aside C r w w') (hc : c < C) (hr : c ≠ r) : VarN c vs w' := fun i v hi =>
  ⟨ha.cell hc hr (h i v hi).1, ha.frozen hc hr (h i v hi).2⟩
theorem VarN.below {c C : Nat} {vs : List Value} {w w' : World} (h : VarN c vs w) (hb : Below C w w') (hc : c < C) : VarN c vs w' :=
  h.aside (below_aside (r := C) hb (Nat.le_refl _)) hc (by omega)
theorem VarN.only {c r : Nat} {vs : List Value} {w w' : World} (h : VarN c vs w) (ho : Only r w w') (hr : c ≠ r) : VarN c vs w' :=
  h.aside (ho.aside (C := c + 1)) (by omega) hr
theorem VarN.alloc {c : Nat} {vs : List Value} {w : World} (h : VarN c vs w) (o : Obj) (hc : c < w.heap.size) : VarN c vs (w.alloc o) :=
  h.below ((Below.refl w.heap.size w).alloc (Nat.le_refl _) o) hc
theorem VarN.set {c i : Nat} {vs : List Value} {w : World} (h : VarN c vs w) (v : Value) : VarN c (vs.set i v) (w.setCell ⟨c, i, none⟩ v) := fun j u hj => by
  by_cases e : i = j
  · subst e
    rw [List.getElem?_set_self' ] at hj
    cases hg : vs[i]? with
    | none => simp [hg] at hj
    | some u' =>
      simp [hg] at hj
      subst hj
      exact ⟨World.cell?_setCell_same _ _ _ (h i u' hg).1, by rw [World.frozen?_setCell]; exact (h i u' hg).2⟩
  · rw [List.getElem?_set_ne e] at hj
    exact ⟨cell_other e (h j u hj).1, by rw [World.frozen?_setCell]; exact (h j u hj).2⟩
theorem VarN.far {c d i : Nat} {vs : List Value} {w : World} (h : VarN c vs w) (v : Value) (hd : d ≠ c) : VarN c vs (w.setCell ⟨d, i, none⟩ v) := fun j u hj =>
  ⟨cell_far hd (h j u hj).1, by rw [World.frozen?_setCell]; exact (h j u hj).2⟩

set_option maxHeartbeats 1000000 in
theorem l91Good_as (B r m : Nat) (w : World) (h : Rd B r m w) (hm : m ≤ 100000000) :
    Calls Try.prog 59 #[.pointer (some ⟨r, 0, none⟩)] w fun e w' => DrewInt B r (m + 3) (fun n => 0 ≤ n ∧ n ≤ 65535) w e w' ∧ Aside w.heap.size r w w' := by
  go_enter Try.func59, Try.ntmps59
  go_wp2_with fail
  refine (l91Word_as B r m _ h hm).mono ?_
  rintro e w1 ⟨⟨k, rfl, ⟨k0, k1⟩, hr1, hb1⟩, ha1⟩
  go_wp2
  all_goals
    go_ret
    exact ⟨⟨_, rfl, ⟨by omega, by omega⟩, hr1, hb1⟩, ha1⟩

set_option maxHeartbeats 1000000 in
theorem l91Long_as (B r m : Nat) (w : World) (h : Rd B r m w) (hm : m ≤ 10000000) :
    Calls Try.prog 51 #[.pointer (some ⟨r, 0, none⟩)] w fun e w' => DrewInt B r (m + 7) (fun n => -1 ≤ n ∧ n ≤ 4294967296) w e w' ∧ Aside w.heap.size r w w' := by
  go_enter Try.func51, Try.ntmps51
  go_wp2_with fail
  refine (pick_any B r m 12 _ h (by omega) (by omega) (by omega)).mono ?_
  rintro e w1 ⟨k, rfl, k0, k1, hr1, ho1⟩
  have hb1 := ho1.below h.1
  have ha1 : Aside w.heap.size r w w1 := ho1.aside
  have HZ1 := Lib.hid ho1.size
  by_cases c0 : k = 0
  · subst c0
    go_wp2_with fail
    refine (pick_any B r (m + 1) 4 _ (hr1.alloc _) (by omega) (by omega) (by omega)).mono ?_
    rintro e w2 ⟨j, rfl, j0, j1, hr2, ho2⟩
    obtain ⟨z, z0, z1, hz⟩ : ∃ z : Int, -1 ≤ z ∧ z ≤ 4294967296 ∧ w2.cell? ⟨w1.heap.size, j.toNat, none⟩ = some (.int .i64 z) := by
      rcases (show j = 0 ∨ j = 1 ∨ j = 2 ∨ j = 3 by omega) with rfl | rfl | rfl | rfl
      all_goals
        refine ⟨_, ?_, ?_, tab_at ho2 hr1.2.1 _ _ rfl⟩
        all_goals decide
    have HA := Lib.hid (ha1.trans ((aside_alloc w1 _ (by rw [HZ1.out]; exact Nat.le_refl _)).trans ho2.aside))
    go_wp2
    go_ret
    exact ⟨⟨z, rfl, ⟨z0, z1⟩, hr2.mono (by omega), hb1.trans ((hr1.below_alloc _).trans (ho2.below h.1))⟩, HA.out⟩
  · go_wp2_with fail
    refine (l91Good_as B r (m + 1) _ hr1 (by omega)).mono ?_
    rintro e w2 ⟨⟨x, rfl, ⟨x0, x1⟩, hr2, hb2⟩, ha2⟩
    go_wp2_with fail
    refine (l91Good_as B r (m + 4) _ hr2 (by omega)).mono ?_
    rintro e w3 ⟨⟨y, rfl, ⟨y0, y1⟩, hr3, hb3⟩, ha3⟩
    have HA := Lib.hid (ha1.trans ((ha2.less (by rw [HZ1.out]; exact Nat.le_refl _)).trans (ha3.less (by have := hb2.size; have := HZ1.out; omega))))
    go_wp2
    go_ret
    exact ⟨⟨_, rfl, ⟨by omega, by omega⟩, hr3.mono (by omega), hb1.trans (hb2.trans hb3)⟩, HA.out⟩

end Go.Proofs.Ytodpbjomiplphab
