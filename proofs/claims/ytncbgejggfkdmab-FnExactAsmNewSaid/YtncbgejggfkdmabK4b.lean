/- A variable of several cells, at a block of its own. -/
import Derived.Test.YtncbgejggfkdmabK4a
namespace Go.Proofs.Ytncbgejggfkdmab
open Go.RowKit

/-- The values vs lie at block c, from its first cell on, and may be written. -/
def VarN (c : Nat) (vs : List Value) (w : World) : Prop := ∀ i v, vs[i]? = some v → w.cell? ⟨c, i, none⟩ = some v ∧ w.frozen? ⟨c, i, none⟩ = false
theorem VarN.new (w : World) (vs : List Value) (T : TypeId) : VarN w.heap.size vs (w.alloc (.cells vs.toArray T)) := fun i v h =>
  ⟨by rw [World.cell?_alloc_at _ _ _ _ rfl]; simpa using h, by simp⟩
theorem VarN.aside {c C r : Nat} {vs : List Value} {w w' : World} (h : VarN c vs w) (ha : Aside C r w w') (hc : c < C) (hr : c ≠ r) : VarN c vs w' := fun i v hi =>
  ⟨ha.cell hc hr (h i v hi).1, ha.frozen hc hr (h i v hi).2⟩
theorem VarN.below {c C : Nat} {vs : List Value} {w w' : World} (h : VarN c vs w) (hb : Below C w w') (hc : c < C) : VarN c vs w' :=
  h.aside (below_aside (r := C) hb (Nat.le_refl _)) hc (by omega)
theorem VarN.only {c r : Nat} {vs : List Value} {w w' : World} (h : VarN c vs w) (ho : Only r w w') (hr : c ≠ r) : VarN c vs w' :=
  h.aside (ho.aside (C := c + 1)) (by omega) hr
theorem VarN.alloc {c : Nat} {vs : List Value} {w : World} (h : VarN c vs w) (o : Obj) (hc : c < w.heap.size) : VarN c vs (w.alloc o) :=
  h.below ((Below.refl w.heap.size w).alloc (Nat.le_refl _) o) hc
theorem VarN.set {c i : Nat} {vs : List Value} {w : World} (h : VarN c vs w) (v : Value) : VarN c (vs.set i v) (w.setCell ⟨c, i, none⟩ v) := fun j u hj => by
  by_cases e : i = j
  · subst e
    rw [List.getElem?_set_self' ] at hj
    cases hg : vs[i]? with
    | none => simp [hg] at hj
    | some u' =>
      simp [hg] at hj
      subst hj
      exact ⟨World.cell?_setCell_same _ _ _ (h i u' hg).1, by rw [World.frozen?_setCell]; exact (h i u' hg).2⟩
  · rw [List.getElem?_set_ne e] at hj
    exact ⟨cell_other e (h j u hj).1, by rw [World.frozen?_setCell]; exact (h j u hj).2⟩
theorem VarN.far {c d i : Nat} {vs : List Value} {w : World} (h : VarN c vs w) (v : Value) (hd : d ≠ c) : VarN c vs (w.setCell ⟨d, i, none⟩ v) := fun j u hj =>
  ⟨cell_far hd (h j u hj).1, by rw [World.frozen?_setCell]; exact (h j u hj).2⟩

set_option maxHeartbeats 1000000 in
theorem l91Good_as (B r m : Nat) (w : World) (h : Rd B r m w) (hm : m ≤ 100000000) :
    Calls Try.prog 71 #[.pointer (some ⟨r, 0, none⟩)] w fun e w' => DrewInt B r (m + 3) (fun n => 0 ≤ n ∧ n ≤ 65535) w e w' ∧ Aside w.heap.size r w w' := by
  go_enter Try.func71, Try.ntmps71
  go_wp2_with fail
  refine (l91Word_as B r m _ h hm).mono ?_
  rintro e w1 ⟨⟨k, rfl, ⟨k0, k1⟩, hr1, hb1⟩, ha1⟩
  go_wp2
  all_goals
    go_ret
    exact ⟨⟨_, rfl, ⟨by omega, by omega⟩, hr1, hb1⟩, ha1⟩

end Go.Proofs.Ytncbgejggfkdmab
