/- The contracts of the program's list of parts that wait: whether a part waits, whether there is no space, a further part. -/
import Derived.Test.YtncbgejggfkdmabK141
import Derived.Test.YtncbgejggfkdmabK92
import Derived.Deep.AppendLies
import Derived.IntWalk
namespace Go.Proofs.Ytncbgejggfkdmab
open Go.RowKit Go.PlainAid

/-- The parts that wait, at blocks from B on. -/
structure Wl (B : Nat) (w : World) (L M : Nat) (ns : List (Nat × Part)) : Prop where
  lk : Lk w L M ns
  tab : ∃ D, Tab w M ns D
  td : ((psOf ns).map fun p => p.tsn).Nodup
  key : ∀ p ∈ psOf ns, Key p.tsn
  ml : M ≠ L
  fm : ∀ x ∈ ns, x.1 ≠ M
  lo : B ≤ L ∧ B ≤ M ∧ ∀ x ∈ ns, B ≤ x.1
section
variable {B L M : Nat} {w w' : World} {ns : List (Nat × Part)}
theorem Wl.same (h : Wl B w L M ns) (e : ∀ x, B ≤ x → x < w.heap.size → w'.heap[x]? = w.heap[x]?) : Wl B w' L M ns := by
  obtain ⟨D, hD⟩ := h.tab
  refine ⟨h.lk.same fun x hx => ?_, ⟨D, hD.block (e M h.lo.2.1 hD.lt)⟩, h.td, h.key, h.ml, h.fm, h.lo⟩
  rcases hx with rfl | ⟨y, hy, rfl⟩
  · exact e _ h.lo.1 h.lk.lt
  · exact e _ (h.lo.2.2 y hy) (h.lk.node_lt hy)
theorem Wl.below (h : Wl B w L M ns) (hb : Below w.heap.size w w') : Wl B w' L M ns := h.same fun x _ hx => hb.block x hx
theorem Wl.drewN (h : Wl B w L M ns) (q : Nat) : Wl B (w.drewN q) L M ns := h.below (below_drewN (Below.refl _ _) q)
theorem Wl.alloc (h : Wl B w L M ns) (o : Obj) : Wl B (w.alloc o) L M ns := h.below (below_box o (Nat.le_refl _))
end
/-- Blocks below B, and those that are neither the list's nor one of its links, are as they were. -/
structure Kp (B : Nat) (L M : Nat) (ns : List (Nat × Part)) (w w' : World) : Prop where
  b : Below B w w'
  o : ∀ x, x < w.heap.size → x ≠ L → x ≠ M → (∀ y ∈ ns, x ≠ y.1) → w'.heap[x]? = w.heap[x]?

set_option maxHeartbeats 1000000 in
theorem has_any (B L M : Nat) (ns : List (Nat × Part)) (t : Int) (w : World) (h : Wl B w L M ns) (hk : Key t) :
    Calls Try.prog 52 #[.pointer (some ⟨L, 0, none⟩), .int .i64 t] w fun e w' => e = .returned (.bool (hasT (psOf ns) t)) ∧ w = w' := by
  obtain ⟨D, hD⟩ := h.tab
  have c2 := (h.lk.l 2 _ rfl).1
  cases hh : hasT (psOf ns) t with
  | false =>
    have hL := hD.look_no hh hk
    clear hD hh h
    go_enter Try.func52, Try.ntmps52
    go_wp2
    go_ret
    exact ⟨rfl, rfl⟩
  | true =>
    obtain ⟨p, hp, e⟩ : ∃ p ∈ psOf ns, p.tsn = t := by
      unfold hasT at hh
      rw [List.any_eq_true] at hh
      obtain ⟨p, hp, e⟩ := hh
      exact ⟨p, hp, by simpa using e⟩
    subst e
    obtain ⟨x, hx, rfl⟩ := List.mem_map.1 hp
    have hL := hD.look_at hx hk
    obtain ⟨t, ht⟩ : ∃ t, x.2.tsn = t := ⟨_, rfl⟩
    obtain ⟨d, hd⟩ : ∃ d, x.1 = d := ⟨_, rfl⟩
    rw [ht, hd] at hL
    rw [ht]
    clear hD hh h hp hx ht hd
    go_enter Try.func52, Try.ntmps52
    go_wp2
    go_ret
    exact ⟨rfl, rfl⟩

set_option maxHeartbeats 1000000 in
theorem full_any (B L M : Nat) (ns : List (Nat × Part)) (w : World) (h : Wl B w L M ns) (hn : ns.length ≤ 1000) :
    Calls Try.prog 54 #[.pointer (some ⟨L, 0, none⟩)] w fun e w' => e = .returned (.bool (decide (12 ≤ ns.length))) ∧ w = w' := by
  obtain ⟨D, hD⟩ := h.tab
  have c2 := (h.lk.l 2 _ rfl).1
  have own := hD.own
  have HS := Lib.hid hD.size
  clear hD h
  go_enter Try.func54, Try.ntmps54
  go_wp2_with (at_len; refine wpList_len_own _ rfl _ 94 rfl 3 95 Try.underlying94 ptrR M (Maps.size D) D rfl own ?_)
  rw [HS.out]
  have E := Lib.hid (show decide ((12 : Int) ≤ (ns.length : Int)) = decide (12 ≤ ns.length) from decide_eq_decide.2 ⟨fun h => by omega, fun h => by omega⟩)
  clear HS
  go_wp2
  go_ret
  exact ⟨ret_b E.out, rfl⟩

end Go.Proofs.Ytncbgejggfkdmab
