/- What an exact law's marks leave be; the marks of a copy and of an answer. -/
import Derived.Test.YtncbgejggfkdmabK96
import Derived.Test.YtncbgejggfkdmabK159
import Derived.Test.YtncbgejggfkdmabK130
namespace Go.Proofs.Ytncbgejggfkdmab
open Go.RowKit Go.PlainAid

/-- Of the blocks that were there none has turned but o, and none below C. -/
structure Mg (C : Nat) (o : Option Nat) (w w' : World) : Prop where
  b : Below C w w'
  a : ∀ x, x < w.heap.size → some x ≠ o → w'.heap[x]? = w.heap[x]?
section
variable {C d len cap k n size base e : Nat} {o : Option Nat} {a : Option Addr} {es : List Int} {vs : List Value} {v : Value} {xs : List Value} {w w' : World}
theorem VarN.mg (h : VarN d vs w) (m : Mg C o w w') (hd : d < w.heap.size) (hne : some d ≠ o) : VarN d vs w' := fun i v hi =>
  ⟨(World.cell?_of_block (w := w) (m.a d hd hne)).trans (h i v hi).1, (World.frozen?_of_block (w := w) (m.a d hd hne)).trans (h i v hi).2⟩
theorem own_mg (h : w.ownsRow base e size v n xs) (m : Mg C o w w') (hne : ∀ x, v.ownBlock = some x → some x ≠ o) : w'.ownsRow base e size v n xs := by
  refine ⟨h.1, ?_⟩
  rcases h.2 with h1 | ⟨x, cap, cur, rfl, h2, h3, h4⟩
  · exact .inl h1
  · have hx : x < w.heap.size := (Array.getElem?_eq_some_iff.1 h3).1
    exact .inr ⟨x, cap, cur, rfl, h2, by rw [m.a x hx (hne x rfl)]; exact h3, h4⟩
theorem add_block (x : Addr) (i : Nat) : (x.add i).block = x.block := by unfold Addr.add; split <;> rfl
theorem Ns.lts (h : Ns w a len cap es) : ∀ x, a = some x → 0 < len → x.block < w.heap.size := fun x hx hl => by
  rcases h with ⟨rfl, _⟩ | ⟨y, hy, _, _, _, h5⟩
  · cases hx
  · obtain rfl : x = y := by rw [hx] at hy; simpa using hy
    have := World.block_lt_of_cell? w _ (h5 0 hl)
    rwa [add_block] at this
theorem Ns.mgC (h : Ns w a len cap es) (hb : Below C w w') (hlt : ∀ x, a = some x → 0 < len → x.block < C) : Ns w' a len cap es := by
  rcases h with h | ⟨y, rfl, h1, h2, h3, h5⟩
  · exact .inl h
  · exact .inr ⟨y, rfl, h1, h2, h3, fun i hi => (hb.cell (by rw [add_block]; exact hlt y rfl (by omega))).trans (h5 i hi)⟩
end

theorem ownN_alloc {X : World} {base e size n : Nat} {v : Value} {xs : List Value} {o : Obj} (h : X.ownsRow base e size v n xs) : (X.alloc o).ownsRow base e size v n xs := h.alloc o
theorem ownUp {w w' : World} {base e size n : Nat} {v : Value} {xs : List Value} (h : w.ownsRow base e size v n xs) (hb : Below w.heap.size w w') : w'.ownsRow base e size v n xs := row_same h fun x _ h2 => hb.block x h2
theorem row_lt {w : World} {base e size n : Nat} {v : Value} {xs : List Value} (h : w.ownsRow base e size v n xs) {x : Nat} (hx : v.ownBlock = some x) : base ≤ x ∧ x < w.heap.size := by
  refine ⟨own_ge h hx, ?_⟩
  rcases h.2 with ⟨h1, _⟩ | ⟨g, cap, cur, h1, _, h3, _⟩
  · rw [h1] at hx; cases hx
  · rw [h1] at hx
    obtain rfl : g = x := by simpa [Value.ownBlock] using hx
    exact (Array.getElem?_eq_some_iff.1 h3).1
theorem pts0 (w : World) (p : Option Addr) : Pts w p 0 0 [] := by
  cases p with
  | none => exact .inl ⟨rfl, rfl, rfl, rfl⟩
  | some x => exact .inr ⟨x, rfl, Nat.le_refl _, Nat.zero_le _, rfl, fun i hi => absurd hi (by omega)⟩

end Go.Proofs.Ytncbgejggfkdmab
