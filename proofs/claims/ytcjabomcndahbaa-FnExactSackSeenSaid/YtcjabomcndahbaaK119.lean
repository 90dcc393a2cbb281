/- What an exact law's marks leave be; the marks of a copy and of an answer. -/
import Derived.Test.YtcjabomcndahbaaK96
import Derived.Test.YtcjabomcndahbaaK97
namespace Go.Proofs.Ytcjabomcndahbaa
open Go.RowKit Go.PlainAid

/-- Of the blocks that were there none has turned but o, and none below C. -/
structure Mg (C : Nat) (o : Option Nat) (w w' : World) : Prop where
  b : Below C w w'
  a : ∀ x, x < w.heap.size → some x ≠ o → w'.heap[x]? = w.heap[x]?
section
variable {C d len cap k n size base e : Nat} {o : Option Nat} {a : Option Addr} {es : List Int} {vs : List Value} {v : Value} {xs : List Value} {w w' : World}
theorem VarN.mg (h : VarN d vs w) (m : Mg C o w w') (hd : d < w.heap.size) (hne : some d ≠ o) : VarN d vs w' := fun i v hi =>
  ⟨(World.cell?_of_block (w := w) (m.a d hd hne)).trans (h i v hi).1, (World.frozen?_of_block (w := w) (m.a d hd hne)).trans (h i v hi).2⟩
theorem own_mg (h : w.ownsRow base e size v n xs) (m : Mg C o w w') (hne : ∀ x, v.ownBlock = some x → some x ≠ o) : w'.ownsRow base e size v n xs := by
  refine ⟨h.1, ?_⟩
  rcases h.2 with h1 | ⟨x, cap, cur, rfl, h2, h3, h4⟩
  · exact .inl h1
  · have hx : x < w.heap.size := (Array.getElem?_eq_some_iff.1 h3).1
    exact .inr ⟨x, cap, cur, rfl, h2, by rw [m.a x hx (hne x rfl)]; exact h3, h4⟩
theorem add_block (x : Addr) (i : Nat) : (x.add i).block = x.block := by unfold Addr.add; split <;> rfl
theorem Ns.lts (h : Ns w a len cap es) : ∀ x, a = some x → 0 < len → x.block < w.heap.size := fun x hx hl => by
  rcases h with ⟨rfl, _⟩ | ⟨y, hy, _, _, _, h5⟩
  · cases hx
  · obtain rfl : x = y := by rw [hx] at hy; simpa using hy
    have := World.block_lt_of_cell? w _ (h5 0 hl)
    rwa [add_block] at this
theorem Ns.mgC (h : Ns w a len cap es) (hb : Below C w w') (hlt : ∀ x, a = some x → 0 < len → x.block < C) : Ns w' a len cap es := by
  rcases h with h | ⟨y, rfl, h1, h2, h3, h5⟩
  · exact .inl h
  · exact .inr ⟨y, rfl, h1, h2, h3, fun i hi => (hb.cell (by rw [add_block]; exact hlt y rfl (by omega))).trans (h5 i hi)⟩
end

/-- A row of one's own is marked. -/
theorem markRow {C k : Nat} {a : Option Addr} {cap : Nat} {es : List Int} {W : World} (c : Int) (h : W.ownsRow C 3 1 (.slice a k cap) k (flatN es)) (hC : C ≤ W.heap.size) (hk : k ≤ 1048576) :
    Calls Try.prog 41 #[.agg #[.int .i64 c, .slice a k cap], .int .i64 1] W fun e w' => e = .returned (.int .i64 (1 + (k : Int))) ∧ Ns w' a k cap (marksN k) ∧ W.heap.size ≤ w'.heap.size ∧ Mg C (Value.slice a k cap).ownBlock W w' := by
  have BX := Lib.hid (below_box (w := W) (.cells #[.int .i64 c, .slice a k cap] 26) (Nat.le_refl _))
  rcases h.2 with ⟨h1, h2⟩ | ⟨g, cap', cur, h1, _⟩
  · obtain ⟨rfl, rfl, rfl⟩ : a = none ∧ k = 0 ∧ cap = 0 := by simpa using h1
    go_enter Try.func41, Try.ntmps41
    go_wp2_with fail
    refine (markIntS_none _).mono ?_
    rintro e w1 ⟨rfl, rfl⟩
    go_wp2
    go_ret
    exact ⟨rfl, Ns.nil _, BX.out.size, BX.out.mono hC, fun x hx _ => BX.out.block x hx⟩
  · obtain ⟨rfl, rfl⟩ : a = some ⟨g, 0, none⟩ ∧ cap = cap' := by simpa using h1
    obtain ⟨f1, f2, f3, f4, f5, f6⟩ := own_filN (marksN k) h
    have F1 := Lib.hid (f1.below BX.out)
    have R1 := Lib.hid (f2.below f6 BX.out)
    have hz := Lib.hid (And.intro f5 f6)
    clear h h1 f1 f2 f5 f6
    go_enter Try.func41, Try.ntmps41
    go_wp2_with fail
    refine (markIntS_any g k cap _ hk (Nat.lt_of_lt_of_le hz.out.2 BX.out.size) F1.out R1.out).mono ?_
    rintro e w1 ⟨rfl, hf, _, hm⟩
    have HF := Lib.hid (hf.ns (marksN_length k) f3 f4)
    have HM := Lib.hid hm
    clear hf hm
    go_wp2
    go_ret
    exact ⟨rfl, HF.out, Nat.le_trans BX.out.size HM.out.z, (BX.out.mono hC).trans (HM.out.b.mono hz.out.1), fun x hx hne => (HM.out.a x (Nat.lt_of_lt_of_le hx BX.out.size) fun e => hne (by rw [e]; rfl)).trans (BX.out.block x hx)⟩

/-- A copy is marked. -/
theorem markFil {d len : Nat} {es : List Int} {W : World} (c : Int) (h : FilN d len len es W) (hf : FreeN d W) (hd : d < W.heap.size) (hk : len ≤ 1048576) :
    Calls Try.prog 41 #[.agg #[.int .i64 c, .slice (some ⟨d, 0, none⟩) len len], .int .i64 1] W fun e w' => e = .returned (.int .i64 (1 + (len : Int))) ∧ W.heap.size ≤ w'.heap.size ∧ Mg d (some d) W w' := by
  have BX := Lib.hid (below_box (w := W) (.cells #[.int .i64 c, .slice (some ⟨d, 0, none⟩) len len] 26) (Nat.le_refl _))
  have F1 := Lib.hid (show FilN d len 0 (marksN len) _ from fun i hi => by
    obtain ⟨u, h1, _⟩ := h.below BX.out i hi
    exact ⟨u, h1, fun h => absurd h (by omega)⟩)
  have R1 := Lib.hid (hf.below hd BX.out)
  have HD := Lib.hid hd
  clear h hf hd
  go_enter Try.func41, Try.ntmps41
  go_wp2_with fail
  refine (markIntS_any d len len _ hk (Nat.lt_of_lt_of_le HD.out BX.out.size) F1.out R1.out).mono ?_
  rintro e w1 ⟨rfl, hf, _, hm⟩
  have HM := Lib.hid hm
  clear hf hm
  go_wp2
  go_ret
  exact ⟨rfl, Nat.le_trans BX.out.size HM.out.z, (BX.out.mono (Nat.le_of_lt HD.out)).trans HM.out.b, fun x hx hne => (HM.out.a x (Nat.lt_of_lt_of_le hx BX.out.size) fun e => hne (by rw [e])).trans (BX.out.block x hx)⟩

end Go.Proofs.Ytcjabomcndahbaa
