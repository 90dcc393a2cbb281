/- The contracts of the program's heap: Push and Pop, its own and container/heap's. -/
import Derived.Test.YtcjabomcndahbabK111
import Derived.Deep.RegionLaw
namespace Go.Proofs.Ytcjabomcndahbab
open Go.RowKit Go.PlainAid

/-- A number is appended to a row of one's own behind a heap's pointer, as a step of a region. -/
theorem step_addH {ops : Array Oper} {o : Oper} {a : Act} {w : World} {K : Act → World → Prop} {Q : Exit → Act → World → Prop} {E : Prop} (hg : o.guard = none) (s x : Operand) (hop : o.op = Op.call { callee := Callee.builtin Builtin.append, args := #[s, x], argTypes := #[65, 65] })
    (base i cc cap : Nat) (q : Option Addr) (ad : Addr) (xs : List Int) (z : Int) (hv : a.eval s = .slice q i cap) (hown : w.ownsRow base 3 1 (.slice q i cap) i (flatN xs))
    (hx : a.eval x = .slice (some ad) 1 cc) (hc : ∀ j u, (flatN [z])[j]? = some u → w.cell? (ad.add j) = some u) (him : i + 1 ≤ 10000000) (hb : base ≤ w.heap.size)
    (hK : ∀ g3 cap3 w', w'.ownsRow base 3 1 (.slice (some ⟨g3, 0, none⟩) (i + 1) cap3) (i + 1) (flatN (xs ++ [z])) → w.grownBy w' (Value.slice q i cap).ownBlock → ((Value.slice q i cap).ownBlock = some g3 ∨ g3 = w.heap.size) → K (a.put o.dst (.slice (some ⟨g3, 0, none⟩) (i + 1) cap3)) w') :
    if Region.wanted o (yielded ops a.tmps) = true then Oper.wp Try.prog o a w K Q else E := by
  have hw : Region.wanted o (yielded ops a.tmps) = true := by simp [Region.wanted, hg]
  rw [if_pos hw]
  obtain ⟨i0, hi, hz0, hz1, hz2⟩ := info_parts info_n
  obtain ⟨v', w', hr, h2, h3, h4, h5⟩ := run_append_own_at (P := Try.prog) w base 65 o.type 3 i0 (.int .i64 0) 1 8 Try.underlying65 hi hz0 hz1 hz2 rfl (by decide) _ i (flatN xs) hown ad 1 cc (flatN [z]) rfl hc (flatN_one [z]) (by unfold maxLen; omega) (by omega) hb
  obtain ⟨g3, cap3, rfl⟩ : ∃ g3 cap3, v' = .slice (some ⟨g3, 0, none⟩) (i + 1) cap3 := by
    rcases h2.2 with ⟨h0, h0'⟩ | ⟨g3, cap3, _, hv, _⟩
    · omega
    · exact ⟨g3, cap3, hv⟩
  unfold Oper.wp execOp
  simp only [hop, resolve, invoke, builtin, Sem.run_bind, Sem.run_pure, Result.andThen_ok, List.map_toArray, List.map_cons, List.map_nil, hv, hx, hr]
  refine hK g3 cap3 w' (by rw [flatN_append]; exact h2) h3 ?_
  rcases h5 with h5 | h5
  · exact .inl (by simpa [Value.ownBlock] using h5.symm)
  · exact .inr (by simpa [Value.ownBlock] using h5)
/-- A heap behind a pointer, whose row may be nil. -/
structure Hq (B P : Nat) (q : Option Addr) (n cap : Nat) (es : List Int) (W : World) : Prop where
  pb : VarN P [.slice q n cap] W
  own : W.ownsRow B 3 1 (.slice q n cap) n (flatN es)
  ne : ∀ g, (Value.slice q n cap).ownBlock = some g → g ≠ P
  bp : B ≤ P
section
variable {B P n cap g3 cap3 : Nat} {q : Option Addr} {es : List Int} {w W W' : World} {z : Int}
theorem Hq.up (h : Hq B P q n cap es W) (hb : Below W.heap.size W W') : Hq B P q n cap es W' :=
  ⟨h.pb.below hb (lt_of_cell (h.pb 0 _ rfl).1), ownUp h.own hb, h.ne, h.bp⟩
theorem Hq.bw (h : Hq B P q n cap es W) : B ≤ W.heap.size := Nat.le_trans h.bp (Nat.le_of_lt (lt_of_cell (h.pb 0 _ rfl).1))
theorem Hq.push (h : Hq B P q n cap es W) (hb : Below B w W) (hown : W'.ownsRow B 3 1 (.slice (some ⟨g3, 0, none⟩) (n + 1) cap3) (n + 1) (flatN (es ++ [z]))) (hgrow : W.grownBy W' (Value.slice q n cap).ownBlock) (hat : (Value.slice q n cap).ownBlock = some g3 ∨ g3 = W.heap.size) :
    VarN P [.slice q n cap] W' ∧ Hp B P g3 (n + 1) cap3 (es ++ [z]) (W'.setCell ⟨P, 0, none⟩ (.slice (some ⟨g3, 0, none⟩) (n + 1) cap3)) ∧ Below B w (W'.setCell ⟨P, 0, none⟩ (.slice (some ⟨g3, 0, none⟩) (n + 1) cap3)) := by
  have hP := lt_of_cell (h.pb 0 _ rfl).1
  have hne : g3 ≠ P := by
    rcases hat with h1 | h1
    · exact h.ne _ h1
    · have : P < W.heap.size := hP
      omega
  have V := VarN.plusO h.pb hgrow hP (fun e => h.ne _ e rfl)
  refine ⟨V, ⟨V.set (i := 0) _, rowFar hown hne _, hne, h.bp⟩, ?_⟩
  refine (Below.grown hb hgrow h.bw fun x hx => ?_).setCell (p := ⟨P, 0, none⟩) h.bp _
  rcases h.own.2 with ⟨h1, _⟩ | ⟨g, c', cur, h1, h2, _⟩
  · rw [h1] at hx; cases hx
  · rw [h1] at hx
    obtain rfl : g = x := by simpa [Value.ownBlock] using hx
    exact h2
end

set_option maxHeartbeats 1000000 in
theorem hPushM_any (B P n cap : Nat) (q : Option Addr) (es : List Int) (z : Int) (w : World) (h : Hq B P q n cap es w) (hn : n ≤ 1000) :
    Calls Try.prog 79 #[.pointer (some ⟨P, 0, none⟩), .iface 3 (.int .i64 z)] w fun e w' => e = .returned (.tuple #[]) ∧ (∃ g cap3, Hp B P g (n + 1) cap3 (es ++ [z]) w') ∧ Below B w w' := by
  have hta : ∀ (v : Value) (w : World), (Instr.typeAssert (.iface 3 v) 20 3 false).run Try.prog w = .ok v w := fun v w => by kernel_rfl
  have hbw := h.bw
  have HB := Lib.hid ((below_box (w := w) (.cells #[.int .i64 z] 3) (Nat.le_refl _)).mono hbw)
  have HA := Lib.hid (h.up (below_box (.cells #[.int .i64 z] 3) (Nat.le_refl _)))
  have HAd := Lib.hid (HA.out.up (Below.drew (Below.refl _ _)))
  have NB := Lib.hid (show ∀ j u, (flatN [z])[j]? = some u → (w.alloc (.cells #[.int .i64 z] 3)).cell? ((⟨w.heap.size, 0, none⟩ : Addr).add j) = some u from news_box rfl)
  have NBd := Lib.hid (show ∀ j u, (flatN [z])[j]? = some u → (w.alloc (.cells #[.int .i64 z] 3)).drew.cell? ((⟨w.heap.size, 0, none⟩ : Addr).add j) = some u from fun j u hu => (NB.out j u hu))
  have hn1 : n + 1 ≤ 10000000 := by omega
  have p0 := (h.pb 0 _ rfl).1
  have pl : P < w.heap.size := lt_of_cell p0
  have pl' : ¬ P = w.heap.size := by omega
  clear h
  go_enter Try.func79, Try.ntmps79
  go_wp2_with fail
  go_region_law (first
    | (refine step_addH (by rfl) _ _ (by rfl) B n _ cap q _ es z (by rfl) HA.out.own (by rfl) NB.out hn1 HA.out.bw ?_; intro g3 cap3 w9 hown3 hgrow3 hat3; have S9 := Lib.hid (HA.out.push HB.out hown3 hgrow3 hat3); have q0 := (S9.out.1 0 _ rfl).1; have qf0 := (S9.out.1 0 _ rfl).2; clear hown3 hgrow3 hat3)
    | (refine step_addH (by rfl) _ _ (by rfl) B n _ cap q _ es z (by rfl) HAd.out.own (by rfl) NBd.out hn1 HAd.out.bw ?_; intro g3 cap3 w9 hown3 hgrow3 hat3; have S9 := Lib.hid (HAd.out.push HB.out.drew hown3 hgrow3 hat3); have q0 := (S9.out.1 0 _ rfl).1; have qf0 := (S9.out.1 0 _ rfl).2; clear hown3 hgrow3 hat3))
  all_goals
    go_wp2
    go_end0
    exact ⟨rfl, ⟨_, _, S9.out.2.1⟩, S9.out.2.2⟩

set_option maxHeartbeats 1000000 in
theorem hPopM_any (B P g n m cap : Nat) (es : List Int) (w : World) (h : Hp B P g n cap es w) (hnm : n = m + 1) (hn : n ≤ 1000) :
    Calls Try.prog 78 #[.pointer (some ⟨P, 0, none⟩)] w fun e w' => e = .returned (.iface 3 (.int .i64 (nAt es m))) ∧ Hp B P g m cap (es.take m) w' ∧ Fh g P w w' := by
  have p0 := h.cell
  have pf0 := h.free
  have hN := h.ns
  have hcap := hN.len_le
  have hm := hN.len_int
  have pm : w.cell? ⟨g, m, none⟩ = some (.int .i64 (nAt es m)) := by have := hN.at (Below.refl _ _) (k := m) (by omega); rwa [n_add] at this
  obtain ⟨z, hz⟩ : ∃ z, nAt es m = z := ⟨_, rfl⟩
  rw [hz] at pm ⊢
  have e1 : IntKind.i64.wrap ((n : Int) - 1) = (m : Int) := by rw [IntWalk.i64_in _ ⟨by omega, by omega⟩]; omega
  have e2 : (n : Int) - 1 = (m : Int) := by omega
  have m0 : (0 : Int) ≤ m := by omega
  have m1 : (m : Int) < n := by omega
  have mc : (m : Int) ≤ cap := by omega
  have K := Lib.hid (show Hp B P g m cap (es.take m) (w.setCell ⟨P, 0, none⟩ (.slice (some ⟨g, 0, none⟩) m cap)) from by
    refine ⟨h.pb.set (i := 0) _, rowFar ?_ h.ne _, h.ne, h.bp⟩
    have ho := h.own
    refine ⟨by rw [flatN_length, List.length_take, h.len]; omega, ?_⟩
    rcases ho.2 with ⟨h1, _⟩ | ⟨g', cap', cur, h1, h2, h3, h4, h5, h6, h7⟩
    · cases h1
    · obtain ⟨rfl, rfl⟩ : g = g' ∧ cap = cap' := by simpa using h1
      refine .inr ⟨g, cap, cur, rfl, h2, h3, by omega, h5, h6, ?_⟩
      unfold flatN at h7 ⊢
      rw [List.map_take, ← h7, List.take_take, show min m (n * 1) = m * 1 by omega])
  have KF := Lib.hid ((Fh.refl g P w).set 0 (.slice (some ⟨g, 0, none⟩) m cap))
  clear h hN hz hnm
  go_enter Try.func78, Try.ntmps78
  go_wp2
  go_ret
  exact ⟨rfl, K.out, KF.out⟩

end Go.Proofs.Ytcjabomcndahbab
