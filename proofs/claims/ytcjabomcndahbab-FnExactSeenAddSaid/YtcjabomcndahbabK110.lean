/- The contracts of the program's heap: its methods. -/
import Derived.Test.YtcjabomcndahbabG19
import Derived.Test.YtcjabomcndahbabK93
import Derived.Test.YtcjabomcndahbabK97
import Derived.BigRegion
import Derived.Handy
namespace Go.Proofs.Ytcjabomcndahbab
open Go.RowKit Go.PlainAid

set_option maxHeartbeats 400000 in
theorem hLen_any (a : Option Addr) (len cap : Nat) (w : World) :
    Calls Try.prog 56 #[.slice a len cap] w fun e w' => e = .returned (.int .i64 len) ∧ w = w' := by
  go_enter Try.func56, Try.ntmps56
  go_wp2
  go_ret
  exact ⟨rfl, rfl⟩

set_option maxHeartbeats 1000000 in
theorem hLess_any (x : Addr) (len cap : Nat) (es : List Int) (i j : Nat) (w : World) (h : Ns w (some x) len cap es) (hi : i < len) (hj : j < len) :
    Calls Try.prog 77 #[.slice (some x) len cap, .int .i64 i, .int .i64 j] w fun e w' => e = .returned (.bool (decide (nAt es i < nAt es j))) ∧ Below w.heap.size w w' := by
  have hm := h.len_int
  have pi := h.at (Below.refl _ _) hi
  have pj := h.at (Below.refl _ _) hj
  obtain ⟨u, hu⟩ : ∃ u, nAt es i = u := ⟨_, rfl⟩
  obtain ⟨v, hv⟩ : ∃ v, nAt es j = v := ⟨_, rfl⟩
  rw [hu] at pi
  rw [hv] at pj
  rw [hu, hv]
  clear hu hv h
  have i0 : (0 : Int) ≤ i := by omega
  have j0 : (0 : Int) ≤ j := by omega
  have i1 : (i : Int) < len := by omega
  have j1 : (j : Int) < len := by omega
  go_enter Try.func77, Try.ntmps77
  go_wp2_with fail
  go_quiet (fail)
  go_wp2
  go_ret
  exact ⟨rfl, below_drewN (Below.refl _ _) _⟩

theorem flatN_set (es : List Int) (i : Nat) (v : Int) : (flatN es).set i (.int .i64 v) = flatN (es.set i v) := by
  unfold flatN
  rw [List.map_set]
theorem grown_two {w w1 w2 : World} {o : Option Nat} (h : w.grownBy w1 o) (k : w1.grownBy w2 o) : w.grownBy w2 o :=
  ⟨k.os.trans h.os, k.tape.trans h.tape, k.output.trans h.output, Nat.le_trans h.size k.size, fun b hb hne => (k.block b (Nat.lt_of_lt_of_le hb h.size) hne).trans (h.block b hb hne)⟩
theorem own_swap {W : World} {B g n cap : Nat} {es : List Int} (h : W.ownsRow B 3 1 (.slice (some ⟨g, 0, none⟩) n cap) n (flatN es)) (i j : Nat) {u v : Int} (hu : nAt es i = u) (hv : nAt es j = v) :
    ((W.setCell ⟨g, i, none⟩ (.int .i64 v)).setCell ⟨g, j, none⟩ (.int .i64 u)).ownsRow B 3 1 (.slice (some ⟨g, 0, none⟩) n cap) n (flatN (swapL es i j)) ∧ W.grownBy ((W.setCell ⟨g, i, none⟩ (.int .i64 v)).setCell ⟨g, j, none⟩ (.int .i64 u)) (some g) := by
  obtain ⟨h1, k1⟩ := h.stored i (.int .i64 v)
  obtain ⟨h2, k2⟩ := h1.stored j (.int .i64 u)
  rw [flatN_set, flatN_set, ← hu, ← hv] at h2
  rw [← hu, ← hv] at *
  exact ⟨h2, grown_two k1 k2⟩

set_option maxHeartbeats 1000000 in
theorem hSwap_any (B g n cap : Nat) (es : List Int) (i j : Nat) (w : World) (h : w.ownsRow B 3 1 (.slice (some ⟨g, 0, none⟩) n cap) n (flatN es)) (hi : i < n) (hj : j < n) :
    Calls Try.prog 80 #[.slice (some ⟨g, 0, none⟩) n cap, .int .i64 i, .int .i64 j] w fun e w' => e = .returned (.tuple #[]) ∧ w'.ownsRow B 3 1 (.slice (some ⟨g, 0, none⟩) n cap) n (flatN (swapL es i j)) ∧ w.grownBy w' (some g) := by
  have hN := own_ns h
  have hm := hN.len_int
  have pi : w.cell? ⟨g, i, none⟩ = some (.int .i64 (nAt es i)) := by have := hN.at (Below.refl _ _) hi; rwa [n_add] at this
  have pj : w.cell? ⟨g, j, none⟩ = some (.int .i64 (nAt es j)) := by have := hN.at (Below.refl _ _) hj; rwa [n_add] at this
  have fi := h.frozenAt i
  have fj := h.frozenAt j
  have HD := Lib.hid h
  obtain ⟨u, hu⟩ : ∃ u, nAt es i = u := ⟨_, rfl⟩
  obtain ⟨v, hv⟩ : ∃ v, nAt es j = v := ⟨_, rfl⟩
  rw [hu] at pi
  rw [hv] at pj
  have HU := Lib.hid (And.intro hu hv)
  have pj2 : (w.setCell ⟨g, i, none⟩ (.int .i64 v)).cell? ⟨g, j, none⟩ = some (.int .i64 v) := by
    have h2 := own_ns ((h.stored i (.int .i64 v)).1 |> fun h => by rw [flatN_set] at h; exact h)
    have := h2.at (Below.refl _ _) hj
    rw [n_add, nAt_set _ (by rw [hN.length]; exact hi)] at this
    rw [this]
    by_cases e : j = i
    · rw [if_pos e]
    · rw [if_neg e, hv]
  clear hu hv h hN
  have i0 : (0 : Int) ≤ i := by omega
  have j0 : (0 : Int) ≤ j := by omega
  have i1 : (i : Int) < n := by omega
  have j1 : (j : Int) < n := by omega
  go_enter Try.func80, Try.ntmps80
  go_wp2_with fail
  go_region
  all_goals
    go_wp2
    go_end0
    have K := own_swap HD.out i j HU.out.1 HU.out.2
    exact ⟨rfl, ownN_drew K.1, grown_two K.2 ⟨rfl, rfl, rfl, Nat.le_refl _, fun _ _ _ => rfl⟩⟩

/-- A heap behind a pointer: the pointer's cell at P, the row at g. -/
structure Hp (B P g n cap : Nat) (es : List Int) (W : World) : Prop where
  pb : VarN P [.slice (some ⟨g, 0, none⟩) n cap] W
  own : W.ownsRow B 3 1 (.slice (some ⟨g, 0, none⟩) n cap) n (flatN es)
  ne : g ≠ P
  bp : B ≤ P
section
variable {B P g n cap : Nat} {es : List Int} {W W' : World}
theorem Hp.up (h : Hp B P g n cap es W) (hb : Below W.heap.size W W') : Hp B P g n cap es W' :=
  ⟨h.pb.below hb (lt_of_cell (h.pb 0 _ rfl).1), ownUp h.own hb, h.ne, h.bp⟩
theorem Hp.row {ds : List Int} (h : Hp B P g n cap es W) (ho : W'.ownsRow B 3 1 (.slice (some ⟨g, 0, none⟩) n cap) n (flatN ds)) (hg : W.grownBy W' (some g)) : Hp B P g n cap ds W' :=
  ⟨h.pb.plus hg (lt_of_cell (h.pb 0 _ rfl).1) (fun e => h.ne e.symm), ho, h.ne, h.bp⟩
theorem Hp.cell (h : Hp B P g n cap es W) : W.cell? ⟨P, 0, none⟩ = some (.slice (some ⟨g, 0, none⟩) n cap) := (h.pb 0 _ rfl).1
theorem Hp.free (h : Hp B P g n cap es W) : W.frozen? ⟨P, 0, none⟩ = false := (h.pb 0 _ rfl).2
theorem Hp.ns (h : Hp B P g n cap es W) : Ns W (some ⟨g, 0, none⟩) n cap es := own_ns h.own
theorem Hp.len (h : Hp B P g n cap es W) : es.length = n := h.ns.length
theorem Hp.ge (h : Hp B P g n cap es W) : B ≤ g := own_ge h.own rfl
theorem Hp.lt (h : Hp B P g n cap es W) : g < W.heap.size ∧ P < W.heap.size := ⟨rowLt h.own, lt_of_cell h.cell⟩
theorem below_grown {C : Nat} (hg : W.grownBy W' (some g)) (hC : C ≤ g) (hW : C ≤ W.heap.size) : Below C W W' := Below.grown (Below.refl C W) hg hW fun x hx => by cases hx; exact hC
end
/-- No block that was there but the heap's two has turned. -/
structure Fh (g P : Nat) (w w' : World) : Prop where
  os : w'.os = w.os
  tape : w'.tape = w.tape
  output : w'.output = w.output
  size : w.heap.size ≤ w'.heap.size
  block : ∀ b, b < w.heap.size → b ≠ g → b ≠ P → w'.heap[b]? = w.heap[b]?
section
variable {B g P : Nat} {w w' w'' : World}
theorem Fh.refl (g P : Nat) (w : World) : Fh g P w w := ⟨rfl, rfl, rfl, Nat.le_refl _, fun _ _ _ _ => rfl⟩
theorem Fh.trans (h : Fh g P w w') (k : Fh g P w' w'') : Fh g P w w'' :=
  ⟨k.os.trans h.os, k.tape.trans h.tape, k.output.trans h.output, Nat.le_trans h.size k.size, fun b hb h1 h2 => (k.block b (Nat.lt_of_lt_of_le hb h.size) h1 h2).trans (h.block b hb h1 h2)⟩
theorem Fh.of_below (h : Below w.heap.size w w') : Fh g P w w' := ⟨h.os, h.tape, h.output, h.size, fun b hb _ _ => h.block b hb⟩
theorem Fh.of_grown (h : w.grownBy w' (some g)) : Fh g P w w' := ⟨h.os, h.tape, h.output, h.size, fun b hb hg _ => h.block b hb (by simpa using hg)⟩
theorem Fh.set (h : Fh g P w w') (i : Nat) (v : Value) : Fh g P w (w'.setCell ⟨P, i, none⟩ v) :=
  ⟨h.os, h.tape, h.output, by simpa using h.size, fun b hb hg hP => by rw [Below.heap_setCell _ _ _ _ (by simpa using hP)]; exact h.block b hb hg hP⟩
theorem Fh.below (h : Fh g P w w') (hg : B ≤ g) (hP : B ≤ P) (hW : B ≤ w.heap.size) : Below B w w' :=
  ⟨h.os, h.tape, h.output, h.size, fun b hb => h.block b (by omega) (by omega) (by omega)⟩
theorem VarN.fh {d : Nat} {vs : List Value} (h : VarN d vs w) (hf : Fh g P w w') (hd : d < w.heap.size) (hg : d ≠ g) (hP : d ≠ P) : VarN d vs w' := fun i v hi =>
  ⟨(World.cell?_of_block (w := w) (hf.block d hd hg hP)).trans (h i v hi).1, (World.frozen?_of_block (w := w) (hf.block d hd hg hP)).trans (h i v hi).2⟩
theorem own_fh {base e size n : Nat} {v : Value} {xs : List Value} (h : w.ownsRow base e size v n xs) (hf : Fh g P w w') (hg : v.ownBlock ≠ some g) (hP : v.ownBlock ≠ some P) : w'.ownsRow base e size v n xs := by
  refine ⟨h.1, ?_⟩
  rcases h.2 with h1 | ⟨x, cap, cur, rfl, h2, h3, h4⟩
  · exact .inl h1
  · have hx : x < w.heap.size := (Array.getElem?_eq_some_iff.1 h3).1
    exact .inr ⟨x, cap, cur, rfl, h2, by rw [hf.block x hx (fun e => hg (by rw [e]; rfl)) (fun e => hP (by rw [e]; rfl))]; exact h3, h4⟩
end
section
variable {p : Addr} {x : Value} {w : World}
theorem method_of {name : String} {f : FuncId} (hm : (Try.t48.methods.find? (·.name == name)).map (fun m => (m.path, m.func)) = some (#[], some (f, false))) (h : w.cell? p = some x) (n : Nat) : (Go.method (n + 1) 48 (.pointer (some p)) name).run Try.prog w = .ok (f, x) w := by
  obtain ⟨m, h1, h2⟩ := Option.map_eq_some_iff.1 hm
  obtain ⟨h3, h4⟩ := Prod.mk.inj h2
  have hw : ∀ s : String, Builtin.ssaWrapNilChk_ #[48] 48 #[.pointer (some p), strVal "", strVal s] = pure (.pointer (some p)) := fun s => rfl
  simp [Go.method, go_sem, h1, h3, h4, follow, receiverAt, Place.get, hw, h]

end

end Go.Proofs.Ytcjabomcndahbab
