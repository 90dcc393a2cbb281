/- The contracts of chapter 21's model: a part that arrives. -/
import Derived.Test.YtcjabomcndahbaaK92
import Derived.Deep.RegionLaw
import Derived.Deep.CutRange
import Derived.Deep.RegionHeldLaw
import Derived.Handy
namespace Go.Proofs.Ytcjabomcndahbaa
open Go.RowKit Go.PlainAid

/-- What SeenAdd answers. -/
def GotSn (w : World) (c : Int) (es : List Int) (t : Int) (e : Ending) (w' : World) : Prop :=
  ∃ (c2 code : Int) (es2 : List Int) (a2 : Option Addr) (k2 cap2 : Nat), e = .returned (.tuple #[.agg #[.int .i64 c2, .slice a2 k2 cap2], .int .i64 code]) ∧ AddV c es t c2 es2 code ∧ OwnN k2 (.slice a2 k2 cap2) es2 w w'

/-- While the copy is made: the argument's variable, the result's. -/
structure Pz (w : World) (c : Int) (a : Option Addr) (len cap : Nat) (W : World) : Prop where
  pb : VarN w.heap.size [.int .i64 c, .slice a len cap] W
  rb : VarN (w.heap.size + 1) [.int .i64 0, .slice none 0 0] W
  b : Below w.heap.size w W
  lo : w.heap.size + 2 ≤ W.heap.size
/-- Behind the copy: the copy's variable at D, its row. -/
structure Cpy (w : World) (c : Int) (a : Option Addr) (len cap : Nat) (es : List Int) (D g cap2 : Nat) (W : World) : Prop where
  pz : Pz w c a len cap W
  ob : VarN D [.int .i64 c, .slice (some ⟨g, 0, none⟩) len cap2] W
  own : W.ownsRow (w.heap.size + 2) 3 1 (.slice (some ⟨g, 0, none⟩) len cap2) len (flatN es)
  n1 : w.heap.size + 2 ≤ D
  n3 : g ≠ D
section
variable {w W W' : World} {c : Int} {a : Option Addr} {len cap D g cap2 : Nat} {es : List Int}
theorem Pz.up (h : Pz w c a len cap W) (hb : Below W.heap.size W W') : Pz w c a len cap W' :=
  ⟨h.pb.below hb (lt_of_cell (h.pb 0 _ rfl).1), h.rb.below hb (lt_of_cell (h.rb 0 _ rfl).1), h.b.trans (hb.mono h.b.size), Nat.le_trans h.lo hb.size⟩
theorem Pz.grow {e : Nat} (h : Pz w c a len cap W) (hg : W.grownBy W' (some e)) (he : w.heap.size + 2 ≤ e) : Pz w c a len cap W' :=
  ⟨h.pb.plus hg (lt_of_cell (h.pb 0 _ rfl).1) (by omega), h.rb.plus hg (lt_of_cell (h.rb 0 _ rfl).1) (by omega), Below.grown h.b hg h.b.size fun x hx => by cases hx; omega, Nat.le_trans h.lo hg.size⟩
theorem Pz.far {d i : Nat} (h : Pz w c a len cap W) (hd : w.heap.size + 2 ≤ d) (v : Value) : Pz w c a len cap (W.setCell ⟨d, i, none⟩ v) :=
  ⟨h.pb.far v (by omega), h.rb.far v (by omega), h.b.setCell (p := ⟨d, i, none⟩) (by show w.heap.size ≤ d; omega) v, by simpa using h.lo⟩
theorem pz_at (h : Pz w c a len cap W) : W.cell? ⟨w.heap.size, 0, none⟩ = some (.int .i64 c) ∧ W.cell? ⟨w.heap.size, 1, none⟩ = some (.slice a len cap) ∧ Pz w c a len cap W := ⟨(h.pb 0 _ rfl).1, (h.pb 1 _ rfl).1, h⟩
theorem pz_next (hb : Below W.heap.size W W') (h : W.cell? ⟨w.heap.size, 0, none⟩ = some (.int .i64 c) ∧ W.cell? ⟨w.heap.size, 1, none⟩ = some (.slice a len cap) ∧ Pz w c a len cap W) : W'.cell? ⟨w.heap.size, 0, none⟩ = some (.int .i64 c) ∧ W'.cell? ⟨w.heap.size, 1, none⟩ = some (.slice a len cap) ∧ Pz w c a len cap W' := pz_at (h.2.2.up hb)
theorem pz_grow {e : Nat} (hg : W.grownBy W' (some e)) (he : w.heap.size + 2 ≤ e) (h : W.cell? ⟨w.heap.size, 0, none⟩ = some (.int .i64 c) ∧ W.cell? ⟨w.heap.size, 1, none⟩ = some (.slice a len cap) ∧ Pz w c a len cap W) : W'.cell? ⟨w.heap.size, 0, none⟩ = some (.int .i64 c) ∧ W'.cell? ⟨w.heap.size, 1, none⟩ = some (.slice a len cap) ∧ Pz w c a len cap W' := pz_at (h.2.2.grow hg he)
theorem pz_box {o : Obj} (h : W.cell? ⟨w.heap.size, 0, none⟩ = some (.int .i64 c) ∧ W.cell? ⟨w.heap.size, 1, none⟩ = some (.slice a len cap) ∧ Pz w c a len cap W) : (W.alloc o).cell? ⟨w.heap.size, 0, none⟩ = some (.int .i64 c) ∧ (W.alloc o).cell? ⟨w.heap.size, 1, none⟩ = some (.slice a len cap) ∧ Pz w c a len cap (W.alloc o) := pz_next (below_box _ (Nat.le_refl _)) h
theorem pz_drew (h : W.cell? ⟨w.heap.size, 0, none⟩ = some (.int .i64 c) ∧ W.cell? ⟨w.heap.size, 1, none⟩ = some (.slice a len cap) ∧ Pz w c a len cap W) : W.drew.cell? ⟨w.heap.size, 0, none⟩ = some (.int .i64 c) ∧ W.drew.cell? ⟨w.heap.size, 1, none⟩ = some (.slice a len cap) ∧ Pz w c a len cap W.drew := pz_next (Below.drew (Below.refl _ _)) h
theorem pz_far {d i : Nat} {v : Value} (hd : w.heap.size + 2 ≤ d) (h : W.cell? ⟨w.heap.size, 0, none⟩ = some (.int .i64 c) ∧ W.cell? ⟨w.heap.size, 1, none⟩ = some (.slice a len cap) ∧ Pz w c a len cap W) : (W.setCell ⟨d, i, none⟩ v).cell? ⟨w.heap.size, 0, none⟩ = some (.int .i64 c) ∧ (W.setCell ⟨d, i, none⟩ v).cell? ⟨w.heap.size, 1, none⟩ = some (.slice a len cap) ∧ Pz w c a len cap (W.setCell ⟨d, i, none⟩ v) := pz_at (h.2.2.far hd v)
theorem vp_drew {d : Nat} {vs : List Value} (h : VarN d vs W) : VarN d vs W.drew := fun i v hi => (by simpa using h i v hi)
theorem vp_alloc {d : Nat} {x : Value} {vs : List Value} {o : Obj} (h : VarN d (x :: vs) W) : VarN d (x :: vs) (W.alloc o) := h.alloc o (lt_of_cell (h 0 _ rfl).1)
theorem vp_put {d : Nat} {u v x y : Value} (h : VarN d [u, v] W) : VarN d [x, y] ((W.setCell ⟨d, 0, none⟩ x).setCell ⟨d, 1, none⟩ y) := (h.set (i := 0) x).set (i := 1) y
theorem ownN_far {X : World} {B d g n cap i : Nat} {xs : List Value} {v : Value} (hd : g ≠ d) (h : X.ownsRow B 3 1 (.slice (some ⟨g, 0, none⟩) n cap) n xs) : (X.setCell ⟨d, i, none⟩ v).ownsRow B 3 1 (.slice (some ⟨g, 0, none⟩) n cap) n xs := rowFar h hd v
theorem lit_ownN (X : World) (e B : Nat) (he : X.heap.size = e) (hb : B ≤ e) : (X.alloc (.cells #[] 3)).ownsRow B 3 1 (.slice (some ⟨e, 0, none⟩) 0 0) 0 (flatN []) := by
  subst he
  exact World.ownsRow_lit X #[] 0 hb (by decide) rfl
theorem ownN_drew {X : World} {base e size n : Nat} {v : Value} {xs : List Value} (h : X.ownsRow base e size v n xs) : X.drew.ownsRow base e size v n xs := h.drew
theorem ownN_alloc {X : World} {base e size n : Nat} {v : Value} {xs : List Value} {o : Obj} (h : X.ownsRow base e size v n xs) : (X.alloc o).ownsRow base e size v n xs := h.alloc o
end

theorem ownN_low {X : World} {B B' size n : Nat} {e : TypeId} {v : Value} {xs : List Value} (h : X.ownsRow B e size v n xs) (hB : B' ≤ B) : X.ownsRow B' e size v n xs := by
  refine ⟨h.1, ?_⟩
  rcases h.2 with h1 | ⟨g, cap, cur, h1, h2, h3⟩
  · exact .inl h1
  · exact .inr ⟨g, cap, cur, h1, Nat.le_trans hB h2, h3⟩
theorem Cpy.up {w W W' : World} {c : Int} {a : Option Addr} {len cap D g cap2 : Nat} {es : List Int} (h : Cpy w c a len cap es D g cap2 W) (hb : Below W.heap.size W W') : Cpy w c a len cap es D g cap2 W' :=
  ⟨h.pz.up hb, h.ob.below hb (lt_of_cell (h.ob 0 _ rfl).1), rowBelow h.own hb (rowLt h.own), h.n1, h.n3⟩
/-- The copy is the answer. -/
theorem Cpy.out {w W : World} {c : Int} {a : Option Addr} {len cap D g cap2 : Nat} {es : List Int} (h : Cpy w c a len cap es D g cap2 W) (x y : Value) : OwnN len (.slice (some ⟨g, 0, none⟩) len cap2) es w ((W.setCell ⟨w.heap.size + 1, 0, none⟩ x).setCell ⟨w.heap.size + 1, 1, none⟩ y) := by
  have hg : w.heap.size + 2 ≤ g := own_ge h.own rfl
  have o : OwnN len (.slice (some ⟨g, 0, none⟩) len cap2) es w W := ⟨ownN_low h.own (by omega), h.pz.b⟩
  exact (o.far (i := 0) (by omega) (Nat.le_succ _) x).far (i := 1) (by omega) (Nat.le_succ _) y
/-- While the fresh part is added: what is read. -/
structure Cz (w : World) (c : Int) (a : Option Addr) (len cap : Nat) (D g cap2 : Nat) (W : World) : Prop where
  pb : VarN w.heap.size [.int .i64 c, .slice a len cap] W
  ob : VarN D [.int .i64 c, .slice (some ⟨g, 0, none⟩) len cap2] W
  b : Below w.heap.size w W
section
variable {w W W' : World} {c : Int} {a : Option Addr} {len cap D g cap2 : Nat}
theorem Cz.up (h : Cz w c a len cap D g cap2 W) (hb : Below W.heap.size W W') : Cz w c a len cap D g cap2 W' :=
  ⟨h.pb.below hb (lt_of_cell (h.pb 0 _ rfl).1), h.ob.below hb (lt_of_cell (h.ob 0 _ rfl).1), h.b.trans (hb.mono h.b.size)⟩
theorem Cz.grow (h : Cz w c a len cap D g cap2 W) (hg : W.grownBy W' (some g)) (h2 : w.heap.size + 2 ≤ g) (h3 : g ≠ D) : Cz w c a len cap D g cap2 W' :=
  ⟨h.pb.plus hg (lt_of_cell (h.pb 0 _ rfl).1) (by omega), h.ob.plus hg (lt_of_cell (h.ob 0 _ rfl).1) (fun e => h3 e.symm), Below.grown h.b hg h.b.size fun x hx => by cases hx; omega⟩
theorem cz_at (h : Cz w c a len cap D g cap2 W) : W.cell? ⟨w.heap.size, 0, none⟩ = some (.int .i64 c) ∧ W.cell? ⟨D, 1, none⟩ = some (.slice (some ⟨g, 0, none⟩) len cap2) ∧ Cz w c a len cap D g cap2 W := ⟨(h.pb 0 _ rfl).1, (h.ob 1 _ rfl).1, h⟩
theorem cz_next (hb : Below W.heap.size W W') (h : W.cell? ⟨w.heap.size, 0, none⟩ = some (.int .i64 c) ∧ W.cell? ⟨D, 1, none⟩ = some (.slice (some ⟨g, 0, none⟩) len cap2) ∧ Cz w c a len cap D g cap2 W) : W'.cell? ⟨w.heap.size, 0, none⟩ = some (.int .i64 c) ∧ W'.cell? ⟨D, 1, none⟩ = some (.slice (some ⟨g, 0, none⟩) len cap2) ∧ Cz w c a len cap D g cap2 W' := cz_at (h.2.2.up hb)
theorem cz_box {o : Obj} (h : W.cell? ⟨w.heap.size, 0, none⟩ = some (.int .i64 c) ∧ W.cell? ⟨D, 1, none⟩ = some (.slice (some ⟨g, 0, none⟩) len cap2) ∧ Cz w c a len cap D g cap2 W) : (W.alloc o).cell? ⟨w.heap.size, 0, none⟩ = some (.int .i64 c) ∧ (W.alloc o).cell? ⟨D, 1, none⟩ = some (.slice (some ⟨g, 0, none⟩) len cap2) ∧ Cz w c a len cap D g cap2 (W.alloc o) := cz_next (below_box _ (Nat.le_refl _)) h
theorem cz_drew (h : W.cell? ⟨w.heap.size, 0, none⟩ = some (.int .i64 c) ∧ W.cell? ⟨D, 1, none⟩ = some (.slice (some ⟨g, 0, none⟩) len cap2) ∧ Cz w c a len cap D g cap2 W) : W.drew.cell? ⟨w.heap.size, 0, none⟩ = some (.int .i64 c) ∧ W.drew.cell? ⟨D, 1, none⟩ = some (.slice (some ⟨g, 0, none⟩) len cap2) ∧ Cz w c a len cap D g cap2 W.drew := cz_next (Below.drew (Below.refl _ _)) h
theorem cz_far {i : Nat} {v : Value} (hd : w.heap.size + 2 ≤ D) (h : W.cell? ⟨w.heap.size, 0, none⟩ = some (.int .i64 c) ∧ W.cell? ⟨D, 1, none⟩ = some (.slice (some ⟨g, 0, none⟩) len cap2) ∧ Cz w c a len cap D g cap2 W) : (W.setCell ⟨w.heap.size + 1, i, none⟩ v).cell? ⟨w.heap.size, 0, none⟩ = some (.int .i64 c) ∧ (W.setCell ⟨w.heap.size + 1, i, none⟩ v).cell? ⟨D, 1, none⟩ = some (.slice (some ⟨g, 0, none⟩) len cap2) ∧ Cz w c a len cap D g cap2 (W.setCell ⟨w.heap.size + 1, i, none⟩ v) :=
  cz_at ⟨h.2.2.pb.far v (by omega), h.2.2.ob.far v (by omega), h.2.2.b.setCell (p := ⟨w.heap.size + 1, i, none⟩) (Nat.le_succ _) v⟩
end
/-- Numbers that are appended, as a step of a region. -/
theorem step_catN {ops : Array Oper} {o : Oper} {a : Act} {w : World} {K : Act → World → Prop} {Q : Exit → Act → World → Prop} {E : Prop} (hg : o.guard = none) (s x : Operand) (hop : o.op = Op.call { callee := Callee.builtin Builtin.append, args := #[s, x], argTypes := #[24, 24] })
    (base i m n cc e cap : Nat) (ad : Addr) (xs ys : List Int) (hn : i + m = n) (hv : a.eval s = .slice (some ⟨e, 0, none⟩) i cap) (hown : w.ownsRow base 3 1 (.slice (some ⟨e, 0, none⟩) i cap) i (flatN xs))
    (hx : a.eval x = .slice (some ad) m cc) (hl : ys.length = m) (hc : ∀ j u, (flatN ys)[j]? = some u → w.cell? (ad.add j) = some u) (him : i + m ≤ 10000000) (hb : base ≤ w.heap.size)
    (hK : ∀ g3 cap3 w', w'.ownsRow base 3 1 (.slice (some ⟨g3, 0, none⟩) n cap3) n (flatN (xs ++ ys)) → w.grownBy w' (some e) → (g3 = e ∨ g3 = w.heap.size) → K (a.put o.dst (.slice (some ⟨g3, 0, none⟩) n cap3)) w') :
    if Region.wanted o (yielded ops a.tmps) = true then Oper.wp Try.prog o a w K Q else E := by
  have hw : Region.wanted o (yielded ops a.tmps) = true := by simp [Region.wanted, hg]
  rw [if_pos hw]
  exact wp_catN s x hop base i m n cc e cap ad xs ys hn hv hown hx hl hc him hb hK

set_option maxHeartbeats 4000000 in
theorem sSeenAdd_any (c : Int) (a : Option Addr) (len cap : Nat) (es : List Int) (t : Int) (w : World) (h : Ns w a len cap es) :
    Calls Try.prog 85 #[.agg #[.int .i64 c, .slice a len cap], .int .i64 t] w fun e w' => GotSn w c es t e w' := by
  have HP := Lib.hid (below_box (w := w) (.cells #[.int .i64 c, .slice a len cap] 26) (Nat.le_refl _))
  have HP2 := Lib.hid (HP.out.alloc (Nat.le_of_lt (by simp)) (.cells #[.int .i64 0, .slice none 0 0] 26))
  have hl := h.length
  have HG := Lib.hid ((h.below HP.out).below (below_box (.cells #[.int .i64 0, .slice none 0 0] 26) (Nat.le_refl _)))
  have V0 := Lib.hid ((VarN.new w [.int .i64 c, .slice a len cap] 26).alloc (.cells #[.int .i64 0, .slice none 0 0] 26) (by simp))
  have R0 := Lib.hid (VarN.new_at (w := w.alloc (.cells #[.int .i64 c, .slice a len cap] 26)) (d := w.heap.size + 1) (by simp) [.int .i64 0, .slice none 0 0] 26)
  have HN0 := Lib.hid h
  clear h
  by_cases hs : SeenOk c es
  · have S1 := Lib.hid (seenV_yes hs)
    have HO := Lib.hid hs
    have HS := Lib.hid (seen_ser hs)
    by_cases ht : Ser t
    · have HT := Lib.hid ht
      obtain ⟨n, hn⟩ : ∃ n, diffS c t = n := ⟨_, rfl⟩
      have HN := Lib.hid hn
      have hlen : len ≤ 15 := by
        have := asc_few hs.2 (by decide)
        omega
      clear hs ht hn
      go_enter Try.func85, Try.ntmps85
      go_wp2_with fail
      refine (sSeenValid_any c a len cap es _ HG.out).mono ?_
      rw [S1.out]
      rintro e w1 ⟨rfl, hb1⟩
      have V1 := Lib.hid (V0.out.below hb1 (by simp; omega))
      have R1 := Lib.hid (R0.out.below hb1 (by simp))
      have G1 := Lib.hid (HG.out.below hb1)
      have B1 := Lib.hid (HP2.out.trans (hb1.mono HP2.out.size))
      have v0 := (V1.out 0 _ rfl).1
      have v1 := (V1.out 1 _ rfl).1
      clear hb1 V0 HG HP HP2 R0
      go_wp2_with fail
      refine (l3Ok_yes t _ HT.out).mono ?_
      rintro e w2 ⟨rfl, rfl⟩
      go_wp2_with fail
      refine (l3Diff_any c t _ HS.out HT.out).mono ?_
      rintro e w2 ⟨rfl, rfl⟩
      rw [HN.out]
      have PZ : Pz w c a len cap w1 := ⟨V1.out, R1.out, B1.out, by have := lt_of_cell (R1.out 0 _ rfl).1; omega⟩
      have hlo := PZ.lo
      have hS0 := Lib.hid (pz_at PZ)
      have he21 : w.heap.size + 2 ≤ w1.heap.size + 1 := by omega
      have hle : 0 + len ≤ 10000000 := by omega
      have OE1 := Lib.hid (lit_ownN w1 w1.heap.size (w.heap.size + 2) rfl hlo)
      have OE1d := Lib.hid (ownN_drew OE1.out)
      have OE12 := Lib.hid (ownN_alloc (o := (.cells #[.int .i64 0, .slice none 0 0] 26)) OE1.out)
      have OE12d := Lib.hid (ownN_drew OE12.out)
      have OE21 := Lib.hid (lit_ownN (w1.alloc (.cells #[.int .i64 0, .slice none 0 0] 26)) (w1.heap.size + 1) (w.heap.size + 2) (by simp) he21)
      have OE21d := Lib.hid (ownN_drew OE21.out)
      have hO12 := Lib.hid (show VarN (w1.heap.size + 1) [.int .i64 0, .slice none 0 0] ((w1.alloc (.cells #[] 3)).alloc (.cells #[.int .i64 0, .slice none 0 0] 26)) from VarN.new_at (by simp) [.int .i64 0, .slice none 0 0] _)
      have hO21 := Lib.hid (show VarN w1.heap.size [.int .i64 0, .slice none 0 0] ((w1.alloc (.cells #[.int .i64 0, .slice none 0 0] 26)).alloc (.cells #[] 3)) from (VarN.new w1 [.int .i64 0, .slice none 0 0] _).alloc _ (by simp))
      have hO12d := Lib.hid (show VarN (w1.heap.size + 1) [.int .i64 0, .slice none 0 0] ((w1.alloc (.cells #[] 3)).alloc (.cells #[.int .i64 0, .slice none 0 0] 26)).drew from vp_drew hO12.out)
      have hO21d := Lib.hid (show VarN w1.heap.size [.int .i64 0, .slice none 0 0] ((w1.alloc (.cells #[.int .i64 0, .slice none 0 0] 26)).alloc (.cells #[] 3)).drew from vp_drew hO21.out)
      have lt12 := Lib.hid (show w1.heap.size + 1 < ((w1.alloc (.cells #[] 3)).alloc (.cells #[.int .i64 0, .slice none 0 0] 26)).heap.size by simp)
      have lt12d := Lib.hid (show w1.heap.size + 1 < ((w1.alloc (.cells #[] 3)).alloc (.cells #[.int .i64 0, .slice none 0 0] 26)).drew.heap.size by simp)
      have lt21 := Lib.hid (show w1.heap.size < ((w1.alloc (.cells #[.int .i64 0, .slice none 0 0] 26)).alloc (.cells #[] 3)).heap.size by simp; omega)
      have lt21d := Lib.hid (show w1.heap.size < ((w1.alloc (.cells #[.int .i64 0, .slice none 0 0] 26)).alloc (.cells #[] 3)).drew.heap.size by simp; omega)
      have ne12 := Lib.hid (show w1.heap.size + 1 ≠ w1.heap.size by omega)
      have ne21 := Lib.hid (show w1.heap.size ≠ w1.heap.size + 1 by omega)
      clear V1 R1
      go_upto_region 1 with fail
      go_cut [7] from 21 to 27 (fun p wx => ∃ (D g cap2 : Nat), p = .pointer (some ⟨D, 0, none⟩) ∧ Cpy w c a len cap es D g cap2 wx)
      case first =>
        rcases G1.out with ⟨rfl, rfl, rfl, rfl⟩ | ⟨x, rfl, hgc⟩
        · go_region_held_law (fun W => W.cell? ⟨w.heap.size, 0, none⟩ = some (.int .i64 c) ∧ W.cell? ⟨w.heap.size, 1, none⟩ = some (.slice none 0 0) ∧ Pz w c none 0 0 W)
            (repeat (first | with_reducible assumption | with_reducible exact hS0.out | with_reducible refine pz_box ?_ | with_reducible refine pz_drew ?_ | refine pz_far (by first | exact hlo | omega | (simp; omega)) ?_))
            (fail)
          all_goals
            rename_i hHeld
            go_wp2_with fail
            go_meet
            exact ⟨_, _, _, rfl, hHeld.2.2, (by repeat (first | with_reducible assumption | exact VarN.new_at (by first | rfl | (simp; done)) [.int .i64 c, .slice _ _ _] _ | with_reducible refine vp_drew ?_ | with_reducible refine vp_alloc ?_ | with_reducible refine vp_put ?_)), (by repeat (first | with_reducible assumption | exact lit_ownN _ _ _ (by first | rfl | (simp; done)) (by first | exact hlo | omega | (simp; omega)) | with_reducible refine ownN_drew ?_ | with_reducible refine ownN_alloc ?_ | refine ownN_far (by first | assumption | omega) ?_)), by first | exact hlo | omega | (simp; omega), by first | omega | (simp; done) | (simp; omega)⟩
        · go_region_held_law (fun W => W.cell? ⟨w.heap.size, 0, none⟩ = some (.int .i64 c) ∧ W.cell? ⟨w.heap.size, 1, none⟩ = some (.slice (some x) len cap) ∧ Pz w c (some x) len cap W)
            (repeat (first | with_reducible assumption | with_reducible exact hS0.out | with_reducible refine pz_box ?_ | with_reducible refine pz_drew ?_ | refine pz_far (by first | exact hlo | omega | (simp; omega)) ?_))
            (first
              | (refine step_catN (by rfl) _ _ (by rfl) (w.heap.size + 2) 0 len len _ _ _ _ [] es (Nat.zero_add _) (by rfl) OE1.out (by rfl) hl (ns_flat (HN0.out.below (And.right (And.right (show _ ∧ _ ∧ Pz w c (some x) len cap _ from by assumption))).b)) hle (And.right (And.right (show _ ∧ _ ∧ Pz w c (some x) len cap _ from by assumption))).lo ?_; intro g3 cap3 w' hown3 hgrow3 hat3; have hSg := pz_grow hgrow3 hlo (by assumption); have hg3 : w.heap.size + 2 ≤ g3 := own_ge hown3 rfl; have hHl := Lib.hid (rowLt hown3); have hHt := Lib.hid hat3; clear hat3)
              | (refine step_catN (by rfl) _ _ (by rfl) (w.heap.size + 2) 0 len len _ _ _ _ [] es (Nat.zero_add _) (by rfl) OE1d.out (by rfl) hl (ns_flat (HN0.out.below (And.right (And.right (show _ ∧ _ ∧ Pz w c (some x) len cap _ from by assumption))).b)) hle (And.right (And.right (show _ ∧ _ ∧ Pz w c (some x) len cap _ from by assumption))).lo ?_; intro g3 cap3 w' hown3 hgrow3 hat3; have hSg := pz_grow hgrow3 hlo (by assumption); have hg3 : w.heap.size + 2 ≤ g3 := own_ge hown3 rfl; have hHl := Lib.hid (rowLt hown3); have hHt := Lib.hid hat3; clear hat3)
              | (refine step_catN (by rfl) _ _ (by rfl) (w.heap.size + 2) 0 len len _ _ _ _ [] es (Nat.zero_add _) (by rfl) OE12.out (by rfl) hl (ns_flat (HN0.out.below (And.right (And.right (show _ ∧ _ ∧ Pz w c (some x) len cap _ from by assumption))).b)) hle (And.right (And.right (show _ ∧ _ ∧ Pz w c (some x) len cap _ from by assumption))).lo ?_; intro g3 cap3 w' hown3 hgrow3 hat3; have hSg := pz_grow hgrow3 hlo (by assumption); have hg3 : w.heap.size + 2 ≤ g3 := own_ge hown3 rfl; have hHl := Lib.hid (rowLt hown3); have hHt := Lib.hid hat3; clear hat3; have hOB := VarN.plus hO12.out hgrow3 lt12.out ne12.out; have o0 := (hOB 0 _ rfl).1; have o1 := (hOB 1 _ rfl).1; have of0 := (hOB 0 _ rfl).2; have of1 := (hOB 1 _ rfl).2)
              | (refine step_catN (by rfl) _ _ (by rfl) (w.heap.size + 2) 0 len len _ _ _ _ [] es (Nat.zero_add _) (by rfl) OE12d.out (by rfl) hl (ns_flat (HN0.out.below (And.right (And.right (show _ ∧ _ ∧ Pz w c (some x) len cap _ from by assumption))).b)) hle (And.right (And.right (show _ ∧ _ ∧ Pz w c (some x) len cap _ from by assumption))).lo ?_; intro g3 cap3 w' hown3 hgrow3 hat3; have hSg := pz_grow hgrow3 hlo (by assumption); have hg3 : w.heap.size + 2 ≤ g3 := own_ge hown3 rfl; have hHl := Lib.hid (rowLt hown3); have hHt := Lib.hid hat3; clear hat3; have hOB := VarN.plus hO12d.out hgrow3 lt12d.out ne12.out; have o0 := (hOB 0 _ rfl).1; have o1 := (hOB 1 _ rfl).1; have of0 := (hOB 0 _ rfl).2; have of1 := (hOB 1 _ rfl).2)
              | (refine step_catN (by rfl) _ _ (by rfl) (w.heap.size + 2) 0 len len _ _ _ _ [] es (Nat.zero_add _) (by rfl) OE21.out (by rfl) hl (ns_flat (HN0.out.below (And.right (And.right (show _ ∧ _ ∧ Pz w c (some x) len cap _ from by assumption))).b)) hle (And.right (And.right (show _ ∧ _ ∧ Pz w c (some x) len cap _ from by assumption))).lo ?_; intro g3 cap3 w' hown3 hgrow3 hat3; have hSg := pz_grow hgrow3 he21 (by assumption); have hg3 : w.heap.size + 2 ≤ g3 := own_ge hown3 rfl; have hHl := Lib.hid (rowLt hown3); have hHt := Lib.hid hat3; clear hat3; have hOB := VarN.plus hO21.out hgrow3 lt21.out ne21.out; have o0 := (hOB 0 _ rfl).1; have o1 := (hOB 1 _ rfl).1; have of0 := (hOB 0 _ rfl).2; have of1 := (hOB 1 _ rfl).2)
              | (refine step_catN (by rfl) _ _ (by rfl) (w.heap.size + 2) 0 len len _ _ _ _ [] es (Nat.zero_add _) (by rfl) OE21d.out (by rfl) hl (ns_flat (HN0.out.below (And.right (And.right (show _ ∧ _ ∧ Pz w c (some x) len cap _ from by assumption))).b)) hle (And.right (And.right (show _ ∧ _ ∧ Pz w c (some x) len cap _ from by assumption))).lo ?_; intro g3 cap3 w' hown3 hgrow3 hat3; have hSg := pz_grow hgrow3 he21 (by assumption); have hg3 : w.heap.size + 2 ≤ g3 := own_ge hown3 rfl; have hHl := Lib.hid (rowLt hown3); have hHt := Lib.hid hat3; clear hat3; have hOB := VarN.plus hO21d.out hgrow3 lt21d.out ne21.out; have o0 := (hOB 0 _ rfl).1; have o1 := (hOB 1 _ rfl).1; have of0 := (hOB 0 _ rfl).2; have of1 := (hOB 1 _ rfl).2))
          all_goals
            rename_i hHeld
            go_wp2_with fail
            go_meet
            have hn := hHl.out
            have hlo' := hSg.2.2.lo
            rcases hHt.out with hh | hh
            all_goals
              try simp at hh
              first
                | exact ⟨w'.heap.size, g3, cap3, rfl, hHeld.2.2, VarN.new_at rfl [.int .i64 c, .slice (some ⟨g3, 0, none⟩) len cap3] _, ownN_alloc hown3, hlo', by omega⟩
                | exact ⟨w1.heap.size + 1, g3, cap3, rfl, hHeld.2.2, vp_put hOB, ownN_far (by omega) (ownN_far (by omega) hown3), he21, by omega⟩
                | exact ⟨w1.heap.size, g3, cap3, rfl, hHeld.2.2, vp_put hOB, ownN_far (by omega) (ownN_far (by omega) hown3), hlo, by omega⟩
      case rest =>
        obtain ⟨D, g, cap2, rfl, hC⟩ := hcut
        have o0 := (hC.ob 0 _ rfl).1
        have o1 := (hC.ob 1 _ rfl).1
        have v0 := (hC.pz.pb 0 _ rfl).1
        have v1 := (hC.pz.pb 1 _ rfl).1
        have r0 := (hC.pz.rb 0 _ rfl).1
        have r1 := (hC.pz.rb 1 _ rfl).1
        have s0 := (hC.pz.rb 0 _ rfl).2
        have s1 := (hC.pz.rb 1 _ rfl).2
        have hC := Lib.hid hC
        have GW := Lib.hid (HN0.out.below hC.out.pz.b)
        clear OE1 OE1d OE12 OE12d OE21 OE21d hO12 hO12d hO21 hO21d lt12 lt12d lt21 lt21d ne12 ne21 hS0 PZ he21 hle G1
        by_cases hz : n ≤ 0
        · have OC := Lib.hid (hC.out.out (.int .i64 c) (.slice (some ⟨g, 0, none⟩) len cap2))
          have AV := Lib.hid (show AddV c es t c es 1 from .inl ⟨⟨HO.out, HT.out⟩, .inl ⟨.inl (by rw [HN.out]; exact hz), rfl, rfl, rfl⟩⟩)
          go_wp2
          refine bodyPost_ret (v := .tuple #[.agg #[.int .i64 c, .slice (some ⟨g, 0, none⟩) len cap2], .int .i64 1]) ?_ rfl ?_
          · simp [results, Try.results85, go_sem, r0, r1]
          · exact ⟨c, 1, es, _, _, _, rfl, AV.out, OC.out⟩
        · go_wp2_with fail
          refine (l21Has_any a len cap es n _ GW.out).mono ?_
          rintro e w5 ⟨rfl, hb5⟩
          have hC := Lib.hid (hC.out.up hb5)
          clear hb5 o0 o1 v0 v1 r0 r1 s0 s1 GW
          have o0 := (hC.out.ob 0 _ rfl).1
          have o1 := (hC.out.ob 1 _ rfl).1
          have v0 := (hC.out.pz.pb 0 _ rfl).1
          have v1 := (hC.out.pz.pb 1 _ rfl).1
          have r0 := (hC.out.pz.rb 0 _ rfl).1
          have r1 := (hC.out.pz.rb 1 _ rfl).1
          have s0 := (hC.out.pz.rb 0 _ rfl).2
          have s1 := (hC.out.pz.rb 1 _ rfl).2
          by_cases hin : n ∈ es
          · have D1 := decide_eq_true hin
            rw [D1]
            have OC := Lib.hid (hC.out.out (.int .i64 c) (.slice (some ⟨g, 0, none⟩) len cap2))
            have AV := Lib.hid (show AddV c es t c es 1 from .inl ⟨⟨HO.out, HT.out⟩, .inl ⟨.inr (by rw [HN.out]; exact hin), rfl, rfl, rfl⟩⟩)
            clear hin D1
            go_wp2
            refine bodyPost_ret (v := .tuple #[.agg #[.int .i64 c, .slice (some ⟨g, 0, none⟩) len cap2], .int .i64 1]) ?_ rfl ?_
            · simp [results, Try.results85, go_sem, r0, r1]
            · exact ⟨c, 1, es, _, _, _, rfl, AV.out, OC.out⟩
          · have D1 := decide_eq_false hin
            rw [D1]
            by_cases h16 : n > 16
            · have OC := Lib.hid (hC.out.out (.int .i64 c) (.slice (some ⟨g, 0, none⟩) len cap2))
              have AV := Lib.hid (show AddV c es t c es 2 from .inl ⟨⟨HO.out, HT.out⟩, .inr (.inl ⟨fun h => h.elim (fun h => by have := HN.out; omega) (fun h => hin (by rw [← HN.out]; exact h)), by rw [HN.out]; exact h16, rfl, rfl, rfl⟩)⟩)
              clear hin D1
              go_wp2
              refine bodyPost_ret (v := .tuple #[.agg #[.int .i64 c, .slice (some ⟨g, 0, none⟩) len cap2], .int .i64 2]) ?_ rfl ?_
              · simp [results, Try.results85, go_sem, r0, r1]
              · exact ⟨c, 2, es, _, _, _, rfl, AV.out, OC.out⟩
            · have HF := Lib.hid (show Fresh es n from ⟨by omega, by omega, hin⟩)
              have HRg := Lib.hid (show ∀ j ∈ es ++ [n], 1 ≤ j ∧ j ≤ 16 from fun j hj => by
                rcases List.mem_append.1 hj with hj | hj
                · have := asc_low HO.out.2 _ hj
                  omega
                · obtain rfl : j = n := by simpa using hj
                  omega)
              have hg2 : w.heap.size + 2 ≤ g := own_ge hC.out.own rfl
              have hC1 := hC.out.n1
              have hC3 := hC.out.n3
              have hgne : w.heap.size + 1 ≠ g := by omega
              have hle1 : len + 1 ≤ 10000000 := by omega
              have CZ := Lib.hid (show Cz w c a len cap D g cap2 w5 from ⟨hC.out.pz.pb, hC.out.ob, hC.out.pz.b⟩)
              have hS0 := Lib.hid (cz_at CZ.out)
              have hlo5 := hC.out.pz.lo
              have OA := Lib.hid (ownN_alloc (o := (.cells #[.int .i64 n] 3)) hC.out.own)
              have OAd := Lib.hid (ownN_drew OA.out)
              have RA := Lib.hid (show VarN (w.heap.size + 1) [.int .i64 0, .slice none 0 0] (w5.alloc (.cells #[.int .i64 n] 3)) from vp_alloc hC.out.pz.rb)
              have RAd := Lib.hid (vp_drew RA.out)
              have NB := Lib.hid (show ∀ j u, (flatN [n])[j]? = some u → (w5.alloc (.cells #[.int .i64 n] 3)).cell? ((⟨w5.heap.size, 0, none⟩ : Addr).add j) = some u from news_box rfl)
              have NBd := Lib.hid (show ∀ j u, (flatN [n])[j]? = some u → (w5.alloc (.cells #[.int .i64 n] 3)).drew.cell? ((⟨w5.heap.size, 0, none⟩ : Addr).add j) = some u from fun j u hu => (NB.out j u hu))
              have ltA : w.heap.size + 1 < (w5.alloc (.cells #[.int .i64 n] 3)).heap.size := by simp; omega
              have ltAd : w.heap.size + 1 < (w5.alloc (.cells #[.int .i64 n] 3)).drew.heap.size := by simp; omega
              have CZA := Lib.hid (CZ.out.up (below_box (.cells #[.int .i64 n] 3) (Nat.le_refl _)))
              have CZAd := Lib.hid (CZA.out.up (Below.drew (Below.refl _ _)))
              clear hin D1
              go_wp2_with fail
              clear hC hz h16 r0 r1 s0 s1 v1 v0 o0 o1 hlo5
              go_region_held_law (fun W => W.cell? ⟨w.heap.size, 0, none⟩ = some (.int .i64 c) ∧ W.cell? ⟨D, 1, none⟩ = some (.slice (some ⟨g, 0, none⟩) len cap2) ∧ Cz w c a len cap D g cap2 W)
                (repeat (first | with_reducible assumption | with_reducible exact hS0.out | with_reducible exact cz_box hS0.out | with_reducible refine cz_box ?_ | with_reducible refine cz_drew ?_ | refine cz_far hC1 ?_))
                (first
                  | (refine step_catN (by rfl) _ _ (by rfl) (w.heap.size + 2) len 1 (len + 1) _ _ _ _ es [n] rfl (by rfl) OA.out (by rfl) rfl NB.out hle1 ltA ?_; intro g3 cap3 w' hown3 hgrow3 hat3; have hSg := cz_at (Cz.grow CZA.out hgrow3 hg2 hC3); have OW := Lib.hid (own_ns hown3); have hRB := Lib.hid (VarN.plus RA.out hgrow3 ltA hgne); clear hat3)
                  | (refine step_catN (by rfl) _ _ (by rfl) (w.heap.size + 2) len 1 (len + 1) _ _ _ _ es [n] rfl (by rfl) OAd.out (by rfl) rfl NBd.out hle1 ltAd ?_; intro g3 cap3 w' hown3 hgrow3 hat3; have hSg := cz_at (Cz.grow CZAd.out hgrow3 hg2 hC3); have OW := Lib.hid (own_ns hown3); have hRB := Lib.hid (VarN.plus RAd.out hgrow3 ltAd hgne); clear hat3)
                  | (go_simp; go_at_call 92; refine (l21Move_any c (some ⟨g3, 0, none⟩) (len + 1) cap3 (es ++ [n]) _ OW.out HS.out HRg.out).mono ?_; rintro e w8 ⟨nn, k8, g8, cap8, ds, rfl, hm8, ho8⟩; have hSm := cz_at (Cz.up hSg.2.2 ho8.b); have r0 := ((VarN.below hRB.out ho8.b (lt_of_cell (hRB.out 0 _ rfl).1)) 0 _ rfl).1; have r1 := ((VarN.below hRB.out ho8.b (lt_of_cell (hRB.out 0 _ rfl).1)) 1 _ rfl).1; have s0 := ((VarN.below hRB.out ho8.b (lt_of_cell (hRB.out 0 _ rfl).1)) 0 _ rfl).2; have s1 := ((VarN.below hRB.out ho8.b (lt_of_cell (hRB.out 0 _ rfl).1)) 1 _ rfl).2; have h8lo := Nat.le_trans (lt_of_cell (hRB.out 0 _ rfl).1) (own_ge ho8.own rfl); have FIN := Lib.hid (OwnN.low ho8 (Cz.b hSg.2.2)); have HM8 := Lib.hid hm8; clear hm8 ho8)
                  | (go_simp; go_at_call 92; refine (l21Move_any c (some ⟨g3, 0, none⟩) (len + 1) cap3 (es ++ [n]) _ (OW.out.below (Below.drew (Below.refl _ _))) HS.out HRg.out).mono ?_; rintro e w8 ⟨nn, k8, g8, cap8, ds, rfl, hm8, ho8⟩; have hSm := cz_at (Cz.up (hSg.2.2.up (Below.drew (Below.refl _ _))) ho8.b); have r0 := ((VarN.below (vp_drew hRB.out) ho8.b (lt_of_cell ((vp_drew hRB.out) 0 _ rfl).1)) 0 _ rfl).1; have r1 := ((VarN.below (vp_drew hRB.out) ho8.b (lt_of_cell ((vp_drew hRB.out) 0 _ rfl).1)) 1 _ rfl).1; have s0 := ((VarN.below (vp_drew hRB.out) ho8.b (lt_of_cell ((vp_drew hRB.out) 0 _ rfl).1)) 0 _ rfl).2; have s1 := ((VarN.below (vp_drew hRB.out) ho8.b (lt_of_cell ((vp_drew hRB.out) 0 _ rfl).1)) 1 _ rfl).2; have h8lo := Nat.le_trans (lt_of_cell ((vp_drew hRB.out) 0 _ rfl).1) (own_ge ho8.own rfl); have FIN := Lib.hid (OwnN.low ho8 (Cz.b (hSg.2.2.up (Below.drew (Below.refl _ _))))); have HM8 := Lib.hid hm8; clear hm8 ho8))
              all_goals
                have AV := Lib.hid (show AddV c es t (addS c nn) ds 0 from .inl ⟨⟨HO.out, HT.out⟩, .inr (.inr ⟨by rw [HN.out]; exact HF.out, rfl, nn, moved_congr HM8.out (fun j => by rw [HN.out]; simp [With]), rfl⟩)⟩)
                have OC := Lib.hid ((FIN.out.far (i := 0) (d := w.heap.size + 1) (by omega) (Nat.le_succ _) (.int .i64 (addS c nn))).far (i := 1) (d := w.heap.size + 1) (by omega) (Nat.le_succ _) (.slice (some ⟨g8, 0, none⟩) k8 cap8))
                go_wp2
                refine bodyPost_ret (v := .tuple #[.agg #[.int .i64 (addS c nn), .slice (some ⟨g8, 0, none⟩) k8 cap8], .int .i64 0]) ?_ rfl ?_
                · simp [results, Try.results85, go_sem, r0, r1]
                · exact ⟨_, 0, ds, _, _, _, rfl, AV.out, OC.out⟩
    · have S3 := Lib.hid (show AddV c es t 0 [] 3 from .inr ⟨fun h => ht h.2, rfl, rfl, rfl⟩)
      have HT := Lib.hid ht
      clear hs ht
      go_enter Try.func85, Try.ntmps85
      go_wp2_with fail
      refine (sSeenValid_any c a len cap es _ HG.out).mono ?_
      rw [S1.out]
      rintro e w1 ⟨rfl, hb1⟩
      have R1 := Lib.hid (R0.out.below hb1 (by simp))
      have B1 := Lib.hid (HP2.out.trans (hb1.mono HP2.out.size))
      have r0 := (R1.out 0 _ rfl).1
      have r1 := (R1.out 1 _ rfl).1
      have s0 := (R1.out 0 _ rfl).2
      have s1 := (R1.out 1 _ rfl).2
      have OC := Lib.hid (OwnN.nil ((B1.out.setCell (p := ⟨w.heap.size + 1, 0, none⟩) (Nat.le_succ _) (.int .i64 0)).setCell (p := ⟨w.heap.size + 1, 1, none⟩) (Nat.le_succ _) (.slice none 0 0)))
      clear hb1 V0 HG HP HP2 R0 R1
      go_wp2_with fail
      refine (l3Ok_no t _ HT.out).mono ?_
      rintro e w2 ⟨rfl, rfl⟩
      go_wp2
      refine bodyPost_ret (v := .tuple #[.agg #[.int .i64 0, .slice none 0 0], .int .i64 3]) ?_ rfl ?_
      · simp [results, Try.results85, go_sem, r0, r1]
      · exact ⟨_, 3, [], _, _, _, rfl, S3.out, OC.out⟩
  · have S1 := Lib.hid (seenV_no hs)
    have S3 := Lib.hid (show AddV c es t 0 [] 3 from .inr ⟨fun h => hs h.1, rfl, rfl, rfl⟩)
    clear hs
    go_enter Try.func85, Try.ntmps85
    go_wp2_with fail
    refine (sSeenValid_any c a len cap es _ HG.out).mono ?_
    rw [S1.out]
    rintro e w1 ⟨rfl, hb1⟩
    have R1 := Lib.hid (R0.out.below hb1 (by simp))
    have B1 := Lib.hid (HP2.out.trans (hb1.mono HP2.out.size))
    have r0 := (R1.out 0 _ rfl).1
    have r1 := (R1.out 1 _ rfl).1
    have s0 := (R1.out 0 _ rfl).2
    have s1 := (R1.out 1 _ rfl).2
    have OC := Lib.hid (OwnN.nil ((B1.out.setCell (p := ⟨w.heap.size + 1, 0, none⟩) (Nat.le_succ _) (.int .i64 0)).setCell (p := ⟨w.heap.size + 1, 1, none⟩) (Nat.le_succ _) (.slice none 0 0)))
    clear hb1 V0 HG HP HP2 R0 R1
    go_wp2
    refine bodyPost_ret (v := .tuple #[.agg #[.int .i64 0, .slice none 0 0], .int .i64 3]) ?_ rfl ?_
    · simp [results, Try.results85, go_sem, r0, r1]
    · exact ⟨_, 3, [], _, _, _, rfl, S3.out, OC.out⟩

end Go.Proofs.Ytcjabomcndahbaa
