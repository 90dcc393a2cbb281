/- Texts that a proof needs, merged: K162, K128, K163, K191, K192, G31, K140, K141, K142. -/
import Derived.Test.YtncbgejggfkdmaaM3
import Derived.Deep.RegionLaw
import Derived.Deep.CutRange
import Derived.Deep.DeepCutAuto
import Derived.BigQuiet
import Derived.Handy
import Derived.Maps.AppendAt
import Derived.Maps.OwnSet
import Derived.Deep.AppendLies
import Derived.IntWalk

/- The contracts of chapter 22's model: a message is taken out. -/
namespace Go.Proofs.Ytncbgejggfkdmaa
open Go.RowKit Go.PlainAid

/-- While a message is taken out: the assembly's box, the answers' boxes, the first part at B, behind it the message with the text X. -/
structure Tq (B : Nat) (an : Option Addr) (ln cn : Nat) (ap : Option Addr) (lp cp : Nat) (d : Part) (X : ByteArray) (w W : World) : Prop where
  a : VarN w.heap.size [.slice an ln cn, .slice ap lp cp] W
  ra : VarN (w.heap.size + 1) [.slice none 0 0, .slice none 0 0] W
  rm : VarN (w.heap.size + 2) [.int .i64 0, .int .i64 0, .bool false, .string (ByteArray.mk #[])] W
  fd : VarN B (cellsP d) W
  m : VarN (B + 1) [.int .i64 d.stream, .int .i64 d.ssn, .bool d.loose, .string X] W
  b : Below w.heap.size w W
  z : B + 2 ≤ W.heap.size
  lo : w.heap.size + 3 ≤ B
section
variable {B : Nat} {w W W' : World} {an : Option Addr} {ln cn : Nat} {ap : Option Addr} {lp cp : Nat} {d : Part} {X : ByteArray}
theorem Tq.step (h : Tq B an ln cn ap lp cp d X w W) (hb : Below (B + 2) W W') : Tq B an ln cn ap lp cp d X w W' :=
  have h0 := h.lo
  ⟨h.a.below hb (by omega), h.ra.below hb (by omega), h.rm.below hb (by omega), h.fd.below hb (by omega), h.m.below hb (by omega), h.b.trans (hb.mono (by omega)), Nat.le_trans h.z hb.size, h0⟩
theorem Tq.drew (h : Tq B an ln cn ap lp cp d X w W) : Tq B an ln cn ap lp cp d X w W.drew := h.step (Below.drew (Below.refl _ _))
theorem Tq.text (h : Tq B an ln cn ap lp cp d X w W) (Y : ByteArray) : Tq B an ln cn ap lp cp d Y w (W.setCell ⟨B + 1, 3, none⟩ (.string Y)) :=
  have h0 := h.lo
  ⟨h.a.far _ (by omega), h.ra.far _ (by omega), h.rm.far _ (by omega), h.fd.far _ (by omega), h.m.set (i := 3) _, h.b.setCell (p := ⟨B + 1, 3, none⟩) (by show w.heap.size ≤ B + 1; omega) _, by simpa using h.z, h0⟩
end
/-- Two, four cells are stored. -/
def st2 (W : World) (b : Nat) (v0 v1 : Value) : World := (W.setCell ⟨b, 0, none⟩ v0).setCell ⟨b, 1, none⟩ v1
def st4 (W : World) (b : Nat) (u0 u1 u2 u3 : Value) : World := (((W.setCell ⟨b, 0, none⟩ u0).setCell ⟨b, 1, none⟩ u1).setCell ⟨b, 2, none⟩ u2).setCell ⟨b, 3, none⟩ u3
theorem st2_heap (W : World) (b : Nat) (v0 v1 : Value) {x : Nat} (h : x ≠ b) : (st2 W b v0 v1).heap[x]? = W.heap[x]? := by
  unfold st2
  rw [Below.heap_setCell _ _ _ _ h, Below.heap_setCell _ _ _ _ h]
theorem st4_heap (W : World) (b : Nat) (u0 u1 u2 u3 : Value) {x : Nat} (h : x ≠ b) : (st4 W b u0 u1 u2 u3).heap[x]? = W.heap[x]? := by
  unfold st4
  rw [Below.heap_setCell _ _ _ _ h, Below.heap_setCell _ _ _ _ h, Below.heap_setCell _ _ _ _ h, Below.heap_setCell _ _ _ _ h]
theorem st2_below {R b : Nat} {w W : World} (h : Below R w W) (hb : R ≤ b) (v0 v1 : Value) : Below R w (st2 W b v0 v1) := (h.setCell (p := ⟨b, 0, none⟩) hb v0).setCell (p := ⟨b, 1, none⟩) hb v1
theorem st4_below {R b : Nat} {w W : World} (h : Below R w W) (hb : R ≤ b) (u0 u1 u2 u3 : Value) : Below R w (st4 W b u0 u1 u2 u3) := (((h.setCell (p := ⟨b, 0, none⟩) hb u0).setCell (p := ⟨b, 1, none⟩) hb u1).setCell (p := ⟨b, 2, none⟩) hb u2).setCell (p := ⟨b, 3, none⟩) hb u3
theorem drew_row {base e size n : Nat} {v : Value} {xs : List Value} {W W' : World} (h : W.ownsRow base e size v n xs) (he : ∀ x, base ≤ x → W'.heap[x]? = W.heap[x]?) : W'.drew.ownsRow base e size v n xs := row_same h fun x h1 _ => he x h1
/-- .. and what is left: numbers at g3, parts at g2, both in a variable at ob. -/
structure Tr (B : Nat) (an : Option Addr) (ln cn : Nat) (ap : Option Addr) (lp cp : Nat) (d : Part) (X : ByteArray) (ob g3 cap3 g2 k cap2 : Nat) (next2 : List Int) (qs : List Part) (w W : World) : Prop where
  q : Tq B an ln cn ap lp cp d X w W
  o : VarN ob [.slice (some ⟨g3, 0, none⟩) ln cap3, .slice (some ⟨g2, 0, none⟩) k cap2] W
  nr : Nrow g3 ln cap3 next2 W
  pr : W.ownsRow (B + 2) 28 7 (.slice (some ⟨g2, 0, none⟩) k cap2) k (flatP qs)
  lo : B + 2 ≤ ob ∧ B + 2 ≤ g3
  ne : g2 ≠ ob ∧ g3 ≠ ob ∧ g2 ≠ g3
section
variable {B : Nat} {w W W' : World} {an : Option Addr} {ln cn : Nat} {ap : Option Addr} {lp cp : Nat} {d : Part} {X : ByteArray} {ob g3 cap3 g2 k cap2 : Nat} {next2 : List Int} {qs : List Part}
theorem Nrow.lt {G n c : Nat} {es : List Int} (h : Nrow G n c es W) : G < W.heap.size := rowLt h
theorem Tr.step (h : Tr B an ln cn ap lp cp d X ob g3 cap3 g2 k cap2 next2 qs w W) (hb : Below W.heap.size W W') : Tr B an ln cn ap lp cp d X ob g3 cap3 g2 k cap2 next2 qs w W' :=
  ⟨h.q.step (hb.mono h.q.z), h.o.below hb h.o.lt, h.nr.below hb h.nr.lt, rowBelow h.pr hb (rowLt h.pr), h.lo, h.ne⟩
theorem Tr.drewT (h : Tr B an ln cn ap lp cp d X ob g3 cap3 g2 k cap2 next2 qs w W) : Tr B an ln cn ap lp cp d X ob g3 cap3 g2 k cap2 next2 qs w W.drew := h.step (Below.drew (Below.refl _ _))
theorem Tr.push {W1 : World} {g4 cap4 : Nat} {p : Part} (h : Tr B an ln cn ap lp cp d X ob g3 cap3 g2 k cap2 next2 qs w W) (hg : W.grownBy W1 (some g2)) (hown : W1.ownsRow (B + 2) 28 7 (.slice (some ⟨g4, 0, none⟩) (k + 1) cap4) (k + 1) (flatP qs ++ cellsP p)) (hat : g2 = g4 ∨ W.heap.size ≤ g4) :
    Tr B an ln cn ap lp cp d X ob g3 cap3 g4 (k + 1) cap4 next2 (qs ++ [p]) w (W1.setCell ⟨ob, 1, none⟩ (.slice (some ⟨g4, 0, none⟩) (k + 1) cap4)) := by
  have h1 := h.o.lt
  have h2 := h.nr.lt
  have h3 := own_ge h.pr rfl
  have h4 := h.lo
  have h5 := h.ne
  have e : flatP qs ++ cellsP p = flatP (qs ++ [p]) := by rw [flatP_append]; simp [flatP]
  have n1 : g4 ≠ ob := by rcases hat with h | h <;> omega
  have n2 : g4 ≠ g3 := by rcases hat with h | h <;> omega
  have hb : Below (B + 2) W W1 := Below.grown (Below.refl _ W) hg h.q.z fun x hx => by cases hx; exact h3
  refine ⟨(h.q.step hb).step ((Below.refl _ _).setCell (p := ⟨ob, 1, none⟩) h4.1 _), (h.o.plus hg h1 h5.1.symm).set (i := 1) _, (h.nr.blk (hg.block g3 h2 (by simpa using h5.2.2.symm))).blk (Below.heap_setCell _ _ _ _ (by simpa using h5.2.1)), rowFar (by rw [← e]; exact hown) n1 _, h4, n1, h5.2.1, n2⟩
theorem Tr.number (h : Tr B an ln cn ap lp cp d X ob g3 cap3 g2 k cap2 next2 qs w W) (i : Nat) (x : Int) : Tr B an ln cn ap lp cp d X ob g3 cap3 g2 k cap2 (next2.set i x) qs w (W.setCell ⟨g3, i, none⟩ (.int .i64 x)) :=
  ⟨h.q.step ((Below.refl _ _).setCell (p := ⟨g3, i, none⟩) h.lo.2 _), h.o.far _ h.ne.2.1, h.nr.set i x, rowFar h.pr h.ne.2.2 _, h.lo, h.ne⟩
theorem Tr.done (h : Tr B an ln cn ap lp cp d X ob g3 cap3 g2 k cap2 next2 qs w W) (v0 v1 u0 u1 u2 u3 : Value) :
    VarN (w.heap.size + 1) [v0, v1] (st4 (st2 W (w.heap.size + 1) v0 v1) (w.heap.size + 1 + 1) u0 u1 u2 u3).drew ∧
    VarN (w.heap.size + 1 + 1) [u0, u1, u2, u3] (st4 (st2 W (w.heap.size + 1) v0 v1) (w.heap.size + 1 + 1) u0 u1 u2 u3).drew ∧
    (st4 (st2 W (w.heap.size + 1) v0 v1) (w.heap.size + 1 + 1) u0 u1 u2 u3).drew.ownsRow w.heap.size 3 1 (.slice (some ⟨g3, 0, none⟩) ln cap3) ln (flatN next2) ∧
    (st4 (st2 W (w.heap.size + 1) v0 v1) (w.heap.size + 1 + 1) u0 u1 u2 u3).drew.ownsRow w.heap.size 28 7 (.slice (some ⟨g2, 0, none⟩) k cap2) k (flatP qs) ∧
    Below w.heap.size w (st4 (st2 W (w.heap.size + 1) v0 v1) (w.heap.size + 1 + 1) u0 u1 u2 u3).drew := by
  have hl := h.q.lo
  have hlo := h.lo
  have hg2 := own_ge h.pr rfl
  have e : ∀ x, B + 2 ≤ x → (st4 (st2 W (w.heap.size + 1) v0 v1) (w.heap.size + 1 + 1) u0 u1 u2 u3).heap[x]? = W.heap[x]? := fun x hx => by
    rw [st4_heap _ _ _ _ _ _ (by omega), st2_heap _ _ _ _ (by omega)]
  have va : VarN (w.heap.size + 1) [v0, v1] (st2 W (w.heap.size + 1) v0 v1) := (h.q.ra.set (i := 0) v0).set (i := 1) v1
  have vm : VarN (w.heap.size + 1 + 1) [.int .i64 0, .int .i64 0, .bool false, .string (ByteArray.mk #[])] (st2 W (w.heap.size + 1) v0 v1) := h.q.rm.blk (st2_heap _ _ _ _ (by omega))
  have vm4 : VarN (w.heap.size + 1 + 1) [u0, u1, u2, u3] (st4 (st2 W (w.heap.size + 1) v0 v1) (w.heap.size + 1 + 1) u0 u1 u2 u3) := vm.put4 u0 u1 u2 u3
  have va4 : VarN (w.heap.size + 1) [v0, v1] (st4 (st2 W (w.heap.size + 1) v0 v1) (w.heap.size + 1 + 1) u0 u1 u2 u3) := va.blk (st4_heap _ _ _ _ _ _ (by omega))
  exact ⟨va4.drewN 1, vm4.drewN 1, row_low (drew_row (row_low h.nr hlo.2) fun x hx => e x hx) (by omega), row_low (drew_row h.pr fun x hx => e x hx) (by omega), (st4_below (st2_below h.q.b (Nat.le_succ _) _ _) (by omega) _ _ _ _).drew⟩
end

set_option maxRecDepth 8000 in
set_option maxHeartbeats 20000000 in
theorem l22Take_any (y : Addr) (ln cn : Nat) (next : List Int) (x : Addr) (lp cp : Nat) (ps : List Part) (gc m cc k0 : Nat) (ch : List Nat) (w : World) (h : Ns w (some y) ln cn next) (hp : Pts w (some x) lp cp ps) (hc : Ns w (some ⟨gc, 0, none⟩) m cc (natI ch)) (ha : AsmOk next ps) (hch : Chn ps k0 ch) :
    Calls Try.prog 53 #[.agg #[.slice (some y) ln cn, .slice (some x) lp cp], .slice (some ⟨gc, 0, none⟩) m cc] w fun e w' => ∃ g3 c3 g2 c2, e = .returned (.tuple #[.agg #[.slice (some ⟨g3, 0, none⟩) ln c3, .slice (some ⟨g2, 0, none⟩) (restP ps ch).length c2], msgV (msgP ps ch)]) ∧
      w'.ownsRow w.heap.size 3 1 (.slice (some ⟨g3, 0, none⟩) ln c3) ln (flatN (nextP next (headD ps ch))) ∧ w'.ownsRow w.heap.size 28 7 (.slice (some ⟨g2, 0, none⟩) (restP ps ch).length c2) (restP ps ch).length (flatP (restP ps ch)) ∧ Below w.heap.size w w' := by
  have hl := h.length
  have hlp := hp.length
  have hmp := hp.len_int
  have hml : ch.length = m := by have := hc.length; rwa [natI_length] at this
  have hpos : 0 < m := by rw [← hml]; exact List.length_pos_iff.2 hch.cn.ne
  have hm13 : m ≤ 13 := by rw [← hml]; exact hch.cn.len
  have h0 : ch.getD 0 0 < ps.length := hch.cn.lt _ (getD_in (by omega))
  have HD := Lib.hid (ha.ok _ (pAt_mem h0))
  have hl4 : ln ≤ 4 := by rw [← hl]; exact ha.n4
  have hlp12 : lp ≤ 12 := by rw [← hlp]; exact ha.few
  have i0 : (0 : Int) < (m : Int) := by omega
  have LN := Lib.hid hl
  have LP := Lib.hid hlp
  have LM := Lib.hid hml
  have HN := Lib.hid h
  have HP := Lib.hid hp
  have HC := Lib.hid hc
  have HCH := Lib.hid hch
  have HA := Lib.hid ha
  obtain ⟨c0, hc0⟩ : ∃ c, ch.getD 0 0 = c := ⟨_, rfl⟩
  have HC0 := Lib.hid hc0
  have hclp : c0 < lp := by rw [← hc0, ← hlp]; exact h0
  have ci : (c0 : Int) < (lp : Int) := by omega
  have B3 := Lib.hid (show Below w.heap.size w (((w.alloc (.cells #[.slice (some y) ln cn, .slice (some x) lp cp] 26)).alloc (.cells #[.slice none 0 0, .slice none 0 0] 26)).alloc (.cells #[.int .i64 0, .int .i64 0, .bool false, .string (ByteArray.mk #[])] 45)) from ((below_box _ (Nat.le_refl _)).alloc (by simp) _).alloc (by first | (simp; done) | (simp; omega)) _)
  have V0 := Lib.hid (show VarN w.heap.size [.slice (some y) ln cn, .slice (some x) lp cp] (((w.alloc (.cells #[.slice (some y) ln cn, .slice (some x) lp cp] 26)).alloc (.cells #[.slice none 0 0, .slice none 0 0] 26)).alloc (.cells #[.int .i64 0, .int .i64 0, .bool false, .string (ByteArray.mk #[])] 45)) from ((VarN.new w _ _).alloc _ (by simp)).alloc _ (by first | (simp; done) | (simp; omega)))
  have V1 := Lib.hid (show VarN (w.heap.size + 1) [.slice none 0 0, .slice none 0 0] (((w.alloc (.cells #[.slice (some y) ln cn, .slice (some x) lp cp] 26)).alloc (.cells #[.slice none 0 0, .slice none 0 0] 26)).alloc (.cells #[.int .i64 0, .int .i64 0, .bool false, .string (ByteArray.mk #[])] 45)) from (VarN.new_at (by simp) _ _).alloc _ (by first | (simp; done) | (simp; omega)))
  have V2 := Lib.hid (show VarN (w.heap.size + 2) [.int .i64 0, .int .i64 0, .bool false, .string (ByteArray.mk #[])] (((w.alloc (.cells #[.slice (some y) ln cn, .slice (some x) lp cp] 26)).alloc (.cells #[.slice none 0 0, .slice none 0 0] 26)).alloc (.cells #[.int .i64 0, .int .i64 0, .bool false, .string (ByteArray.mk #[])] 45)) from VarN.new_at (by simp) _ _)
  have Z3 := Lib.hid (show w.heap.size + 3 ≤ ((((w.alloc (.cells #[.slice (some y) ln cn, .slice (some x) lp cp] 26)).alloc (.cells #[.slice none 0 0, .slice none 0 0] 26)).alloc (.cells #[.int .i64 0, .int .i64 0, .bool false, .string (ByteArray.mk #[])] 45))).heap.size by simp)
  clear h hp hc hch ha hl hlp hml hc0 h0
  go_enter Try.func53, Try.ntmps53
  go_upto_region 1 with fail
  generalize (((w.alloc (.cells #[.slice (some y) ln cn, .slice (some x) lp cp] 26)).alloc (.cells #[.slice none 0 0, .slice none 0 0] 26)).alloc (.cells #[.int .i64 0, .int .i64 0, .bool false, .string (ByteArray.mk #[])] 45)) = w3 at *
  have q0 := HC.out.at B3.out hpos
  rw [n_add, natI_at (by rw [LM.out]; exact hpos), HC0.out] at q0
  obtain ⟨p0, p1, p2, p3, p4, p5, p6⟩ := HP.out.at B3.out hclp
  obtain ⟨⟨t, sI, q, fi, la, lo, tx⟩, hd⟩ : ∃ d, pAt ps c0 = d := ⟨_, rfl⟩
  have HDE := Lib.hid hd
  rw [hd] at p0 p1 p2 p3 p4 p5 p6
  rw [HC0.out, hd] at HD
  clear hd
  obtain ⟨sn, rfl⟩ : ∃ sn : Nat, sI = (sn : Int) := ⟨sI.toNat, by have := HD.out.1.2.1.1; dsimp only at this; omega⟩
  dsimp only at p0 p1 p2 p3 p4 p5 p6
  have v0 := (V0.out 1 _ rfl).1
  have lv0 := lt_of_cell v0
  have lgc := lt_of_cell q0
  have lpb : (x.add (c0 * 7)).block < w3.heap.size := World.block_lt_of_cell? w3 _ p0
  go_region
  have T0 := Lib.hid (show Tq w3.heap.size (some y) ln cn (some x) lp cp ⟨t, sn, q, fi, la, lo, tx⟩ (ByteArray.mk #[]) w (((w3.alloc (.cells #[.int .i64 t, .int .i64 sn, .int .i64 q, .bool fi, .bool la, .bool lo, .string tx] 28)).alloc (.cells #[.int .i64 sn, .int .i64 q, .bool lo, .string (ByteArray.mk #[])] 45)).drew) from by
    have hb : Below w3.heap.size w3 (((w3.alloc (.cells #[.int .i64 t, .int .i64 sn, .int .i64 q, .bool fi, .bool la, .bool lo, .string tx] 28)).alloc (.cells #[.int .i64 sn, .int .i64 q, .bool lo, .string (ByteArray.mk #[])] 45)).drew) := Below.drew ((below_box _ (Nat.le_refl _)).alloc (by simp) _)
    have z := Z3.out
    exact ⟨V0.out.below hb (by omega), V1.out.below hb (by omega), V2.out.below hb (by omega), ((VarN.new w3 (cellsP ⟨t, sn, q, fi, la, lo, tx⟩) _).alloc _ (by simp)).drewN 1, (VarN.new_at (by simp) _ _).drewN 1, B3.out.trans (hb.mono (by omega)), by simp [World.drew], z⟩)
  have S0 := HD.out.1.2.1
  have hsn : sn < ln := by have := HD.out.2; rw [LN.out] at this; dsimp only at this; omega
  have SQ := Lib.hid (show Ser q from ⟨HD.out.1.2.2.1.1, by have := HD.out.1.2.2.1.2; dsimp only at this; omega⟩)
  clear q0 p0 p1 p2 p3 p4 p5 p6 v0 lv0 lgc lpb V0 V1 V2 B3 Z3 S0
  go_wp2
  obtain ⟨B, hB⟩ : ∃ B, w3.heap.size = B := ⟨_, rfl⟩
  rw [hB] at T0 ⊢
  have HB3 := Lib.hid hB
  clear hB
  go_loopw [8] (fun c wr => ∃ (i : Nat) (X : ByteArray), i ≤ m ∧ c = .int .i64 i ∧ Hid (X = textP ps (ch.take i)) ∧ X.size ≤ 20 * i ∧ Hid (Tq B (some y) ln cn (some x) lp cp ⟨t, sn, q, fi, la, lo, tx⟩ X w wr)) (fun c _ => m - (intOf c).toNat)
  case atStart => exact ⟨0, _, Nat.zero_le _, rfl, rfl, Nat.le_refl _, T0⟩
  case round =>
    obtain ⟨i, X, hi, rfl, hX, hXz, hT⟩ := hrel
    clear T0
    by_cases hlt : i < m
    · have hil : i < ch.length := by rw [LM.out]; exact hlt
      have qi := HC.out.at hT.out.b hlt
      rw [n_add, natI_at hil] at qi
      have hcm := HCH.out.cn.lt _ (getD_in hil)
      have HDC := Lib.hid (HA.out.ok _ (pAt_mem hcm))
      obtain ⟨c, hc⟩ : ∃ c, ch.getD i 0 = c := ⟨_, rfl⟩
      rw [hc] at qi hcm HDC
      have hclp2 : c < lp := by rw [← LP.out]; exact hcm
      have ci2 : (c : Int) < (lp : Int) := by omega
      obtain ⟨_, _, _, _, _, _, p6⟩ := HP.out.at hT.out.b hclp2
      obtain ⟨Y, hY⟩ : ∃ Y, (pAt ps c).text = Y := ⟨_, rfl⟩
      have hYz : Y.size ≤ 20 := by have := HDC.out.1.2.2.2.2; rwa [hY] at this
      have EX := Lib.hid (show X ++ Y = textP ps (ch.take (i + 1)) by
        have e2 : ch.take (i + 1) = ch.take i ++ [c] := by
          rw [List.take_add_one, ← hc, List.getD_eq_getElem?_getD, List.getElem?_eq_getElem hil]
          rfl
        rw [e2, textP_snoc, hX.out, hY])
      rw [hY] at p6
      have b1 := (hT.out.a 1 _ rfl).1
      have m3 := (hT.out.m 3 _ rfl).1
      have mf := (hT.out.m 3 _ rfl).2
      have hcat : ¬ 9223372036854775807 < X.size + Y.size := by omega
      have T2 := Lib.hid (hT.out.text (X ++ Y)).drew
      clear hc hY hil hcm
      go_wp2_with fail
      go_region
      clear qi p6 b1 m3 mf hcat
      go_wp2
      go_roundw
      case rel => exact ⟨i + 1, X ++ Y, by omega, by go_num, EX, by rw [ByteArray.size_append]; omega, T2⟩
      case measure => simp [intOf]; omega
    · obtain rfl : i = m := by omega
      have EX := Lib.hid (show X = textP ps ch by rw [hX.out, List.take_of_length_le (by rw [LM.out]; exact Nat.le_refl _)])
      have a0 := (hT.out.a 0 _ rfl).1
      have la0 := lt_of_cell a0
      have O := Lib.hid (World.ownsRow_lit (base := B + 2) (e := 3) (size := 1) wr #[] 0 hT.out.z (by decide) rfl)
      have HNW := Lib.hid (HN.out.below (hT.out.b.alloc hT.out.b.size (.cells #[] 3)))
      have hzz := hT.out.z
      have hLo := hT.out.lo
      go_wp2_with (at_builtin; go_loud (refine list_catN rfl _ _ rfl (B + 2) 0 ln ln cn wr.heap.size 0 y [] next (Nat.zero_add _) rfl O.out rfl LN.out (ns_flat HNW.out) (by omega) (by simp; omega) ?_))
      intro g3 cap3 w5 hown hgrow hat3
      have hown5 := Lib.hid (Nrow.of hown)
      have hb5 : Below (B + 2) wr w5 := Below.grown ((below_box _ (Nat.le_refl _)).mono hzz) hgrow (by simp; omega) fun k e => by cases e; exact hzz
      have hg3 : B + 2 ≤ g3 := own_ge hown rfl
      have hg3l := Lib.hid (rowLt hown)
      have T5 := Lib.hid (hT.out.step hb5)
      clear hown hgrow hat3 hT O HNW a0 la0 hb5
      go_wp2
      have R5 := Lib.hid (show Tr B (some y) ln cn (some x) lp cp ⟨t, sn, q, fi, la, lo, tx⟩ X (w5.heap.size + 1) g3 cap3 w5.heap.size 0 0 next (restTo ps ch 0) w ((w5.alloc (.cells #[] 28)).alloc (.cells #[.slice (some ⟨g3, 0, none⟩) ln cap3, .slice (some ⟨w5.heap.size, 0, none⟩) 0 0] 26)) from by
        have z5 := T5.out.z
        have l3 := hg3l.out
        have hb : Below w5.heap.size w5 ((w5.alloc (.cells #[] 28)).alloc (.cells #[.slice (some ⟨g3, 0, none⟩) ln cap3, .slice (some ⟨w5.heap.size, 0, none⟩) 0 0] 26)) := (below_box _ (Nat.le_refl _)).alloc (by simp) _
        refine ⟨T5.out.step (hb.mono z5), VarN.new_at (by simp) _ _, hown5.out.below hb l3, ?_, ⟨by omega, hg3⟩, by omega, by omega, by omega⟩
        exact (World.ownsRow_lit (base := B + 2) (e := 28) (size := 7) w5 #[] 0 z5 (by decide) rfl).alloc _)
      have zB : B + 2 ≤ w5.heap.size := T5.out.z
      obtain ⟨ob, hob⟩ : ∃ ob, w5.heap.size + 1 = ob := ⟨_, rfl⟩
      rw [hob] at R5 ⊢
      clear T5 hown5 hg3l hob
      obtain ⟨iP, hiP, zP0, zP1, zP2⟩ := info_parts info_pt
      have HI := Lib.hid (And.intro hiP (And.intro zP0 (And.intro zP1 zP2)))
      clear hiP zP0 zP1 zP2
      go_loopw [10] (fun c wr => ∃ (j g2 k cap2 : Nat), j ≤ lp ∧ c = .int .i64 j ∧ k ≤ j ∧ Hid (k = (restTo ps ch j).length) ∧ Hid (Tr B (some y) ln cn (some x) lp cp ⟨t, sn, q, fi, la, lo, tx⟩ X ob g3 cap3 g2 k cap2 next (restTo ps ch j) w wr)) (fun c _ => lp - (intOf c).toNat)
      case atStart => exact ⟨0, _, 0, 0, Nat.zero_le _, rfl, Nat.le_refl _, rfl, R5⟩
      case round =>
        obtain ⟨j, g2, k, cap2, hj, rfl, hkj, hk, hR⟩ := hrel
        clear R5
        have b1 := (hR.out.q.a 1 _ rfl).1
        by_cases hlt2 : j < lp
        · have ji : (j : Int) < (lp : Int) := by omega
          have CW := Lib.hid (HC.out.below hR.out.q.b)
          have L21 := l21Has_any (some ⟨gc, 0, none⟩) i cc (natI ch) (j : Int) _ CW.out
          by_cases hin : j ∈ ch
          · have ER := Lib.hid (restTo_in (ps := ps) hin)
            rw [decide_eq_true (natI_mem.2 hin)] at L21
            clear hin
            go_wp2_with fail
            refine L21.mono ?_
            rintro e w6 ⟨rfl, hb6⟩
            have R6 := Lib.hid (show Tr B (some y) ln cn (some x) lp cp ⟨t, sn, q, fi, la, lo, tx⟩ X ob g3 cap3 g2 k cap2 next (restTo ps ch (j + 1)) w w6 by rw [ER.out]; exact hR.out.step hb6)
            have K6 := Lib.hid (show k = (restTo ps ch (j + 1)).length by rw [ER.out]; exact hk.out)
            clear L21 hb6 b1 hR hk
            go_wp2
            go_roundw
            case rel => exact ⟨j + 1, g2, k, cap2, by omega, by go_num, by omega, K6, R6⟩
            case measure => simp [intOf]; omega
          · have ER := Lib.hid (restTo_out (ps := ps) hin)
            rw [decide_eq_false (fun h => hin (natI_mem.1 h))] at L21
            clear hin
            go_wp2_with fail
            refine L21.mono ?_
            rintro e w6 ⟨rfl, hb6⟩
            have R6 := Lib.hid (hR.out.step hb6)
            have b6 := (R6.out.q.a 1 _ rfl).1
            have o6 := (R6.out.o 1 _ rfl).1
            obtain ⟨p0, p1, p2, p3, p4, p5, p6⟩ := HP.out.at R6.out.q.b hlt2
            obtain ⟨⟨t4, s4, q4, fi4, la4, lo4, tx4⟩, hd4⟩ : ∃ d, pAt ps j = d := ⟨_, rfl⟩
            rw [hd4] at p0 p1 p2 p3 p4 p5 p6 ER
            dsimp only at p0 p1 p2 p3 p4 p5 p6
            have RA := Lib.hid ((hR.out.step hb6).step (below_box (.cells #[.int .i64 t4, .int .i64 s4, .int .i64 q4, .bool fi4, .bool la4, .bool lo4, .string tx4] 28) (Nat.le_refl _))).drewT
            have z6 := R6.out.q.z
            have hk12 : k ≤ 12 := by omega
            clear hd4 L21 hb6 b1 hR
            have lo6 : ob < w6.heap.size := lt_of_cell o6
            have lb6 : w.heap.size < w6.heap.size := lt_of_cell b6
            have lp6 : (x.add (j * 7)).block < w6.heap.size := World.block_lt_of_cell? w6 _ p0
            have EQ := Lib.hid ER.out
            go_upto_region 12 with fail
            go_region_law (first
              | (refine step_append_lies _ (by rfl) _ _ _ (by rfl) (B + 2) 28 iP (partV ⟨0, 0, 0, false, false, false, ByteArray.mk #[]⟩) 7 48 Try.underlying24 HI.out.1 HI.out.2.1 HI.out.2.2.1 HI.out.2.2.2 rfl (by decide) (.slice (some ⟨g2, 0, none⟩) k cap2) k (flatP (restTo ps ch j)) (by rfl) RA.out.pr ⟨w6.heap.size, 0, none⟩ 1 1 (cellsP ⟨t4, s4, q4, fi4, la4, lo4, tx4⟩) (by rfl) (by rfl) (news_box rfl) (cellsP_one _) (by omega) (by unfold maxLen; omega) (by omega) (Nat.le_trans z6 (below_box _ (Nat.le_refl _)).size) _ rfl ?_; intro g4 cap4 w9 hown hgrow hat hlt9; have o9 := RA.out.o.plus hgrow RA.out.o.lt RA.out.ne.1.symm; have u1 := (o9 1 _ rfl).1; have u1f := (o9 1 _ rfl).2))
            all_goals
              have RP := Lib.hid (show Tr B (some y) ln cn (some x) lp cp ⟨t, sn, q, fi, la, lo, tx⟩ X ob g3 cap3 g4 (k + 1) cap4 next (restTo ps ch (j + 1)) w (w9.setCell ⟨ob, 1, none⟩ (.slice (some ⟨g4, 0, none⟩) (k + 1) cap4)) by
                rw [ER.out]
                exact RA.out.push (p := ⟨t4, s4, q4, fi4, la4, lo4, tx4⟩) hgrow hown (hat.imp (fun h => by simpa [Value.ownBlock] using h) fun h => by rw [h]; exact Nat.le_refl _))
              have K9 := Lib.hid (show k + 1 = (restTo ps ch (j + 1)).length by rw [EQ.out, List.length_append, ← hk.out]; rfl)
              clear RA R6 b6 o6 lo6 lb6 lp6 p0 p1 p2 p3 p4 p5 p6 hown hgrow hat hlt9 o9 u1 u1f hk
              go_wp2
              go_roundw
              case rel => exact ⟨j + 1, g4, k + 1, cap4, by omega, by go_num, by omega, K9, RP⟩
              case measure => simp [intOf]; omega
        · obtain rfl : j = lp := by omega
          have f5 := (hR.out.q.fd 5 _ rfl).1
          have f1 := (hR.out.q.fd 1 _ rfl).1
          have f2 := (hR.out.q.fd 2 _ rfl).1
          dsimp only at f1 f2 f5

          cases lo with
          | true =>
            have RF := Lib.hid hR.out
            have EN := Lib.hid (show restTo ps ch j = restP ps ch by unfold restP; rw [LP.out])
            have KN := Lib.hid (show k = (restP ps ch).length by rw [← EN.out]; exact hk.out)
            have HH := Lib.hid (show headD ps ch = ⟨t, sn, q, fi, la, true, tx⟩ by unfold headD; rw [HC0.out, HDE.out])
            have EM := Lib.hid (show msgP ps ch = ⟨sn, q, true, X⟩ by unfold msgP; rw [HC0.out, HDE.out, EX.out])
            have NX := Lib.hid (show nextP next (headD ps ch) = next by rw [HH.out]; rfl)
            have o0 := (RF.out.o 0 _ rfl).1
            have o1 := (RF.out.o 1 _ rfl).1
            have m0 := (RF.out.q.m 0 _ rfl).1
            have m1 := (RF.out.q.m 1 _ rfl).1
            have m2 := (RF.out.q.m 2 _ rfl).1
            have m3 := (RF.out.q.m 3 _ rfl).1
            have r0 := (RF.out.q.ra 0 _ rfl).1
            have r1 := (RF.out.q.ra 1 _ rfl).1
            have s0 := (RF.out.q.ra 0 _ rfl).2
            have s1 := (RF.out.q.ra 1 _ rfl).2
            have r2 := (RF.out.q.rm 0 _ rfl).1
            have r3 := (RF.out.q.rm 1 _ rfl).1
            have r4 := (RF.out.q.rm 2 _ rfl).1
            have r5 := (RF.out.q.rm 3 _ rfl).1
            have s2 := (RF.out.q.rm 0 _ rfl).2
            have s3 := (RF.out.q.rm 1 _ rfl).2
            have s4 := (RF.out.q.rm 2 _ rfl).2
            have s5 := (RF.out.q.rm 3 _ rfl).2
            dsimp only at m0 m1 m2 m3
            go_wp2_with fail
            go_region
            obtain ⟨y1, y2, y3, y4, y5⟩ := RF.out.done (.slice (some ⟨g3, 0, none⟩) ln cap3) (.slice (some ⟨g2, 0, none⟩) k cap2) (.int .i64 sn) (.int .i64 q) (.bool true) (.string X)
            unfold st2 st4 at y1 y2 y3 y4 y5
            have z0 := (y1 0 _ rfl).1
            have z1 := (y1 1 _ rfl).1
            have z2 := (y2 0 _ rfl).1
            have z3 := (y2 1 _ rfl).1
            have z4 := (y2 2 _ rfl).1
            have z5 := (y2 3 _ rfl).1
            have Y3 := Lib.hid y3
            have Y4 := Lib.hid y4
            have Y5 := Lib.hid y5
            clear y1 y2 y3 y4 y5 r0 r1 r2 r3 r4 r5 s0 s1 s2 s3 s4 s5 m0 m1 m2 m3 o0 o1
            go_wp2
            refine bodyPost_ret (v := .tuple #[.agg #[.slice (some ⟨g3, 0, none⟩) ln cap3, .slice (some ⟨g2, 0, none⟩) k cap2], .agg #[.int .i64 sn, .int .i64 q, .bool true, .string X]]) ?_ rfl ?_
            · simp [results, Try.results53, go_sem, z0, z1, z2, z3, z4, z5]
            · have hkn := KN.out
              subst hkn
              rw [EM.out, NX.out]
              exact ⟨g3, cap3, g2, cap2, rfl, Y3.out, by have h := Y4.out; rw [EN.out] at h; exact h, Y5.out⟩
          | false =>
            have gx := (hR.out.nr.var sn _ (flatN_get next sn (by rw [LN.out]; exact hsn))).1
            have gf := (hR.out.nr.var sn _ (flatN_get next sn (by rw [LN.out]; exact hsn))).2
            have o0 := (hR.out.o 0 _ rfl).1
            have hsi : (sn : Int) < (ln : Int) := by omega
            have N2 := Lib.hid (hR.out.number sn (addS q 1))
            go_upto_region 14 with fail
            go_cut [] from 74 to 81 (fun wx => Hid (Tr B (some y) ln cn (some x) j cp ⟨t, sn, q, fi, la, false, tx⟩ X ob g3 cap3 g2 k cap2 (next.set sn (addS q 1)) (restTo ps ch j) w wx))
            case first =>
              go_region_law (go_simp; go_at_call 39; refine (l3Add_any q 1 _ SQ.out).mono ?_; rintro e wc ⟨rfl, rfl⟩; dsimp only)
              all_goals
                go_wp2_with fail
                go_meet
                exact Lib.hid N2.out.drewT
            case rest =>
              have RF := hcut
              clear gx gf o0 f1 f2 f5 N2
              have EN := Lib.hid (show restTo ps ch j = restP ps ch by unfold restP; rw [LP.out])
              have KN := Lib.hid (show k = (restP ps ch).length by rw [← EN.out]; exact hk.out)
              have HH := Lib.hid (show headD ps ch = ⟨t, sn, q, fi, la, false, tx⟩ by unfold headD; rw [HC0.out, HDE.out])
              have EM := Lib.hid (show msgP ps ch = ⟨sn, q, false, X⟩ by unfold msgP; rw [HC0.out, HDE.out, EX.out])
              have NX := Lib.hid (show nextP next (headD ps ch) = next.set sn (addS q 1) by rw [HH.out]; rfl)
              have o0 := (RF.out.o 0 _ rfl).1
              have o1 := (RF.out.o 1 _ rfl).1
              have m0 := (RF.out.q.m 0 _ rfl).1
              have m1 := (RF.out.q.m 1 _ rfl).1
              have m2 := (RF.out.q.m 2 _ rfl).1
              have m3 := (RF.out.q.m 3 _ rfl).1
              have r0 := (RF.out.q.ra 0 _ rfl).1
              have r1 := (RF.out.q.ra 1 _ rfl).1
              have s0 := (RF.out.q.ra 0 _ rfl).2
              have s1 := (RF.out.q.ra 1 _ rfl).2
              have r2 := (RF.out.q.rm 0 _ rfl).1
              have r3 := (RF.out.q.rm 1 _ rfl).1
              have r4 := (RF.out.q.rm 2 _ rfl).1
              have r5 := (RF.out.q.rm 3 _ rfl).1
              have s2 := (RF.out.q.rm 0 _ rfl).2
              have s3 := (RF.out.q.rm 1 _ rfl).2
              have s4 := (RF.out.q.rm 2 _ rfl).2
              have s5 := (RF.out.q.rm 3 _ rfl).2
              dsimp only at m0 m1 m2 m3
              go_wp2_with fail
              go_region
              obtain ⟨y1, y2, y3, y4, y5⟩ := RF.out.done (.slice (some ⟨g3, 0, none⟩) ln cap3) (.slice (some ⟨g2, 0, none⟩) k cap2) (.int .i64 sn) (.int .i64 q) (.bool false) (.string X)
              unfold st2 st4 at y1 y2 y3 y4 y5
              have z0 := (y1 0 _ rfl).1
              have z1 := (y1 1 _ rfl).1
              have z2 := (y2 0 _ rfl).1
              have z3 := (y2 1 _ rfl).1
              have z4 := (y2 2 _ rfl).1
              have z5 := (y2 3 _ rfl).1
              have Y3 := Lib.hid y3
              have Y4 := Lib.hid y4
              have Y5 := Lib.hid y5
              clear y1 y2 y3 y4 y5 r0 r1 r2 r3 r4 r5 s0 s1 s2 s3 s4 s5 m0 m1 m2 m3 o0 o1
              go_wp2
              refine bodyPost_ret (v := .tuple #[.agg #[.slice (some ⟨g3, 0, none⟩) ln cap3, .slice (some ⟨g2, 0, none⟩) k cap2], .agg #[.int .i64 sn, .int .i64 q, .bool false, .string X]]) ?_ rfl ?_
              · simp [results, Try.results53, go_sem, z0, z1, z2, z3, z4, z5]
              · have hkn := KN.out
                subst hkn
                rw [EM.out, NX.out]
                exact ⟨g3, cap3, g2, cap2, rfl, Y3.out, by have h := Y4.out; rw [EN.out] at h; exact h, Y5.out⟩

end Go.Proofs.Ytncbgejggfkdmaa

/- Regions that draw their order, by an invariant: whatever operation comes up, it keeps it. -/
namespace Go.Proofs.Ytncbgejggfkdmaa
open Go.RowKit Go.PlainAid

theorem count_less {p q : Nat → Bool} {i : Nat} (hp : p i = true) (hq : q i = false) (he : ∀ j, j ≠ i → q j = p j) : ∀ n, i < n → (List.range n).countP q + 1 = (List.range n).countP p := by
  have same : ∀ n, n ≤ i → (List.range n).countP q = (List.range n).countP p := fun n hn => by
    refine List.countP_congr fun j hj => ?_
    rw [he j (by have := List.mem_range.1 hj; omega)]
  intro n hn
  induction n with
  | zero => omega
  | succ n ih =>
    rw [List.range_succ, List.countP_append, List.countP_append]
    by_cases h : i = n
    · subst h
      rw [same i (Nat.le_refl _)]
      simp [hp, hq]
    · have := ih (by omega)
      simp only [List.countP_cons, List.countP_nil, he n (fun h2 => h h2.symm)]
      omega
theorem count_none {p : Nat → Bool} {n : Nat} (h : (List.range n).countP p = 0) : ∀ i, i < n → p i = false := fun i hi => by
  have := List.countP_eq_zero.1 h i (List.mem_range.2 hi)
  simpa using this
/-- The flags that are set, one more. -/
def more (l : Nat → Bool) (i : Nat) : Nat → Bool := fun j => j == i || l j
section
variable {P : Program} {ops : Array Oper} {Q : Exit → Act → World → Prop} {md : Region.Mode} {Inv : (Nat → Bool) → Act → World → Prop} {n : Nat}
theorem wpAny_inv (hn : ops.size = n) (hlow : ∀ i o, ops[i]? = some o → ∀ e ∈ o.after, Region.binds md e = true → e.on < i)
    (hstep : ∀ i l a w, i < n → l i = false → (∀ o, ops[i]? = some o → ∀ e ∈ o.after, Region.binds md e = true → l e.on = true) → Inv l a w → wpOp P ops Q i (Inv (more l i)) a w)
    (hend : ∀ l a w, (∀ i, i < n → l i = true) → Inv l a w → Q .normal a w) :
    ∀ fuel (listed : Array Bool) a w, listed.size = n → (List.range n).countP (fun i => !listed.getD i false) = fuel → Inv (fun j => listed.getD j false) a w → wpAny P md ops Q fuel listed a w := by
  have all_of : ∀ (listed : Array Bool), Region.ready md ops listed = [] → listed.size = n → ∀ i, i < n → listed.getD i false = true := by
    intro listed hr hs i
    induction i using Nat.strongRecOn with
    | _ i ih =>
      intro hi
      cases hc : listed.getD i false with
      | true => rfl
      | false =>
        exfalso
        have hmem : i ∈ Region.ready md ops listed := by
          rw [mem_ready]
          have hlt : i < ops.size := by omega
          refine ⟨?_, ops[i], Array.getElem?_eq_getElem hlt, fun e he hb => ?_⟩
          · have : i < listed.size := by omega
            simp only [Array.getD_eq_getD_getElem?, Array.getElem?_eq_getElem this, Option.getD_some] at hc ⊢
            exact hc
          · have := hlow i _ (Array.getElem?_eq_getElem hlt) e he hb
            exact ih e.on this (by omega)
        rw [hr] at hmem
        cases hmem
  intro fuel
  induction fuel with
  | zero =>
    intro listed a w hs hc hI
    have hall : ∀ i, i < n → listed.getD i false = true := fun i hi => by
      have := count_none hc i hi
      simpa using this
    refine ⟨?_, hend _ _ _ hall hI⟩
    cases hr : Region.ready md ops listed with
    | nil => rfl
    | cons i rest =>
      exfalso
      have hi : i ∈ Region.ready md ops listed := by rw [hr]; exact List.mem_cons_self ..
      rw [mem_ready] at hi
      obtain ⟨h0, o, ho, _⟩ := hi
      have hlt : i < n := by have := (Array.getElem?_eq_some_iff.1 ho).1; omega
      have h1 := hall i hlt
      have : i < listed.size := by omega
      simp only [Array.getD_eq_getD_getElem?, Array.getElem?_eq_getElem this, Option.getD_some] at h0 h1
      rw [h0] at h1
      cases h1
  | succ fuel ih =>
    intro listed a w hs hc hI
    refine ⟨fun hr => hend _ _ _ (all_of listed hr hs) hI, fun i hi => ?_⟩
    rw [mem_ready] at hi
    obtain ⟨h0, o, ho, hall⟩ := hi
    have hlt : i < n := by have := (Array.getElem?_eq_some_iff.1 ho).1; omega
    have hli : i < listed.size := by omega
    have hf : listed.getD i false = false := by
      simp only [Array.getD_eq_getD_getElem?, Array.getElem?_eq_getElem hli, Option.getD_some] at h0 ⊢
      exact h0
    have hst := hstep i (fun j => listed.getD j false) a w hlt hf (fun o' ho' e he hb => by
      rw [ho] at ho'
      obtain rfl := Option.some.inj ho'
      exact hall e he hb) hI
    have hflag : ∀ j, (listed.setIfInBounds i true).getD j false = more (fun j => listed.getD j false) i j := fun j => by
      unfold more
      by_cases e : j = i
      · subst e
        simp [Array.getD_eq_getD_getElem?, hli]
      · rw [getD_set_ne false (fun h => e h.symm)]
        simp [e]
    unfold wpOp at hst ⊢
    rw [ho] at hst ⊢
    simp only at hst ⊢
    have next : ∀ a w, Inv (more (fun j => listed.getD j false) i) a w → wpAny P md ops Q fuel (listed.setIfInBounds i true) a w := fun a w hI2 => by
      refine ih _ a w (by rw [Array.size_setIfInBounds]; exact hs) ?_ ?_
      · have := count_less (p := fun j => !listed.getD j false) (q := fun j => !(listed.setIfInBounds i true).getD j false) (i := i) (by simp [hf]) (by rw [hflag i]; simp [more]) (fun j hj => by rw [hflag j]; simp [more, hj]) n hlt
        omega
      · have e : (fun j => (listed.setIfInBounds i true).getD j false) = more (fun j => listed.getD j false) i := funext hflag
        rw [e]
        exact hI2
    split
    · rename_i hw
      rw [if_pos hw] at hst
      rcases hst with h | h
      · exact .inl (Oper.wp_mono next h)
      · exact .inr h
    · rename_i hw
      rw [if_neg hw] at hst
      exact next _ _ hst
/-- A region, by an invariant. -/
theorem region_inv {id : Nat} {a : Act} {w : World} (hm : P.follows .mixedOrders = true) (hn : ops.size = n) (hlow : ∀ i o, ops[i]? = some o → ∀ e ∈ o.after, Region.binds .any e = true → e.on < i)
    (h0 : Inv (fun _ => false) a w.drew)
    (hstep : ∀ i l a w, i < n → l i = false → (∀ o, ops[i]? = some o → ∀ e ∈ o.after, Region.binds .any e = true → l e.on = true) → Inv l a w → wpOp P ops Q i (Inv (more l i)) a w)
    (hend : ∀ l a w, (∀ i, i < n → l i = true) → Inv l a w → Q .normal a w) : (Code.region id ops true).wp P Q a w := by
  refine wp_region_any hm ?_
  refine wpAny_inv hn hlow hstep hend ops.size _ a _ (by simp [hn]) ?_ ?_
  · rw [hn]
    have : ∀ i ∈ List.range n, (!(Array.replicate n false).getD i false) = true := fun i hi => by
      have := List.mem_range.1 hi
      simp [Array.getD_eq_getD_getElem?, this]
    rw [List.countP_eq_length.2 this, List.length_range]
  · have e : (fun j => (Array.replicate ops.size false).getD j false) = fun _ => false := by
      funext j
      by_cases h : j < ops.size <;> simp [Array.getD_eq_getD_getElem?, h]
    rw [e]
    exact h0
end
theorem wpOp_plain {P : Program} {ops : Array Oper} {Q : Exit → Act → World → Prop} {i : Nat} {o : Oper} {K : Act → World → Prop} {a : Act} {w : World} (hi : ops[i]? = some o) (hg : o.guard = none) (h : o.wp P a w K Q) : wpOp P ops Q i K a w := by
  unfold wpOp
  rw [hi]
  simp only [Region.wanted, hg, if_true]
  exact .inl h

/-- No operation waits for one behind it. -/
def lowB (ops : Array Oper) : Bool := (List.range ops.size).all fun i => ((ops[i]?).map fun o => o.after.all fun e => decide (e.on < i)).getD true
theorem lowB_spec {ops : Array Oper} (h : lowB ops = true) : ∀ i o, ops[i]? = some o → ∀ e ∈ o.after, Region.binds .any e = true → e.on < i := by
  intro i o ho e he _
  have hlt : i < ops.size := (Array.getElem?_eq_some_iff.1 ho).1
  have := List.all_eq_true.1 h i (List.mem_range.2 hlt)
  rw [ho] at this
  simp only [Option.map_some, Option.getD_some, Array.all_eq_true_iff_forall_mem] at this
  simpa using this e he
theorem ev_same {a : Act} {k : Nat} (h : k < a.tmps.size) (v : Value) : (a.put (some k) v).eval (.tmp k) = v := by
  simp [Act.put, Act.eval, h]
theorem ev_other {a : Act} {j k : Nat} (h : j ≠ k) (v : Value) : (a.put (some k) v).eval (.tmp j) = a.eval (.tmp j) := by
  simp [Act.put, Act.eval, Array.getElem?_setIfInBounds_ne (fun e => h e.symm)]
theorem size_put (a : Act) (d : Option Nat) (v : Value) : (a.put d v).tmps.size = a.tmps.size := by
  cases d <;> simp [Act.put]
/-- Two frames are the same but for some slots. -/
structure Fr0 (ds : List Nat) (a0 a : Act) : Prop where
  size : a.tmps.size = a0.tmps.size
  defers : a.defers = a0.defers
  same : ∀ j, j ∉ ds → a.eval (.tmp j) = a0.eval (.tmp j)
theorem Fr0.refl (ds : List Nat) (a : Act) : Fr0 ds a a := ⟨rfl, rfl, fun _ _ => rfl⟩
theorem Fr0.put {ds : List Nat} {a0 a : Act} {k : Nat} (h : Fr0 ds a0 a) (hk : k ∈ ds) (v : Value) : Fr0 ds a0 (a.put (some k) v) :=
  ⟨(size_put _ _ _).trans h.size, h.defers, fun j hj => (ev_other (fun e => hj (by rw [e]; exact hk)) v).trans (h.same j hj)⟩
theorem act_ext {a b : Act} (h1 : a.tmps.size = b.tmps.size) (h2 : a.defers = b.defers) (h3 : ∀ j, a.eval (.tmp j) = b.eval (.tmp j)) : a = b := by
  cases a with
  | mk t d =>
    cases b with
    | mk t2 d2 =>
      simp only at h1 h2
      subst h2
      congr 1
      refine Array.ext h1 fun j hj hj2 => ?_
      have := h3 j
      simp only [Act.eval, Array.getD_eq_getD_getElem?, Array.getElem?_eq_getElem hj, Array.getElem?_eq_getElem hj2, Option.getD_some] at this
      exact this
theorem fold_size (ds : List Nat) (f : Nat → Value) : ∀ a : Act, (ds.foldl (fun b k => b.put (some k) (f k)) a).tmps.size = a.tmps.size := by
  induction ds with
  | nil => intro a; rfl
  | cons d ds ih => intro a; exact (ih _).trans (size_put _ _ _)
theorem fold_defers (ds : List Nat) (f : Nat → Value) : ∀ a : Act, (ds.foldl (fun b k => b.put (some k) (f k)) a).defers = a.defers := by
  induction ds with
  | nil => intro a; rfl
  | cons d ds ih => intro a; exact ih _
theorem fold_eval (ds : List Nat) (f : Nat → Value) (j : Nat) : ∀ a : Act, (∀ k ∈ ds, k < a.tmps.size) → (ds.foldl (fun b k => b.put (some k) (f k)) a).eval (.tmp j) = if j ∈ ds then f j else a.eval (.tmp j) := by
  induction ds with
  | nil => intro a _; simp
  | cons d ds ih =>
    intro a hs
    rw [List.foldl_cons, ih _ fun k hk => by rw [size_put]; exact hs k (List.mem_cons_of_mem _ hk)]
    by_cases h1 : j ∈ ds
    · simp [h1]
    · by_cases h2 : j = d
      · subst h2
        rw [if_neg h1, ev_same (hs j (List.mem_cons_self ..)), if_pos (List.mem_cons_self ..)]
      · rw [if_neg h1, ev_other h2, if_neg (by simp [h1, h2])]
/-- The frame, its slots written one after the other. -/
theorem Fr0.eq {ds : List Nat} {a0 a : Act} (h : Fr0 ds a0 a) (hs : ∀ k ∈ ds, k < a0.tmps.size) : a = ds.foldl (fun b k => b.put (some k) (a.eval (.tmp k))) a0 := by
  refine act_ext (h.size.trans (fold_size _ _ _).symm) (h.defers.trans (fold_defers _ _ _).symm) fun j => ?_
  rw [fold_eval ds (fun k => a.eval (.tmp k)) j a0 hs]
  by_cases hj : j ∈ ds
  · rw [if_pos hj]
  · rw [if_neg hj]
    exact h.same j hj
/-- What the slots hold. -/
def valsOf (a : Act) : Nat → Value := fun j => a.eval (.tmp j)
def upd (V : Nat → Value) (k : Nat) (v : Value) : Nat → Value := fun j => if j = k then v else V j
theorem vals_put {a : Act} {k : Nat} (h : k < a.tmps.size) (v : Value) : valsOf (a.put (some k) v) = upd (valsOf a) k v := by
  funext j
  unfold valsOf upd
  by_cases e : j = k
  · subst e
    rw [if_pos rfl, ev_same h]
  · rw [if_neg e, ev_other e]
/-- A region, by an invariant on its slots' values and the world. -/
theorem region_vals {P : Program} {ops : Array Oper} {Q : Exit → Act → World → Prop} {id n : Nat} {a : Act} {w : World} (ds : List Nat) (Iv : (Nat → Bool) → (Nat → Value) → World → Prop) (hm : P.follows .mixedOrders = true) (hn : ops.size = n) (hlow : lowB ops = true)
    (hs : ∀ k ∈ ds, k < a.tmps.size) (h0 : Iv (fun _ => false) (valsOf a) w.drew)
    (hstep : ∀ i l b w, i < n → l i = false → (∀ o, ops[i]? = some o → ∀ e ∈ o.after, Region.binds .any e = true → l e.on = true) → (∀ k ∈ ds, k < b.tmps.size) → Iv l (valsOf b) w →
      wpOp P ops Q i (fun b' w' => (b' = b ∨ ∃ k ∈ ds, ∃ v, b' = b.put (some k) v) ∧ Iv (more l i) (valsOf b') w') b w)
    (hend : ∀ l (V : Nat → Value) w, (∀ i, i < n → l i = true) → Iv l V w → Q .normal (ds.foldl (fun b k => b.put (some k) (V k)) a) w) : (Code.region id ops true).wp P Q a w := by
  refine region_inv (n := n) (Inv := fun l b w => Fr0 ds a b ∧ Iv l (valsOf b) w) hm hn (lowB_spec hlow) ⟨Fr0.refl _ _, h0⟩ (fun i l b w hi hl hd hI => ?_) (fun l b w hall hI => ?_)
  · have h1 := hstep i l b w hi hl hd (fun k hk => by rw [hI.1.size]; exact hs k hk) hI.2
    refine wpOp_mono (fun b' w' hb => ⟨?_, hb.2⟩) h1
    rcases hb.1 with e | ⟨k, hk, v, e⟩
    · rw [e]; exact hI.1
    · rw [e]; exact hI.1.put hk v
  · rw [hI.1.eq hs]
    exact hend l (valsOf b) w hall hI.2

end Go.Proofs.Ytncbgejggfkdmaa

/- Copies of rows, as a step of a region that draws its order; the copy of an assembly. -/
namespace Go.Proofs.Ytncbgejggfkdmaa
open Go.RowKit Go.PlainAid

theorem add_none (b f j : Nat) : (⟨b, f, none⟩ : Addr).add j = ⟨b, f + j, none⟩ := by unfold Addr.add; split <;> simp_all
/-- The cells of a slice of parts, as a source of an append, from any address on. -/
theorem pts_src {W : World} {x : Addr} {k cap : Nat} {ps : List Part} (h : Pts W (some x) k cap ps) : ∀ j u, (flatP ps)[j]? = some u → W.cell? (x.add j) = some u := by
  intro j u hu
  have hl := h.length
  have hj : j < k * 7 := by have := (List.getElem?_eq_some_iff.1 hu).1; rw [flatP_length, hl] at this; exact this
  obtain ⟨b, f, spot⟩ := x
  have h00 := (h.at (Below.refl _ _) (k := 0) (by omega)).1
  have hspot : spot = none := by simpa [Addr.add] using World.cell?_spot h00
  subst hspot
  have e : j = j / 7 * 7 + j % 7 := by omega
  have hm : j % 7 < 7 := by omega
  generalize hq : j / 7 = q at e
  generalize j % 7 = r at e hm
  subst e
  rw [flatP_get ps q r (by omega) hm] at hu
  have := h.cells (Below.refl _ _) (k := q) (by omega) r u hu
  rw [add_none]
  cases r with
  | zero =>
    have e2 : atP ⟨b, f, none⟩ q 0 = ⟨b, f + (q * 7 + 0), none⟩ := add_none _ _ _
    rw [e2] at this
    exact this
  | succ r =>
    have e2 : atP ⟨b, f, none⟩ q (r + 1) = ⟨b, f + (q * 7 + (r + 1)), none⟩ := by
      show (⟨((⟨b, f, none⟩ : Addr).add (q * 7)).block, ((⟨b, f, none⟩ : Addr).add (q * 7)).off + (r + 1), none⟩ : Addr) = _
      rw [add_none]
      simp
      omega
    rw [e2] at this
    exact this
/-- Parts that are appended to an empty row of one's own. -/
theorem wp_copyP {o : Oper} {a : Act} {w : World} {K : Act → World → Prop} {Q : Exit → Act → World → Prop} (s x : Operand) (hop : o.op = Op.call { callee := Callee.builtin Builtin.append, args := #[s, x], argTypes := #[24, 24] })
    (base len cap e : Nat) (q : Option Addr) (ps : List Part) (hv : a.eval s = .slice (some ⟨e, 0, none⟩) 0 0) (hown : w.ownsRow base 28 7 (.slice (some ⟨e, 0, none⟩) 0 0) 0 []) (hx : a.eval x = .slice q len cap) (h : Pts w q len cap ps) (him : len ≤ 100000) (hb : base ≤ w.heap.size)
    (hK : ∀ g3 cap3 w', w'.ownsRow base 28 7 (.slice (some ⟨g3, 0, none⟩) len cap3) len (flatP ps) → w.grownBy w' (some e) → K (a.put o.dst (.slice (some ⟨g3, 0, none⟩) len cap3)) w') :
    Oper.wp Try.prog o a w K Q := by
  obtain ⟨i0, hi, hz0, hz1, hz2⟩ := info_parts info_pt
  obtain ⟨g3, cap3, w', hr, h2, h3⟩ : ∃ g3 cap3 w', (Builtin.append_ #[24, 24] o.type #[.slice (some ⟨e, 0, none⟩) 0 0, .slice q len cap]).run Try.prog w = .ok (.slice (some ⟨g3, 0, none⟩) len cap3) w' ∧ w'.ownsRow base 28 7 (.slice (some ⟨g3, 0, none⟩) len cap3) len (flatP ps) ∧ w.grownBy w' (some e) := by
    rcases h with ⟨rfl, rfl, rfl, rfl⟩ | ⟨ad, rfl, h7, h8, h9, h10⟩
    · exact ⟨e, 0, w, run_append_owned_none w base 24 o.type 28 i0 7 Try.underlying24 hi _ 0 [] hown, hown, ⟨rfl, rfl, rfl, Nat.le_refl _, fun _ _ _ => rfl⟩⟩
    · have hps : Pts w (some ad) len cap ps := .inr ⟨ad, rfl, h7, h8, h9, h10⟩
      have hflat : ∀ j u, (flatP ps)[j]? = some u → w.cell? (ad.add j) = some u := pts_src hps
      obtain ⟨v', w', hr, h2, h3, h4, h5⟩ := run_append_own_at (P := Try.prog) w base 24 o.type 28 i0 (partV ⟨0, 0, 0, false, false, false, ByteArray.mk #[]⟩) 7 48 Try.underlying24 hi hz0 hz1 hz2 rfl (by decide) (.slice (some ⟨e, 0, none⟩) 0 0) 0 [] hown ad len cap (flatP ps) (by rw [flatP_length, h9]) hflat (flatP_one ps) (by unfold maxLen; omega) (by omega) hb
      rw [Nat.zero_add, List.nil_append] at h2
      rcases h2.2 with ⟨h0, _⟩ | ⟨g3, cap3, cur, hv3, hh⟩
      · have := (h4.1 h0).1
        cases this
      · subst hv3
        exact ⟨g3, cap3, w', by simpa using hr, ⟨h2.1, .inr ⟨g3, cap3, cur, rfl, hh⟩⟩, h3⟩
  unfold Oper.wp execOp
  simp only [hop, resolve, invoke, builtin, Sem.run_bind, Sem.run_pure, Result.andThen_ok, List.map_toArray, List.map_cons, List.map_nil, hv, hx, hr]
  exact hK g3 cap3 w' h2 h3

theorem rowGrown {base e size n g cap m : Nat} {xs : List Value} {w w' : World} {row : Option Nat} (h : w.ownsRow base e size (.slice (some ⟨g, 0, none⟩) m cap) n xs) (hg : w.grownBy w' row) (hne : some g ≠ row) : w'.ownsRow base e size (.slice (some ⟨g, 0, none⟩) m cap) n xs := by
  refine ⟨h.1, ?_⟩
  rcases h.2 with ⟨h1, _⟩ | ⟨g', cap', cur, h1, h2, h3, h4⟩
  · exact absurd h1 (by intro e; cases e)
  · obtain ⟨rfl, rfl, rfl⟩ : g = g' ∧ m = n ∧ cap = cap' := by simpa using h1
    exact .inr ⟨g, cap, cur, rfl, h2, by rw [hg.block g (Array.getElem?_eq_some_iff.1 h3).1 hne]; exact h3, h4⟩
theorem rowKind {base e size n g cap m : Nat} {xs : List Value} {w : World} (h : w.ownsRow base e size (.slice (some ⟨g, 0, none⟩) m cap) n xs) : ∃ cur, w.heap[g]? = some (.cells cur e (0, 0)) := by
  rcases h.2 with ⟨h1, _⟩ | ⟨g', cap', cur, h1, _, h3, _⟩
  · exact absurd h1 (by intro e; cases e)
  · obtain ⟨rfl, _⟩ : g = g' ∧ m = n ∧ cap = cap' := by simpa using h1
    exact ⟨cur, h3⟩
theorem kind_ne {w : World} {a b e1 e2 : Nat} {c1 c2 : Array Value} (h1 : w.heap[a]? = some (.cells c1 e1 (0, 0))) (h2 : w.heap[b]? = some (.cells c2 e2 (0, 0))) (hne : e1 ≠ e2) : a ≠ b := fun e => by
  subst e
  rw [h1] at h2
  simp only [Option.some.injEq, Obj.cells.injEq] at h2
  exact hne h2.2.1
theorem keepRow {base e size n g cap m r e2 : Nat} {c2 : Array Value} {xs : List Value} {w w' : World} (h : w.ownsRow base e size (.slice (some ⟨g, 0, none⟩) m cap) n xs) (hg : w.grownBy w' (some r)) (hk : w.heap[r]? = some (.cells c2 e2 (0, 0))) (hne : e ≠ e2) : w'.ownsRow base e size (.slice (some ⟨g, 0, none⟩) m cap) n xs := by
  obtain ⟨cur, h1⟩ := rowKind h
  exact rowGrown h hg fun h2 => kind_ne h1 hk hne (by simpa using h2)
theorem box_set {w : World} {D e : Nat} {u v : Value} (h : w.heap[D]? = some (.cells #[u, v] e (0, 0))) (a b : Value) : ((w.setCell ⟨D, 0, none⟩ a).setCell ⟨D, 1, none⟩ b).heap[D]? = some (.cells #[a, b] e (0, 0)) := by
  have h1 := heap_setCell_same w D 0 _ e a h
  exact heap_setCell_same (w.setCell ⟨D, 0, none⟩ a) D 1 _ e b h1
/-- While an assembly is copied: what is done so far is in its slots. -/
structure Cq (B R : Nat) (an : Option Addr) (ln cn : Nat) (next : List Int) (ap : Option Addr) (lp cp : Nat) (ps : List Part) (W0 : World) (l : Nat → Bool) (V : Nat → Value) (w : World) : Prop where
  v2 : V 2 = .pointer (some ⟨R, 0, none⟩)
  b : Below W0.heap.size W0 w
  p0 : l 0 = true → l 3 = false → ∃ e, V 30 = .slice (some ⟨e, 0, none⟩) 0 0 ∧ w.ownsRow B 3 1 (.slice (some ⟨e, 0, none⟩) 0 0) 0 []
  p1 : l 1 = true → V 31 = .pointer (some ⟨R, 0, none⟩)
  p2 : l 2 = true → V 32 = .slice an ln cn
  p3 : l 3 = true → ∃ g c, V 33 = .slice (some ⟨g, 0, none⟩) ln c ∧ w.ownsRow B 3 1 (.slice (some ⟨g, 0, none⟩) ln c) ln (flatN next)
  p4 : l 4 = true → l 7 = false → ∃ e, V 34 = .slice (some ⟨e, 0, none⟩) 0 0 ∧ w.ownsRow B 28 7 (.slice (some ⟨e, 0, none⟩) 0 0) 0 []
  p5 : l 5 = true → V 35 = .pointer (some ⟨R, 1, none⟩)
  p6 : l 6 = true → V 36 = .slice ap lp cp
  p7 : l 7 = true → ∃ g c, V 37 = .slice (some ⟨g, 0, none⟩) lp c ∧ w.ownsRow B 28 7 (.slice (some ⟨g, 0, none⟩) lp c) lp (flatP ps)
  p8 : l 8 = true → V 38 = .agg #[V 33, V 37]
  p10 : l 10 = true → l 9 = true
  p9 : l 9 = true → ∃ D u v, V 7 = .pointer (some ⟨D, 0, none⟩) ∧ B ≤ D ∧ w.heap[D]? = some (.cells #[u, v] 26 (0, 0)) ∧ (l 10 = true → u = V 33 ∧ v = V 37)
  q8 : l 8 = true → l 3 = true
  r8 : l 8 = true → l 7 = true
  q10 : l 10 = true → l 8 = true
section
variable {B R : Nat} {an : Option Addr} {ln cn : Nat} {next : List Int} {ap : Option Addr} {lp cp : Nat} {ps : List Part} {W0 w w' : World} {l : Nat → Bool} {V : Nat → Value}
/-- Another block has grown, or none. -/
theorem Cq.grown {row : Option Nat} (h : Cq B R an ln cn next ap lp cp ps W0 l V w) (hg : w.grownBy w' row) (hrow : ∀ r, row = some r → W0.heap.size ≤ r)
    (h0 : ∀ e n c, w.ownsRow B 3 1 (.slice (some ⟨e, 0, none⟩) n c) n (flatN next) → n = ln → some e ≠ row ∨ l 3 = false) (h0' : ∀ e, w.ownsRow B 3 1 (.slice (some ⟨e, 0, none⟩) 0 0) 0 [] → some e ≠ row ∨ l 0 = false ∨ l 3 = true)
    (h4 : ∀ e n c, w.ownsRow B 28 7 (.slice (some ⟨e, 0, none⟩) n c) n (flatP ps) → n = lp → some e ≠ row ∨ l 7 = false) (h4' : ∀ e, w.ownsRow B 28 7 (.slice (some ⟨e, 0, none⟩) 0 0) 0 [] → some e ≠ row ∨ l 4 = false ∨ l 7 = true)
    (h9 : ∀ D u v, w.heap[D]? = some (.cells #[u, v] 26 (0, 0)) → some D ≠ row) : Cq B R an ln cn next ap lp cp ps W0 l V w' := by
  refine ⟨h.v2, Below.grown h.b hg h.b.size hrow, fun a b => ?_, h.p1, h.p2, fun a => ?_, fun a b => ?_, h.p5, h.p6, fun a => ?_, h.p8, h.p10, fun a => ?_, h.q8, h.r8, h.q10⟩
  · obtain ⟨e, e1, e2⟩ := h.p0 a b
    rcases h0' e e2 with hh | hh | hh
    · exact ⟨e, e1, rowGrown e2 hg hh⟩
    · rw [hh] at a; cases a
    · rw [hh] at b; cases b
  · obtain ⟨g, c, e1, e2⟩ := h.p3 a
    rcases h0 g ln c e2 rfl with hh | hh
    · exact ⟨g, c, e1, rowGrown e2 hg hh⟩
    · rw [hh] at a; cases a
  · obtain ⟨e, e1, e2⟩ := h.p4 a b
    rcases h4' e e2 with hh | hh | hh
    · exact ⟨e, e1, rowGrown e2 hg hh⟩
    · rw [hh] at a; cases a
    · rw [hh] at b; cases b
  · obtain ⟨g, c, e1, e2⟩ := h.p7 a
    rcases h4 g lp c e2 rfl with hh | hh
    · exact ⟨g, c, e1, rowGrown e2 hg hh⟩
    · rw [hh] at a; cases a
  · obtain ⟨D, u, v, e1, e2, e3, e4⟩ := h.p9 a
    exact ⟨D, u, v, e1, e2, by rw [hg.block D (Array.getElem?_eq_some_iff.1 e3).1 (h9 D u v e3)]; exact e3, e4⟩
theorem Cq.new (h : Cq B R an ln cn next ap lp cp ps W0 l V w) (o : Obj) : Cq B R an ln cn next ap lp cp ps W0 l V (w.alloc o) :=
  h.grown (World.grownBy_alloc w o none) (fun r e => by cases e) (fun _ _ _ _ _ => .inl (by simp)) (fun _ _ => .inl (by simp)) (fun _ _ _ _ _ => .inl (by simp)) (fun _ _ => .inl (by simp)) (fun _ _ _ _ => by simp)
end

end Go.Proofs.Ytncbgejggfkdmaa

/- The contracts of the model's talks: how many parts a message has; how many messages of a stream begin. -/
namespace Go.Proofs.Ytncbgejggfkdmaa
open Go.RowKit Go.PlainAid

theorem many_int (n z : Nat) (h1 : 1 ≤ z) : ((n : Int) + (z : Int) - 1) / (z : Int) = ((manyN n z : Nat) : Int) := by
  unfold manyN
  have e : (n : Int) + (z : Int) - 1 = ((n + z - 1 : Nat) : Int) := by omega
  rw [e]
  exact (Int.natCast_ediv _ _).symm

set_option maxHeartbeats 400000 in
theorem l41Many_any (tx : ByteArray) (z : Nat) (w : World) (h1 : 1 ≤ z) (h2 : z ≤ 1000000) (h3 : tx.size ≤ 1000000) :
    Calls Try.prog 91 #[.string tx, .int .i64 (z : Int)] w fun e w' => e = .returned (.int .i64 ((manyN tx.size z : Nat) : Int)) ∧ w' = w := by
  have hz : ¬ (z : Int) = 0 := by omega
  have hm : manyN tx.size z ≤ 2000000 := by
    unfold manyN
    exact Nat.le_trans (Nat.div_le_self _ _) (by omega)
  have e1 := many_int tx.size z h1
  have HE := Lib.hid e1
  have e2 : IntKind.i64.wrap (((manyN tx.size z : Nat) : Int)) = ((manyN tx.size z : Nat) : Int) := IntWalk.i64_in _ (by omega)
  have HW := Lib.hid e2
  clear e1 e2
  go_enter Try.func91, Try.ntmps91
  go_wp2
  go_ret
  exact ⟨congrArg (fun x => Ending.returned (Value.int .i64 x)) HE.out, rfl⟩

set_option maxHeartbeats 1000000 in
theorem l31Ssn_any (a : Option Addr) (len cap : Nat) (ps : List Part) (s : Int) (w : World) (h : Pts w a len cap ps) :
    Calls Try.prog 95 #[.slice a len cap, .int .i64 s] w fun e w' => e = .returned (.int .i64 ((beginsIn ps s : Nat) : Int)) ∧ Below w.heap.size w w' := by
  have hl := h.length
  have hm := h.len_int
  have HP := Lib.hid h
  clear h
  go_enter Try.func95, Try.ntmps95
  go_wp2
  go_loopw [5, 6] (fun n i wr => ∃ k m : Nat, k ≤ len ∧ i = .int .i64 k ∧ n = .int .i64 m ∧ m ≤ k ∧ Hid (beginsIn (ps.take k) s = m) ∧ Hid (Below w.heap.size w wr)) (fun _ i _ => len - (intOf i).toNat)
  case atStart => exact ⟨0, 0, Nat.zero_le _, rfl, rfl, Nat.le_refl _, Lib.hid (by simp [beginsIn]), Lib.hid (Below.refl _ _)⟩
  case round =>
    obtain ⟨k, m, hk, rfl, rfl, hmk, hB, hbel⟩ := hrel
    by_cases hlt : k < len
    · obtain ⟨x, rfl⟩ := HP.out.addr hlt
      obtain ⟨p0, p1, p2, p3, p4, p5, p6⟩ := HP.out.at hbel.out hlt
      have HS := Lib.hid (beginsIn_snoc (ps := ps) (i := k) s (by omega))
      obtain ⟨⟨t, st, q, fi, la, lo, tx⟩, he⟩ : ∃ e, pAt ps k = e := ⟨_, rfl⟩
      rw [he] at p0 p1 p2 p3 p4 p5 p6 HS
      dsimp only at p0 p1 p2 p3 p4 p5 p6
      clear he
      have ki : (k : Int) < (len : Int) := by omega
      by_cases hc : (fi && !lo && st == s) = true
      · have H1 := Lib.hid (show beginsIn (ps.take (k + 1)) s = m + 1 by rw [HS.out, hB.out]; dsimp only; rw [if_pos hc])
        simp only [Bool.and_eq_true, Bool.not_eq_true', beq_iff_eq] at hc
        obtain ⟨⟨rfl, rfl⟩, rfl⟩ := hc
        go_wp2
        go_roundw
        case rel => exact ⟨k + 1, m + 1, by omega, by go_num, by go_num, by omega, H1, hbel⟩
        case measure => simp [intOf]; omega
      · have H1 := Lib.hid (show beginsIn (ps.take (k + 1)) s = m by rw [HS.out, hB.out]; dsimp only; rw [if_neg hc, Nat.add_zero])
        cases fi with
        | false =>
          clear hc
          go_wp2
          go_roundw
          case rel => exact ⟨k + 1, m, by omega, by go_num, rfl, by omega, H1, hbel⟩
          case measure => simp [intOf]; omega
        | true =>
          cases lo with
          | true =>
            clear hc
            go_wp2
            go_roundw
            case rel => exact ⟨k + 1, m, by omega, by go_num, rfl, by omega, H1, hbel⟩
            case measure => simp [intOf]; omega
          | false =>
            have hn : ¬ st = s := by simpa using hc
            have hd : decide (st = s) = false := decide_eq_false hn
            clear hc
            go_wp2
            go_roundw
            case rel => exact ⟨k + 1, m, by omega, by go_num, rfl, by omega, H1, hbel⟩
            case measure => simp [intOf]; omega
    · obtain rfl : k = len := by omega
      have E := Lib.hid (show beginsIn ps s = m by have := hB.out; rwa [List.take_of_length_le (by omega)] at this)
      go_wp2
      go_ret
      exact ⟨by rw [E.out]; rfl, hbel.out⟩

end Go.Proofs.Ytncbgejggfkdmaa

/- The contract of the model's TalkValid. -/
namespace Go.Proofs.Ytncbgejggfkdmaa
open Go.RowKit Go.PlainAid

theorem initOkV_of {a b c d : Int} (h : initOkV a b c d = true) : InitOk a b c d := by
  apply Classical.byContradiction
  intro hn
  rw [initOkV_no hn] at h
  cases h
theorem sumMany_few {z : Nat} {b : Bool} {sa sb : Int} {xs : List SayP} (hz : 1 ≤ z) (h : ∀ x ∈ xs, sayOk sa sb x) : sumMany z b xs ≤ 60 * xs.length := by
  induction xs with
  | nil => simp [sumMany]
  | cons x xs ih =>
    have h1 := ih fun y hy => h y (List.mem_cons_of_mem _ hy)
    have h2 := manyN_le (h x List.mem_cons_self).2.1 hz
    show (if x.byB = b then manyN x.text.size z else 0) + sumMany z b xs ≤ 60 * (xs.length + 1)
    split <;> omega
theorem talkV_last {f t : Int} {a b : IniP} {z : Nat} {ss : List SayP} {k : Nat} (hd : headOk ⟨f, t, a, b, z, ss⟩) (hx : ∀ x ∈ ss, sayOk a.streams b.streams x) (hl : ss.length = k) :
    talkV ⟨f, t, a, b, z, ss⟩ = decide ((k : Int) ≤ 4 ∧ ((sumMany z false ss : Nat) : Int) ≤ 12 ∧ ((sumMany z true ss : Nat) : Int) ≤ 12) := by
  unfold talkV
  refine decide_eq_decide.2 ⟨fun h => ?_, fun h => ⟨hd, hx, ?_, ?_, ?_⟩⟩
  · obtain ⟨_, _, h1, h2, h3⟩ := h
    simp only [Int.toNat_natCast] at h2 h3
    dsimp only at h1
    omega
  · show ss.length ≤ 4
    omega
  · simp only [Int.toNat_natCast]
    omega
  · simp only [Int.toNat_natCast]
    omega

set_option maxRecDepth 4000 in
set_option maxHeartbeats 4000000 in
theorem sTalkValid_any (f t a0 a1 a2 a3 b0 b1 b2 b3 sz : Int) (sa : Option Addr) (len cap : Nat) (ss : List SayP) (w : World) (h : Sys w sa len cap ss) (hn : len ≤ 1048576) (htx : ∀ x ∈ ss, x.text.size ≤ 9223372036854775807) :
    Calls Try.prog 83 #[.agg #[.int .i64 f, .int .i64 t, .int .i64 a0, .int .i64 a1, .int .i64 a2, .int .i64 a3, .int .i64 b0, .int .i64 b1, .int .i64 b2, .int .i64 b3, .int .i64 sz, .slice sa len cap]] w fun e w' => e = .returned (.bool (talkV ⟨f, t, ⟨a0, a1, a2, a3⟩, ⟨b0, b1, b2, b3⟩, sz, ss⟩)) ∧ Below w.heap.size w w' := by
  have HS := Lib.hid h
  have HL := Lib.hid h.length
  have hl := h.length
  have HT := Lib.hid htx
  have VT := Lib.hid (VarN.new w [.int .i64 f, .int .i64 t, .int .i64 a0, .int .i64 a1, .int .i64 a2, .int .i64 a3, .int .i64 b0, .int .i64 b1, .int .i64 b2, .int .i64 b3, .int .i64 sz, .slice sa len cap] 88)
  have BB := Lib.hid (below_box (w := w) (.cells (List.toArray [.int .i64 f, .int .i64 t, .int .i64 a0, .int .i64 a1, .int .i64 a2, .int .i64 a3, .int .i64 b0, .int .i64 b1, .int .i64 b2, .int .i64 b3, .int .i64 sz, .slice sa len cap]) 88) (Nat.le_refl _))
  clear h htx
  have c0 := (VT.out 0 _ rfl).1
  have c1 := (VT.out 1 _ rfl).1
  have c2 := (VT.out 2 _ rfl).1
  have c3 := (VT.out 3 _ rfl).1
  have c4 := (VT.out 4 _ rfl).1
  have c5 := (VT.out 5 _ rfl).1
  have c6 := (VT.out 6 _ rfl).1
  have c7 := (VT.out 7 _ rfl).1
  have c8 := (VT.out 8 _ rfl).1
  have c9 := (VT.out 9 _ rfl).1
  have c10 := (VT.out 10 _ rfl).1
  have c11 := (VT.out 11 _ rfl).1
  by_cases h0 : 1 ≤ f ∧ f ≤ 65535
  · have H0 := Lib.hid (decide_eq_true h0)
    have Q0 := Lib.hid h0
    clear h0
    by_cases h1 : 1 ≤ t ∧ t ≤ 65535
    · have H1 := Lib.hid (decide_eq_true h1)
      have Q1 := Lib.hid h1
      clear h1
      by_cases h2 : ¬ f = t
      · have hft : decide (f = t) = false := decide_eq_false h2
        have hfe : (f == t) = false := beq_eq_false_iff_ne.2 h2
        have Q2 := Lib.hid h2
        by_cases h3 : initOkV a0 a1 a2 a3 = true
        · have H3 := Lib.hid h3
          clear h3
          by_cases h4 : initOkV b0 b1 b2 b3 = true
          · have H4 := Lib.hid h4
            clear h4
            by_cases h5 : 1 ≤ sz ∧ sz ≤ 20
            · have H5 := Lib.hid (decide_eq_true h5)
              have Q5 := Lib.hid h5
              clear h5
              have HD : Hid (headOk ⟨f, t, ⟨a0, a1, a2, a3⟩, ⟨b0, b1, b2, b3⟩, sz, ss⟩) := Lib.hid ⟨Q0.out, Q1.out, Q2.out, initOkV_of H3.out, initOkV_of H4.out, Q5.out.1, Q5.out.2⟩
              obtain ⟨z, rfl⟩ : ∃ z : Nat, sz = (z : Int) := ⟨sz.toNat, by have := Q5.out.1; omega⟩
              have hz : 1 ≤ z ∧ z ≤ 20 := by have := Q5.out; omega
              have hA : 1 ≤ a2 ∧ a2 ≤ 4 := (initOkV_of H3.out).2.2.1
              have hBs : 1 ≤ b2 ∧ b2 ≤ 4 := (initOkV_of H4.out).2.2.1
              go_enter Try.func83, Try.ntmps83
              go_wp2_with fail
              refine (l6In_any f 1 65535 _).mono ?_
              rintro e w' ⟨rfl, rfl⟩
              rw [H0.out]
              go_wp2_with fail
              refine (l6In_any t 1 65535 _).mono ?_
              rintro e w' ⟨rfl, rfl⟩
              rw [H1.out]
              go_wp2_with fail
              refine (l12Init_any a0 a1 a2 a3 _).mono ?_
              rw [H3.out]
              rintro e w3 ⟨rfl, hb3⟩
              have VT := Lib.hid (VT.out.below hb3 (lt_of_cell (VT.out 0 _ rfl).1))
              have BB := Lib.hid (BB.out.trans (hb3.mono BB.out.size))
              clear c0 c1 c2 c3 c4 c5 c6 c7 c8 c9 c10 c11
              clear hb3
              have c0 := (VT.out 0 _ rfl).1
              have c1 := (VT.out 1 _ rfl).1
              have c2 := (VT.out 2 _ rfl).1
              have c3 := (VT.out 3 _ rfl).1
              have c4 := (VT.out 4 _ rfl).1
              have c5 := (VT.out 5 _ rfl).1
              have c6 := (VT.out 6 _ rfl).1
              have c7 := (VT.out 7 _ rfl).1
              have c8 := (VT.out 8 _ rfl).1
              have c9 := (VT.out 9 _ rfl).1
              have c10 := (VT.out 10 _ rfl).1
              have c11 := (VT.out 11 _ rfl).1
              go_wp2_with fail
              refine (l12Init_any b0 b1 b2 b3 _).mono ?_
              rw [H4.out]
              rintro e w4 ⟨rfl, hb4⟩
              have VT := Lib.hid (VT.out.below hb4 (lt_of_cell (VT.out 0 _ rfl).1))
              have BB := Lib.hid (BB.out.trans (hb4.mono BB.out.size))
              clear c0 c1 c2 c3 c4 c5 c6 c7 c8 c9 c10 c11
              clear hb4
              have c0 := (VT.out 0 _ rfl).1
              have c1 := (VT.out 1 _ rfl).1
              have c2 := (VT.out 2 _ rfl).1
              have c3 := (VT.out 3 _ rfl).1
              have c4 := (VT.out 4 _ rfl).1
              have c5 := (VT.out 5 _ rfl).1
              have c6 := (VT.out 6 _ rfl).1
              have c7 := (VT.out 7 _ rfl).1
              have c8 := (VT.out 8 _ rfl).1
              have c9 := (VT.out 9 _ rfl).1
              have c10 := (VT.out 10 _ rfl).1
              have c11 := (VT.out 11 _ rfl).1
              go_wp2_with fail
              refine (l6In_any (z : Int) 1 20 _).mono ?_
              rintro e w' ⟨rfl, rfl⟩
              rw [H5.out]
              clear c0 c1 c2 c3 c4 c5 c6 c7 c8 c9 c10 c11
              go_wp2
              go_loopw [3, 4, 5] (fun av bv i wr => ∃ k : Nat, k ≤ len ∧ i = .int .i64 k ∧ av = .int .i64 ((sumMany z false (ss.take k) : Nat) : Int) ∧ bv = .int .i64 ((sumMany z true (ss.take k) : Nat) : Int) ∧ Hid (∀ x ∈ ss.take k, sayOk a2 b2 x) ∧ Hid (VarN w.heap.size [.int .i64 f, .int .i64 t, .int .i64 a0, .int .i64 a1, .int .i64 a2, .int .i64 a3, .int .i64 b0, .int .i64 b1, .int .i64 b2, .int .i64 b3, .int .i64 (z : Int), .slice sa len cap] wr) ∧ Hid (Below w.heap.size w wr)) (fun _ _ i _ => len - (intOf i).toNat)
              case atStart => exact ⟨0, Nat.zero_le _, rfl, by simp [sumMany], by simp [sumMany], Lib.hid (by simp), VT, BB⟩
              case round =>
                obtain ⟨k, hk, rfl, rfl, rfl, hX, hV, hbel⟩ := hrel
                have hsa := Lib.hid (show sumMany z false (ss.take k) ≤ 60 * k from Nat.le_trans (sumMany_few hz.1 hX.out) (Nat.mul_le_mul_left 60 (List.length_take_le _ _)))
                have hsb := Lib.hid (show sumMany z true (ss.take k) ≤ 60 * k from Nat.le_trans (sumMany_few hz.1 hX.out) (Nat.mul_le_mul_left 60 (List.length_take_le _ _)))
                by_cases hlt : k < len
                · obtain ⟨x, rfl⟩ := HS.out.addr hlt
                  obtain ⟨p0, p1, p2, p3⟩ := HS.out.at hbel.out hlt
                  have hkl : k < ss.length := by omega
                  have ST := Lib.hid (take_sAt (ps := ss) (k := k) hkl)
                  have S1 := Lib.hid (sumMany_snoc (ss := ss) (i := k) z false hkl)
                  have S2 := Lib.hid (sumMany_snoc (ss := ss) (i := k) z true hkl)
                  have hmm := sAt_mem hkl
                  obtain ⟨⟨yb, st, lo, tx⟩, he⟩ : ∃ e, sAt ss k = e := ⟨_, rfl⟩
                  rw [he] at p0 p1 p2 p3 ST S1 S2 hmm
                  dsimp only at p0 p1 p2 p3 S1 S2
                  clear he
                  have HM := Lib.hid hmm
                  clear hmm
                  have ki : (k : Int) < (len : Int) := by omega
                  have BX := Lib.hid (below_box (w := wr) (.cells #[.bool yb, .int .i64 st, .bool lo, .string tx] 113) (Nat.le_refl _))
                  have VB := Lib.hid (hV.out.below BX.out (lt_of_cell (hV.out 0 _ rfl).1))
                  have BE := Lib.hid (hbel.out.trans (BX.out.mono hbel.out.size))
                  have v11 := (hV.out 11 _ rfl).1
                  have v10 := (VB.out 10 _ rfl).1
                  have v4 := (VB.out 4 _ rfl).1
                  have v8 := (VB.out 8 _ rfl).1
                  have nb : ¬ w.heap.size = wr.heap.size := by have := lt_of_cell v11; omega
                  have txn : (tx.size : Int) ≤ 9223372036854775807 := by have := HT.out _ HM.out; dsimp only at this; omega
                  by_cases t0 : 1 ≤ (tx.size : Int) ∧ (tx.size : Int) ≤ 60
                  · have T0 := Lib.hid (show 1 ≤ tx.size ∧ tx.size ≤ 60 by omega)
                    have U0 := Lib.hid (decide_eq_true t0)
                    clear t0
                    cases yb with
                    | true =>
                      by_cases t1 : 0 ≤ st ∧ st ≤ b2 - 1
                      · have T1 := Lib.hid t1
                        have U1 := Lib.hid (decide_eq_true t1)
                        clear t1
                        go_wp2_with fail
                        refine (l6In_any tx.size 1 60 _).mono ?_
                        rintro e w' ⟨rfl, rfl⟩
                        rw [U0.out]
                        go_wp2_with fail
                        refine (l6In_any st 0 (b2 - 1) _).mono ?_
                        rintro e w' ⟨rfl, rfl⟩
                        rw [U1.out]
                        have OKX := Lib.hid (show ∀ x ∈ ss.take (k + 1), sayOk a2 b2 x by
                          intro x hx
                          rw [ST.out] at hx
                          rcases List.mem_append.1 hx with h | h
                          · exact hX.out x h
                          · rw [List.mem_singleton.1 h]
                            exact ⟨T0.out.1, T0.out.2, T1.out.1, by have := T1.out.2; show st < b2; omega⟩)
                        have E1 := Lib.hid (show sumMany z true (ss.take (k + 1)) = sumMany z true (ss.take k) + manyN tx.size z by rw [S2.out]; rfl)
                        have E2 := Lib.hid (show sumMany z false (ss.take (k + 1)) = sumMany z false (ss.take k) by rw [S1.out]; rfl)
                        have hmn := manyN_le T0.out.2 hz.1
                        have w1 : IntKind.i64.wrap (((sumMany z true (ss.take k) : Nat) : Int) + ((manyN tx.size z : Nat) : Int)) = ((sumMany z true (ss.take k) : Nat) : Int) + ((manyN tx.size z : Nat) : Int) := IntWalk.i64_in _ (by have := hsb.out; have : k ≤ 1048576 := (by omega); omega)
                        have x0 : (wr.alloc (.cells #[.bool true, .int .i64 st, .bool lo, .string tx] 113)).heap.size = wr.heap.size + 1 := by simp
                        clear x0
                        go_wp2_with fail
                        refine (l41Many_any tx z _ hz.1 (by omega) (by have := T0.out.2; omega)).mono ?_
                        rintro e w' ⟨rfl, rfl⟩
                        go_wp2
                        go_roundw
                        case rel => exact ⟨k + 1, by omega, by go_num, by rw [E2.out], by rw [E1.out]; go_num, OKX, VB, BE⟩
                        case measure => simp [intOf]; omega
                      · have NO := Lib.hid (talkV_no (t := ⟨f, t, ⟨a0, a1, a2, a3⟩, ⟨b0, b1, b2, b3⟩, (z : Int), ss⟩) (fun h => (fun q => t1 ⟨q.2.2.1, by have := q.2.2.2; simp at this; omega⟩) (h.2.1 _ HM.out)))
                        have U1 := Lib.hid (decide_eq_false t1)
                        clear t1
                        go_wp2_with fail
                        refine (l6In_any tx.size 1 60 _).mono ?_
                        rintro e w' ⟨rfl, rfl⟩
                        rw [U0.out]
                        go_wp2_with fail
                        refine (l6In_any st 0 (b2 - 1) _).mono ?_
                        rintro e w' ⟨rfl, rfl⟩
                        rw [U1.out]
                        go_wp2
                        go_ret
                        exact ⟨by rw [NO.out]; rfl, BE.out⟩
                    | false =>
                      by_cases t1 : 0 ≤ st ∧ st ≤ a2 - 1
                      · have T1 := Lib.hid t1
                        have U1 := Lib.hid (decide_eq_true t1)
                        clear t1
                        go_wp2_with fail
                        refine (l6In_any tx.size 1 60 _).mono ?_
                        rintro e w' ⟨rfl, rfl⟩
                        rw [U0.out]
                        go_wp2_with fail
                        refine (l6In_any st 0 (a2 - 1) _).mono ?_
                        rintro e w' ⟨rfl, rfl⟩
                        rw [U1.out]
                        have OKX := Lib.hid (show ∀ x ∈ ss.take (k + 1), sayOk a2 b2 x by
                          intro x hx
                          rw [ST.out] at hx
                          rcases List.mem_append.1 hx with h | h
                          · exact hX.out x h
                          · rw [List.mem_singleton.1 h]
                            exact ⟨T0.out.1, T0.out.2, T1.out.1, by have := T1.out.2; show st < a2; omega⟩)
                        have E1 := Lib.hid (show sumMany z false (ss.take (k + 1)) = sumMany z false (ss.take k) + manyN tx.size z by rw [S1.out]; rfl)
                        have E2 := Lib.hid (show sumMany z true (ss.take (k + 1)) = sumMany z true (ss.take k) by rw [S2.out]; rfl)
                        have hmn := manyN_le T0.out.2 hz.1
                        have w1 : IntKind.i64.wrap (((sumMany z false (ss.take k) : Nat) : Int) + ((manyN tx.size z : Nat) : Int)) = ((sumMany z false (ss.take k) : Nat) : Int) + ((manyN tx.size z : Nat) : Int) := IntWalk.i64_in _ (by have := hsa.out; have : k ≤ 1048576 := (by omega); omega)
                        have x0 : (wr.alloc (.cells #[.bool false, .int .i64 st, .bool lo, .string tx] 113)).heap.size = wr.heap.size + 1 := by simp
                        clear x0
                        go_wp2_with fail
                        refine (l41Many_any tx z _ hz.1 (by omega) (by have := T0.out.2; omega)).mono ?_
                        rintro e w' ⟨rfl, rfl⟩
                        go_wp2
                        go_roundw
                        case rel => exact ⟨k + 1, by omega, by go_num, by rw [E1.out]; go_num, by rw [E2.out], OKX, VB, BE⟩
                        case measure => simp [intOf]; omega
                      · have NO := Lib.hid (talkV_no (t := ⟨f, t, ⟨a0, a1, a2, a3⟩, ⟨b0, b1, b2, b3⟩, (z : Int), ss⟩) (fun h => (fun q => t1 ⟨q.2.2.1, by have := q.2.2.2; simp at this; omega⟩) (h.2.1 _ HM.out)))
                        have U1 := Lib.hid (decide_eq_false t1)
                        clear t1
                        go_wp2_with fail
                        refine (l6In_any tx.size 1 60 _).mono ?_
                        rintro e w' ⟨rfl, rfl⟩
                        rw [U0.out]
                        go_wp2_with fail
                        refine (l6In_any st 0 (a2 - 1) _).mono ?_
                        rintro e w' ⟨rfl, rfl⟩
                        rw [U1.out]
                        go_wp2
                        go_ret
                        exact ⟨by rw [NO.out]; rfl, BE.out⟩
                  · have NO := Lib.hid (talkV_no (t := ⟨f, t, ⟨a0, a1, a2, a3⟩, ⟨b0, b1, b2, b3⟩, (z : Int), ss⟩) (fun h => (fun q => t0 ⟨by have := q.1; dsimp only at this; omega, by have := q.2.1; dsimp only at this; omega⟩) (h.2.1 _ HM.out)))
                    have U0 := Lib.hid (decide_eq_false t0)
                    clear t0
                    go_wp2_with fail
                    refine (l6In_any tx.size 1 60 _).mono ?_
                    rintro e w' ⟨rfl, rfl⟩
                    rw [U0.out]
                    go_wp2
                    go_ret
                    exact ⟨by rw [NO.out]; rfl, BE.out⟩
                · obtain rfl : k = len := by omega
                  have TA := Lib.hid (show ss.take k = ss from List.take_of_length_le (by omega))
                  rw [TA.out] at hX hsa hsb ⊢
                  have v11 := (hV.out 11 _ rfl).1
                  have OK4 := Lib.hid (show talkV ⟨f, t, ⟨a0, a1, a2, a3⟩, ⟨b0, b1, b2, b3⟩, (z : Int), ss⟩ = decide ((k : Int) ≤ 4 ∧ ((sumMany z false ss : Nat) : Int) ≤ 12 ∧ ((sumMany z true ss : Nat) : Int) ≤ 12) from talkV_last HD.out hX.out HL.out)
                  by_cases q0 : (k : Int) ≤ 4
                  · by_cases q1 : ((sumMany z false ss : Nat) : Int) ≤ 12
                    · by_cases q2 : ((sumMany z true ss : Nat) : Int) ≤ 12
                      · go_wp2
                        go_ret
                        exact ⟨by rw [OK4.out]; simp [q0, q1, q2], hbel.out⟩
                      · go_wp2
                        go_ret
                        exact ⟨by rw [OK4.out, decide_eq_false (show ¬ ((k : Int) ≤ 4 ∧ ((sumMany z false ss : Nat) : Int) ≤ 12 ∧ ((sumMany z true ss : Nat) : Int) ≤ 12) from fun h => by omega)]; rfl, hbel.out⟩
                    · go_wp2
                      go_ret
                      exact ⟨by rw [OK4.out, decide_eq_false (show ¬ ((k : Int) ≤ 4 ∧ ((sumMany z false ss : Nat) : Int) ≤ 12 ∧ ((sumMany z true ss : Nat) : Int) ≤ 12) from fun h => by omega)]; rfl, hbel.out⟩
                  · go_wp2
                    go_ret
                    exact ⟨by rw [OK4.out, decide_eq_false (show ¬ ((k : Int) ≤ 4 ∧ ((sumMany z false ss : Nat) : Int) ≤ 12 ∧ ((sumMany z true ss : Nat) : Int) ≤ 12) from fun h => by omega)]; rfl, hbel.out⟩
            · rw [talkV_no (t := ⟨f, t, ⟨a0, a1, a2, a3⟩, ⟨b0, b1, b2, b3⟩, sz, ss⟩) (fun h => h5 h.1.2.2.2.2.2)]
              have H5 := Lib.hid (decide_eq_false h5)
              clear h5
              go_enter Try.func83, Try.ntmps83
              go_wp2_with fail
              refine (l6In_any f 1 65535 _).mono ?_
              rintro e w' ⟨rfl, rfl⟩
              rw [H0.out]
              go_wp2_with fail
              refine (l6In_any t 1 65535 _).mono ?_
              rintro e w' ⟨rfl, rfl⟩
              rw [H1.out]
              go_wp2_with fail
              refine (l12Init_any a0 a1 a2 a3 _).mono ?_
              rw [H3.out]
              rintro e w3 ⟨rfl, hb3⟩
              have VT := Lib.hid (VT.out.below hb3 (lt_of_cell (VT.out 0 _ rfl).1))
              have BB := Lib.hid (BB.out.trans (hb3.mono BB.out.size))
              clear c0 c1 c2 c3 c4 c5 c6 c7 c8 c9 c10 c11
              clear hb3
              have c0 := (VT.out 0 _ rfl).1
              have c1 := (VT.out 1 _ rfl).1
              have c2 := (VT.out 2 _ rfl).1
              have c3 := (VT.out 3 _ rfl).1
              have c4 := (VT.out 4 _ rfl).1
              have c5 := (VT.out 5 _ rfl).1
              have c6 := (VT.out 6 _ rfl).1
              have c7 := (VT.out 7 _ rfl).1
              have c8 := (VT.out 8 _ rfl).1
              have c9 := (VT.out 9 _ rfl).1
              have c10 := (VT.out 10 _ rfl).1
              have c11 := (VT.out 11 _ rfl).1
              go_wp2_with fail
              refine (l12Init_any b0 b1 b2 b3 _).mono ?_
              rw [H4.out]
              rintro e w4 ⟨rfl, hb4⟩
              have VT := Lib.hid (VT.out.below hb4 (lt_of_cell (VT.out 0 _ rfl).1))
              have BB := Lib.hid (BB.out.trans (hb4.mono BB.out.size))
              clear c0 c1 c2 c3 c4 c5 c6 c7 c8 c9 c10 c11
              clear hb4
              have c0 := (VT.out 0 _ rfl).1
              have c1 := (VT.out 1 _ rfl).1
              have c2 := (VT.out 2 _ rfl).1
              have c3 := (VT.out 3 _ rfl).1
              have c4 := (VT.out 4 _ rfl).1
              have c5 := (VT.out 5 _ rfl).1
              have c6 := (VT.out 6 _ rfl).1
              have c7 := (VT.out 7 _ rfl).1
              have c8 := (VT.out 8 _ rfl).1
              have c9 := (VT.out 9 _ rfl).1
              have c10 := (VT.out 10 _ rfl).1
              have c11 := (VT.out 11 _ rfl).1
              go_wp2_with fail
              refine (l6In_any sz 1 20 _).mono ?_
              rintro e w' ⟨rfl, rfl⟩
              rw [H5.out]
              go_wp2
              go_ret
              exact ⟨rfl, BB.out⟩
          · rw [talkV_no (t := ⟨f, t, ⟨a0, a1, a2, a3⟩, ⟨b0, b1, b2, b3⟩, sz, ss⟩) (fun h => h4 (initOkV_yes h.1.2.2.2.2.1))]
            have H4 := Lib.hid (Bool.eq_false_iff.2 h4)
            clear h4
            go_enter Try.func83, Try.ntmps83
            go_wp2_with fail
            refine (l6In_any f 1 65535 _).mono ?_
            rintro e w' ⟨rfl, rfl⟩
            rw [H0.out]
            go_wp2_with fail
            refine (l6In_any t 1 65535 _).mono ?_
            rintro e w' ⟨rfl, rfl⟩
            rw [H1.out]
            go_wp2_with fail
            refine (l12Init_any a0 a1 a2 a3 _).mono ?_
            rw [H3.out]
            rintro e w3 ⟨rfl, hb3⟩
            have VT := Lib.hid (VT.out.below hb3 (lt_of_cell (VT.out 0 _ rfl).1))
            have BB := Lib.hid (BB.out.trans (hb3.mono BB.out.size))
            clear c0 c1 c2 c3 c4 c5 c6 c7 c8 c9 c10 c11
            clear hb3
            have c0 := (VT.out 0 _ rfl).1
            have c1 := (VT.out 1 _ rfl).1
            have c2 := (VT.out 2 _ rfl).1
            have c3 := (VT.out 3 _ rfl).1
            have c4 := (VT.out 4 _ rfl).1
            have c5 := (VT.out 5 _ rfl).1
            have c6 := (VT.out 6 _ rfl).1
            have c7 := (VT.out 7 _ rfl).1
            have c8 := (VT.out 8 _ rfl).1
            have c9 := (VT.out 9 _ rfl).1
            have c10 := (VT.out 10 _ rfl).1
            have c11 := (VT.out 11 _ rfl).1
            go_wp2_with fail
            refine (l12Init_any b0 b1 b2 b3 _).mono ?_
            rw [H4.out]
            rintro e w4 ⟨rfl, hb4⟩
            have VT := Lib.hid (VT.out.below hb4 (lt_of_cell (VT.out 0 _ rfl).1))
            have BB := Lib.hid (BB.out.trans (hb4.mono BB.out.size))
            clear c0 c1 c2 c3 c4 c5 c6 c7 c8 c9 c10 c11
            clear hb4
            have c0 := (VT.out 0 _ rfl).1
            have c1 := (VT.out 1 _ rfl).1
            have c2 := (VT.out 2 _ rfl).1
            have c3 := (VT.out 3 _ rfl).1
            have c4 := (VT.out 4 _ rfl).1
            have c5 := (VT.out 5 _ rfl).1
            have c6 := (VT.out 6 _ rfl).1
            have c7 := (VT.out 7 _ rfl).1
            have c8 := (VT.out 8 _ rfl).1
            have c9 := (VT.out 9 _ rfl).1
            have c10 := (VT.out 10 _ rfl).1
            have c11 := (VT.out 11 _ rfl).1
            go_wp2
            go_ret
            exact ⟨rfl, BB.out⟩
        · rw [talkV_no (t := ⟨f, t, ⟨a0, a1, a2, a3⟩, ⟨b0, b1, b2, b3⟩, sz, ss⟩) (fun h => h3 (initOkV_yes h.1.2.2.2.1))]
          have H3 := Lib.hid (Bool.eq_false_iff.2 h3)
          clear h3
          go_enter Try.func83, Try.ntmps83
          go_wp2_with fail
          refine (l6In_any f 1 65535 _).mono ?_
          rintro e w' ⟨rfl, rfl⟩
          rw [H0.out]
          go_wp2_with fail
          refine (l6In_any t 1 65535 _).mono ?_
          rintro e w' ⟨rfl, rfl⟩
          rw [H1.out]
          go_wp2_with fail
          refine (l12Init_any a0 a1 a2 a3 _).mono ?_
          rw [H3.out]
          rintro e w3 ⟨rfl, hb3⟩
          have VT := Lib.hid (VT.out.below hb3 (lt_of_cell (VT.out 0 _ rfl).1))
          have BB := Lib.hid (BB.out.trans (hb3.mono BB.out.size))
          clear c0 c1 c2 c3 c4 c5 c6 c7 c8 c9 c10 c11
          clear hb3
          have c0 := (VT.out 0 _ rfl).1
          have c1 := (VT.out 1 _ rfl).1
          have c2 := (VT.out 2 _ rfl).1
          have c3 := (VT.out 3 _ rfl).1
          have c4 := (VT.out 4 _ rfl).1
          have c5 := (VT.out 5 _ rfl).1
          have c6 := (VT.out 6 _ rfl).1
          have c7 := (VT.out 7 _ rfl).1
          have c8 := (VT.out 8 _ rfl).1
          have c9 := (VT.out 9 _ rfl).1
          have c10 := (VT.out 10 _ rfl).1
          have c11 := (VT.out 11 _ rfl).1
          go_wp2
          go_ret
          exact ⟨rfl, BB.out⟩
      · rw [talkV_no (t := ⟨f, t, ⟨a0, a1, a2, a3⟩, ⟨b0, b1, b2, b3⟩, sz, ss⟩) (fun h => h2 h.1.2.2.1)]
        have hft : decide (f = t) = true := decide_eq_true (Classical.not_not.1 h2)
        have hfe : (f == t) = true := beq_iff_eq.2 (Classical.not_not.1 h2)
        clear h2
        go_enter Try.func83, Try.ntmps83
        go_wp2_with fail
        refine (l6In_any f 1 65535 _).mono ?_
        rintro e w' ⟨rfl, rfl⟩
        rw [H0.out]
        go_wp2_with fail
        refine (l6In_any t 1 65535 _).mono ?_
        rintro e w' ⟨rfl, rfl⟩
        rw [H1.out]
        go_wp2
        go_ret
        exact ⟨rfl, BB.out⟩
    · rw [talkV_no (t := ⟨f, t, ⟨a0, a1, a2, a3⟩, ⟨b0, b1, b2, b3⟩, sz, ss⟩) (fun h => h1 h.1.2.1)]
      have H1 := Lib.hid (decide_eq_false h1)
      clear h1
      go_enter Try.func83, Try.ntmps83
      go_wp2_with fail
      refine (l6In_any f 1 65535 _).mono ?_
      rintro e w' ⟨rfl, rfl⟩
      rw [H0.out]
      go_wp2_with fail
      refine (l6In_any t 1 65535 _).mono ?_
      rintro e w' ⟨rfl, rfl⟩
      rw [H1.out]
      go_wp2
      go_ret
      exact ⟨rfl, BB.out⟩
  · rw [talkV_no (t := ⟨f, t, ⟨a0, a1, a2, a3⟩, ⟨b0, b1, b2, b3⟩, sz, ss⟩) (fun h => h0 h.1.1)]
    have H0 := Lib.hid (decide_eq_false h0)
    clear h0
    go_enter Try.func83, Try.ntmps83
    go_wp2_with fail
    refine (l6In_any f 1 65535 _).mono ?_
    rintro e w' ⟨rfl, rfl⟩
    rw [H0.out]
    go_wp2
    go_ret
    exact ⟨rfl, BB.out⟩

end Go.Proofs.Ytncbgejggfkdmaa

/- Talks, plain: the pieces of a message, one after the other. -/
namespace Go.Proofs.Ytncbgejggfkdmaa
open Go.RowKit Go.PlainAid

theorem lt_many {n z j : Nat} (hz : 1 ≤ z) : j * z < n ↔ j < manyN n z := by
  unfold manyN
  have h1 := Nat.div_add_mod (n + z - 1) z
  have h2 := Nat.mod_lt (n + z - 1) (show z > 0 by omega)
  generalize (n + z - 1) / z = q at h1 ⊢
  generalize (n + z - 1) % z = r at h1 h2
  constructor
  · intro h
    apply Classical.byContradiction
    intro hn
    have h3 : q * z ≤ j * z := Nat.mul_le_mul_right z (by omega)
    rw [Nat.mul_comm] at h1
    omega
  · intro h
    have h3 : (j + 1) * z ≤ q * z := Nat.mul_le_mul_right z (by omega)
    rw [Nat.succ_mul] at h3
    rw [Nat.mul_comm] at h1
    omega
/-- A piece, by its ends. -/
theorem pieceP_is {first : Int} {yb : Bool} {st : Int} {lo : Bool} {tx : ByteArray} {q : Int} {z n0 j A E : Nat} (hz : 1 ≤ z) (hA : A = j * z) (hE : E = min (A + z) tx.size) :
    pieceP first ⟨yb, st, lo, tx⟩ q z n0 j = ⟨addS first ((n0 + j : Nat) : Int), st, q, decide (A = 0), decide (E = tx.size), lo, tx.extract A E⟩ := by
  subst hA
  have e : (j + 1) * z = j * z + z := Nat.succ_mul _ _
  unfold pieceP
  rw [hE]
  dsimp only
  rw [e]
  congr 1
  · rcases Nat.eq_zero_or_pos j with h | h
    · subst h; simp
    · have : ¬ j = 0 := by omega
      have h2 : ¬ j * z = 0 := by
        intro h0
        rcases Nat.mul_eq_zero.1 h0 with h1 | h1 <;> omega
      rw [decide_eq_false this, decide_eq_false h2]
theorem addSay_is {first : Int} {z : Nat} {b : Bool} {out : List Part} {x : SayP} {q : Int} {k0 j : Nat} (hb : x.byB = b) (hq : ssnOf out x = q) (hk : out.length = k0) (hj : j = manyN x.text.size z) : addSay first z b out x = out ++ cutP first x q z k0 j := by
  subst hq hk hj
  exact addSay_yes hb

end Go.Proofs.Ytncbgejggfkdmaa

/- Parts that wait, in memory: the program's links and its map. -/
namespace Go.Proofs.Ytncbgejggfkdmaa
open Go.RowKit Go.PlainAid

/-- The address of a block, if there is one. -/
def pt (o : Option Nat) : Option Addr := o.map fun b => ⟨b, 0, none⟩
/-- How an element of the map reads. -/
def ptrR : Value → Option (DataW Unit × List MemPlace)
  | .pointer none => some (.nil, [])
  | .pointer (some ⟨b, 0, none⟩) => some (.lit (.int .i64 (b : Int)), [])
  | _ => none
theorem ptrR_none : ptrR (.pointer none) = some (.nil, []) := rfl
theorem ptrR_some (b : Nat) : ptrR (.pointer (some ⟨b, 0, none⟩)) = some (.lit (.int .i64 (b : Int)), []) := rfl
theorem ptrR_nil {v : Value} {ps : List MemPlace} (h : ptrR v = some (.nil, ps)) : v = .pointer none := by
  unfold ptrR at h
  split at h
  · rfl
  · cases h
  · cases h
theorem ptrR_lit {v : Value} {b : Nat} {ps : List MemPlace} (h : ptrR v = some (.lit (.int .i64 (b : Int)), ps)) : v = .pointer (some ⟨b, 0, none⟩) := by
  unfold ptrR at h
  split at h
  · cases h
  · rename_i c
    have e : (c : Int) = (b : Int) := by
      have := congrArg (fun x => x.map Prod.fst) h
      simpa using this
    have e2 : c = b := by omega
    rw [e2]
  · cases h
/-- A number that a key may be. -/
def Key (t : Int) : Prop := -9223372036854775808 ≤ t ∧ t ≤ 9223372036854775807
theorem key_wf {t : Int} (h : Key t) : (Lit.int .i64 t).wf = true := by
  unfold Key at h
  have e1 : IntKind.i64.min = -9223372036854775808 := by decide
  have e2 : IntKind.i64.max = 9223372036854775807 := by decide
  simp [Lit.wf, e1, e2]
  omega
theorem key_of {t : Int} (h : Key t) : keyOf Try.prog 3 (.int .i64 t) = some (.int .i64 t) := Maps.keyOf_int_mk Try.underlying3 (key_wf h)
theorem ints_keyed : Maps.Keyed Try.prog 3 := Maps.int_keyed Try.underlying3
theorem ser_key {t : Int} (h : Ser t) : Key t := ⟨by have := h.1; omega, by have := h.2; omega⟩
/-- The map at block M leads from the numbers of parts to their blocks. -/
structure Tab (w : World) (M : Nat) (ns : List (Nat × Part)) (D : DataW Unit) : Prop where
  own : w.ownsMap Try.prog 3 ptrR M (Maps.size D) D
  size : Maps.size D = ns.length
  at_ : ∀ x ∈ ns, D.atKey (.int .i64 x.2.tsn) .nil = .lit (.int .i64 (x.1 : Int))
  no : ∀ t, hasT (psOf ns) t = false → Maps.has D (.int .i64 t) = false
theorem own_tight {w : World} {M n : Nat} {D : DataW Unit} (h : w.ownsMap Try.prog 3 ptrR M n D) : w.ownsMap Try.prog 3 ptrR M (Maps.size D) D := by
  obtain ⟨es, clock, hb, F, _, rfl⟩ := h
  exact ⟨es, clock, hb, F, by simp [Maps.size, length_sorted], rfl⟩
section
variable {w w' : World} {M : Nat} {ns : List (Nat × Part)} {D : DataW Unit} {t : Int}
theorem Tab.lt (h : Tab w M ns D) : M < w.heap.size := h.own.lt
theorem Tab.block (h : Tab w M ns D) (e : w'.heap[M]? = w.heap[M]?) : Tab w' M ns D := by
  obtain ⟨⟨es, clock, hb, F, hs, hD⟩, h2, h3, h4⟩ := h
  exact ⟨⟨es, clock, e.trans hb, F, hs, hD⟩, h2, h3, h4⟩
theorem Tab.new (w : World) : Tab (w.alloc (.map #[] 0)) w.heap.size [] (.map []) :=
  ⟨World.ownsMap_made w _ _ _, rfl, fun x hx => by simp at hx, fun t _ => rfl⟩
theorem zero_ptr (w : World) : (zeroValue 99).run Try.prog w = .ok (.pointer none) w := by kernel_rfl
/-- What the map answers. -/
theorem Tab.look_at (h : Tab w M ns D) {x : Nat × Part} (hx : x ∈ ns) (hk : Key x.2.tsn) : (Instr.lookup 98 (.map (some M)) (.int .i64 x.2.tsn) false).run Try.prog w = .ok (.pointer (some ⟨x.1, 0, none⟩)) w := by
  obtain ⟨v, ps, hrun, hv⟩ := h.own.lookup ints_keyed Try.underlying98 (zero_ptr w) ptrR_none (key_of hk)
  rw [h.at_ x hx] at hv
  rw [← ptrR_lit hv]
  exact hrun
theorem Tab.look_no (h : Tab w M ns D) (ht : hasT (psOf ns) t = false) (hk : Key t) : (Instr.lookup 98 (.map (some M)) (.int .i64 t) false).run Try.prog w = .ok (.pointer none) w := by
  obtain ⟨v, ps, hrun, hv⟩ := h.own.lookup ints_keyed Try.underlying98 (zero_ptr w) ptrR_none (key_of hk)
  rw [Maps.atKey_of_not_has (h.no t ht)] at hv
  rw [← ptrR_nil hv]
  exact hrun
theorem hasT_snoc (ps : List Part) (p : Part) (t : Int) : hasT (ps ++ [p]) t = (hasT ps t || p.tsn == t) := by
  unfold hasT
  rw [List.any_append]
  simp
theorem hasT_mem {ps : List Part} {p : Part} (h : p ∈ ps) : hasT ps p.tsn = true := hasT_yes h
/-- A further entry. -/
theorem Tab.put (h : Tab w M ns D) (d : Nat) {p : Part} (hk : Key p.tsn) (ht : hasT (psOf ns) p.tsn = false) (hn : ns.length ≤ 100) :
    ∃ w' D', (Instr.mapUpdate 98 (.map (some M)) (.int .i64 p.tsn) (.pointer (some ⟨d, 0, none⟩))).run Try.prog w = .ok () w' ∧ Tab w' M (ns ++ [(d, p)]) D' ∧ w.grownBy w' (some M) ∧ w'.heap.size = w.heap.size := by
  obtain ⟨w', hrun, hown, hturn⟩ := h.own.store ints_keyed Try.underlying98 (by rw [h.size]; unfold maxLen; omega) (key_of hk) (ptrR_some d)
  have htidy := h.own.tidy ints_keyed
  refine ⟨w', _, hrun, ⟨own_tight hown, ?_, fun x hx => ?_, fun t ht2 => ?_⟩, hturn.grown, ?_⟩
  · rw [Maps.size_put htidy, h.no _ ht, h.size, List.length_append]
    rfl
  · rcases List.mem_append.1 hx with hx | hx
    · have hne : x.2.tsn ≠ p.tsn := fun e => by
        have := hasT_mem (show x.2 ∈ psOf ns from List.mem_map_of_mem hx)
        rw [e, ht] at this
        cases this
      rw [Maps.atKey_put_other (fun e => hne (by simpa using e))]
      exact h.at_ x hx
    · obtain rfl : x = (d, p) := by simpa using hx
      exact Maps.atKey_put_same (k := .int .i64 p.tsn) htidy.isMap (by trivial) _ _
  · rw [psOf_append] at ht2
    have e : psOf [(d, p)] = [p] := rfl
    rw [e, hasT_snoc] at ht2
    simp only [Bool.or_eq_false_iff, beq_eq_false_iff_ne] at ht2
    have hne : Lit.int .i64 t ≠ Lit.int .i64 p.tsn := fun e => ht2.2 (by
      have : t = p.tsn := by simpa using e
      exact this.symm)
    rw [Maps.has_put_other hne]
    exact h.no t ht2.1
  · obtain ⟨es, clock, es', clock', _, rfl⟩ := hturn
    simp [ChangeMaps.setBlock]
end

end Go.Proofs.Ytncbgejggfkdmaa

/- Parts that wait, in memory: a link is added, a link is taken out. -/
namespace Go.Proofs.Ytncbgejggfkdmaa
open Go.RowKit Go.PlainAid

/-- The cells of a link. -/
def nodeC (p : Part) (bf bh : Option Nat) : List Value := cellsP p ++ [.pointer (pt bf), .pointer (pt bh)]
theorem nodeC_set7 (p : Part) (bf bh x : Option Nat) : (nodeC p bf bh).set 7 (.pointer (pt x)) = nodeC p x bh := rfl
theorem nodeC_set8 (p : Part) (bf bh x : Option Nat) : (nodeC p bf bh).set 8 (.pointer (pt x)) = nodeC p bf x := rfl
/-- The links of a list at block L. -/
structure Lk (w : World) (L M : Nat) (ns : List (Nat × Part)) : Prop where
  l : VarN L [.pointer (pt (bk ns 0)), .pointer (pt (pv ns ns.length)), .map (some M)] w
  nodes : ∀ i, i < ns.length → VarN (bAt ns i) (nodeC (pAt (psOf ns) i) (pv ns i) (bk ns (i + 1))) w
  nd : (ns.map Prod.fst).Nodup
  fl : ∀ x ∈ ns, x.1 ≠ L
section
variable {w w' : World} {L M : Nat} {ns : List (Nat × Part)}
theorem Lk.same (h : Lk w L M ns) (e : ∀ x, x = L ∨ (∃ y ∈ ns, x = y.1) → w'.heap[x]? = w.heap[x]?) : Lk w' L M ns :=
  ⟨h.l.blk (e L (.inl rfl)), fun i hi => (h.nodes i hi).blk (e _ (.inr ⟨_, bAt_mem hi, rfl⟩)), h.nd, h.fl⟩
theorem Lk.lt (h : Lk w L M ns) : L < w.heap.size := h.l.lt
theorem Lk.node_lt (h : Lk w L M ns) {x : Nat × Part} (hx : x ∈ ns) : x.1 < w.heap.size := by
  obtain ⟨i, hi, rfl⟩ := nd_at hx
  exact (h.nodes i hi).lt
theorem bk_snoc (ns : List (Nat × Part)) (x : Nat × Part) (i : Nat) (h : i < ns.length) : bk (ns ++ [x]) i = bk ns i := by
  unfold bk
  rw [List.getElem?_append_left h]
theorem bk_end (ns : List (Nat × Part)) (x : Nat × Part) : bk (ns ++ [x]) ns.length = some x.1 := by
  unfold bk
  rw [List.getElem?_append_right (Nat.le_refl _)]
  simp
theorem pv_snoc (ns : List (Nat × Part)) (x : Nat × Part) (i : Nat) (h : i ≤ ns.length) : pv (ns ++ [x]) i = pv ns i := by
  cases i with
  | zero => rfl
  | succ i => exact bk_snoc ns x i (by omega)
theorem at_snoc {ns : List (Nat × Part)} {x : Nat × Part} {i : Nat} (h : i < ns.length) : bAt (ns ++ [x]) i = bAt ns i ∧ pAt (psOf (ns ++ [x])) i = pAt (psOf ns) i := by
  have h1 := ns_get (ns := ns ++ [x]) (i := i) (by rw [List.length_append]; omega)
  rw [List.getElem?_append_left h, ns_get h] at h1
  have := Option.some.inj h1
  exact ⟨(congrArg Prod.fst this).symm, (congrArg Prod.snd this).symm⟩
theorem at_end {ns : List (Nat × Part)} {x : Nat × Part} : bAt (ns ++ [x]) ns.length = x.1 ∧ pAt (psOf (ns ++ [x])) ns.length = x.2 := by
  have h1 := ns_get (ns := ns ++ [x]) (i := ns.length) (by simp)
  rw [List.getElem?_append_right (Nat.le_refl _), Nat.sub_self] at h1
  have := Option.some.inj h1
  exact ⟨(congrArg Prod.fst this).symm, (congrArg Prod.snd this).symm⟩
theorem nd_snoc {d : Nat} {p : Part} (h : (ns.map Prod.fst).Nodup) (hd : ∀ y ∈ ns, y.1 ≠ d) : ((ns ++ [(d, p)]).map Prod.fst).Nodup := by
  rw [List.map_append, List.nodup_append]
  refine ⟨h, by simp, fun a ha b hb e => ?_⟩
  obtain ⟨y, hy, rfl⟩ := List.mem_map.1 ha
  have : b = d := by simpa using hb
  exact hd y hy (e.trans this)
/-- The first link. -/
theorem Lk.first {d : Nat} {p : Part} (h : Lk w L M []) (hd : VarN d (nodeC p none none) w) (h1 : d ≠ L) :
    Lk ((w.setCell ⟨L, 0, none⟩ (.pointer (some ⟨d, 0, none⟩))).setCell ⟨L, 1, none⟩ (.pointer (some ⟨d, 0, none⟩))) L M [(d, p)] := by
  refine ⟨(h.l.set (i := 0) _).set (i := 1) _, fun i hi => ?_, by simp, fun x hx => ?_⟩
  · obtain rfl : i = 0 := by simpa using hi
    exact (hd.far _ h1.symm).far _ h1.symm
  · obtain rfl : x = (d, p) := by simpa using hx
    exact h1
/-- A further link. -/
theorem Lk.more {d n : Nat} {p : Part} (h : Lk w L M ns) (hn : ns.length = n + 1) (hd : VarN d (nodeC p (some (bAt ns n)) none) w) (h1 : d ≠ L) (h2 : ∀ y ∈ ns, y.1 ≠ d) :
    Lk ((w.setCell ⟨bAt ns n, 8, none⟩ (.pointer (some ⟨d, 0, none⟩))).setCell ⟨L, 1, none⟩ (.pointer (some ⟨d, 0, none⟩))) L M (ns ++ [(d, p)]) := by
  have hl : n < ns.length := by omega
  have hb := bAt_mem hl
  have hbL := h.fl _ hb
  have hbd := h2 _ hb
  refine ⟨?_, fun i hi => ?_, nd_snoc h.nd h2, fun x hx => ?_⟩
  · have := (h.l.far (i := 8) (.pointer (some ⟨d, 0, none⟩)) hbL).set (i := 1) (.pointer (some ⟨d, 0, none⟩))
    rw [bk_snoc _ _ _ (by omega)]
    have e : pv (ns ++ [(d, p)]) (ns ++ [(d, p)]).length = some d := by
      rw [List.length_append, List.length_singleton]
      exact bk_end ns (d, p)
    rw [e]
    exact this
  · rw [List.length_append, List.length_singleton] at hi
    by_cases hc : i < ns.length
    · have h5 := h.nodes i hc
      have h6 := h.fl _ (bAt_mem hc)
      rw [(at_snoc hc).1, (at_snoc hc).2, pv_snoc _ _ _ (by omega)]
      by_cases hin : i = n
      · subst hin
        have e : bk (ns ++ [(d, p)]) (i + 1) = some d := by rw [← hn]; exact bk_end ns (d, p)
        rw [e, ← nodeC_set8 _ _ (bk ns (i + 1))]
        exact (h5.set (i := 8) _).far _ h6.symm
      · have hne : bAt ns n ≠ bAt ns i := fun e => hin (bAt_inj h.nd hl hc e).symm
        rw [bk_snoc _ _ _ (by omega)]
        exact (h5.far _ hne).far _ h6.symm
    · obtain rfl : i = ns.length := by omega
      rw [at_end.1, at_end.2, pv_snoc _ _ _ (Nat.le_refl _)]
      have e1 : pv ns ns.length = some (bAt ns n) := by rw [hn]; exact bk_some hl
      have e2 : bk (ns ++ [(d, p)]) (ns.length + 1) = none := bk_none (by rw [List.length_append]; simp)
      rw [e1, e2]
      exact (hd.far _ hbd).far _ h1.symm
  · rcases List.mem_append.1 hx with hx | hx
    · exact h.fl x hx
    · obtain rfl : x = (d, p) := by simpa using hx
      exact h1
theorem at_erase {j i : Nat} (h : i < ns.length - 1) (hj : j < ns.length) : bAt (ns.eraseIdx j) i = bAt ns (if i < j then i else i + 1) ∧ pAt (psOf (ns.eraseIdx j)) i = pAt (psOf ns) (if i < j then i else i + 1) := by
  have hl : (ns.eraseIdx j).length = ns.length - 1 := by rw [List.length_eraseIdx]; simp [hj]
  have h1 := ns_get (ns := ns.eraseIdx j) (i := i) (by omega)
  rw [List.getElem?_eraseIdx] at h1
  by_cases hc : i < j
  · rw [if_pos hc] at h1 ⊢
    rw [ns_get (by omega)] at h1
    have := Option.some.inj h1
    exact ⟨(congrArg Prod.fst this).symm, (congrArg Prod.snd this).symm⟩
  · rw [if_neg hc] at h1 ⊢
    rw [ns_get (by omega)] at h1
    have := Option.some.inj h1
    exact ⟨(congrArg Prod.fst this).symm, (congrArg Prod.snd this).symm⟩
/-- The world behind the first store, the second store, as a link is taken out. -/
def rm1 (w : World) (ns : List (Nat × Part)) (L : Nat) : Nat → World
  | 0 => w.setCell ⟨L, 0, none⟩ (.pointer (pt (bk ns 1)))
  | j + 1 => w.setCell ⟨bAt ns j, 8, none⟩ (.pointer (pt (bk ns (j + 2))))
def rm2 (w : World) (ns : List (Nat × Part)) (L j : Nat) : World :=
  if j + 1 < ns.length then w.setCell ⟨bAt ns (j + 1), 7, none⟩ (.pointer (pt (pv ns j))) else w.setCell ⟨L, 1, none⟩ (.pointer (pt (pv ns j)))
/-- What the links are behind the first store. -/
structure Mid (w : World) (L M : Nat) (ns : List (Nat × Part)) (j : Nat) : Prop where
  l : VarN L [.pointer (pt (if j = 0 then bk ns 1 else bk ns 0)), .pointer (pt (pv ns ns.length)), .map (some M)] w
  nodes : ∀ i, i < ns.length → VarN (bAt ns i) (nodeC (pAt (psOf ns) i) (pv ns i) (if i + 1 = j then bk ns (j + 1) else bk ns (i + 1))) w
theorem Lk.mid (h : Lk w L M ns) {j : Nat} (hj : j < ns.length) : Mid (rm1 w ns L j) L M ns j := by
  cases j with
  | zero =>
    refine ⟨h.l.set (i := 0) _, fun i hi => ?_⟩
    rw [if_neg (by omega)]
    exact (h.nodes i hi).far _ (h.fl _ (bAt_mem hi)).symm
  | succ j =>
    have hl : j < ns.length := by omega
    refine ⟨?_, fun i hi => ?_⟩
    · rw [if_neg (by omega)]
      exact h.l.far _ (h.fl _ (bAt_mem hl))
    · by_cases e : i = j
      · subst e
        rw [if_pos rfl, ← nodeC_set8 _ _ (bk ns (i + 1))]
        exact (h.nodes i hi).set (i := 8) _
      · rw [if_neg (by omega)]
        exact (h.nodes i hi).far _ fun e2 => e (bAt_inj h.nd hl hi e2).symm
theorem Lk.rm (h : Lk w L M ns) {j : Nat} (hj : j < ns.length) (hm : Mid w' L M ns j) : Lk (rm2 w' ns L j) L M (ns.eraseIdx j) := by
  have hl : (ns.eraseIdx j).length = ns.length - 1 := by rw [List.length_eraseIdx]; simp [hj]
  have fl : ∀ i, i < ns.length → bAt ns i ≠ L := fun i hi => h.fl _ (bAt_mem hi)
  refine ⟨?_, fun i hi => ?_, ?_, fun x hx => h.fl x (List.mem_of_mem_eraseIdx hx)⟩
  · have e0 : bk (ns.eraseIdx j) 0 = if j = 0 then bk ns 1 else bk ns 0 := by
      rw [bk_erase]
      by_cases e : j = 0
      · rw [if_neg (by omega), if_pos e]
      · rw [if_pos (by omega), if_neg e]
    rw [e0, hl]
    unfold rm2
    by_cases hc : j + 1 < ns.length
    · rw [if_pos hc]
      have e1 : pv (ns.eraseIdx j) (ns.length - 1) = pv ns ns.length := by
        rw [pv_erase, if_neg (by omega)]
        congr 1
        omega
      rw [e1]
      exact hm.l.far _ (fl _ hc)
    · rw [if_neg hc]
      have e1 : pv (ns.eraseIdx j) (ns.length - 1) = pv ns j := by
        rw [pv_erase, if_pos (by omega)]
        congr 1
        omega
      rw [e1]
      exact hm.l.set (i := 1) _
  · rw [hl] at hi
    have E := at_erase (ns := ns) hi hj
    by_cases hc : i < j
    · rw [if_pos hc] at E
      rw [E.1, E.2, bk_erase, pv_erase, if_pos (show i ≤ j by omega)]
      have h5 := hm.nodes i (by omega)
      have e3 : (if i + 1 = j then bk ns (j + 1) else bk ns (i + 1)) = (if i + 1 < j then bk ns (i + 1) else bk ns (i + 1 + 1)) := by
        by_cases e : i + 1 = j
        · rw [if_pos e, if_neg (by omega), ← e]
        · rw [if_neg e, if_pos (by omega)]
      rw [e3] at h5
      unfold rm2
      by_cases h6 : j + 1 < ns.length
      · rw [if_pos h6]
        exact h5.far _ fun e => by have := bAt_inj h.nd h6 (by omega) e; omega
      · rw [if_neg h6]
        exact h5.far _ (fl _ (by omega)).symm
    · rw [if_neg hc] at E
      have h5 := hm.nodes (i + 1) (by omega)
      rw [if_neg (show ¬ i + 1 + 1 = j by omega)] at h5
      have e4 : rm2 w' ns L j = w'.setCell ⟨bAt ns (j + 1), 7, none⟩ (.pointer (pt (pv ns j))) := by
        unfold rm2
        rw [if_pos (by omega)]
      rw [E.1, E.2, bk_erase, pv_erase, e4, if_neg (show ¬ i + 1 < j by omega)]
      by_cases e : i = j
      · subst e
        rw [if_pos (Nat.le_refl _), ← nodeC_set7 _ (pv ns (i + 1))]
        exact h5.set (i := 7) _
      · rw [if_neg (show ¬ i ≤ j by omega)]
        exact h5.far _ fun e2 => by have := bAt_inj h.nd (by omega) (by omega) e2; omega
  · exact h.nd.sublist ((List.eraseIdx_sublist ..).map _)
end

end Go.Proofs.Ytncbgejggfkdmaa

/- The contracts of the program's list of parts that wait: whether a part waits, whether there is no space, a further part. -/
namespace Go.Proofs.Ytncbgejggfkdmaa
open Go.RowKit Go.PlainAid

/-- The parts that wait, at blocks from B on. -/
structure Wl (B : Nat) (w : World) (L M : Nat) (ns : List (Nat × Part)) : Prop where
  lk : Lk w L M ns
  tab : ∃ D, Tab w M ns D
  td : ((psOf ns).map fun p => p.tsn).Nodup
  key : ∀ p ∈ psOf ns, Key p.tsn
  ml : M ≠ L
  fm : ∀ x ∈ ns, x.1 ≠ M
  lo : B ≤ L ∧ B ≤ M ∧ ∀ x ∈ ns, B ≤ x.1
section
variable {B L M : Nat} {w w' : World} {ns : List (Nat × Part)}
theorem Wl.same (h : Wl B w L M ns) (e : ∀ x, B ≤ x → x < w.heap.size → w'.heap[x]? = w.heap[x]?) : Wl B w' L M ns := by
  obtain ⟨D, hD⟩ := h.tab
  refine ⟨h.lk.same fun x hx => ?_, ⟨D, hD.block (e M h.lo.2.1 hD.lt)⟩, h.td, h.key, h.ml, h.fm, h.lo⟩
  rcases hx with rfl | ⟨y, hy, rfl⟩
  · exact e _ h.lo.1 h.lk.lt
  · exact e _ (h.lo.2.2 y hy) (h.lk.node_lt hy)
theorem Wl.below (h : Wl B w L M ns) (hb : Below w.heap.size w w') : Wl B w' L M ns := h.same fun x _ hx => hb.block x hx
theorem Wl.drewN (h : Wl B w L M ns) (q : Nat) : Wl B (w.drewN q) L M ns := h.below (below_drewN (Below.refl _ _) q)
theorem Wl.alloc (h : Wl B w L M ns) (o : Obj) : Wl B (w.alloc o) L M ns := h.below (below_box o (Nat.le_refl _))
end
/-- Blocks below B, and those that are neither the list's nor one of its links, are as they were. -/
structure Kp (B : Nat) (L M : Nat) (ns : List (Nat × Part)) (w w' : World) : Prop where
  b : Below B w w'
  o : ∀ x, x < w.heap.size → x ≠ L → x ≠ M → (∀ y ∈ ns, x ≠ y.1) → w'.heap[x]? = w.heap[x]?

set_option maxHeartbeats 1000000 in
theorem has_any (B L M : Nat) (ns : List (Nat × Part)) (t : Int) (w : World) (h : Wl B w L M ns) (hk : Key t) :
    Calls Try.prog 45 #[.pointer (some ⟨L, 0, none⟩), .int .i64 t] w fun e w' => e = .returned (.bool (hasT (psOf ns) t)) ∧ w = w' := by
  obtain ⟨D, hD⟩ := h.tab
  have c2 := (h.lk.l 2 _ rfl).1
  cases hh : hasT (psOf ns) t with
  | false =>
    have hL := hD.look_no hh hk
    clear hD hh h
    go_enter Try.func45, Try.ntmps45
    go_wp2
    go_ret
    exact ⟨rfl, rfl⟩
  | true =>
    obtain ⟨p, hp, e⟩ : ∃ p ∈ psOf ns, p.tsn = t := by
      unfold hasT at hh
      rw [List.any_eq_true] at hh
      obtain ⟨p, hp, e⟩ := hh
      exact ⟨p, hp, by simpa using e⟩
    subst e
    obtain ⟨x, hx, rfl⟩ := List.mem_map.1 hp
    have hL := hD.look_at hx hk
    obtain ⟨t, ht⟩ : ∃ t, x.2.tsn = t := ⟨_, rfl⟩
    obtain ⟨d, hd⟩ : ∃ d, x.1 = d := ⟨_, rfl⟩
    rw [ht, hd] at hL
    rw [ht]
    clear hD hh h hp hx ht hd
    go_enter Try.func45, Try.ntmps45
    go_wp2
    go_ret
    exact ⟨rfl, rfl⟩

set_option maxHeartbeats 1000000 in
theorem full_any (B L M : Nat) (ns : List (Nat × Part)) (w : World) (h : Wl B w L M ns) (hn : ns.length ≤ 1000) :
    Calls Try.prog 47 #[.pointer (some ⟨L, 0, none⟩)] w fun e w' => e = .returned (.bool (decide (12 ≤ ns.length))) ∧ w = w' := by
  obtain ⟨D, hD⟩ := h.tab
  have c2 := (h.lk.l 2 _ rfl).1
  have own := hD.own
  have HS := Lib.hid hD.size
  clear hD h
  go_enter Try.func47, Try.ntmps47
  go_wp2_with (at_len; refine wpList_len_own _ rfl _ 98 rfl 3 99 Try.underlying98 ptrR M (Maps.size D) D rfl own ?_)
  rw [HS.out]
  have E := Lib.hid (show decide ((12 : Int) ≤ (ns.length : Int)) = decide (12 ≤ ns.length) from decide_eq_decide.2 ⟨fun h => by omega, fun h => by omega⟩)
  clear HS
  go_wp2
  go_ret
  exact ⟨ret_b E.out, rfl⟩

end Go.Proofs.Ytncbgejggfkdmaa
