/- The contracts of the program's chapter 13: chunks, read one after the other. -/
import Derived.Test.YtcpdpamoddmpaabDoorK18
import Derived.Test.YtcpdpamoddmpaabDoorK40
import Derived.Test.YtcpdpamoddmpaabDoorK42
import Derived.Test.YtcpdpamoddmpaabDoorK26c
import Derived.Test.YtcpdpamoddmpaabDoorG15
import Derived.Test.YtcpdpamoddmpaabDoorK51
import Derived.Deep.RegionLaw
import Derived.Deep.AppendLies
namespace Go.Proofs.YtcpdpamoddmpaabDoor
open Go.RowKit Go.PlainAid

theorem rowUp {w w' : World} {base : Nat} {e : TypeId} {size : Nat} {v : Value} {n : Nat} {xs : List Value} (h : w.ownsRow base e size v n xs) (hb : Below w.heap.size w w') : w'.ownsRow base e size v n xs := by
  refine ⟨h.1, ?_⟩
  rcases h.2 with h1 | ⟨g, cap, cur, h1, h2, h3, h4⟩
  · exact .inl h1
  · have hg : g < w.heap.size := (Array.getElem?_eq_some_iff.1 h3).1
    exact .inr ⟨g, cap, cur, h1, h2, by rw [hb.block g hg]; exact h3, h4⟩
/-- While chunks are read: those that were read lie in a row of one's own. -/
structure Rdc (B c : Nat) (s : ByteArray) (q : Nat) (v : Value) (k : Nat) (cs : List (Int × Int × ByteArray)) (w W : World) : Prop where
  own : W.ownsRow w.heap.size 43 3 v k (flatC cs)
  cur : Cur c s q W
  fr : Fr B c w W
  cl : c < w.heap.size
  bc : B ≤ c
section
variable {B c : Nat} {s : ByteArray} {q : Nat} {v : Value} {k : Nat} {cs : List (Int × Int × ByteArray)} {w W W' : World}
theorem Rdc.up (h : Rdc B c s q v k cs w W) (hb : Below W.heap.size W W') : Rdc B c s q v k cs w W' :=
  ⟨rowUp h.own hb, h.cur.grow hb, h.fr.grow (by have := h.cl; have := h.bc; omega) hb, h.cl, h.bc⟩
theorem own_base {g n : Nat} {e : TypeId} {size : Nat} {xs : List Value} {base : Nat} (h : W.ownsRow base e size v n xs) (hv : v.ownBlock = some g) : base ≤ g := by
  rcases h.2 with ⟨h1, _⟩ | ⟨g', cap', cur, h1, h2, _⟩
  · rw [h1] at hv
    cases hv
  · rw [h1] at hv
    obtain rfl : g' = g := by simpa [Value.ownBlock] using hv
    exact h2
theorem Rdc.row_ne (h : Rdc B c s q v k cs w W) : some c ≠ v.ownBlock := fun e => by
  have := own_base (g := c) h.own e.symm
  have := h.cl
  omega
theorem Rdc.push {W1 : World} {g2 cap2 q2 : Nat} {d : Int × Int × ByteArray} (h : Rdc B c s q v k cs w W) (hgrow : W.grownBy W1 v.ownBlock) (hown : W1.ownsRow w.heap.size 43 3 (.slice (some ⟨g2, 0, none⟩) (k + 1) cap2) (k + 1) (flatC cs ++ [.int .i64 d.1, .int .i64 d.2.1, .string d.2.2])) :
    Rdc B c s q2 (.slice (some ⟨g2, 0, none⟩) (k + 1) cap2) (k + 1) (cs ++ [d]) w (W1.setCell ⟨c, 1, none⟩ (.int .i64 q2)) := by
  have h1 := h.cl
  have h2 := h.bc
  have h3 := h.fr.size
  have hbl : ∀ x, v.ownBlock = some x → w.heap.size ≤ x := fun x hx => own_base (g := x) h.own hx
  have hne := h.row_ne
  have hB : Below w.heap.size W W1 := Below.grown (Below.refl _ _) hgrow h3 hbl
  obtain ⟨p0, p1, p2, p3⟩ := h.cur
  have C1 : Cur c s q W1 := ⟨by have := hB.size; omega, (hgrow.cell_far ⟨c, 0, none⟩ p0 hne).trans p1, (hgrow.cell_far ⟨c, 1, none⟩ p0 hne).trans p2, (hgrow.frozen_far ⟨c, 1, none⟩ p0 hne).trans p3⟩
  have F1 : Fr B c w W1 := ⟨h.fr.below.trans (hB.mono (by omega)), h.fr.aside.trans (below_aside hB (Nat.le_refl _))⟩
  exact ⟨ownsRow_setCell_below (by rw [flatC_append]; exact hown) (a := ⟨c, 1, none⟩) h1 _, C1.to _, F1.own h2 _, h1, h2⟩
theorem rdc_at (h : Rdc B c s q v k cs w W) : W.cell? ⟨c, 0, none⟩ = some (.string s) ∧ W.cell? ⟨c, 1, none⟩ = some (.int .i64 q) ∧ W.frozen? ⟨c, 1, none⟩ = false := ⟨h.cur.2.1, h.cur.2.2.1, h.cur.2.2.2⟩
end
/-- Behind a call made in the world as it was, drawn upon, with a new variable or without. -/
theorem rdc_new {B c : Nat} {s : ByteArray} {q : Nat} {v : Value} {k : Nat} {cs : List (Int × Int × ByteArray)} {w W X W' : World} (h : Rdc B c s q v k cs w W) (hb : Below X.heap.size X W') : Below W.heap.size W X → Rdc B c s q v k cs w W' := fun hX => h.up (hX.trans (hb.mono hX.size))
theorem rowSet {W W' : World} {base i : Nat} {e : TypeId} {size : Nat} {v : Value} {n : Nat} {xs : List Value} (h0 : W.ownsRow base e size v n xs) (h : W'.ownsRow base e size v n xs) (u : Value) : (W'.setCell ⟨W.heap.size, i, none⟩ u).ownsRow base e size v n xs := by
  refine ⟨h.1, ?_⟩
  rcases h.2 with h1 | ⟨g, cap, cur, h1, h2, h3, h4⟩
  · exact .inl h1
  · rcases h0.2 with ⟨k1, _⟩ | ⟨g', cap', cur', k1, _, k3, _⟩
    · exact absurd (h1.symm.trans k1) (by intro e; cases e)
    · obtain ⟨rfl, rfl⟩ : g = g' ∧ cap = cap' := by simpa using (h1.symm.trans k1)
      have hg : g < W.heap.size := (Array.getElem?_eq_some_iff.1 k3).1
      exact .inr ⟨g, cap, cur, h1, h2, by rw [Below.heap_setCell _ _ _ _ (by show g ≠ W.heap.size; omega)]; exact h3, h4⟩
theorem Rdc.later {B c : Nat} {s : ByteArray} {q : Nat} {v : Value} {k : Nat} {cs : List (Int × Int × ByteArray)} {w W W' : World} {i : Nat} (h0 : Rdc B c s q v k cs w W) (h : Rdc B c s q v k cs w W') (u : Value) : Rdc B c s q v k cs w (W'.setCell ⟨W.heap.size, i, none⟩ u) := by
  have h1 := h0.cur.1
  have h2 := h0.fr.size
  have h3 := h.cl
  have h4 := h.bc
  exact ⟨rowSet h0.own h.own u, h.cur.put (by omega) u, h.fr.set h2 (by omega) u, h3, h4⟩
theorem past_c {w : World} {p : Addr} {v : Value} (h : w.cell? p = some v) (o : Obj) : (w.alloc o).cell? p = some v := (World.cell?_alloc_lt _ _ _ (World.block_lt_of_cell? w p h)).trans h
theorem info_ck : (Tryd.prog.info? 43).map (fun i => (i.zero, i.size, i.bytes)) = some (some (.agg #[.int .i64 0, .int .i64 0, .string (ByteArray.mk #[])]), 3, 32) := by kernel_rfl

set_option maxHeartbeats 4000000 in
theorem chunks_any (c : Nat) (s : ByteArray) (p : Nat) (w : World) (hs : s.size ≤ 100000000) (hc : Cur c s p w) (hp : p ≤ s.size) (B : Nat) (hB : B ≤ c) :
    Calls Tryd.prog 55 #[.pointer (some ⟨c, 0, none⟩)] w fun e w' => ∃ (a : Option Addr) (cap k q : Nat) (cs : List (Int × Int × ByteArray)), e = .returned (.slice a k cap) ∧ Run s p cs q ∧ q ≤ s.size ∧ cs.length = k ∧ k ≤ 4 ∧ (k < 4 → ¬ Has s q) ∧ Rdc B c s q (.slice a k cap) k cs w w' := by
  obtain ⟨i0, hi, hz0, hz1, hz2⟩ := info_parts info_ck
  have HI := Lib.hid (And.intro hi (And.intro hz0 (And.intro hz1 hz2)))
  clear hi hz0 hz1 hz2
  have R0 := Lib.hid (show Rdc B c s p (.slice none 0 0) 0 [] w w from ⟨⟨rfl, .inl ⟨rfl, rfl⟩⟩, hc, Fr.refl B c w, hc.1, hB⟩)
  clear hc
  go_enter Tryd.func55, Tryd.ntmps55
  go_wp2
  go_loopw [3] (fun v wr => ∃ (a : Option Addr) (cap k q : Nat) (cs : List (Int × Int × ByteArray)), v = .slice a k cap ∧ Hid (Run s p cs q) ∧ q ≤ s.size ∧ cs.length = k ∧ k ≤ 4 ∧ p + 4 * k ≤ q ∧ Hid (Rdc B c s q (.slice a k cap) k cs w wr)) (fun v _ => 4 - (match v with | .slice _ n _ => n | _ => 0))
  case atStart => exact ⟨none, 0, 0, p, [], rfl, Lib.hid rfl, hp, rfl, by omega, by omega, R0⟩
  case round =>
    obtain ⟨a, cap, k, q, cs, rfl, hrun, hq, hk, hk4, hkq, hr⟩ := hrel
    clear R0
    by_cases hlt : k < 4
    · have cond : (k : Int) < 4 := by omega
      obtain ⟨c0, c1, cf⟩ := rdc_at hr.out
      by_cases hh : Has s q
      · have hle := has_le hh
        have HH := Lib.hid hh
        have HN := Lib.hid (run_snoc hrun.out hh)
        clear hh
        go_upto_region 1 with fail
        go_cut [4, 5, 6] from 10 to 22 (fun x y z wx => ∃ d : Nat, x = .pointer (some ⟨d, 0, none⟩) ∧ y = .int .i64 (chunkEnd s q) ∧ z = .bool true ∧ VarN d [.int .i64 (bt s q), .int .i64 (bt s (q + 1)), .string (bodyAt s q)] wx ∧ Rdc B c s q (.slice a k cap) k cs w wx)
        case first =>
          have c0a := fun (o : Obj) => past_c c0 o
          have c1a := fun (o : Obj) => past_c c1 o
          go_region_law (first
            | (go_simp; go_at_call 70; refine (chunkGet_yes s q _ hs HH.out).mono ?_; rintro e w8 ⟨rfl, hb8⟩; unfold gotV; have R8 := Lib.hid (rdc_new hr.out hb8); (first | (have V8 : VarN wr.heap.size [.int .i64 0, .int .i64 0, .string (ByteArray.mk #[])] w8 := (by first | exact (newDrew wr [.int .i64 0, .int .i64 0, .string (ByteArray.mk #[])] 43).below hb8 (by simp) | exact (VarN.new wr [.int .i64 0, .int .i64 0, .string (ByteArray.mk #[])] 43).below hb8 (by simp)); have v0 := (V8 0 _ rfl).1; have v1 := (V8 1 _ rfl).1; have v2 := (V8 2 _ rfl).1; have g0 := (V8 0 _ rfl).2; have g1 := (V8 1 _ rfl).2; have g2 := (V8 2 _ rfl).2) | skip); dsimp only))
          all_goals
            go_wp2_with fail
            go_meet
            first
              | exact ⟨_, rfl, rfl, rfl, V8.put3 _ _ _, hr.out.later (hr.out.later (hr.out.later (R8.out (Below.drew (below_box _ (Nat.le_refl _)))) _) _) _⟩
              | exact ⟨_, rfl, rfl, rfl, VarN.new_at rfl _ _, (R8.out (Below.drew (Below.refl _ _))).up (below_box _ (Nat.le_refl _))⟩
        case rest =>
          obtain ⟨d, rfl, rfl, rfl, hv, hr2⟩ := hcut
          obtain ⟨b1, hb1⟩ : ∃ c, bt s q = c := ⟨_, rfl⟩
          obtain ⟨b2, hb2⟩ : ∃ c, bt s (q + 1) = c := ⟨_, rfl⟩
          obtain ⟨b3, hb3⟩ : ∃ c, bodyAt s q = c := ⟨_, rfl⟩
          obtain ⟨q2, hq2⟩ : ∃ c, chunkEnd s q = c := ⟨_, rfl⟩
          rw [hb1, hb2, hb3, hq2] at HN
          rw [hb1, hb2, hb3] at hv
          rw [hq2] at hle ⊢
          clear hb1 hb2 hb3 hq2 c0 c1 cf hr
          have SA := Lib.hid (hr2.up (below_box (.cells #[.int .i64 b1, .int .i64 b2, .string b3] 43) (Nat.le_refl _)))
          have e0 := (hv 0 _ rfl).1
          have e1 := (hv 1 _ rfl).1
          have e2 := (hv 2 _ rfl).1
          have hsz := hr2.fr.size
          clear hr2 hv
          go_wp2_with (at_builtin; go_loud (refine wpList_append_lies _ rfl _ _ 23 rfl w.heap.size 43 i0 (.agg #[.int .i64 0, .int .i64 0, .string (ByteArray.mk #[])]) 3 32 Tryd.underlying23 HI.out.1 HI.out.2.1 HI.out.2.2.1 HI.out.2.2.2 rfl (by decide) (.slice a k cap) k (flatC cs) rfl SA.out.own ⟨wc.heap.size, 0, none⟩ 1 1 [.int .i64 b1, .int .i64 b2, .string b3] rfl rfl (news_box rfl) (by simp [Value.oneCell']) (by decide) (by unfold maxLen; omega) (by omega) (by simp; omega) _ rfl ?_))
          intro g2 cap2 w9 hown hgrow hat hlt9
          have SP := Lib.hid (SA.out.push (q2 := q2) (d := (b1, b2, b3)) hgrow hown)
          have p3 := hgrow.cell_far ⟨c, 1, none⟩ SA.out.cur.1 (SA.out.row_ne)
          have x1 : w9.cell? ⟨c, 1, none⟩ = some (.int .i64 q) := p3.trans SA.out.cur.2.2.1
          have x2 : w9.frozen? ⟨c, 1, none⟩ = false := (hgrow.frozen_far ⟨c, 1, none⟩ SA.out.cur.1 (SA.out.row_ne)).trans SA.out.cur.2.2.2
          clear p3 SA hown hgrow hat hlt9
          go_wp2
          go_roundw
          case rel => exact ⟨some ⟨g2, 0, none⟩, cap2, k + 1, q2, cs ++ [(b1, b2, b3)], rfl, HN, hle.2, by rw [List.length_append, hk]; rfl, by omega, by omega, SP⟩
          case measure => simp; omega
      · have HNO := Lib.hid (show ∀ p : Nat, (q : Int) = p → ¬ Has s p from fun p e h => hh (by rw [show q = p by omega]; exact h))
        have HH := Lib.hid hh
        clear hh
        go_upto_region 1 with fail
        go_cut [4, 5, 6] from 10 to 22 (fun x y z wx => z = .bool false ∧ Rdc B c s q (.slice a k cap) k cs w wx)
        case first =>
          have c0a := fun (o : Obj) => past_c c0 o
          have c1a := fun (o : Obj) => past_c c1 o
          go_region_law (first
            | (go_simp; go_at_call 70; refine (chunkGet_no s q _ hs HNO.out).mono ?_; rintro e w8 ⟨rfl, hb8⟩; unfold noneV; have R8 := Lib.hid (rdc_new hr.out hb8); (first | (have V8 : VarN wr.heap.size [.int .i64 0, .int .i64 0, .string (ByteArray.mk #[])] w8 := (by first | exact (newDrew wr [.int .i64 0, .int .i64 0, .string (ByteArray.mk #[])] 43).below hb8 (by simp) | exact (VarN.new wr [.int .i64 0, .int .i64 0, .string (ByteArray.mk #[])] 43).below hb8 (by simp)); have v0 := (V8 0 _ rfl).1; have v1 := (V8 1 _ rfl).1; have v2 := (V8 2 _ rfl).1; have g0 := (V8 0 _ rfl).2; have g1 := (V8 1 _ rfl).2; have g2 := (V8 2 _ rfl).2) | skip); dsimp only))
          all_goals
            go_wp2_with fail
            go_meet
            first
              | exact ⟨rfl, V8 |> fun _ => hr.out.later (hr.out.later (hr.out.later (R8.out (Below.drew (below_box _ (Nat.le_refl _)))) _) _) _⟩
              | exact ⟨rfl, (R8.out (Below.drew (Below.refl _ _))).up (below_box _ (Nat.le_refl _))⟩
        case rest =>
          obtain ⟨rfl, hr2⟩ := hcut
          have HR2 := Lib.hid hr2
          clear hr2 hr c0 c1 cf
          go_wp2
          go_ret
          exact ⟨a, cap, k, q, cs, rfl, hrun.out, hq, hk, hk4, fun _ => HH.out, HR2.out⟩
    · obtain rfl : k = 4 := by omega
      go_wp2
      go_ret
      exact ⟨a, cap, 4, q, cs, rfl, hrun.out, hq, hk, hk4, fun h => absurd h (by omega), hr.out⟩

end Go.Proofs.YtcpdpamoddmpaabDoor
