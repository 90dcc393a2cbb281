/- Texts that a proof needs, merged: K178, K179, K182, K183, K140, K141, K142, K143, K144, K145, K11, K146, K147. -/
import Derived.Test.YtncbgejggfkdmabM4
import Derived.Maps.OwnSet
import Derived.Deep.AppendLies
import Derived.IntWalk
import Derived.Deep.RegionLaw
import Derived.Deep.QuietTactic
import Derived.BigQuiet
import Derived.Handy

/- The laws' marks in an assembly that was answered, and whether they are still there. -/
namespace Go.Proofs.Ytncbgejggfkdmab
open Go.RowKit Go.PlainAid

/-- Of the blocks that were there none has turned but those of os, and none below C. -/
structure Mgl (C : Nat) (os : List (Option Nat)) (w w' : World) : Prop where
  b : Below C w w'
  a : ∀ x, x < w.heap.size → some x ∉ os → w'.heap[x]? = w.heap[x]?
theorem Mgl.of_below {C : Nat} {os : List (Option Nat)} {w w' : World} (h : Below w.heap.size w w') (hC : C ≤ w.heap.size) : Mgl C os w w' := ⟨h.mono hC, fun x hx _ => h.block x hx⟩
theorem Mgl.of_mw {C g : Nat} {os : List (Option Nat)} {w w' : World} (h : MwN g w w') (hC : C ≤ g) (hm : some g ∈ os) : Mgl C os w w' := ⟨h.b.mono hC, fun x hx hn => h.a x hx fun e => hn (by rw [e]; exact hm)⟩
theorem Mgl.trans {C : Nat} {os : List (Option Nat)} {a b c : World} (h : Mgl C os a b) (k : Mgl C os b c) : Mgl C os a c :=
  ⟨h.b.trans k.b, fun x hx hn => (k.a x (Nat.lt_of_lt_of_le hx h.b.size) hn).trans (h.a x hx hn)⟩
theorem Mgl.more {C : Nat} {os qs : List (Option Nat)} {a b : World} (h : Mgl C os a b) (hs : ∀ x ∈ os, x ∈ qs) : Mgl C qs a b := ⟨h.b, fun x hx hn => h.a x hx fun hm => hn (hs _ hm)⟩
theorem VarN.mgl {C d : Nat} {os : List (Option Nat)} {vs : List Value} {w w' : World} (h : VarN d vs w) (m : Mgl C os w w') (hd : d < w.heap.size) (hne : some d ∉ os) : VarN d vs w' := h.blk (m.a d hd hne)
theorem own_mgl {C base e size n : Nat} {os : List (Option Nat)} {v : Value} {xs : List Value} {w w' : World} (h : w.ownsRow base e size v n xs) (m : Mgl C os w w') (hne : ∀ x, v.ownBlock = some x → some x ∉ os) : w'.ownsRow base e size v n xs := by
  refine ⟨h.1, ?_⟩
  rcases h.2 with h1 | ⟨g, cap, cur, h1, h2, h3, h4⟩
  · exact .inl h1
  · exact .inr ⟨g, cap, cur, h1, h2, by rw [m.a g (Array.getElem?_eq_some_iff.1 h3).1 (hne g (by rw [h1]; rfl))]; exact h3, h4⟩
theorem own_filP {base g n cap : Nat} {xs : List Value} {w : World} (ps : List Part) (h : w.ownsRow base 43 7 (.slice (some ⟨g, 0, none⟩) n cap) n xs) : FilP g n 0 ps w ∧ FreeN g w ∧ n ≤ cap ∧ cap ≤ maxLen ∧ base ≤ g ∧ g < w.heap.size := by
  rcases h.2 with ⟨h1, _⟩ | ⟨g', cap', cur, h1, h2, h3, h4, h5, h6, _⟩
  · exact absurd h1 (by intro e; cases e)
  · obtain ⟨rfl, _, rfl⟩ : g = g' ∧ True ∧ cap = cap' := by simpa using h1
    refine ⟨fun i hi j hj => ?_, fun j => by unfold World.frozen?; simp [h3], h4, h5, h2, (Array.getElem?_eq_some_iff.1 h3).1⟩
    have q1 : i * 7 + j < cur.size := by omega
    exact ⟨cur[i * 7 + j], by unfold World.cell?; simp [h3, q1], fun h => absurd h (by omega)⟩
theorem own_filM {base g n cap : Nat} {xs : List Value} {w : World} (ps : List Msg) (h : w.ownsRow base 46 4 (.slice (some ⟨g, 0, none⟩) n cap) n xs) : FilM g n 0 ps w ∧ FreeN g w ∧ n ≤ cap ∧ cap ≤ maxLen ∧ base ≤ g ∧ g < w.heap.size := by
  rcases h.2 with ⟨h1, _⟩ | ⟨g', cap', cur, h1, h2, h3, h4, h5, h6, _⟩
  · exact absurd h1 (by intro e; cases e)
  · obtain ⟨rfl, _, rfl⟩ : g = g' ∧ True ∧ cap = cap' := by simpa using h1
    refine ⟨fun i hi j hj => ?_, fun j => by unfold World.frozen?; simp [h3], h4, h5, h2, (Array.getElem?_eq_some_iff.1 h3).1⟩
    have q1 : i * 4 + j < cur.size := by omega
    exact ⟨cur[i * 4 + j], by unfold World.cell?; simp [h3, q1], fun h => absurd h (by omega)⟩
theorem Ns.mgl {C len cap : Nat} {os : List (Option Nat)} {a : Option Addr} {es : List Int} {w w' : World} (h : Ns w a len cap es) (m : Mgl C os w w') (hne : ∀ x, a = some x → some x.block ∉ os) : Ns w' a len cap es := by
  rcases h with h | ⟨y, rfl, h1, h2, h3, h5⟩
  · exact .inl h
  · exact .inr ⟨y, rfl, h1, h2, h3, fun i hi => (World.cell?_of_block (w := w) (m.a _ (World.block_lt_of_cell? w _ (h5 i hi)) (by rw [add_block]; exact hne y rfl))).trans (h5 i hi)⟩
/-- Rows of different types are different blocks. -/
theorem own_apart {b1 e1 s1 n1 b2 e2 s2 n2 x : Nat} {v1 v2 : Value} {xs ys : List Value} {w : World} (h1 : w.ownsRow b1 e1 s1 v1 n1 xs) (h2 : w.ownsRow b2 e2 s2 v2 n2 ys) (hne : e1 ≠ e2) (hx : v1.ownBlock = some x) : some x ∉ [v2.ownBlock] := by
  intro hm
  have hy : v2.ownBlock = some x := (List.mem_singleton.1 hm).symm
  rcases h1.2 with ⟨rfl, _⟩ | ⟨g, _, _, rfl, _, h3, _⟩
  · cases hx
  rcases h2.2 with ⟨rfl, _⟩ | ⟨g2, _, _, rfl, _, h4, _⟩
  · cases hy
  obtain rfl : g = x := by simpa [Value.ownBlock] using hx
  obtain rfl : g2 = g := by simpa [Value.ownBlock] using hy
  exact kind_ne h3 h4 hne rfl
theorem markIntS_own {C n cap : Nat} {a : Option Addr} {xs : List Value} {W : World} (h : W.ownsRow C 3 1 (.slice a n cap) n xs) (hn : n ≤ 1048576) (hC : C ≤ W.heap.size) :
    Calls Try.prog 58 #[.slice a n cap, .int .i64 1] W fun e w' => e = .returned (.int .i64 (1 + (n : Int))) ∧ Ns w' a n cap (marksN n) ∧ Mgl C [(Value.slice a n cap).ownBlock] W w' := by
  rcases h.2 with ⟨h1, h2⟩ | ⟨g, cap', cur, h1, _⟩
  · obtain ⟨rfl, rfl, rfl⟩ : a = none ∧ n = 0 ∧ cap = 0 := by simpa using h1
    refine (markIntS_none W).mono ?_
    rintro e w' ⟨rfl, rfl⟩
    exact ⟨rfl, Ns.nil _, Mgl.of_below (Below.refl _ _) hC⟩
  · obtain ⟨rfl, rfl⟩ : a = some ⟨g, 0, none⟩ ∧ cap = cap' := by simpa using h1
    obtain ⟨f1, f2, f3, f4, f5, f6⟩ := own_filN (marksN n) h
    refine (markIntS_any g n cap W hn f6 f1 f2).mono ?_
    rintro e w' ⟨rfl, hf, _, hm⟩
    exact ⟨rfl, hf.ns (marksN_length n) f3 f4, Mgl.of_mw hm f5 (by simp [Value.ownBlock])⟩
theorem markDataS_own {C n cap c : Nat} {a : Option Addr} {xs : List Value} {W : World} (h : W.ownsRow C 43 7 (.slice a n cap) n xs) (hn : n ≤ 1048576) (hC : C ≤ W.heap.size) (hc1 : 1 ≤ c) (hc2 : c ≤ 100000000) :
    Calls Try.prog 34 #[.slice a n cap, .int .i64 (c : Int)] W fun e w' => e = .returned (.int .i64 ((c + 7 * n : Nat) : Int)) ∧ Pts w' a n cap (marksP n c) ∧ Mgl C [(Value.slice a n cap).ownBlock] W w' := by
  rcases h.2 with ⟨h1, h2⟩ | ⟨g, cap', cur, h1, _⟩
  · obtain ⟨rfl, rfl, rfl⟩ : a = none ∧ n = 0 ∧ cap = 0 := by simpa using h1
    refine (markDataS_none none 0 (c : Int) W).mono ?_
    rintro e w' ⟨rfl, rfl⟩
    exact ⟨rfl, Pts.nil _, Mgl.of_below (Below.refl _ _) hC⟩
  · obtain ⟨rfl, rfl⟩ : a = some ⟨g, 0, none⟩ ∧ cap = cap' := by simpa using h1
    obtain ⟨f1, f2, f3, f4, f5, f6⟩ := own_filP (marksP n c) h
    refine (markDataS_any g n cap c W hn hc1 hc2 f6 f1 f2).mono ?_
    rintro e w' ⟨rfl, hf, _, hm⟩
    exact ⟨rfl, hf.pts (marksP_length n c) f3 f4, Mgl.of_mw hm f5 (by simp [Value.ownBlock])⟩

end Go.Proofs.Ytncbgejggfkdmab

/- The laws' marks in an answer's assembly and messages. -/
namespace Go.Proofs.Ytncbgejggfkdmab
open Go.RowKit Go.PlainAid

set_option maxHeartbeats 400000 in
theorem markMessageS_none (p : Option Addr) (cap : Nat) (z : Int) (w : World) :
    Calls Try.prog 35 #[.slice p 0 cap, .int .i64 z] w fun e w' => e = .returned (.int .i64 z) ∧ w' = w := by
  go_enter Try.func35, Try.ntmps35
  go_wp2
  go_loopw [1, 5] (fun m i wr => m = .int .i64 z ∧ i = .int .i64 0 ∧ wr = w) (fun _ _ _ => 0)
  case atStart => exact ⟨rfl, rfl, rfl⟩
  case round =>
    obtain ⟨rfl, rfl, rfl⟩ := hrel
    go_wp2
    go_ret
    exact ⟨rfl, rfl⟩
theorem markMessageS_own {C n cap c : Nat} {a : Option Addr} {xs : List Value} {W : World} (h : W.ownsRow C 46 4 (.slice a n cap) n xs) (hn : n ≤ 1048576) (hC : C ≤ W.heap.size) (hc1 : 1 ≤ c) (hc2 : c ≤ 100000000) :
    Calls Try.prog 35 #[.slice a n cap, .int .i64 (c : Int)] W fun e w' => e = .returned (.int .i64 ((c + 4 * n : Nat) : Int)) ∧ Mgs w' a n cap (marksM n c) ∧ Mgl C [(Value.slice a n cap).ownBlock] W w' := by
  rcases h.2 with ⟨h1, h2⟩ | ⟨g, cap', cur, h1, _⟩
  · obtain ⟨rfl, rfl, rfl⟩ : a = none ∧ n = 0 ∧ cap = 0 := by simpa using h1
    refine (markMessageS_none none 0 (c : Int) W).mono ?_
    rintro e w' ⟨rfl, rfl⟩
    exact ⟨rfl, Mgs.nil _, Mgl.of_below (Below.refl _ _) hC⟩
  · obtain ⟨rfl, rfl⟩ : a = some ⟨g, 0, none⟩ ∧ cap = cap' := by simpa using h1
    obtain ⟨f1, f2, f3, f4, f5, f6⟩ := own_filM (marksM n c) h
    refine (markMessageS_any g n cap c W hn hc1 hc2 f6 f1 f2).mono ?_
    rintro e w' ⟨rfl, hf, _, hm⟩
    exact ⟨rfl, hf.mgs (marksM_length n c) f3 f4, Mgl.of_mw hm f5 (by simp [Value.ownBlock])⟩

/-- The block of a slice of one's own. -/
theorem own_blk {base e size n cap : Nat} {a : Option Addr} {xs : List Value} {w : World} (h : w.ownsRow base e size (.slice a n cap) n xs) : ∀ x, a = some x → (Value.slice a n cap).ownBlock = some x.block ∧ x.block < w.heap.size := by
  intro x hx
  subst hx
  rcases h.2 with ⟨h1, _⟩ | ⟨g, cap', cur, h1, _, h3, _⟩
  · cases h1
  · obtain ⟨rfl, _⟩ : x = ⟨g, 0, none⟩ ∧ cap = cap' := by simpa using h1
    exact ⟨rfl, (Array.getElem?_eq_some_iff.1 h3).1⟩

set_option maxHeartbeats 1000000 in
/-- An assembly of one's own is marked. -/
theorem markA_any {C n1 c1 n2 c2 : Nat} {a1 a2 : Option Addr} {es : List Int} {ps : List Part} {W : World} (h1 : W.ownsRow C 3 1 (.slice a1 n1 c1) n1 (flatN es)) (h2 : W.ownsRow C 43 7 (.slice a2 n2 c2) n2 (flatP ps)) (hC : C ≤ W.heap.size) (k1 : n1 ≤ 1048576) (k2 : n2 ≤ 1048576) :
    Calls Try.prog 26 #[.agg #[.slice a1 n1 c1, .slice a2 n2 c2], .int .i64 1] W fun e w' => e = .returned (.int .i64 ((1 + n1 + 7 * n2 : Nat) : Int)) ∧ Ns w' a1 n1 c1 (marksN n1) ∧ Pts w' a2 n2 c2 (marksP n2 (1 + n1)) ∧ Mgl C [(Value.slice a1 n1 c1).ownBlock, (Value.slice a2 n2 c2).ownBlock] W w' := by
  have BX := Lib.hid (below_box (w := W) (.cells #[.slice a1 n1 c1, .slice a2 n2 c2] 27) (Nat.le_refl _))
  have VX := Lib.hid (VarN.new W [.slice a1 n1 c1, .slice a2 n2 c2] 27)
  have R1 := Lib.hid (h1.alloc (.cells #[.slice a1 n1 c1, .slice a2 n2 c2] 27))
  have R2 := Lib.hid (h2.alloc (.cells #[.slice a1 n1 c1, .slice a2 n2 c2] 27))
  have HL1 := Lib.hid (fun x (hx : (Value.slice a1 n1 c1).ownBlock = some x) => (row_lt h1 hx).2)
  have HC := Lib.hid (Nat.le_trans hC BX.out.size)
  clear h1 h2
  go_enter Try.func26, Try.ntmps26
  go_wp2_with fail
  refine (markIntS_own R1.out k1 HC.out).mono ?_
  rintro e w1 ⟨rfl, hn, hm⟩
  have v1 := ((VX.out.mgl hm (by simp) (by intro h; have := HL1.out _ (List.mem_singleton.1 h).symm; omega)) 1 _ rfl).1
  have Q2 := Lib.hid (own_mgl R2.out hm (fun x hx => own_apart R2.out R1.out (by decide) hx))
  have Q1 := Lib.hid (fun x (hx : a1 = some x) => own_apart R1.out R2.out (by decide) (own_blk R1.out x hx).1)
  have HN := Lib.hid hn
  have HM := Lib.hid hm
  have e1 : (1 : Int) + (n1 : Int) = ((1 + n1 : Nat) : Int) := by omega
  have E1 := Lib.hid e1
  clear hn hm e1
  go_wp2_with fail
  rw [E1.out]
  refine (markDataS_own (c := 1 + n1) Q2.out k2 (Nat.le_trans HC.out HM.out.b.size) (by omega) (by omega)).mono ?_
  rintro e w2 ⟨rfl, hp, hm2⟩
  have H3 := Lib.hid (And.intro (HN.out.mgl hm2 Q1.out) (And.intro hp (((Mgl.of_below BX.out hC).trans (HM.out.more (by simp))).trans (hm2.more (qs := [(Value.slice a1 n1 c1).ownBlock, (Value.slice a2 n2 c2).ownBlock]) (by simp)))))
  clear hp hm2 v1
  go_wp2
  go_ret
  exact ⟨rfl, H3.out.1, H3.out.2.1, H3.out.2.2⟩

set_option maxHeartbeats 1000000 in
theorem heldA_any (a1 : Option Addr) (n1 c1 : Nat) (a2 : Option Addr) (n2 c2 : Nat) (w : World) (k1 : n1 ≤ 1048576) (k2 : n2 ≤ 1048576) (h1 : Ns w a1 n1 c1 (marksN n1)) (h2 : Pts w a2 n2 c2 (marksP n2 (1 + n1))) :
    Calls Try.prog 27 #[.agg #[.slice a1 n1 c1, .slice a2 n2 c2], .int .i64 1] w fun e w' => e = .returned (.int .i64 ((1 + n1 + 7 * n2 : Nat) : Int)) ∧ Below w.heap.size w w' := by
  have BX := Lib.hid (below_box (w := w) (.cells #[.slice a1 n1 c1, .slice a2 n2 c2] 27) (Nat.le_refl _))
  have VX := Lib.hid (VarN.new w [.slice a1 n1 c1, .slice a2 n2 c2] 27)
  have G1 := Lib.hid (h1.below BX.out)
  have G2 := Lib.hid (h2.below BX.out)
  have kn : ¬ 1 + (n1 : Int) < 0 := by omega
  have kz : ¬ ((1 + n1 + 7 * n2 : Nat) : Int) < 0 := by omega
  have E1 := Lib.hid (show (1 : Int) + (n1 : Int) = ((1 + n1 : Nat) : Int) by omega)
  clear h1 h2
  go_enter Try.func27, Try.ntmps27
  go_wp2_with fail
  refine (heldIntS_any a1 n1 c1 _ k1 G1.out).mono ?_
  rintro e w1 ⟨rfl, hb1⟩
  have v1 := ((VX.out.below hb1 (by simp)) 1 _ rfl).1
  have G3 := Lib.hid (G2.out.below hb1)
  have B1 := Lib.hid (BX.out.trans (hb1.mono BX.out.size))
  clear hb1
  go_wp2_with fail
  rw [E1.out]
  refine (heldDataS_any a2 n2 c2 (1 + n1) _ k2 (by omega) (by omega) G3.out).mono ?_
  rintro e w2 ⟨rfl, hb2⟩
  have B2 := Lib.hid (B1.out.trans (hb2.mono B1.out.size))
  obtain ⟨z, hz⟩ : ∃ z : Int, ((1 + n1 + 7 * n2 : Nat) : Int) = z := ⟨_, rfl⟩
  have HZ := Lib.hid hz
  rw [hz] at kz ⊢
  clear hb2 v1 hz
  go_wp2
  go_ret
  exact ⟨by rw [HZ.out]; rfl, B2.out⟩

end Go.Proofs.Ytncbgejggfkdmab

/- The laws' exact helpers on assemblies: the size that is left. -/
namespace Go.Proofs.Ytncbgejggfkdmab
open Go.RowKit Go.PlainAid

set_option maxHeartbeats 1000000 in
theorem szDataS_b (a : Option Addr) (len cap : Nat) (ps : List Part) (n : Int) (w : World) (n0 : 0 ≤ n) (n1 : n ≤ 1048576) (h : Pts w a len cap ps) (hz : ∀ p ∈ ps, p.text.size ≤ maxLen) :
    Calls Try.prog 30 #[.slice a len cap, .int .i64 n] w fun e w' => (∃ z : Int, e = .returned (.int .i64 z) ∧ (z = -1 ∨ (0 ≤ z ∧ z ≤ 1048576 ∧ len ≤ 1048576))) ∧ Below w.heap.size w w' := by
  have hl := h.length
  have hm := h.len_int
  have HG := Lib.hid h
  have HZ := Lib.hid hz
  clear h hz
  have e : IntKind.i64.wrap (n - (len : Int)) = n - (len : Int) := IntWalk.i64_in _ (by omega)
  by_cases h0 : n - (len : Int) < 0
  · go_enter Try.func30, Try.ntmps30
    go_wp2
    go_ret
    exact ⟨⟨-1, rfl, .inl rfl⟩, Below.refl _ _⟩
  · have hle : len ≤ 1048576 := by omega
    go_enter Try.func30, Try.ntmps30
    go_wp2
    go_loopw [1, 5] (fun m i wr => ∃ (k : Nat) (z : Int), k ≤ len ∧ i = .int .i64 k ∧ m = .int .i64 z ∧ 0 ≤ z ∧ z ≤ 1048576 ∧ Hid (Below w.heap.size w wr)) (fun _ i _ => len - (intOf i).toNat)
    case atStart => exact ⟨0, n - (len : Int), Nat.zero_le _, rfl, rfl, by omega, by omega, Lib.hid (Below.refl _ _)⟩
    case round =>
      obtain ⟨k, z, hk, rfl, rfl, z0, z1, hbel⟩ := hrel
      by_cases hlt : k < len
      · obtain ⟨x, rfl⟩ := HG.out.addr hlt
        obtain ⟨p0, p1, p2, p3, p4, p5, p6⟩ := HG.out.at hbel.out hlt
        have hzk := HZ.out _ (pAt_mem (show k < ps.length by omega))
        obtain ⟨⟨t, s, q, fi, la, lo, tx⟩, hc1⟩ : ∃ c1, pAt ps k = c1 := ⟨_, rfl⟩
        rw [hc1] at p0 p1 p2 p3 p4 p5 p6 hzk
        dsimp only at p0 p1 p2 p3 p4 p5 p6 hzk
        unfold maxLen at hzk
        clear hc1
        go_wp2_with fail
        refine (szDa_any t s q fi la lo tx z _ z0 z1 (by omega)).mono ?_
        rintro e w2 ⟨⟨z2, rfl, hz2⟩, hb2⟩
        have HB := Lib.hid (hbel.out.trans (hb2.mono hbel.out.size))
        clear hb2
        rcases hz2 with rfl | ⟨y0, y1⟩
        · go_wp2
          go_ret
          exact ⟨⟨-1, rfl, .inl rfl⟩, HB.out⟩
        · have yn : ¬ z2 < 0 := by omega
          go_wp2
          go_roundw
          case rel => exact ⟨k + 1, z2, by omega, by go_num, rfl, y0, by omega, HB⟩
          case measure => simp [intOf]; omega
      · obtain rfl : k = len := by omega
        go_wp2
        go_ret
        exact ⟨⟨z, rfl, .inr ⟨z0, z1, hle⟩⟩, hbel.out⟩

set_option maxHeartbeats 1000000 in
theorem szAssembly_b (an : Option Addr) (ln cn : Nat) (es : List Int) (ap : Option Addr) (lp cp : Nat) (ps : List Part) (w : World) (h : Ns w an ln cn es) (hp : Pts w ap lp cp ps) (hz : ∀ p ∈ ps, p.text.size ≤ maxLen) :
    Calls Try.prog 28 #[.agg #[.slice an ln cn, .slice ap lp cp], .int .i64 1048576] w fun e w' => (∃ z : Int, e = .returned (.int .i64 z) ∧ (z = -1 ∨ (0 ≤ z ∧ z ≤ 1048576 ∧ ln ≤ 1048576 ∧ lp ≤ 1048576))) ∧ Below w.heap.size w w' := by
  have hm := h.len_int
  have B1 := Lib.hid (below_box (w := w) (.cells #[.slice an ln cn, .slice ap lp cp] 51) (Nat.le_refl _))
  have P1 := Lib.hid (hp.below B1.out)
  have V1 := Lib.hid (VarN.new w [.slice an ln cn, .slice ap lp cp] 51)
  clear h hp
  go_enter Try.func28, Try.ntmps28
  go_wp2_with fail
  refine (szIntS_b an ln cn _ hm).mono ?_
  rintro e w1 ⟨⟨z, rfl, hzz⟩, hb1⟩
  have v1 := ((V1.out.below hb1 (by simp)) 1 _ rfl).1
  have P2 := Lib.hid (P1.out.below hb1)
  have HB := Lib.hid (B1.out.trans (hb1.mono (by simp)))
  clear hb1
  rcases hzz with rfl | ⟨y0, y1, y2⟩
  · go_wp2
    go_ret
    exact ⟨⟨-1, rfl, .inl rfl⟩, HB.out⟩
  · have yn : ¬ z < 0 := by omega
    go_wp2_with fail
    refine (szDataS_b ap lp cp ps z _ y0 y1 P2.out hz).mono ?_
    rintro e w2 ⟨⟨z2, rfl, hz2⟩, hb2⟩
    have HB2 := Lib.hid (HB.out.trans (hb2.mono HB.out.size))
    clear hb2
    rcases hz2 with rfl | ⟨x0, xm, x1⟩
    · go_wp2
      go_ret
      exact ⟨⟨-1, rfl, .inl rfl⟩, HB2.out⟩
    · have xn : ¬ z2 < 0 := by omega
      go_wp2
      go_ret
      exact ⟨⟨z2, rfl, .inr ⟨x0, xm, y2, x1⟩⟩, HB2.out⟩

end Go.Proofs.Ytncbgejggfkdmab

/- The laws' marks in a copy of an assembly; things that a mark leaves be. -/
namespace Go.Proofs.Ytncbgejggfkdmab
open Go.RowKit Go.PlainAid

theorem atP_blk (x : Addr) (i : Nat) : ∀ j, (atP x i j).block = x.block
  | 0 => by show (x.add (i * 7)).block = x.block; rw [add_block]
  | j + 1 => by show (x.add (i * 7)).block = x.block; rw [add_block]
theorem atM_blk (x : Addr) (i : Nat) : ∀ j, (atM x i j).block = x.block
  | 0 => by show (x.add (i * 4)).block = x.block; rw [add_block]
  | j + 1 => by show (x.add (i * 4)).block = x.block; rw [add_block]
theorem FilN.blank {d len k : Nat} {es fs : List Int} {w : World} (h : FilN d len k es w) : FilN d len 0 fs w := fun i hi => by
  obtain ⟨u, h1, _⟩ := h i hi
  exact ⟨u, h1, fun h => absurd h (Nat.not_lt_zero _)⟩
theorem FilP.blank {d len k : Nat} {es fs : List Part} {w : World} (h : FilP d len k es w) : FilP d len 0 fs w := fun i hi j hj => by
  obtain ⟨u, h1, _⟩ := h i hi j hj
  exact ⟨u, h1, fun h => absurd h (Nat.not_lt_zero _)⟩
theorem FilP.blk {d len k : Nat} {es : List Part} {w w' : World} (h : FilP d len k es w) (e : w'.heap[d]? = w.heap[d]?) : FilP d len k es w' := fun i hi j hj => by
  obtain ⟨u, h1, h2⟩ := h i hi j hj
  exact ⟨u, (World.cell?_of_block (w := w) e).trans h1, h2⟩
theorem FreeN.blk {d : Nat} {w w' : World} (h : FreeN d w) (e : w'.heap[d]? = w.heap[d]?) : FreeN d w' := fun j => by
  have := h j
  unfold World.frozen? at this ⊢
  rw [e]
  exact this
theorem Pts.mgC {C len cap : Nat} {a : Option Addr} {es : List Part} {w w' : World} (h : Pts w a len cap es) (hb : Below C w w') (hlt : ∀ x, a = some x → 0 < len → x.block < C) : Pts w' a len cap es := by
  rcases h with h | ⟨y, rfl, h1, h2, h3, h5⟩
  · exact .inl h
  · exact .inr ⟨y, rfl, h1, h2, h3, fun i hi j v hv => (hb.cell (show (atP y i j).block < C by rw [atP_blk]; exact hlt y rfl (by omega))).trans (h5 i hi j v hv)⟩
theorem Mgs.mgC {C len cap : Nat} {a : Option Addr} {es : List Msg} {w w' : World} (h : Mgs w a len cap es) (hb : Below C w w') (hlt : ∀ x, a = some x → 0 < len → x.block < C) : Mgs w' a len cap es := by
  rcases h with h | ⟨y, rfl, h1, h2, h3, h5⟩
  · exact .inl h
  · exact .inr ⟨y, rfl, h1, h2, h3, fun i hi j v hv => (hb.cell (show (atM y i j).block < C by rw [atM_blk]; exact hlt y rfl (by omega))).trans (h5 i hi j v hv)⟩
theorem Pts.lts {len cap : Nat} {a : Option Addr} {es : List Part} {w : World} (h : Pts w a len cap es) : ∀ x, a = some x → 0 < len → x.block < w.heap.size := by
  intro x hx hl
  subst hx
  rcases h with ⟨h, _⟩ | ⟨y, h0, h1, h2, h3, h5⟩
  · cases h
  · obtain rfl : x = y := by simpa using h0
    obtain ⟨t, ht⟩ : ∃ t, (cellsP (pAt es 0))[0]? = some t := ⟨_, rfl⟩
    have := World.block_lt_of_cell? w _ (h5 0 hl 0 t ht)
    rwa [atP_blk] at this
theorem Mgs.lts {len cap : Nat} {a : Option Addr} {es : List Msg} {w : World} (h : Mgs w a len cap es) : ∀ x, a = some x → 0 < len → x.block < w.heap.size := by
  intro x hx hl
  subst hx
  rcases h with ⟨h, _⟩ | ⟨y, h0, h1, h2, h3, h5⟩
  · cases h
  · obtain rfl : x = y := by simpa using h0
    obtain ⟨t, ht⟩ : ∃ t, (cellsM (mAt es 0))[0]? = some t := ⟨_, rfl⟩
    have := World.block_lt_of_cell? w _ (h5 0 hl 0 t ht)
    rwa [atM_blk] at this
theorem Pts.mgl {C len cap : Nat} {os : List (Option Nat)} {a : Option Addr} {es : List Part} {w w' : World} (h : Pts w a len cap es) (m : Mgl C os w w') (hne : ∀ x, a = some x → some x.block ∉ os) : Pts w' a len cap es := by
  rcases h with h | ⟨y, rfl, h1, h2, h3, h5⟩
  · exact .inl h
  · exact .inr ⟨y, rfl, h1, h2, h3, fun i hi j v hv => (World.cell?_of_block (w := w) (m.a _ (World.block_lt_of_cell? w _ (h5 i hi j v hv)) (show some (atP y i j).block ∉ os by rw [atP_blk]; exact hne y rfl))).trans (h5 i hi j v hv)⟩

set_option maxHeartbeats 1000000 in
/-- The copy of an assembly is marked. -/
theorem markFilA {R d n e m : Nat} {es : List Int} {ps : List Part} {W : World} (h : OwnA R d n e m es ps W) :
    Calls Try.prog 26 #[.agg #[.slice (some ⟨d, 0, none⟩) n n, .slice (some ⟨e, 0, none⟩) m m], .int .i64 1] W fun r w' => r = .returned (.int .i64 ((1 + n + 7 * m : Nat) : Int)) ∧ W.heap.size ≤ w'.heap.size ∧ Mgl R [some d, some e] W w' := by
  have BX := Lib.hid (below_box (w := W) (.cells #[.slice (some ⟨d, 0, none⟩) n n, .slice (some ⟨e, 0, none⟩) m m] 27) (Nat.le_refl _))
  have VX := Lib.hid (VarN.new W [.slice (some ⟨d, 0, none⟩) n n, .slice (some ⟨e, 0, none⟩) m m] 27)
  have F1 := Lib.hid ((h.fn.below BX.out).blank (fs := marksN n))
  have F2 := Lib.hid (h.rn.below h.zn BX.out)
  have F3 := Lib.hid ((h.fp.below BX.out).blank (fs := marksP m (1 + n)))
  have F4 := Lib.hid (h.rp.below h.zp BX.out)
  have HA := Lib.hid h
  have hsn := h.sn
  have hsp := h.sp
  clear h
  go_enter Try.func26, Try.ntmps26
  go_wp2_with fail
  refine (markIntS_any d n n _ hsn (Nat.lt_of_lt_of_le HA.out.zn BX.out.size) F1.out F2.out).mono ?_
  rintro r w1 ⟨rfl, _, _, hm⟩
  have eb := hm.a e (Nat.lt_of_lt_of_le HA.out.zp BX.out.size) (fun h => HA.out.ne h.symm)
  have F5 := Lib.hid (F3.out.blk eb)
  have F6 := Lib.hid (F4.out.blk eb)
  have v1 := ((VX.out.blk (hm.a W.heap.size (by simp) (by have := HA.out.zn; omega))) 1 _ rfl).1
  have HM := Lib.hid hm
  have E1 := Lib.hid (show (1 : Int) + (n : Int) = ((1 + n : Nat) : Int) by omega)
  clear hm eb
  go_wp2_with fail
  rw [E1.out]
  refine (markDataS_any e m m (1 + n) _ hsp (by omega) (by omega) (Nat.lt_of_lt_of_le (Nat.lt_of_lt_of_le HA.out.zp BX.out.size) HM.out.z) F5.out F6.out).mono ?_
  rintro r w2 ⟨rfl, _, _, hm2⟩
  have H3 := Lib.hid (show W.heap.size ≤ w2.heap.size ∧ Mgl R [some d, some e] W w2 from ⟨Nat.le_trans BX.out.size (Nat.le_trans HM.out.z hm2.z), ((Mgl.of_below BX.out (Nat.le_of_lt (Nat.lt_of_le_of_lt HA.out.lo.1 HA.out.zn))).trans (Mgl.of_mw HM.out HA.out.lo.1 (by simp))).trans (Mgl.of_mw hm2 HA.out.lo.2 (by simp))⟩)
  clear hm2 v1
  go_wp2
  go_ret
  exact ⟨rfl, H3.out⟩

end Go.Proofs.Ytncbgejggfkdmab

/- Parts that wait, in memory: the program's links and its map. -/
namespace Go.Proofs.Ytncbgejggfkdmab
open Go.RowKit Go.PlainAid

/-- The address of a block, if there is one. -/
def pt (o : Option Nat) : Option Addr := o.map fun b => ⟨b, 0, none⟩
/-- How an element of the map reads. -/
def ptrR : Value → Option (DataW Unit × List MemPlace)
  | .pointer none => some (.nil, [])
  | .pointer (some ⟨b, 0, none⟩) => some (.lit (.int .i64 (b : Int)), [])
  | _ => none
theorem ptrR_none : ptrR (.pointer none) = some (.nil, []) := rfl
theorem ptrR_some (b : Nat) : ptrR (.pointer (some ⟨b, 0, none⟩)) = some (.lit (.int .i64 (b : Int)), []) := rfl
theorem ptrR_nil {v : Value} {ps : List MemPlace} (h : ptrR v = some (.nil, ps)) : v = .pointer none := by
  unfold ptrR at h
  split at h
  · rfl
  · cases h
  · cases h
theorem ptrR_lit {v : Value} {b : Nat} {ps : List MemPlace} (h : ptrR v = some (.lit (.int .i64 (b : Int)), ps)) : v = .pointer (some ⟨b, 0, none⟩) := by
  unfold ptrR at h
  split at h
  · cases h
  · rename_i c
    have e : (c : Int) = (b : Int) := by
      have := congrArg (fun x => x.map Prod.fst) h
      simpa using this
    have e2 : c = b := by omega
    rw [e2]
  · cases h
/-- A number that a key may be. -/
def Key (t : Int) : Prop := -9223372036854775808 ≤ t ∧ t ≤ 9223372036854775807
theorem key_wf {t : Int} (h : Key t) : (Lit.int .i64 t).wf = true := by
  unfold Key at h
  have e1 : IntKind.i64.min = -9223372036854775808 := by decide
  have e2 : IntKind.i64.max = 9223372036854775807 := by decide
  simp [Lit.wf, e1, e2]
  omega
theorem key_of {t : Int} (h : Key t) : keyOf Try.prog 3 (.int .i64 t) = some (.int .i64 t) := Maps.keyOf_int_mk Try.underlying3 (key_wf h)
theorem ints_keyed : Maps.Keyed Try.prog 3 := Maps.int_keyed Try.underlying3
theorem ser_key {t : Int} (h : Ser t) : Key t := ⟨by have := h.1; omega, by have := h.2; omega⟩
/-- The map at block M leads from the numbers of parts to their blocks. -/
structure Tab (w : World) (M : Nat) (ns : List (Nat × Part)) (D : DataW Unit) : Prop where
  own : w.ownsMap Try.prog 3 ptrR M (Maps.size D) D
  size : Maps.size D = ns.length
  at_ : ∀ x ∈ ns, D.atKey (.int .i64 x.2.tsn) .nil = .lit (.int .i64 (x.1 : Int))
  no : ∀ t, hasT (psOf ns) t = false → Maps.has D (.int .i64 t) = false
theorem own_tight {w : World} {M n : Nat} {D : DataW Unit} (h : w.ownsMap Try.prog 3 ptrR M n D) : w.ownsMap Try.prog 3 ptrR M (Maps.size D) D := by
  obtain ⟨es, clock, hb, F, _, rfl⟩ := h
  exact ⟨es, clock, hb, F, by simp [Maps.size, length_sorted], rfl⟩
section
variable {w w' : World} {M : Nat} {ns : List (Nat × Part)} {D : DataW Unit} {t : Int}
theorem Tab.lt (h : Tab w M ns D) : M < w.heap.size := h.own.lt
theorem Tab.block (h : Tab w M ns D) (e : w'.heap[M]? = w.heap[M]?) : Tab w' M ns D := by
  obtain ⟨⟨es, clock, hb, F, hs, hD⟩, h2, h3, h4⟩ := h
  exact ⟨⟨es, clock, e.trans hb, F, hs, hD⟩, h2, h3, h4⟩
theorem Tab.new (w : World) : Tab (w.alloc (.map #[] 0)) w.heap.size [] (.map []) :=
  ⟨World.ownsMap_made w _ _ _, rfl, fun x hx => by simp at hx, fun t _ => rfl⟩
theorem zero_ptr (w : World) : (zeroValue 95).run Try.prog w = .ok (.pointer none) w := by kernel_rfl
/-- What the map answers. -/
theorem Tab.look_at (h : Tab w M ns D) {x : Nat × Part} (hx : x ∈ ns) (hk : Key x.2.tsn) : (Instr.lookup 94 (.map (some M)) (.int .i64 x.2.tsn) false).run Try.prog w = .ok (.pointer (some ⟨x.1, 0, none⟩)) w := by
  obtain ⟨v, ps, hrun, hv⟩ := h.own.lookup ints_keyed Try.underlying94 (zero_ptr w) ptrR_none (key_of hk)
  rw [h.at_ x hx] at hv
  rw [← ptrR_lit hv]
  exact hrun
theorem Tab.look_no (h : Tab w M ns D) (ht : hasT (psOf ns) t = false) (hk : Key t) : (Instr.lookup 94 (.map (some M)) (.int .i64 t) false).run Try.prog w = .ok (.pointer none) w := by
  obtain ⟨v, ps, hrun, hv⟩ := h.own.lookup ints_keyed Try.underlying94 (zero_ptr w) ptrR_none (key_of hk)
  rw [Maps.atKey_of_not_has (h.no t ht)] at hv
  rw [← ptrR_nil hv]
  exact hrun
theorem hasT_snoc (ps : List Part) (p : Part) (t : Int) : hasT (ps ++ [p]) t = (hasT ps t || p.tsn == t) := by
  unfold hasT
  rw [List.any_append]
  simp
theorem hasT_mem {ps : List Part} {p : Part} (h : p ∈ ps) : hasT ps p.tsn = true := hasT_yes h
/-- A further entry. -/
theorem Tab.put (h : Tab w M ns D) (d : Nat) {p : Part} (hk : Key p.tsn) (ht : hasT (psOf ns) p.tsn = false) (hn : ns.length ≤ 100) :
    ∃ w' D', (Instr.mapUpdate 94 (.map (some M)) (.int .i64 p.tsn) (.pointer (some ⟨d, 0, none⟩))).run Try.prog w = .ok () w' ∧ Tab w' M (ns ++ [(d, p)]) D' ∧ w.grownBy w' (some M) ∧ w'.heap.size = w.heap.size := by
  obtain ⟨w', hrun, hown, hturn⟩ := h.own.store ints_keyed Try.underlying94 (by rw [h.size]; unfold maxLen; omega) (key_of hk) (ptrR_some d)
  have htidy := h.own.tidy ints_keyed
  refine ⟨w', _, hrun, ⟨own_tight hown, ?_, fun x hx => ?_, fun t ht2 => ?_⟩, hturn.grown, ?_⟩
  · rw [Maps.size_put htidy, h.no _ ht, h.size, List.length_append]
    rfl
  · rcases List.mem_append.1 hx with hx | hx
    · have hne : x.2.tsn ≠ p.tsn := fun e => by
        have := hasT_mem (show x.2 ∈ psOf ns from List.mem_map_of_mem hx)
        rw [e, ht] at this
        cases this
      rw [Maps.atKey_put_other (fun e => hne (by simpa using e))]
      exact h.at_ x hx
    · obtain rfl : x = (d, p) := by simpa using hx
      exact Maps.atKey_put_same (k := .int .i64 p.tsn) htidy.isMap (by trivial) _ _
  · rw [psOf_append] at ht2
    have e : psOf [(d, p)] = [p] := rfl
    rw [e, hasT_snoc] at ht2
    simp only [Bool.or_eq_false_iff, beq_eq_false_iff_ne] at ht2
    have hne : Lit.int .i64 t ≠ Lit.int .i64 p.tsn := fun e => ht2.2 (by
      have : t = p.tsn := by simpa using e
      exact this.symm)
    rw [Maps.has_put_other hne]
    exact h.no t ht2.1
  · obtain ⟨es, clock, es', clock', _, rfl⟩ := hturn
    simp [ChangeMaps.setBlock]
end

end Go.Proofs.Ytncbgejggfkdmab

/- Parts that wait, in memory: a link is added, a link is taken out. -/
namespace Go.Proofs.Ytncbgejggfkdmab
open Go.RowKit Go.PlainAid

/-- The cells of a link. -/
def nodeC (p : Part) (bf bh : Option Nat) : List Value := cellsP p ++ [.pointer (pt bf), .pointer (pt bh)]
theorem nodeC_set7 (p : Part) (bf bh x : Option Nat) : (nodeC p bf bh).set 7 (.pointer (pt x)) = nodeC p x bh := rfl
theorem nodeC_set8 (p : Part) (bf bh x : Option Nat) : (nodeC p bf bh).set 8 (.pointer (pt x)) = nodeC p bf x := rfl
/-- The links of a list at block L. -/
structure Lk (w : World) (L M : Nat) (ns : List (Nat × Part)) : Prop where
  l : VarN L [.pointer (pt (bk ns 0)), .pointer (pt (pv ns ns.length)), .map (some M)] w
  nodes : ∀ i, i < ns.length → VarN (bAt ns i) (nodeC (pAt (psOf ns) i) (pv ns i) (bk ns (i + 1))) w
  nd : (ns.map Prod.fst).Nodup
  fl : ∀ x ∈ ns, x.1 ≠ L
section
variable {w w' : World} {L M : Nat} {ns : List (Nat × Part)}
theorem Lk.same (h : Lk w L M ns) (e : ∀ x, x = L ∨ (∃ y ∈ ns, x = y.1) → w'.heap[x]? = w.heap[x]?) : Lk w' L M ns :=
  ⟨h.l.blk (e L (.inl rfl)), fun i hi => (h.nodes i hi).blk (e _ (.inr ⟨_, bAt_mem hi, rfl⟩)), h.nd, h.fl⟩
theorem Lk.lt (h : Lk w L M ns) : L < w.heap.size := h.l.lt
theorem Lk.node_lt (h : Lk w L M ns) {x : Nat × Part} (hx : x ∈ ns) : x.1 < w.heap.size := by
  obtain ⟨i, hi, rfl⟩ := nd_at hx
  exact (h.nodes i hi).lt
theorem bk_snoc (ns : List (Nat × Part)) (x : Nat × Part) (i : Nat) (h : i < ns.length) : bk (ns ++ [x]) i = bk ns i := by
  unfold bk
  rw [List.getElem?_append_left h]
theorem bk_end (ns : List (Nat × Part)) (x : Nat × Part) : bk (ns ++ [x]) ns.length = some x.1 := by
  unfold bk
  rw [List.getElem?_append_right (Nat.le_refl _)]
  simp
theorem pv_snoc (ns : List (Nat × Part)) (x : Nat × Part) (i : Nat) (h : i ≤ ns.length) : pv (ns ++ [x]) i = pv ns i := by
  cases i with
  | zero => rfl
  | succ i => exact bk_snoc ns x i (by omega)
theorem at_snoc {ns : List (Nat × Part)} {x : Nat × Part} {i : Nat} (h : i < ns.length) : bAt (ns ++ [x]) i = bAt ns i ∧ pAt (psOf (ns ++ [x])) i = pAt (psOf ns) i := by
  have h1 := ns_get (ns := ns ++ [x]) (i := i) (by rw [List.length_append]; omega)
  rw [List.getElem?_append_left h, ns_get h] at h1
  have := Option.some.inj h1
  exact ⟨(congrArg Prod.fst this).symm, (congrArg Prod.snd this).symm⟩
theorem at_end {ns : List (Nat × Part)} {x : Nat × Part} : bAt (ns ++ [x]) ns.length = x.1 ∧ pAt (psOf (ns ++ [x])) ns.length = x.2 := by
  have h1 := ns_get (ns := ns ++ [x]) (i := ns.length) (by simp)
  rw [List.getElem?_append_right (Nat.le_refl _), Nat.sub_self] at h1
  have := Option.some.inj h1
  exact ⟨(congrArg Prod.fst this).symm, (congrArg Prod.snd this).symm⟩
theorem nd_snoc {d : Nat} {p : Part} (h : (ns.map Prod.fst).Nodup) (hd : ∀ y ∈ ns, y.1 ≠ d) : ((ns ++ [(d, p)]).map Prod.fst).Nodup := by
  rw [List.map_append, List.nodup_append]
  refine ⟨h, by simp, fun a ha b hb e => ?_⟩
  obtain ⟨y, hy, rfl⟩ := List.mem_map.1 ha
  have : b = d := by simpa using hb
  exact hd y hy (e.trans this)
/-- The first link. -/
theorem Lk.first {d : Nat} {p : Part} (h : Lk w L M []) (hd : VarN d (nodeC p none none) w) (h1 : d ≠ L) :
    Lk ((w.setCell ⟨L, 0, none⟩ (.pointer (some ⟨d, 0, none⟩))).setCell ⟨L, 1, none⟩ (.pointer (some ⟨d, 0, none⟩))) L M [(d, p)] := by
  refine ⟨(h.l.set (i := 0) _).set (i := 1) _, fun i hi => ?_, by simp, fun x hx => ?_⟩
  · obtain rfl : i = 0 := by simpa using hi
    exact (hd.far _ h1.symm).far _ h1.symm
  · obtain rfl : x = (d, p) := by simpa using hx
    exact h1
/-- A further link. -/
theorem Lk.more {d n : Nat} {p : Part} (h : Lk w L M ns) (hn : ns.length = n + 1) (hd : VarN d (nodeC p (some (bAt ns n)) none) w) (h1 : d ≠ L) (h2 : ∀ y ∈ ns, y.1 ≠ d) :
    Lk ((w.setCell ⟨bAt ns n, 8, none⟩ (.pointer (some ⟨d, 0, none⟩))).setCell ⟨L, 1, none⟩ (.pointer (some ⟨d, 0, none⟩))) L M (ns ++ [(d, p)]) := by
  have hl : n < ns.length := by omega
  have hb := bAt_mem hl
  have hbL := h.fl _ hb
  have hbd := h2 _ hb
  refine ⟨?_, fun i hi => ?_, nd_snoc h.nd h2, fun x hx => ?_⟩
  · have := (h.l.far (i := 8) (.pointer (some ⟨d, 0, none⟩)) hbL).set (i := 1) (.pointer (some ⟨d, 0, none⟩))
    rw [bk_snoc _ _ _ (by omega)]
    have e : pv (ns ++ [(d, p)]) (ns ++ [(d, p)]).length = some d := by
      rw [List.length_append, List.length_singleton]
      exact bk_end ns (d, p)
    rw [e]
    exact this
  · rw [List.length_append, List.length_singleton] at hi
    by_cases hc : i < ns.length
    · have h5 := h.nodes i hc
      have h6 := h.fl _ (bAt_mem hc)
      rw [(at_snoc hc).1, (at_snoc hc).2, pv_snoc _ _ _ (by omega)]
      by_cases hin : i = n
      · subst hin
        have e : bk (ns ++ [(d, p)]) (i + 1) = some d := by rw [← hn]; exact bk_end ns (d, p)
        rw [e, ← nodeC_set8 _ _ (bk ns (i + 1))]
        exact (h5.set (i := 8) _).far _ h6.symm
      · have hne : bAt ns n ≠ bAt ns i := fun e => hin (bAt_inj h.nd hl hc e).symm
        rw [bk_snoc _ _ _ (by omega)]
        exact (h5.far _ hne).far _ h6.symm
    · obtain rfl : i = ns.length := by omega
      rw [at_end.1, at_end.2, pv_snoc _ _ _ (Nat.le_refl _)]
      have e1 : pv ns ns.length = some (bAt ns n) := by rw [hn]; exact bk_some hl
      have e2 : bk (ns ++ [(d, p)]) (ns.length + 1) = none := bk_none (by rw [List.length_append]; simp)
      rw [e1, e2]
      exact (hd.far _ hbd).far _ h1.symm
  · rcases List.mem_append.1 hx with hx | hx
    · exact h.fl x hx
    · obtain rfl : x = (d, p) := by simpa using hx
      exact h1
theorem at_erase {j i : Nat} (h : i < ns.length - 1) (hj : j < ns.length) : bAt (ns.eraseIdx j) i = bAt ns (if i < j then i else i + 1) ∧ pAt (psOf (ns.eraseIdx j)) i = pAt (psOf ns) (if i < j then i else i + 1) := by
  have hl : (ns.eraseIdx j).length = ns.length - 1 := by rw [List.length_eraseIdx]; simp [hj]
  have h1 := ns_get (ns := ns.eraseIdx j) (i := i) (by omega)
  rw [List.getElem?_eraseIdx] at h1
  by_cases hc : i < j
  · rw [if_pos hc] at h1 ⊢
    rw [ns_get (by omega)] at h1
    have := Option.some.inj h1
    exact ⟨(congrArg Prod.fst this).symm, (congrArg Prod.snd this).symm⟩
  · rw [if_neg hc] at h1 ⊢
    rw [ns_get (by omega)] at h1
    have := Option.some.inj h1
    exact ⟨(congrArg Prod.fst this).symm, (congrArg Prod.snd this).symm⟩
/-- The world behind the first store, the second store, as a link is taken out. -/
def rm1 (w : World) (ns : List (Nat × Part)) (L : Nat) : Nat → World
  | 0 => w.setCell ⟨L, 0, none⟩ (.pointer (pt (bk ns 1)))
  | j + 1 => w.setCell ⟨bAt ns j, 8, none⟩ (.pointer (pt (bk ns (j + 2))))
def rm2 (w : World) (ns : List (Nat × Part)) (L j : Nat) : World :=
  if j + 1 < ns.length then w.setCell ⟨bAt ns (j + 1), 7, none⟩ (.pointer (pt (pv ns j))) else w.setCell ⟨L, 1, none⟩ (.pointer (pt (pv ns j)))
/-- What the links are behind the first store. -/
structure Mid (w : World) (L M : Nat) (ns : List (Nat × Part)) (j : Nat) : Prop where
  l : VarN L [.pointer (pt (if j = 0 then bk ns 1 else bk ns 0)), .pointer (pt (pv ns ns.length)), .map (some M)] w
  nodes : ∀ i, i < ns.length → VarN (bAt ns i) (nodeC (pAt (psOf ns) i) (pv ns i) (if i + 1 = j then bk ns (j + 1) else bk ns (i + 1))) w
theorem Lk.mid (h : Lk w L M ns) {j : Nat} (hj : j < ns.length) : Mid (rm1 w ns L j) L M ns j := by
  cases j with
  | zero =>
    refine ⟨h.l.set (i := 0) _, fun i hi => ?_⟩
    rw [if_neg (by omega)]
    exact (h.nodes i hi).far _ (h.fl _ (bAt_mem hi)).symm
  | succ j =>
    have hl : j < ns.length := by omega
    refine ⟨?_, fun i hi => ?_⟩
    · rw [if_neg (by omega)]
      exact h.l.far _ (h.fl _ (bAt_mem hl))
    · by_cases e : i = j
      · subst e
        rw [if_pos rfl, ← nodeC_set8 _ _ (bk ns (i + 1))]
        exact (h.nodes i hi).set (i := 8) _
      · rw [if_neg (by omega)]
        exact (h.nodes i hi).far _ fun e2 => e (bAt_inj h.nd hl hi e2).symm
theorem Lk.rm (h : Lk w L M ns) {j : Nat} (hj : j < ns.length) (hm : Mid w' L M ns j) : Lk (rm2 w' ns L j) L M (ns.eraseIdx j) := by
  have hl : (ns.eraseIdx j).length = ns.length - 1 := by rw [List.length_eraseIdx]; simp [hj]
  have fl : ∀ i, i < ns.length → bAt ns i ≠ L := fun i hi => h.fl _ (bAt_mem hi)
  refine ⟨?_, fun i hi => ?_, ?_, fun x hx => h.fl x (List.mem_of_mem_eraseIdx hx)⟩
  · have e0 : bk (ns.eraseIdx j) 0 = if j = 0 then bk ns 1 else bk ns 0 := by
      rw [bk_erase]
      by_cases e : j = 0
      · rw [if_neg (by omega), if_pos e]
      · rw [if_pos (by omega), if_neg e]
    rw [e0, hl]
    unfold rm2
    by_cases hc : j + 1 < ns.length
    · rw [if_pos hc]
      have e1 : pv (ns.eraseIdx j) (ns.length - 1) = pv ns ns.length := by
        rw [pv_erase, if_neg (by omega)]
        congr 1
        omega
      rw [e1]
      exact hm.l.far _ (fl _ hc)
    · rw [if_neg hc]
      have e1 : pv (ns.eraseIdx j) (ns.length - 1) = pv ns j := by
        rw [pv_erase, if_pos (by omega)]
        congr 1
        omega
      rw [e1]
      exact hm.l.set (i := 1) _
  · rw [hl] at hi
    have E := at_erase (ns := ns) hi hj
    by_cases hc : i < j
    · rw [if_pos hc] at E
      rw [E.1, E.2, bk_erase, pv_erase, if_pos (show i ≤ j by omega)]
      have h5 := hm.nodes i (by omega)
      have e3 : (if i + 1 = j then bk ns (j + 1) else bk ns (i + 1)) = (if i + 1 < j then bk ns (i + 1) else bk ns (i + 1 + 1)) := by
        by_cases e : i + 1 = j
        · rw [if_pos e, if_neg (by omega), ← e]
        · rw [if_neg e, if_pos (by omega)]
      rw [e3] at h5
      unfold rm2
      by_cases h6 : j + 1 < ns.length
      · rw [if_pos h6]
        exact h5.far _ fun e => by have := bAt_inj h.nd h6 (by omega) e; omega
      · rw [if_neg h6]
        exact h5.far _ (fl _ (by omega)).symm
    · rw [if_neg hc] at E
      have h5 := hm.nodes (i + 1) (by omega)
      rw [if_neg (show ¬ i + 1 + 1 = j by omega)] at h5
      have e4 : rm2 w' ns L j = w'.setCell ⟨bAt ns (j + 1), 7, none⟩ (.pointer (pt (pv ns j))) := by
        unfold rm2
        rw [if_pos (by omega)]
      rw [E.1, E.2, bk_erase, pv_erase, e4, if_neg (show ¬ i + 1 < j by omega)]
      by_cases e : i = j
      · subst e
        rw [if_pos (Nat.le_refl _), ← nodeC_set7 _ (pv ns (i + 1))]
        exact h5.set (i := 7) _
      · rw [if_neg (show ¬ i ≤ j by omega)]
        exact h5.far _ fun e2 => by have := bAt_inj h.nd (by omega) (by omega) e2; omega
  · exact h.nd.sublist ((List.eraseIdx_sublist ..).map _)
end

end Go.Proofs.Ytncbgejggfkdmab

/- The contracts of the program's list of parts that wait: whether a part waits, whether there is no space, a further part. -/
namespace Go.Proofs.Ytncbgejggfkdmab
open Go.RowKit Go.PlainAid

/-- The parts that wait, at blocks from B on. -/
structure Wl (B : Nat) (w : World) (L M : Nat) (ns : List (Nat × Part)) : Prop where
  lk : Lk w L M ns
  tab : ∃ D, Tab w M ns D
  td : ((psOf ns).map fun p => p.tsn).Nodup
  key : ∀ p ∈ psOf ns, Key p.tsn
  ml : M ≠ L
  fm : ∀ x ∈ ns, x.1 ≠ M
  lo : B ≤ L ∧ B ≤ M ∧ ∀ x ∈ ns, B ≤ x.1
section
variable {B L M : Nat} {w w' : World} {ns : List (Nat × Part)}
theorem Wl.same (h : Wl B w L M ns) (e : ∀ x, B ≤ x → x < w.heap.size → w'.heap[x]? = w.heap[x]?) : Wl B w' L M ns := by
  obtain ⟨D, hD⟩ := h.tab
  refine ⟨h.lk.same fun x hx => ?_, ⟨D, hD.block (e M h.lo.2.1 hD.lt)⟩, h.td, h.key, h.ml, h.fm, h.lo⟩
  rcases hx with rfl | ⟨y, hy, rfl⟩
  · exact e _ h.lo.1 h.lk.lt
  · exact e _ (h.lo.2.2 y hy) (h.lk.node_lt hy)
theorem Wl.below (h : Wl B w L M ns) (hb : Below w.heap.size w w') : Wl B w' L M ns := h.same fun x _ hx => hb.block x hx
theorem Wl.drewN (h : Wl B w L M ns) (q : Nat) : Wl B (w.drewN q) L M ns := h.below (below_drewN (Below.refl _ _) q)
theorem Wl.alloc (h : Wl B w L M ns) (o : Obj) : Wl B (w.alloc o) L M ns := h.below (below_box o (Nat.le_refl _))
end
/-- Blocks below B, and those that are neither the list's nor one of its links, are as they were. -/
structure Kp (B : Nat) (L M : Nat) (ns : List (Nat × Part)) (w w' : World) : Prop where
  b : Below B w w'
  o : ∀ x, x < w.heap.size → x ≠ L → x ≠ M → (∀ y ∈ ns, x ≠ y.1) → w'.heap[x]? = w.heap[x]?

set_option maxHeartbeats 1000000 in
theorem has_any (B L M : Nat) (ns : List (Nat × Part)) (t : Int) (w : World) (h : Wl B w L M ns) (hk : Key t) :
    Calls Try.prog 52 #[.pointer (some ⟨L, 0, none⟩), .int .i64 t] w fun e w' => e = .returned (.bool (hasT (psOf ns) t)) ∧ w = w' := by
  obtain ⟨D, hD⟩ := h.tab
  have c2 := (h.lk.l 2 _ rfl).1
  cases hh : hasT (psOf ns) t with
  | false =>
    have hL := hD.look_no hh hk
    clear hD hh h
    go_enter Try.func52, Try.ntmps52
    go_wp2
    go_ret
    exact ⟨rfl, rfl⟩
  | true =>
    obtain ⟨p, hp, e⟩ : ∃ p ∈ psOf ns, p.tsn = t := by
      unfold hasT at hh
      rw [List.any_eq_true] at hh
      obtain ⟨p, hp, e⟩ := hh
      exact ⟨p, hp, by simpa using e⟩
    subst e
    obtain ⟨x, hx, rfl⟩ := List.mem_map.1 hp
    have hL := hD.look_at hx hk
    obtain ⟨t, ht⟩ : ∃ t, x.2.tsn = t := ⟨_, rfl⟩
    obtain ⟨d, hd⟩ : ∃ d, x.1 = d := ⟨_, rfl⟩
    rw [ht, hd] at hL
    rw [ht]
    clear hD hh h hp hx ht hd
    go_enter Try.func52, Try.ntmps52
    go_wp2
    go_ret
    exact ⟨rfl, rfl⟩

set_option maxHeartbeats 1000000 in
theorem full_any (B L M : Nat) (ns : List (Nat × Part)) (w : World) (h : Wl B w L M ns) (hn : ns.length ≤ 1000) :
    Calls Try.prog 54 #[.pointer (some ⟨L, 0, none⟩)] w fun e w' => e = .returned (.bool (decide (12 ≤ ns.length))) ∧ w = w' := by
  obtain ⟨D, hD⟩ := h.tab
  have c2 := (h.lk.l 2 _ rfl).1
  have own := hD.own
  have HS := Lib.hid hD.size
  clear hD h
  go_enter Try.func54, Try.ntmps54
  go_wp2_with (at_len; refine wpList_len_own _ rfl _ 94 rfl 3 95 Try.underlying94 ptrR M (Maps.size D) D rfl own ?_)
  rw [HS.out]
  have E := Lib.hid (show decide ((12 : Int) ≤ (ns.length : Int)) = decide (12 ≤ ns.length) from decide_eq_decide.2 ⟨fun h => by omega, fun h => by omega⟩)
  clear HS
  go_wp2
  go_ret
  exact ⟨ret_b E.out, rfl⟩

end Go.Proofs.Ytncbgejggfkdmab

/- The contract of the program's list of parts that wait: a further part. -/
namespace Go.Proofs.Ytncbgejggfkdmab
open Go.RowKit Go.PlainAid

theorem td_snoc {ns : List (Nat × Part)} {d : Nat} {p : Part} (h : ((psOf ns).map fun p => p.tsn).Nodup) (ht : hasT (psOf ns) p.tsn = false) : ((psOf (ns ++ [(d, p)])).map fun p => p.tsn).Nodup := by
  rw [psOf_append, List.map_append, List.nodup_append]
  refine ⟨h, by simp [psOf], fun a ha b hb e => ?_⟩
  obtain ⟨q, hq, rfl⟩ := List.mem_map.1 ha
  have : b = p.tsn := by simpa [psOf] using hb
  exact hasT_no ht q hq (e.trans this)
theorem Wl.more {B L M d n : Nat} {w w' : World} {ns : List (Nat × Part)} {p : Part} {D : DataW Unit} (h : Wl B w L M ns) (hl : Lk w' L M (ns ++ [(d, p)])) (ht : Tab w' M (ns ++ [(d, p)]) D) (hp : hasT (psOf ns) p.tsn = false) (hk : Key p.tsn) (hd : B ≤ d) (hm : d ≠ M) (_ : n = 0) : Wl B w' L M (ns ++ [(d, p)]) := by
  refine ⟨hl, ⟨D, ht⟩, td_snoc h.td hp, fun q hq => ?_, h.ml, fun x hx => ?_, h.lo.1, h.lo.2.1, fun x hx => ?_⟩
  · rw [psOf_append] at hq
    rcases List.mem_append.1 hq with hq | hq
    · exact h.key q hq
    · obtain rfl : q = p := by simpa [psOf] using hq
      exact hk
  · rcases List.mem_append.1 hx with hx | hx
    · exact h.fm x hx
    · obtain rfl : x = (d, p) := by simpa using hx
      exact hm
  · rcases List.mem_append.1 hx with hx | hx
    · exact h.lo.2.2 x hx
    · obtain rfl : x = (d, p) := by simpa using hx
      exact hd

theorem Lk.drew {w : World} {L M : Nat} {ns : List (Nat × Part)} (h : Lk w L M ns) : Lk w.drew L M ns := h.same fun _ _ => rfl
theorem Lk.alloc {w : World} {L M : Nat} {ns : List (Nat × Part)} (h : Lk w L M ns) (o : Obj) : Lk (w.alloc o) L M ns := h.same fun x hx => by
  refine (below_box o (Nat.le_refl _)).block x ?_
  rcases hx with rfl | ⟨y, hy, rfl⟩
  · exact h.lt
  · exact h.node_lt hy
theorem partV_eq (t s q : Int) (fi la lo : Bool) (tx : ByteArray) : partV ⟨t, s, q, fi, la, lo, tx⟩ = .agg #[.int .i64 t, .int .i64 s, .int .i64 q, .bool fi, .bool la, .bool lo, .string tx] := rfl
theorem two_past (w : World) (a b : Obj) {p q i j : Nat} {x y : Value} (hp : p < w.heap.size) (hq : q < w.heap.size) :
    (((w.alloc a).alloc b).setCell ⟨p, i, none⟩ x).setCell ⟨q, j, none⟩ y = (((w.setCell ⟨p, i, none⟩ x).setCell ⟨q, j, none⟩ y).alloc a).alloc b := by
  rw [World.setCell_alloc_past b p i x (by simp; omega), World.setCell_alloc_past a p i x hp, World.setCell_alloc_past b q j y (by simp; omega), World.setCell_alloc_past a q j y (by simp; omega)]
theorem heap_past (w : World) (o : Obj) {x : Nat} (h : x < w.heap.size) : (w.alloc o).heap[x]? = w.heap[x]? := (below_box o (Nat.le_refl _)).block x h

set_option maxHeartbeats 2000000 in
theorem add_first (B L M : Nat) (p : Part) (w : World) (h : Wl B w L M []) (hk : Key p.tsn) :
    Calls Try.prog 55 #[.pointer (some ⟨L, 0, none⟩), partV p] w fun e w' => e = .returned (.tuple #[]) ∧ ∃ d, Wl B w' L M [(d, p)] ∧ w.heap.size ≤ d ∧ Kp B L M [] w w' := by
  obtain ⟨t, s, q, fi, la, lo, tx⟩ := p
  have hBw : B ≤ w.heap.size := Nat.le_of_lt (Nat.lt_of_le_of_lt h.lo.1 h.lk.lt)
  have hLt := h.lk.lt
  obtain ⟨D, hD⟩ := h.tab
  have hMt := hD.lt
  have hBL := h.lo.1
  have hBM := h.lo.2.1
  have hml := h.ml
  have V2 := VarN.new_at (w := w.alloc (.cells #[.int .i64 t, .int .i64 s, .int .i64 q, .bool fi, .bool la, .bool lo, .string tx] 43)) (d := w.heap.size + 1) (by simp) (nodeC (⟨t, s, q, fi, la, lo, tx⟩ : Part) none none) 110
  have L3 := ((h.lk.alloc (.cells #[.int .i64 t, .int .i64 s, .int .i64 q, .bool fi, .bool la, .bool lo, .string tx] 43)).alloc (.cells #[.int .i64 t, .int .i64 s, .int .i64 q, .bool fi, .bool la, .bool lo, .string tx, .pointer none, .pointer none] 110)).first V2 (by omega)
  rw [two_past _ _ _ (by omega) hLt] at L3
  have B3 : Below B w ((((w.setCell ⟨L, 0, none⟩ (.pointer (some ⟨w.heap.size + 1, 0, none⟩))).setCell ⟨L, 1, none⟩ (.pointer (some ⟨w.heap.size + 1, 0, none⟩))).alloc (.cells #[.int .i64 t, .int .i64 s, .int .i64 q, .bool fi, .bool la, .bool lo, .string tx] 43)).alloc (.cells #[.int .i64 t, .int .i64 s, .int .i64 q, .bool fi, .bool la, .bool lo, .string tx, .pointer none, .pointer none] 110)) := ((((Below.refl B w).setCell (p := ⟨L, 0, none⟩) hBL (.pointer (some ⟨w.heap.size + 1, 0, none⟩))).setCell (p := ⟨L, 1, none⟩) hBL (.pointer (some ⟨w.heap.size + 1, 0, none⟩))).alloc (by simp; omega) (.cells #[.int .i64 t, .int .i64 s, .int .i64 q, .bool fi, .bool la, .bool lo, .string tx] 43)).alloc (by simp; omega) (.cells #[.int .i64 t, .int .i64 s, .int .i64 q, .bool fi, .bool la, .bool lo, .string tx, .pointer none, .pointer none] 110)
  have E3 : ∀ x, x < w.heap.size → x ≠ L → ((((w.setCell ⟨L, 0, none⟩ (.pointer (some ⟨w.heap.size + 1, 0, none⟩))).setCell ⟨L, 1, none⟩ (.pointer (some ⟨w.heap.size + 1, 0, none⟩))).alloc (.cells #[.int .i64 t, .int .i64 s, .int .i64 q, .bool fi, .bool la, .bool lo, .string tx] 43)).alloc (.cells #[.int .i64 t, .int .i64 s, .int .i64 q, .bool fi, .bool la, .bool lo, .string tx, .pointer none, .pointer none] 110)).heap[x]? = w.heap[x]? := fun x h1 h2 => by
    rw [heap_past _ _ (by simp; omega), heap_past _ _ (by simp; omega), Below.heap_setCell _ _ _ _ (by simpa using h2), Below.heap_setCell _ _ _ _ (by simpa using h2)]
  have T3 : Tab ((((w.setCell ⟨L, 0, none⟩ (.pointer (some ⟨w.heap.size + 1, 0, none⟩))).setCell ⟨L, 1, none⟩ (.pointer (some ⟨w.heap.size + 1, 0, none⟩))).alloc (.cells #[.int .i64 t, .int .i64 s, .int .i64 q, .bool fi, .bool la, .bool lo, .string tx] 43)).alloc (.cells #[.int .i64 t, .int .i64 s, .int .i64 q, .bool fi, .bool la, .bool lo, .string tx, .pointer none, .pointer none] 110)).drew.drew M [] D := hD.block (E3 M hMt hml)
  obtain ⟨w9, D9, hU, T9, G9, S9⟩ := T3.put (w.heap.size + 1) (p := (⟨t, s, q, fi, la, lo, tx⟩ : Part)) hk rfl (by simp)
  have L9 : Lk w9 L M [(w.heap.size + 1, (⟨t, s, q, fi, la, lo, tx⟩ : Part))] := L3.drew.drew.same fun x hx => by
    refine G9.block x ?_ ?_
    · rcases hx with rfl | ⟨y, hy, rfl⟩
      · exact L3.drew.drew.lt
      · exact L3.drew.drew.node_lt hy
    · rcases hx with rfl | ⟨y, hy, rfl⟩
      · simpa using hml.symm
      · obtain rfl : y = (w.heap.size + 1, (⟨t, s, q, fi, la, lo, tx⟩ : Part)) := by simpa using hy
        simp
        omega
  have W9 := Lib.hid (h.more (n := 0) L9 T9 rfl hk (by omega) (by omega) rfl)
  have K9 := Lib.hid (show Kp B L M [] w w9 from ⟨Below.grown B3.drew.drew G9 (by simp; omega) (fun k e => by cases e; exact hBM), fun x h1 h2 h3 h4 => (G9.block x (by simp; omega) (by simpa using h3)).trans (E3 x h1 h2)⟩)
  have c0 : w.cell? ⟨L, 0, none⟩ = some (.pointer none) := (h.lk.l 0 _ rfl).1
  have c1 : w.cell? ⟨L, 1, none⟩ = some (.pointer none) := (h.lk.l 1 _ rfl).1
  have c2 := (h.lk.l 2 _ rfl).1
  have f0 := (h.lk.l 0 _ rfl).2
  have f1 := (h.lk.l 1 _ rfl).2
  clear h hD V2 L3 B3 E3 T3 T9 G9 S9 L9
  dsimp only at hU
  rw [partV_eq]
  go_enter Try.func55, Try.ntmps55
  go_wp2_with fail
  go_region
  go_wp2_with fail
  go_region
  all_goals
    go_end0
    exact ⟨rfl, _, W9.out, by omega, K9.out⟩

set_option maxHeartbeats 2000000 in
theorem add_more (B L M n : Nat) (ns : List (Nat × Part)) (p : Part) (w : World) (h : Wl B w L M ns) (hn : ns.length = n + 1) (hn2 : ns.length ≤ 100) (hk : Key p.tsn) (ht : hasT (psOf ns) p.tsn = false) :
    Calls Try.prog 55 #[.pointer (some ⟨L, 0, none⟩), partV p] w fun e w' => e = .returned (.tuple #[]) ∧ ∃ d, Wl B w' L M (ns ++ [(d, p)]) ∧ w.heap.size ≤ d ∧ Kp B L M ns w w' := by
  obtain ⟨t, s, q, fi, la, lo, tx⟩ := p
  have hBw : B ≤ w.heap.size := Nat.le_of_lt (Nat.lt_of_le_of_lt h.lo.1 h.lk.lt)
  have hLt := h.lk.lt
  obtain ⟨D, hD⟩ := h.tab
  have hMt := hD.lt
  have hBL := h.lo.1
  have hBM := h.lo.2.1
  have hml := h.ml
  have hl : n < ns.length := by omega
  have hm := bAt_mem hl
  have hBe := h.lo.2.2 _ hm
  have het := h.lk.node_lt hm
  have heL := h.lk.fl _ hm
  have heM := h.fm _ hm
  have hpv : pv ns ns.length = some (bAt ns n) := by rw [hn]; exact bk_some hl
  have N := h.lk.nodes n hl
  have HN := Lib.hid hn
  have HF := Lib.hid (show ∀ y ∈ ns, y.1 ≠ w.heap.size + 1 from fun y hy => by have := h.lk.node_lt hy; omega)
  have V2 := VarN.new_at (w := w.alloc (.cells #[.int .i64 t, .int .i64 s, .int .i64 q, .bool fi, .bool la, .bool lo, .string tx] 43)) (d := w.heap.size + 1) (by simp) (nodeC (⟨t, s, q, fi, la, lo, tx⟩ : Part) (some (bAt ns n)) none) 110
  have L3 := ((h.lk.alloc (.cells #[.int .i64 t, .int .i64 s, .int .i64 q, .bool fi, .bool la, .bool lo, .string tx] 43)).alloc (.cells #[.int .i64 t, .int .i64 s, .int .i64 q, .bool fi, .bool la, .bool lo, .string tx, .pointer (some ⟨bAt ns n, 0, none⟩), .pointer none] 110)).more hn V2 (by omega) HF.out
  have nb : bk ns (n + 1) = none := bk_none (by omega)
  rw [nb] at N
  have g8 : w.cell? ⟨bAt ns n, 8, none⟩ = some (.pointer none) := (N 8 _ rfl).1
  have q8 := (N 8 _ rfl).2
  clear N nb
  obtain ⟨e, he⟩ : ∃ e, bAt ns n = e := ⟨_, rfl⟩
  rw [he] at L3 V2 hm hBe het heL heM hpv g8 q8
  clear he
  rw [two_past _ _ _ (by omega) hLt] at L3
  have B3 : Below B w ((((w.setCell ⟨e, 8, none⟩ (.pointer (some ⟨w.heap.size + 1, 0, none⟩))).setCell ⟨L, 1, none⟩ (.pointer (some ⟨w.heap.size + 1, 0, none⟩))).alloc (.cells #[.int .i64 t, .int .i64 s, .int .i64 q, .bool fi, .bool la, .bool lo, .string tx] 43)).alloc (.cells #[.int .i64 t, .int .i64 s, .int .i64 q, .bool fi, .bool la, .bool lo, .string tx, .pointer (some ⟨e, 0, none⟩), .pointer none] 110)) := ((((Below.refl B w).setCell (p := ⟨e, 8, none⟩) hBe (.pointer (some ⟨w.heap.size + 1, 0, none⟩))).setCell (p := ⟨L, 1, none⟩) hBL (.pointer (some ⟨w.heap.size + 1, 0, none⟩))).alloc (by simp; omega) (.cells #[.int .i64 t, .int .i64 s, .int .i64 q, .bool fi, .bool la, .bool lo, .string tx] 43)).alloc (by simp; omega) (.cells #[.int .i64 t, .int .i64 s, .int .i64 q, .bool fi, .bool la, .bool lo, .string tx, .pointer (some ⟨e, 0, none⟩), .pointer none] 110)
  have E3 : ∀ x, x < w.heap.size → x ≠ L → x ≠ e → ((((w.setCell ⟨e, 8, none⟩ (.pointer (some ⟨w.heap.size + 1, 0, none⟩))).setCell ⟨L, 1, none⟩ (.pointer (some ⟨w.heap.size + 1, 0, none⟩))).alloc (.cells #[.int .i64 t, .int .i64 s, .int .i64 q, .bool fi, .bool la, .bool lo, .string tx] 43)).alloc (.cells #[.int .i64 t, .int .i64 s, .int .i64 q, .bool fi, .bool la, .bool lo, .string tx, .pointer (some ⟨e, 0, none⟩), .pointer none] 110)).heap[x]? = w.heap[x]? := fun x h1 h2 h3 => by
    rw [heap_past _ _ (by simp; omega), heap_past _ _ (by simp; omega), Below.heap_setCell _ _ _ _ (by simpa using h2), Below.heap_setCell _ _ _ _ (by simpa using h3)]
  have T3 : Tab ((((w.setCell ⟨e, 8, none⟩ (.pointer (some ⟨w.heap.size + 1, 0, none⟩))).setCell ⟨L, 1, none⟩ (.pointer (some ⟨w.heap.size + 1, 0, none⟩))).alloc (.cells #[.int .i64 t, .int .i64 s, .int .i64 q, .bool fi, .bool la, .bool lo, .string tx] 43)).alloc (.cells #[.int .i64 t, .int .i64 s, .int .i64 q, .bool fi, .bool la, .bool lo, .string tx, .pointer (some ⟨e, 0, none⟩), .pointer none] 110)).drew.drew M ns D := hD.block (E3 M hMt hml heM.symm)
  obtain ⟨w9, D9, hU, T9, G9, S9⟩ := T3.put (w.heap.size + 1) (p := (⟨t, s, q, fi, la, lo, tx⟩ : Part)) hk ht hn2
  have L9 : Lk w9 L M (ns ++ [(w.heap.size + 1, (⟨t, s, q, fi, la, lo, tx⟩ : Part))]) := L3.drew.drew.same fun x hx => by
    refine G9.block x ?_ ?_
    · rcases hx with rfl | ⟨y, hy, rfl⟩
      · exact L3.drew.drew.lt
      · exact L3.drew.drew.node_lt hy
    · rcases hx with rfl | ⟨y, hy, rfl⟩
      · simpa using hml.symm
      · rcases List.mem_append.1 hy with hy | hy
        · simpa using h.fm y hy
        · obtain rfl : y = (w.heap.size + 1, (⟨t, s, q, fi, la, lo, tx⟩ : Part)) := by simpa using hy
          simp
          omega
  have W9 := Lib.hid (h.more (n := 0) L9 T9 ht hk (by omega) (by omega) rfl)
  have K9 := Lib.hid (show Kp B L M ns w w9 from ⟨Below.grown B3.drew.drew G9 (by simp; omega) (fun k e => by cases e; exact hBM), fun x h1 h2 h3 h4 => (G9.block x (by simp; omega) (by simpa using h3)).trans (E3 x h1 h2 (h4 _ hm))⟩)
  have c0 := (h.lk.l 0 _ rfl).1
  have c1 : w.cell? ⟨L, 1, none⟩ = some (.pointer (some ⟨e, 0, none⟩)) := by have := (h.lk.l 1 _ rfl).1; rw [hpv] at this; exact this
  have c2 := (h.lk.l 2 _ rfl).1
  have f0 := (h.lk.l 0 _ rfl).2
  have f1 := (h.lk.l 1 _ rfl).2
  have HE := Lib.hid hm
  have ne1 : ¬ e = L := heL
  have ne2 : ¬ L = e := fun h => heL h.symm
  clear h hD V2 L3 B3 E3 T3 T9 G9 S9 L9 hpv HN HF hl hm hn hn2 ht c0 f0
  dsimp only at hU
  rw [partV_eq]
  go_enter Try.func55, Try.ntmps55
  go_wp2_with fail
  go_region
  go_wp2_with fail
  go_region
  all_goals
    go_end0
    exact ⟨rfl, _, W9.out, by omega, K9.out⟩

theorem add_any (B L M : Nat) (ns : List (Nat × Part)) (p : Part) (w : World) (h : Wl B w L M ns) (hn : ns.length ≤ 100) (hk : Key p.tsn) (ht : hasT (psOf ns) p.tsn = false) :
    Calls Try.prog 55 #[.pointer (some ⟨L, 0, none⟩), partV p] w fun e w' => e = .returned (.tuple #[]) ∧ ∃ d, Wl B w' L M (ns ++ [(d, p)]) ∧ w.heap.size ≤ d ∧ Kp B L M ns w w' := by
  cases ns with
  | nil => exact add_first B L M p w h hk
  | cons x ns => exact add_more B L M ns.length (x :: ns) p w h rfl hn hk ht

end Go.Proofs.Ytncbgejggfkdmab

/- The contract of the program's list of parts that wait: a part is taken out. -/
namespace Go.Proofs.Ytncbgejggfkdmab
open Go.RowKit Go.PlainAid

theorem td_inj {ns : List (Nat × Part)} (h : ((psOf ns).map fun p => p.tsn).Nodup) {i j : Nat} (hi : i < ns.length) (hj : j < ns.length) (e : (pAt (psOf ns) i).tsn = (pAt (psOf ns) j).tsn) : i = j := by
  rw [List.nodup_iff_pairwise_ne, List.pairwise_iff_getElem] at h
  have key : ∀ a b, a < ns.length → b < ns.length → a < b → (pAt (psOf ns) a).tsn ≠ (pAt (psOf ns) b).tsn := fun a b ha hb hab => by
    have := h a b (by rw [List.length_map, psOf_length]; exact ha) (by rw [List.length_map, psOf_length]; exact hb) hab
    rwa [List.getElem_map, List.getElem_map, pAt_get (by rw [psOf_length]; exact ha), pAt_get (by rw [psOf_length]; exact hb)] at this
  by_cases h1 : i < j
  · exact absurd e (key i j hi hj h1)
  · by_cases h2 : j < i
    · exact absurd e.symm (key j i hj hi h2)
    · omega
theorem erase_mem {ns : List (Nat × Part)} (h : (ns.map Prod.fst).Nodup) {j : Nat} (hj : j < ns.length) {x : Nat × Part} (hx : x ∈ ns.eraseIdx j) : ∃ i, i < ns.length ∧ i ≠ j ∧ x = (bAt ns i, pAt (psOf ns) i) := by
  rw [← leftB_one h hj] at hx
  obtain ⟨h1, h2⟩ := leftB_sub hx
  obtain ⟨i, hi, rfl⟩ := nd_at h1
  exact ⟨i, hi, fun e => h2 (by subst e; simp), rfl⟩
theorem erase_has {ns : List (Nat × Part)} (h : (ns.map Prod.fst).Nodup) {j : Nat} (hj : j < ns.length) {i : Nat} (hi : i < ns.length) (hne : i ≠ j) : (bAt ns i, pAt (psOf ns) i) ∈ ns.eraseIdx j := by
  rw [← leftB_one h hj]
  exact leftB_in (bAt_mem hi) fun e => hne (bAt_inj h hi hj (by simpa using e))
/-- An entry is struck. -/
theorem Tab.del {w : World} {M : Nat} {ns : List (Nat × Part)} {D : DataW Unit} (h : Tab w M ns D) (nd : (ns.map Prod.fst).Nodup) (td : ((psOf ns).map fun p => p.tsn).Nodup) {j : Nat} (hj : j < ns.length) (hk : Key (pAt (psOf ns) j).tsn) (ty : TypeId) :
    ∃ w' D', (Builtin.delete_ #[94, 3] ty #[.map (some M), .int .i64 (pAt (psOf ns) j).tsn]).run Try.prog w = .ok (.tuple #[]) w' ∧ Tab w' M (ns.eraseIdx j) D' ∧ w.grownBy w' (some M) ∧ w'.heap.size = w.heap.size := by
  obtain ⟨w', hrun, hown, hturn⟩ := h.own.drop ints_keyed Try.underlying94 (key_of hk) ty
  have htidy := h.own.tidy ints_keyed
  have hhas : Maps.has D (.int .i64 (pAt (psOf ns) j).tsn) = true := by
    cases hc : Maps.has D (.int .i64 (pAt (psOf ns) j).tsn) with
    | true => rfl
    | false =>
      have h1 := Maps.atKey_of_not_has hc .nil
      have h2 := h.at_ _ (bAt_mem hj)
      rw [h2] at h1
      cases h1
  refine ⟨w', _, hrun, ⟨own_tight hown, ?_, fun x hx => ?_, fun t ht => ?_⟩, hturn.grown, ?_⟩
  · have h1 := Maps.size_del (k := .int .i64 (pAt (psOf ns) j).tsn) htidy
    rw [hhas, if_pos rfl, h.size] at h1
    rw [List.length_eraseIdx, if_pos hj]
    omega
  · obtain ⟨i, hi, hij, rfl⟩ := erase_mem nd hj hx
    have hne : Lit.int .i64 (pAt (psOf ns) i).tsn ≠ Lit.int .i64 (pAt (psOf ns) j).tsn := fun e => hij (td_inj td hi hj (by simpa using e))
    rw [Maps.atKey_del_other hne]
    exact h.at_ _ (bAt_mem hi)
  · by_cases e : t = (pAt (psOf ns) j).tsn
    · rw [e]
      exact Maps.has_del_same
    · have hne : Lit.int .i64 t ≠ Lit.int .i64 (pAt (psOf ns) j).tsn := fun h => e (by simpa using h)
      rw [Maps.has_del_other hne]
      refine h.no t ?_
      cases hc : hasT (psOf ns) t with
      | false => rfl
      | true =>
        unfold hasT at hc
        rw [List.any_eq_true] at hc
        obtain ⟨p, hp, ep⟩ := hc
        obtain ⟨x, hx, rfl⟩ := List.mem_map.1 hp
        obtain ⟨i, hi, rfl⟩ := nd_at hx
        have ep : (pAt (psOf ns) i).tsn = t := by simpa using ep
        have hij : i ≠ j := fun e2 => e (by rw [← ep, e2])
        have h1 := hasT_mem (show pAt (psOf ns) i ∈ psOf (ns.eraseIdx j) from List.mem_map_of_mem (erase_has nd hj hi hij))
        rw [ep, ht] at h1
        cases h1
  · obtain ⟨es, clock, es', clock', _, rfl⟩ := hturn
    simp [ChangeMaps.setBlock]
theorem Wl.less {B L M j : Nat} {w w' : World} {ns : List (Nat × Part)} {D : DataW Unit} (h : Wl B w L M ns) (hl : Lk w' L M (ns.eraseIdx j)) (ht : Tab w' M (ns.eraseIdx j) D) : Wl B w' L M (ns.eraseIdx j) := by
  have sub : ∀ x, x ∈ ns.eraseIdx j → x ∈ ns := fun x hx => List.mem_of_mem_eraseIdx hx
  refine ⟨hl, ⟨D, ht⟩, h.td.sublist (((List.eraseIdx_sublist ..).map _).map _), fun q hq => ?_, h.ml, fun x hx => h.fm x (sub x hx), h.lo.1, h.lo.2.1, fun x hx => h.lo.2.2 x (sub x hx)⟩
  obtain ⟨x, hx, rfl⟩ := List.mem_map.1 hq
  exact h.key _ (List.mem_map_of_mem (sub x hx))
theorem rm1_heap (w : World) (ns : List (Nat × Part)) (L j : Nat) (hj : j < ns.length) {x : Nat} (hL : x ≠ L) (hb : ∀ y ∈ ns, x ≠ y.1) : (rm1 w ns L j).heap[x]? = w.heap[x]? := by
  cases j with
  | zero => exact Below.heap_setCell _ _ _ _ (by simpa using hL)
  | succ j => exact Below.heap_setCell _ _ _ _ (by simpa using hb _ (bAt_mem (show j < ns.length by omega)))
theorem rm2_heap (w : World) (ns : List (Nat × Part)) (L j : Nat) {x : Nat} (hL : x ≠ L) (hb : ∀ y ∈ ns, x ≠ y.1) : (rm2 w ns L j).heap[x]? = w.heap[x]? := by
  unfold rm2
  split
  · rename_i h
    exact Below.heap_setCell _ _ _ _ (by simpa using hb _ (bAt_mem h))
  · exact Below.heap_setCell _ _ _ _ (by simpa using hL)
theorem rm1_size (w : World) (ns : List (Nat × Part)) (L j : Nat) : (rm1 w ns L j).heap.size = w.heap.size := by
  cases j <;> simp [rm1]
theorem rm2_size (w : World) (ns : List (Nat × Part)) (L j : Nat) : (rm2 w ns L j).heap.size = w.heap.size := by
  unfold rm2
  split <;> simp
theorem rm_below {B L j : Nat} {w : World} {ns : List (Nat × Part)} (hj : j < ns.length) (hL : B ≤ L) (hb : ∀ y ∈ ns, B ≤ y.1) : Below B w (rm2 (rm1 w ns L j) ns L j) := by
  have h1 : Below B w (rm1 w ns L j) := by
    cases j with
    | zero => exact (Below.refl B w).setCell (p := ⟨L, 0, none⟩) hL _
    | succ j => exact (Below.refl B w).setCell (p := ⟨bAt ns j, 8, none⟩) (hb _ (bAt_mem (show j < ns.length by omega))) _
  unfold rm2
  split
  · rename_i h
    exact h1.setCell (p := ⟨bAt ns (j + 1), 7, none⟩) (hb _ (bAt_mem h)) _
  · exact h1.setCell (p := ⟨L, 1, none⟩) hL _
/-- What a removal leaves: the entry struck behind some draws. -/
theorem removed {B L M j q : Nat} {w : World} {ns : List (Nat × Part)} (h : Wl B w L M ns) (hj : j < ns.length) (ty : TypeId) : ∃ w9, (Builtin.delete_ #[94, 3] ty #[.map (some M), .int .i64 (pAt (psOf ns) j).tsn]).run Try.prog ((rm2 (rm1 w ns L j) ns L j).drewN q) = .ok (.tuple #[]) w9 ∧
    Wl B w9 L M (ns.eraseIdx j) ∧ Kp B L M ns w w9 := by
  obtain ⟨D, hD⟩ := h.tab
  have e0 : ((rm2 (rm1 w ns L j) ns L j).drewN q).heap = (rm2 (rm1 w ns L j) ns L j).heap := World.heap_drewN _ _
  have T2 : Tab ((rm2 (rm1 w ns L j) ns L j).drewN q) M ns D := hD.block (by
    rw [e0, rm2_heap _ _ _ _ h.ml (fun y hy => (h.fm y hy).symm), rm1_heap _ _ _ _ hj h.ml (fun y hy => (h.fm y hy).symm)])
  obtain ⟨w9, D9, hU, T9, G9, S9⟩ := T2.del h.lk.nd h.td hj (h.key _ (List.mem_map_of_mem (bAt_mem hj))) ty
  have L2 := (h.lk.rm hj (h.lk.mid hj))
  have hsz : ((rm2 (rm1 w ns L j) ns L j).drewN q).heap.size = w.heap.size := by rw [e0, rm2_size, rm1_size]
  have L9 : Lk w9 L M (ns.eraseIdx j) := L2.same fun x hx => by
    have e1 : w9.heap[x]? = ((rm2 (rm1 w ns L j) ns L j).drewN q).heap[x]? := by
      refine G9.block x ?_ ?_
      · rw [e0]
        rcases hx with rfl | ⟨y, hy, rfl⟩
        · exact L2.lt
        · exact L2.node_lt hy
      · rcases hx with rfl | ⟨y, hy, rfl⟩
        · simpa using h.ml.symm
        · simpa using h.fm y (List.mem_of_mem_eraseIdx hy)
    rw [e1, e0]
  refine ⟨w9, hU, h.less L9 T9, Below.grown (below_drewN (rm_below hj h.lo.1 h.lo.2.2) q) G9 (by rw [hsz]; exact Nat.le_of_lt (Nat.lt_of_le_of_lt h.lo.1 h.lk.lt)) (fun k e => by cases e; exact h.lo.2.1), fun x h1 h2 h3 h4 => ?_⟩
  rw [G9.block x (by rw [hsz]; exact h1) (by simpa using h3), e0, rm2_heap _ _ _ _ h2 h4, rm1_heap _ _ _ _ hj h2 h4]

set_option maxHeartbeats 2000000 in
theorem remove_first (B L M : Nat) (ns : List (Nat × Part)) (w : World) (h : Wl B w L M ns) (hj : 0 < ns.length) (hm : 0 + 1 < ns.length) :
    Calls Try.prog 92 #[.pointer (some ⟨L, 0, none⟩), .pointer (some ⟨bAt ns 0, 0, none⟩)] w fun e w' => e = .returned (.tuple #[]) ∧ Wl B w' L M (ns.eraseIdx 0) ∧ Kp B L M ns w w' := by
  obtain ⟨w9, hU, hW, hK⟩ := removed (q := 2) h hj 0
  have HW := Lib.hid hW
  have HK := Lib.hid hK
  clear hW hK
  have N := h.lk.nodes 0 hj
  unfold rm2 at hU
  rw [if_pos hm] at hU
  have hn := bk_some hm
  have hp : pv ns 0 = none := rfl
  have E1 : rm1 w ns L 0 = w.setCell ⟨L, 0, none⟩ (.pointer (pt (bk ns 1))) := rfl
  rw [E1, hp] at hU
  rw [show bk ns 1 = _ from hn] at hU
  rw [hn, hp] at N
  have n0 := (N 0 _ rfl).1
  have n7 := (N 7 _ rfl).1
  have n8 := (N 8 _ rfl).1
  have c0 := (h.lk.l 0 _ rfl).1
  have c1 := (h.lk.l 1 _ rfl).1
  have c2 := (h.lk.l 2 _ rfl).1
  have f0 := (h.lk.l 0 _ rfl).2
  have f1 := (h.lk.l 1 _ rfl).2
  have hjL := h.lk.fl _ (bAt_mem hj)
  have S := h.lk.nodes _ hm
  have s7 := (S 7 _ rfl).1
  have s7f := (S 7 _ rfl).2
  have hzL := h.lk.fl _ (bAt_mem hm)
  have hzj : ¬ bAt ns (0 + 1) = bAt ns 0 := fun e => by have := bAt_inj h.lk.nd hm hj e; omega
  obtain ⟨t, ht⟩ : ∃ t, (pAt (psOf ns) 0).tsn = t := ⟨_, rfl⟩
  obtain ⟨d, hd⟩ : ∃ d, bAt ns 0 = d := ⟨_, rfl⟩
  rw [ht] at hU n0
  rw [hd] at n0 n7 n8 hjL hzj ⊢
  obtain ⟨z, hz⟩ : ∃ z, bAt ns (0 + 1) = z := ⟨_, rfl⟩
  rw [hz] at hU n8 s7 s7f hzL hzj
  have hzL2 : ¬ L = z := fun h => hzL h.symm
  have hzj2 : ¬ d = z := fun h => hzj h.symm
  have hjL2 : ¬ L = d := fun h => hjL h.symm
  change (Builtin.delete_ _ _ _).run _ (World.setCell (World.setCell w ⟨L, 0, none⟩ (.pointer (some ⟨z, 0, none⟩))) ⟨z, 7, none⟩ (.pointer none)).drew.drew = _ at hU
  change w.cell? _ = some (.pointer none) at n7
  change w.cell? _ = some (.pointer (some ⟨z, 0, none⟩)) at n8
  clear h N ht hd hn hp E1 hj hm S hz
  go_enter Try.func92, Try.ntmps92
  go_wp2_with fail
  go_region
  go_wp2_with fail
  go_region
  all_goals
    go_end0
    exact ⟨rfl, HW.out, HK.out⟩

set_option maxHeartbeats 2000000 in
theorem remove_first_last (B L M : Nat) (ns : List (Nat × Part)) (w : World) (h : Wl B w L M ns) (hj : 0 < ns.length) (hm : ¬ 0 + 1 < ns.length) :
    Calls Try.prog 92 #[.pointer (some ⟨L, 0, none⟩), .pointer (some ⟨bAt ns 0, 0, none⟩)] w fun e w' => e = .returned (.tuple #[]) ∧ Wl B w' L M (ns.eraseIdx 0) ∧ Kp B L M ns w w' := by
  obtain ⟨w9, hU, hW, hK⟩ := removed (q := 1) h hj 0
  have HW := Lib.hid hW
  have HK := Lib.hid hK
  clear hW hK
  have N := h.lk.nodes 0 hj
  unfold rm2 at hU
  rw [if_neg hm] at hU
  have hn := bk_none (ns := ns) (i := 0 + 1) (by omega)
  have hp : pv ns 0 = none := rfl
  have E1 : rm1 w ns L 0 = w.setCell ⟨L, 0, none⟩ (.pointer (pt (bk ns 1))) := rfl
  rw [E1, hp] at hU
  rw [show bk ns 1 = _ from hn] at hU
  rw [hn, hp] at N
  have n0 := (N 0 _ rfl).1
  have n7 := (N 7 _ rfl).1
  have n8 := (N 8 _ rfl).1
  have c0 := (h.lk.l 0 _ rfl).1
  have c1 := (h.lk.l 1 _ rfl).1
  have c2 := (h.lk.l 2 _ rfl).1
  have f0 := (h.lk.l 0 _ rfl).2
  have f1 := (h.lk.l 1 _ rfl).2
  have hjL := h.lk.fl _ (bAt_mem hj)
  obtain ⟨t, ht⟩ : ∃ t, (pAt (psOf ns) 0).tsn = t := ⟨_, rfl⟩
  obtain ⟨d, hd⟩ : ∃ d, bAt ns 0 = d := ⟨_, rfl⟩
  rw [ht] at hU n0
  rw [hd] at n0 n7 n8 hjL ⊢
  have hjL2 : ¬ L = d := fun h => hjL h.symm
  change (Builtin.delete_ _ _ _).run _ (World.setCell (World.setCell w ⟨L, 0, none⟩ (.pointer none)) ⟨L, 1, none⟩ (.pointer none)).drew = _ at hU
  change w.cell? _ = some (.pointer none) at n7
  change w.cell? _ = some (.pointer none) at n8
  clear h N ht hd hn hp E1 hj hm
  go_enter Try.func92, Try.ntmps92
  go_wp2_with fail
  go_region
  all_goals
    go_end0
    exact ⟨rfl, HW.out, HK.out⟩

set_option maxHeartbeats 2000000 in
theorem remove_mid (B L M i : Nat) (ns : List (Nat × Part)) (w : World) (h : Wl B w L M ns) (hj : (i + 1) < ns.length) (hm : (i + 1) + 1 < ns.length) :
    Calls Try.prog 92 #[.pointer (some ⟨L, 0, none⟩), .pointer (some ⟨bAt ns (i + 1), 0, none⟩)] w fun e w' => e = .returned (.tuple #[]) ∧ Wl B w' L M (ns.eraseIdx (i + 1)) ∧ Kp B L M ns w w' := by
  obtain ⟨w9, hU, hW, hK⟩ := removed (q := 3) h hj 0
  have HW := Lib.hid hW
  have HK := Lib.hid hK
  clear hW hK
  have N := h.lk.nodes (i + 1) hj
  unfold rm2 at hU
  rw [if_pos hm] at hU
  have hn := bk_some hm
  have hl : i < ns.length := by omega
  have hp : pv ns (i + 1) = some (bAt ns i) := bk_some hl
  have E1 : rm1 w ns L (i + 1) = w.setCell ⟨bAt ns i, 8, none⟩ (.pointer (pt (bk ns (i + 2)))) := rfl
  rw [E1, hp] at hU
  rw [show bk ns (i + 2) = _ from hn] at hU
  rw [hn, hp] at N
  have n0 := (N 0 _ rfl).1
  have n7 := (N 7 _ rfl).1
  have n8 := (N 8 _ rfl).1
  have c0 := (h.lk.l 0 _ rfl).1
  have c1 := (h.lk.l 1 _ rfl).1
  have c2 := (h.lk.l 2 _ rfl).1
  have f0 := (h.lk.l 0 _ rfl).2
  have f1 := (h.lk.l 1 _ rfl).2
  have hjL := h.lk.fl _ (bAt_mem hj)
  have P := h.lk.nodes i hl
  have p8 := (P 8 _ rfl).1
  have p8f := (P 8 _ rfl).2
  have hyL := h.lk.fl _ (bAt_mem hl)
  have hyj : ¬ bAt ns i = bAt ns (i + 1) := fun e => by have := bAt_inj h.lk.nd hl hj e; omega
  have S := h.lk.nodes _ hm
  have s7 := (S 7 _ rfl).1
  have s7f := (S 7 _ rfl).2
  have hzL := h.lk.fl _ (bAt_mem hm)
  have hzj : ¬ bAt ns ((i + 1) + 1) = bAt ns (i + 1) := fun e => by have := bAt_inj h.lk.nd hm hj e; omega
  have hzy : ¬ bAt ns (i + 1 + 1) = bAt ns i := fun e => by have := bAt_inj h.lk.nd hm hl e; omega
  obtain ⟨t, ht⟩ : ∃ t, (pAt (psOf ns) (i + 1)).tsn = t := ⟨_, rfl⟩
  obtain ⟨d, hd⟩ : ∃ d, bAt ns (i + 1) = d := ⟨_, rfl⟩
  rw [ht] at hU n0
  rw [hd] at n0 n7 n8 hjL hyj hzj ⊢
  obtain ⟨y, hy⟩ : ∃ y, bAt ns i = y := ⟨_, rfl⟩
  rw [hy] at hU n7 p8 p8f hyL hyj hzy
  have hyL2 : ¬ L = y := fun h => hyL h.symm
  have hyj2 : ¬ d = y := fun h => hyj h.symm
  obtain ⟨z, hz⟩ : ∃ z, bAt ns ((i + 1) + 1) = z := ⟨_, rfl⟩
  rw [hz] at hU n8 s7 s7f hzL hzj hzy
  have hzL2 : ¬ L = z := fun h => hzL h.symm
  have hzj2 : ¬ d = z := fun h => hzj h.symm
  have hzy2 : ¬ y = z := fun h => hzy h.symm
  have hjL2 : ¬ L = d := fun h => hjL h.symm
  change (Builtin.delete_ _ _ _).run _ (World.setCell (World.setCell w ⟨y, 8, none⟩ (.pointer (some ⟨z, 0, none⟩))) ⟨z, 7, none⟩ (.pointer (some ⟨y, 0, none⟩))).drew.drew.drew = _ at hU
  change w.cell? _ = some (.pointer (some ⟨y, 0, none⟩)) at n7
  change w.cell? _ = some (.pointer (some ⟨z, 0, none⟩)) at n8
  clear h N ht hd hn hp E1 hj hm P hy hl S hz
  go_enter Try.func92, Try.ntmps92
  go_wp2_with fail
  go_region
  go_wp2_with fail
  go_region
  go_wp2_with fail
  go_region
  all_goals
    go_end0
    exact ⟨rfl, HW.out, HK.out⟩

set_option maxHeartbeats 2000000 in
theorem remove_mid_last (B L M i : Nat) (ns : List (Nat × Part)) (w : World) (h : Wl B w L M ns) (hj : (i + 1) < ns.length) (hm : ¬ (i + 1) + 1 < ns.length) :
    Calls Try.prog 92 #[.pointer (some ⟨L, 0, none⟩), .pointer (some ⟨bAt ns (i + 1), 0, none⟩)] w fun e w' => e = .returned (.tuple #[]) ∧ Wl B w' L M (ns.eraseIdx (i + 1)) ∧ Kp B L M ns w w' := by
  obtain ⟨w9, hU, hW, hK⟩ := removed (q := 2) h hj 0
  have HW := Lib.hid hW
  have HK := Lib.hid hK
  clear hW hK
  have N := h.lk.nodes (i + 1) hj
  unfold rm2 at hU
  rw [if_neg hm] at hU
  have hn := bk_none (ns := ns) (i := (i + 1) + 1) (by omega)
  have hl : i < ns.length := by omega
  have hp : pv ns (i + 1) = some (bAt ns i) := bk_some hl
  have E1 : rm1 w ns L (i + 1) = w.setCell ⟨bAt ns i, 8, none⟩ (.pointer (pt (bk ns (i + 2)))) := rfl
  rw [E1, hp] at hU
  rw [show bk ns (i + 2) = _ from hn] at hU
  rw [hn, hp] at N
  have n0 := (N 0 _ rfl).1
  have n7 := (N 7 _ rfl).1
  have n8 := (N 8 _ rfl).1
  have c0 := (h.lk.l 0 _ rfl).1
  have c1 := (h.lk.l 1 _ rfl).1
  have c2 := (h.lk.l 2 _ rfl).1
  have f0 := (h.lk.l 0 _ rfl).2
  have f1 := (h.lk.l 1 _ rfl).2
  have hjL := h.lk.fl _ (bAt_mem hj)
  have P := h.lk.nodes i hl
  have p8 := (P 8 _ rfl).1
  have p8f := (P 8 _ rfl).2
  have hyL := h.lk.fl _ (bAt_mem hl)
  have hyj : ¬ bAt ns i = bAt ns (i + 1) := fun e => by have := bAt_inj h.lk.nd hl hj e; omega
  obtain ⟨t, ht⟩ : ∃ t, (pAt (psOf ns) (i + 1)).tsn = t := ⟨_, rfl⟩
  obtain ⟨d, hd⟩ : ∃ d, bAt ns (i + 1) = d := ⟨_, rfl⟩
  rw [ht] at hU n0
  rw [hd] at n0 n7 n8 hjL hyj ⊢
  obtain ⟨y, hy⟩ : ∃ y, bAt ns i = y := ⟨_, rfl⟩
  rw [hy] at hU n7 p8 p8f hyL hyj
  have hyL2 : ¬ L = y := fun h => hyL h.symm
  have hyj2 : ¬ d = y := fun h => hyj h.symm
  have hjL2 : ¬ L = d := fun h => hjL h.symm
  change (Builtin.delete_ _ _ _).run _ (World.setCell (World.setCell w ⟨y, 8, none⟩ (.pointer none)) ⟨L, 1, none⟩ (.pointer (some ⟨y, 0, none⟩))).drew.drew = _ at hU
  change w.cell? _ = some (.pointer (some ⟨y, 0, none⟩)) at n7
  change w.cell? _ = some (.pointer none) at n8
  clear h N ht hd hn hp E1 hj hm P hy hl
  go_enter Try.func92, Try.ntmps92
  go_wp2_with fail
  go_region
  go_wp2_with fail
  go_region
  all_goals
    go_end0
    exact ⟨rfl, HW.out, HK.out⟩

theorem remove_any (B L M j : Nat) (ns : List (Nat × Part)) (w : World) (h : Wl B w L M ns) (hj : j < ns.length) :
    Calls Try.prog 92 #[.pointer (some ⟨L, 0, none⟩), .pointer (some ⟨bAt ns j, 0, none⟩)] w fun e w' => e = .returned (.tuple #[]) ∧ Wl B w' L M (ns.eraseIdx j) ∧ Kp B L M ns w w' := by
  cases j with
  | zero =>
    by_cases hm : 0 + 1 < ns.length
    · exact remove_first B L M ns w h hj hm
    · exact remove_first_last B L M ns w h hj hm
  | succ i =>
    by_cases hm : i + 1 + 1 < ns.length
    · exact remove_mid B L M i ns w h hj hm
    · exact remove_mid_last B L M i ns w h hj hm

end Go.Proofs.Ytncbgejggfkdmab

/- Rows of parts of one's own; the program's parts that wait as a list. -/
namespace Go.Proofs.Ytncbgejggfkdmab
open Go.RowKit Go.PlainAid

theorem past_c {w : World} {p : Addr} {v : Value} (h : w.cell? p = some v) (o : Obj) : (w.alloc o).cell? p = some v := (World.cell?_alloc_lt _ _ _ (World.block_lt_of_cell? w p h)).trans h
/-- A slice of parts of one's own. -/
structure OwnP (k : Nat) (v : Value) (ps : List Part) (w W : World) : Prop where
  own : W.ownsRow w.heap.size 43 7 v k (flatP ps)
  b : Below w.heap.size w W
section
variable {k : Nat} {v : Value} {ps : List Part} {w W W' : World}
theorem OwnP.up (h : OwnP k v ps w W) (hb : Below W.heap.size W W') : OwnP k v ps w W' := by
  refine ⟨⟨h.own.1, ?_⟩, h.b.trans (hb.mono h.b.size)⟩
  rcases h.own.2 with h1 | ⟨g, cap, cur, h1, h2, h3, h4⟩
  · exact .inl h1
  · have hg : g < W.heap.size := (Array.getElem?_eq_some_iff.1 h3).1
    exact .inr ⟨g, cap, cur, h1, h2, by rw [hb.block g hg]; exact h3, h4⟩
theorem OwnP.low (h : OwnP k v ps W W') (hb : Below w.heap.size w W) : OwnP k v ps w W' := by
  refine ⟨⟨h.own.1, ?_⟩, hb.trans (h.b.mono hb.size)⟩
  rcases h.own.2 with h1 | ⟨g, cap, cur, h1, h2, h3⟩
  · exact .inl h1
  · exact .inr ⟨g, cap, cur, h1, Nat.le_trans hb.size h2, h3⟩
theorem OwnP.base {g : Nat} (h : OwnP k v ps w W) (hv : v.ownBlock = some g) : w.heap.size ≤ g := by
  rcases h.own.2 with ⟨h1, _⟩ | ⟨g', cap', cur, h1, h2, _⟩
  · rw [h1] at hv
    cases hv
  · rw [h1] at hv
    obtain rfl : g' = g := by simpa [Value.ownBlock] using hv
    exact h2
theorem OwnP.push {W1 : World} {g2 cap2 : Nat} {p : Part} (h : OwnP k v ps w W) (hgrow : W.grownBy W1 v.ownBlock) (hown : W1.ownsRow w.heap.size 43 7 (.slice (some ⟨g2, 0, none⟩) (k + 1) cap2) (k + 1) (flatP ps ++ cellsP p)) : OwnP (k + 1) (.slice (some ⟨g2, 0, none⟩) (k + 1) cap2) (ps ++ [p]) w W1 := by
  have e : flatP ps ++ cellsP p = flatP (ps ++ [p]) := by rw [flatP_append]; simp [flatP]
  exact ⟨by rw [← e]; exact hown, Below.grown h.b hgrow h.b.size fun x hx => h.base hx⟩
theorem OwnP.pts {a : Option Addr} {cap : Nat} (h : OwnP k (.slice a k cap) ps w W) : Pts W a k cap ps := own_pts h.own
theorem OwnP.nil (hb : Below w.heap.size w W) : OwnP 0 (.slice none 0 0) [] w W := ⟨⟨rfl, .inl ⟨rfl, rfl⟩⟩, hb⟩
theorem OwnP.start (hb : Below w.heap.size w W) : OwnP 0 (.slice (some ⟨W.heap.size, 0, none⟩) 0 0) [] w (W.alloc (.cells #[] 43)) :=
  ⟨World.ownsRow_lit (base := w.heap.size) (e := 43) (size := 7) W #[] 0 hb.size (by decide) rfl, hb.alloc hb.size _⟩
end
theorem pt_some (d : Nat) : pt (some d) = some ⟨d, 0, none⟩ := rfl
theorem pt_none : pt none = none := rfl
def lenV : Value → Nat
  | .slice _ n _ => n
  | _ => 0
/-- The blocks from a place on, as the walk over the links meets them. -/
theorem bk_cases (ns : List (Nat × Part)) (k : Nat) : (k < ns.length ∧ bk ns k = some (bAt ns k)) ∨ (ns.length ≤ k ∧ bk ns k = none) := by
  by_cases h : k < ns.length
  · exact .inl ⟨h, bk_some h⟩
  · exact .inr ⟨by omega, bk_none (by omega)⟩
theorem ps_take {ns : List (Nat × Part)} {k : Nat} (h : k < ns.length) : (psOf ns).take (k + 1) = (psOf ns).take k ++ [pAt (psOf ns) k] := take_pAt (by rw [psOf_length]; exact h)

set_option maxHeartbeats 2000000 in
theorem list_any (B L M : Nat) (ns : List (Nat × Part)) (w : World) (h : Wl B w L M ns) (hn : ns.length ≤ 100) :
    Calls Try.prog 53 #[.pointer (some ⟨L, 0, none⟩)] w fun e w' => ∃ a cap, e = .returned (.slice a ns.length cap) ∧ OwnP ns.length (.slice a ns.length cap) (psOf ns) w w' := by
  have HC := Lib.hid h
  have c0 := (h.lk.l 0 _ rfl).1
  have O0 := Lib.hid (OwnP.nil (Below.refl w.heap.size w))
  obtain ⟨i0, hi, hz0, hz1, hz2⟩ := info_parts info_pt
  have HI := Lib.hid (And.intro hi (And.intro hz0 (And.intro hz1 hz2)))
  clear hi hz0 hz1 hz2 h
  go_enter Try.func53, Try.ntmps53
  go_wp2
  go_loopw [3, 4] (fun v p wr => ∃ (k : Nat) (a : Option Addr) (cap : Nat), k ≤ ns.length ∧ v = .slice a k cap ∧ p = .pointer (pt (bk ns k)) ∧ Hid (OwnP k (.slice a k cap) ((psOf ns).take k) w wr)) (fun v _ _ => ns.length - lenV v)
  case atStart => exact ⟨0, none, 0, Nat.zero_le _, rfl, rfl, O0⟩
  case round =>
    obtain ⟨k, a, cap, hk, rfl, rfl, hr⟩ := hrel
    clear O0 c0
    rcases bk_cases ns k with ⟨hlt, hb⟩ | ⟨hge, hb⟩
    · have lk := HC.out.lk.nodes k hlt
      have llt := lk.lt
      rw [hb]
      have ET := Lib.hid (ps_take hlt)
      have lp := fun i v hi => kept_cell hr.out.b llt (lk i v hi).1
      have HNB : Hid (some (bAt ns k) ≠ (Value.slice a k cap).ownBlock) := Lib.hid fun e => by
        have := hr.out.base e.symm
        omega
      have HL := Lib.hid hb
      obtain ⟨d, hd⟩ : ∃ d, bAt ns k = d := ⟨_, rfl⟩
      obtain ⟨⟨t, s, q, fi, la, lo, tx⟩, hp⟩ : ∃ p, pAt (psOf ns) k = p := ⟨_, rfl⟩
      rw [hd] at lp llt HNB ⊢
      rw [hp] at lp ET
      have l0 := lp 0 _ rfl
      have l1 := lp 1 _ rfl
      have l2 := lp 2 _ rfl
      have l3 := lp 3 _ rfl
      have l4 := lp 4 _ rfl
      have l5 := lp 5 _ rfl
      have l6 := lp 6 _ rfl
      have l8 := lp 8 _ rfl
      have SA := Lib.hid (hr.out.up (below_box (.cells #[.int .i64 t, .int .i64 s, .int .i64 q, .bool fi, .bool la, .bool lo, .string tx] 43) (Nat.le_refl _)))
      have hsz := hr.out.b.size
      clear lp hp lk hd hr hb
      rw [pt_some]
      go_wp2_with (at_builtin; go_loud (refine wpList_append_lies _ rfl _ _ 25 rfl w.heap.size 43 i0 (partV ⟨0, 0, 0, false, false, false, ByteArray.mk #[]⟩) 7 48 Try.underlying25 HI.out.1 HI.out.2.1 HI.out.2.2.1 HI.out.2.2.2 rfl (by decide) (.slice a k cap) k (flatP ((psOf ns).take k)) rfl SA.out.own ⟨wr.heap.size, 0, none⟩ 1 1 (cellsP ⟨t, s, q, fi, la, lo, tx⟩) rfl rfl (news_box rfl) (cellsP_one _) (by decide) (by unfold maxLen; omega) (by omega) (by simp; omega) _ rfl ?_))
      intro g2 cap2 w9 hown hgrow hat hlt9
      have SP := Lib.hid (show OwnP (k + 1) (.slice (some ⟨g2, 0, none⟩) (k + 1) cap2) ((psOf ns).take (k + 1)) w w9 by rw [ET.out]; exact SA.out.push hgrow hown)
      have x2 := (hgrow.cell_far ⟨d, 8, none⟩ (by simp; omega) HNB.out).trans (show (wr.alloc (.cells #[.int .i64 t, .int .i64 s, .int .i64 q, .bool fi, .bool la, .bool lo, .string tx] 43)).cell? ⟨d, 8, none⟩ = _ from past_c l8 _)
      clear SA hown hgrow hat hlt9 l0 l1 l2 l3 l4 l5 l6 l8 HNB
      go_wp2
      go_roundw
      case rel => exact ⟨k + 1, some ⟨g2, 0, none⟩, cap2, by omega, rfl, rfl, SP⟩
      case measure => simp [lenV]; omega
    · obtain rfl : k = ns.length := by omega
      have e : (psOf ns).take ns.length = psOf ns := List.take_of_length_le (by rw [psOf_length]; exact Nat.le_refl _)
      rw [hb]
      have HR := hr.out
      rw [e] at HR
      have HR := Lib.hid HR
      clear hr e hb
      rw [pt_none]
      go_wp2
      go_ret
      exact ⟨a, cap, rfl, HR.out⟩

end Go.Proofs.Ytncbgejggfkdmab

/- The contracts of the program's chapter 3: steps, differences by a closure, and what follows of them. -/
namespace Go.Proofs.Ytncbgejggfkdmab
open Go.RowKit

set_option maxHeartbeats 400000 in
theorem serialValid_yes (n : Int) (w : World) (h : Ser n) :
    Calls Try.prog 81 #[.int .i64 n] w fun e w' => e = .returned (.bool true) ∧ w = w' := by
  obtain ⟨h0, h1⟩ := h
  go_enter Try.func81, Try.ntmps81
  go_wp2
  go_ret
  exact ⟨rfl, rfl⟩

set_option maxHeartbeats 400000 in
theorem serialValid_no (n : Int) (w : World) (h : ¬ Ser n) :
    Calls Try.prog 81 #[.int .i64 n] w fun e w' => e = .returned (.bool false) ∧ w = w' := by
  unfold Ser at h
  by_cases h0 : 0 ≤ n
  · have d1 : decide (n < 65536) = false := decide_eq_false (by omega)
    clear h
    go_enter Try.func81, Try.ntmps81
    go_wp2
    go_ret
    exact ⟨rfl, rfl⟩
  · have d0 : decide (0 ≤ n) = false := decide_eq_false h0
    clear h
    go_enter Try.func81, Try.ntmps81
    go_wp2
    go_ret
    exact ⟨rfl, rfl⟩

set_option maxHeartbeats 400000 in
theorem serialAdd_any (a n : Int) (w : World) :
    Calls Try.prog 80 #[.int .i64 a, .int .i64 n] w fun e w' => e = .returned (.int .i64 (addV a n)) ∧ w = w' := by
  by_cases h : Ser a
  · have H := Lib.hid h
    have E := Lib.hid (rem_mod a n)
    obtain ⟨t0, t1⟩ := rem_range n
    obtain ⟨a0, a1⟩ := h
    rw [addV_yes n H.out]
    go_enter Try.func80, Try.ntmps80
    go_wp2_with fail
    refine (serialValid_yes a _ H.out).mono ?_
    rintro e w1 ⟨rfl, rfl⟩
    go_wp2
    go_ret
    exact ⟨ret_i E.out, rfl⟩
  · have H := Lib.hid h
    rw [addV_no n h]
    clear h
    go_enter Try.func80, Try.ntmps80
    go_wp2_with fail
    refine (serialValid_no a _ H.out).mono ?_
    rintro e w1 ⟨rfl, rfl⟩
    go_wp2
    go_ret
    exact ⟨rfl, rfl⟩

theorem lessV_steps {a b : Int} (ha : Ser a) (hb : Ser b) : lessV a b = (decide (0 < diffV a b) && decide (diffV a b < 32768)) := by
  rw [diffV_yes ha hb]
  by_cases h : LessS a b
  · rw [lessV_yes ha hb h]
    unfold LessS at h
    rw [decide_eq_true (show 0 < diffS a b by omega), decide_eq_true (show diffS a b < 32768 by omega)]
    rfl
  · rw [lessV_no h]
    unfold LessS at h
    by_cases h0 : 0 < diffS a b
    · rw [decide_eq_false (show ¬ diffS a b < 32768 by omega), Bool.and_false]
    · rw [decide_eq_false h0, Bool.false_and]
theorem lessV_diff (a b : Int) : lessV a b = (decide (0 < diffV a b) && decide (diffV a b < 32768)) := by
  by_cases ha : Ser a
  · by_cases hb : Ser b
    · exact lessV_steps ha hb
    · rw [lessV_right a hb, diffV_right a hb]
      decide
  · rw [lessV_left b ha, diffV_left b ha]
    decide
theorem inV_diff {n a m : Int} (h : 0 ≤ m ∧ m ≤ 32768) : inV n a m = (decide (0 ≤ diffV a n) && decide (diffV a n < m)) := by
  by_cases ha : Ser a
  · by_cases hn : Ser n
    · rw [diffV_yes ha hn]
      have g := inS_diff hn ha h.1 h.2
      by_cases hi : InS n a m
      · rw [inV_yes hi, decide_eq_true (g.1 hi).1, decide_eq_true (g.1 hi).2]
        rfl
      · rw [inV_no hi]
        by_cases h0 : 0 ≤ diffS a n
        · rw [decide_eq_false (fun h1 => hi (g.2 ⟨h0, h1⟩)), Bool.and_false]
        · rw [decide_eq_false h0, Bool.false_and]
    · rw [inV_no (fun g => hn g.1), diffV_right a hn]
      rfl
  · rw [inV_no (fun g => ha g.2.1), diffV_left n ha]
    rfl

end Go.Proofs.Ytncbgejggfkdmab

/- The contracts of the program's list of parts that wait: the parts of a complete message. -/
namespace Go.Proofs.Ytncbgejggfkdmab
open Go.RowKit Go.PlainAid

/-- A slice of pointers to blocks, of one's own. -/
structure OwnQ (k : Nat) (v : Value) (bl : List Nat) (w W : World) : Prop where
  own : W.ownsRow w.heap.size 95 1 v k (bl.map fun b => .pointer (some ⟨b, 0, none⟩))
  b : Below w.heap.size w W
section
variable {k : Nat} {v : Value} {bl : List Nat} {w W W' : World}
theorem OwnQ.up (h : OwnQ k v bl w W) (hb : Below W.heap.size W W') : OwnQ k v bl w W' := by
  refine ⟨⟨h.own.1, ?_⟩, h.b.trans (hb.mono h.b.size)⟩
  rcases h.own.2 with h1 | ⟨g, cap, cur, h1, h2, h3, h4⟩
  · exact .inl h1
  · have hg : g < W.heap.size := (Array.getElem?_eq_some_iff.1 h3).1
    exact .inr ⟨g, cap, cur, h1, h2, by rw [hb.block g hg]; exact h3, h4⟩
theorem OwnQ.low (h : OwnQ k v bl W W') (hb : Below w.heap.size w W) : OwnQ k v bl w W' := by
  refine ⟨⟨h.own.1, ?_⟩, hb.trans (h.b.mono hb.size)⟩
  rcases h.own.2 with h1 | ⟨g, cap, cur, h1, h2, h3⟩
  · exact .inl h1
  · exact .inr ⟨g, cap, cur, h1, Nat.le_trans hb.size h2, h3⟩
theorem OwnQ.base {g : Nat} (h : OwnQ k v bl w W) (hv : v.ownBlock = some g) : w.heap.size ≤ g := by
  rcases h.own.2 with ⟨h1, _⟩ | ⟨g', cap', cur, h1, h2, _⟩
  · rw [h1] at hv
    cases hv
  · rw [h1] at hv
    obtain rfl : g' = g := by simpa [Value.ownBlock] using hv
    exact h2
theorem OwnQ.length (h : OwnQ k v bl w W) : bl.length = k := by have := h.own.1; rw [List.length_map] at this; omega
theorem OwnQ.push {W1 : World} {g2 cap2 d : Nat} (h : OwnQ k v bl w W) (hgrow : W.grownBy W1 v.ownBlock) (hown : W1.ownsRow w.heap.size 95 1 (.slice (some ⟨g2, 0, none⟩) (k + 1) cap2) (k + 1) ((bl.map fun b => .pointer (some ⟨b, 0, none⟩)) ++ [.pointer (some ⟨d, 0, none⟩)])) : OwnQ (k + 1) (.slice (some ⟨g2, 0, none⟩) (k + 1) cap2) (bl ++ [d]) w W1 :=
  ⟨by rw [List.map_append]; exact hown, Below.grown h.b hgrow h.b.size fun x hx => h.base hx⟩
theorem OwnQ.nil (hb : Below w.heap.size w W) : OwnQ 0 (.slice none 0 0) [] w W := ⟨⟨rfl, .inl ⟨rfl, rfl⟩⟩, hb⟩
theorem OwnQ.one (d : Nat) (hb : Below w.heap.size w W) : OwnQ 1 (.slice (some ⟨W.heap.size, 0, none⟩) 1 1) [d] w (W.alloc (.cells #[.pointer (some ⟨d, 0, none⟩)] 95)) :=
  ⟨World.ownsRow_lit (base := w.heap.size) (e := 95) (size := 1) W #[.pointer (some ⟨d, 0, none⟩)] 1 hb.size (by decide) rfl, hb.alloc hb.size _⟩
/-- The block that the i-th pointer leads to. -/
theorem OwnQ.at {a : Option Addr} {cap i : Nat} (h : OwnQ k (.slice a k cap) bl w W) (hi : i < k) : ∃ g, a = some ⟨g, 0, none⟩ ∧ w.heap.size ≤ g ∧ g < W.heap.size ∧ W.cell? ⟨g, i, none⟩ = some (.pointer (some ⟨bl.getD i 0, 0, none⟩)) := by
  have hl := h.length
  rcases h.own.2 with ⟨h1, h2⟩ | ⟨g, cap', cur, h1, h2, h3, _⟩
  · omega
  · obtain ⟨rfl, rfl⟩ : a = some ⟨g, 0, none⟩ ∧ cap = cap' := by simpa using h1
    refine ⟨g, rfl, h2, (Array.getElem?_eq_some_iff.1 h3).1, ?_⟩
    have := h.own.cellAt i (by omega)
    rw [this, List.getElem?_map, List.getElem?_eq_getElem (by omega), List.getD_eq_getElem?_getD, List.getElem?_eq_getElem (by omega)]
    rfl
end
theorem info_wp : (Try.prog.info? 95).map (fun i => (i.zero, i.size, i.bytes)) = some (some (.pointer none), 1, 8) := by kernel_rfl
set_option maxHeartbeats 400000 in
theorem goesOn_any (p q : Part) (w : World) :
    Calls Try.prog 96 #[partV p, partV q] w fun e w' => e = .returned (.bool (!q.first && sameM p q)) ∧ Below w.heap.size w w' := by
  obtain ⟨t, s, n, fi, la, lo, tx⟩ := p
  obtain ⟨t2, s2, n2, fi2, la2, lo2, tx2⟩ := q
  have HB := Lib.hid (fun (o o2 : Obj) => (below_box (w := w) o (Nat.le_refl _)).trans ((below_box (w := w.alloc o) o2 (Nat.le_refl _)).mono (by simp)))
  unfold partV sameM
  cases fi2 with
  | true =>
    go_enter Try.func96, Try.ntmps96
    go_wp2
    go_ret
    exact ⟨rfl, HB.out _ _⟩
  | false =>
    by_cases h1 : s2 = s
    · by_cases h2 : n2 = n
      · go_enter Try.func96, Try.ntmps96
        go_wp2
        go_ret
        exact ⟨ret_b (by rw [h1, h2]; cases lo <;> cases lo2 <;> simp), HB.out _ _⟩
      · have h2' : ¬ n = n2 := fun h => h2 h.symm
        go_enter Try.func96, Try.ntmps96
        go_wp2
        go_ret
        exact ⟨ret_b (by simp [h2']), HB.out _ _⟩
    · have h1' : ¬ s = s2 := fun h => h1 h.symm
      go_enter Try.func96, Try.ntmps96
      go_wp2
      go_ret
      exact ⟨ret_b (by simp [h1']), HB.out _ _⟩

end Go.Proofs.Ytncbgejggfkdmab

/- The contract of the program's search for the parts of a complete message. -/
namespace Go.Proofs.Ytncbgejggfkdmab
open Go.RowKit Go.PlainAid

/-- The blocks of the complete message that begins at a place, or none. -/
def compl (ns : List (Nat × Part)) (k : Nat) : List Nat := if (pAt (psOf ns) k).first then (chainOf (psOf ns) k).map (bAt ns) else []
/-- While a message is followed. -/
structure Cw (ns : List (Nat × Part)) (k0 : Nat) (w : World) (i : Nat) (out : List Nat) (m g cap : Nat) (W : World) : Prop where
  f : chainP (psOf ns) (15 - m) i out = chainOf (psOf ns) k0
  ln : out.length = m
  cn : Cn (psOf ns) i out
  own : OwnQ m (.slice (some ⟨g, 0, none⟩) m cap) (out.map (bAt ns)) w W
theorem serialAdd_same (a n : Int) (w : World) : Calls Try.prog 80 #[.int .i64 a, .int .i64 n] w fun e w' => e = .returned (.int .i64 (addV a n)) ∧ w' = w := (serialAdd_any a n w).mono fun _ _ h => ⟨h.1, h.2.symm⟩

theorem quiet_load {P : Program} {C : World → Prop} {a : Act} {o : Oper} {K : Act → Prop} {T : TypeId} {x : Operand} {p v : Value} (h : o.op = .load T x) (hp : a.eval x = p) (hl : ∀ W, C W → (Instr.loadAt T p).run P W = .ok v W) (hk : K (a.put o.dst v)) : o.quiet P a C K :=
  ⟨v, fun W hW => by
    unfold Oper.quietAt
    simp [execOp, h, hp, hl W hW, Oper.quietUpon], hk⟩
theorem load_part {W : World} {d : Nat} {p : Part} {bf bh : Option Nat} (h : VarN d (nodeC p bf bh) W) : (Instr.loadAt 43 (.pointer (some ⟨d, 0, none⟩))).run Try.prog W = .ok (partV p) W := by
  obtain ⟨t, s, q, fi, la, lo, tx⟩ := p
  have l0 := (h 0 _ rfl).1
  have l1 := (h 1 _ rfl).1
  have l2 := (h 2 _ rfl).1
  have l3 := (h 3 _ rfl).1
  have l4 := (h 4 _ rfl).1
  have l5 := (h 5 _ rfl).1
  have l6 := (h 6 _ rfl).1
  dsimp only at l0 l1 l2 l3 l4 l5 l6
  clear h
  unfold partV
  go_simp

set_option maxRecDepth 8000 in
set_option maxHeartbeats 4000000 in
theorem complete_any (B L M k0 : Nat) (ns : List (Nat × Part)) (w : World) (h : Wl B w L M ns) (hk : k0 < ns.length) (hn : ns.length ≤ 12) (hs : ∀ p ∈ psOf ns, Ser p.tsn) :
    Calls Try.prog 90 #[.pointer (some ⟨L, 0, none⟩), .pointer (some ⟨bAt ns k0, 0, none⟩)] w fun e w' => ∃ a m cap, e = .returned (.slice a m cap) ∧ m = (compl ns k0).length ∧ OwnQ m (.slice a m cap) (compl ns k0) w w' := by
  have HW := Lib.hid h
  have c2 := (h.lk.l 2 _ rfl).1
  have N := h.lk.nodes k0 hk
  cases hf : (pAt (psOf ns) k0).first with
  | false =>
    have n3 := (N 3 _ rfl).1
    rw [hf] at n3
    have E := Lib.hid (show compl ns k0 = [] by unfold compl; rw [hf]; rfl)
    clear h N hf
    go_enter Try.func90, Try.ntmps90
    go_wp2
    go_ret
    exact ⟨none, 0, 0, rfl, by rw [E.out]; rfl, by rw [E.out]; exact OwnQ.nil (Below.refl _ _)⟩
  | true =>
    have n3 := (N 3 _ rfl).1
    rw [hf] at n3
    have E := Lib.hid (show compl ns k0 = (chainOf (psOf ns) k0).map (bAt ns) by unfold compl; rw [hf]; rfl)
    have C0 := Lib.hid (show Cw ns k0 w k0 [k0] 1 w.heap.size 1 (w.alloc (.cells #[.pointer (some ⟨bAt ns k0, 0, none⟩)] 95)) from
      ⟨rfl, rfl, cn_start (by rw [psOf_length]; exact hk) (hs _ (List.mem_map_of_mem (bAt_mem hk))), OwnQ.one _ (Below.refl _ _)⟩)
    have HS := Lib.hid hs
    obtain ⟨i0, hi, hz0, hz1, hz2⟩ := info_parts info_wp
    have HI := Lib.hid (And.intro hi (And.intro hz0 (And.intro hz1 hz2)))
    clear h N hf hs hi hz0 hz1 hz2
    go_enter Try.func90, Try.ntmps90
    go_wp2
    go_loopw [1, 5] (fun d v wr => ∃ (i : Nat) (out : List Nat) (m g cap : Nat), i < ns.length ∧ d = .pointer (some ⟨bAt ns i, 0, none⟩) ∧ v = .slice (some ⟨g, 0, none⟩) m cap ∧ 1 ≤ m ∧ m ≤ 12 ∧ Hid (Cw ns k0 w i out m g cap wr)) (fun _ v _ => 14 - lenV v)
    case atStart => exact ⟨k0, [k0], 1, _, _, hk, rfl, rfl, by omega, by omega, C0⟩
    case round =>
      obtain ⟨i, out, m, g, cap, hil, rfl, rfl, hm1, hm2, hC⟩ := hrel
      clear C0 n3
      have hb := hC.out.own.b
      have hf1 : 1 ≤ 15 - m := by omega
      have NI := (HW.out.below hb).lk.nodes i hil
      have l2 := ((HW.out.below hb).lk.l 2 _ rfl).1
      have HM := Lib.hid (bAt_mem hil)
      have llt := HW.out.lk.node_lt HM.out
      cases hla : (pAt (psOf ns) i).last with
      | true =>
        have n4 := (NI 4 _ rfl).1
        rw [hla] at n4
        have E2 := Lib.hid (show chainOf (psOf ns) k0 = out from hC.out.f.symm.trans (chain_last hf1 hla))
        clear NI hla
        go_wp2
        go_ret
        exact ⟨_, m, cap, rfl, by rw [E.out, E2.out, List.length_map]; exact hC.out.ln.symm, by rw [E.out, E2.out]; exact hC.out.own⟩
      | false =>
        have n4 := (NI 4 _ rfl).1
        have n0 := (NI 0 _ rfl).1
        rw [hla] at n4
        have hser := HS.out _ (List.mem_map_of_mem HM.out)
        have AV := Lib.hid (addV_yes 1 hser)
        obtain ⟨t, ht⟩ : ∃ t, (pAt (psOf ns) i).tsn = t := ⟨_, rfl⟩
        have HT := Lib.hid ht
        change wr.cell? _ = some (.int .i64 (pAt (psOf ns) i).tsn) at n0
        rw [show (bAt ns i, pAt (psOf ns) i).snd.tsn = t from ht] at AV
        rw [ht] at n0
        obtain ⟨x, hx⟩ : ∃ x, addS t 1 = x := ⟨_, rfl⟩
        have HX := Lib.hid (show addS (pAt (psOf ns) i).tsn 1 = x by rw [ht]; exact hx)
        have hxk := ser_key (hx ▸ addS_ser t 1)
        rw [hx] at AV
        have SA : ∀ w, Calls Try.prog 80 #[.int .i64 t, .int .i64 1] w fun e w' => e = .returned (.int .i64 x) ∧ w' = w := fun w => (serialAdd_same t 1 w).mono fun e w' h => ⟨h.1.trans (by rw [AV.out]), h.2⟩
        have hlaH := Lib.hid hla
        clear NI ht hx hla
        rcases idx_cases (psOf ns) x with hj | ⟨j, hjl, hj⟩
        · have hL : ∀ q, (Instr.lookup 94 (.map (some M)) (.int .i64 x) false).run Try.prog (wr.drewN q) = .ok (.pointer none) (wr.drewN q) := fun q => by
            obtain ⟨D, hD⟩ := ((HW.out.below hb).drewN q).tab
            exact hD.look_no (idx_has hj) hxk
          have E2 := Lib.hid (show chainOf (psOf ns) k0 = [] from hC.out.f.symm.trans (chain_stop hf1 hlaH.out (by rw [HX.out]; exact hj)))
          have HB := Lib.hid (below_drewN hb)
          clear hj
          go_wp2_with fail
          go_quiet ((go_at_call 80; exact Calls.quiet_of_same (SA _)))
          go_wp2_with fail
          go_quiet (fail)
          go_wp2
          go_ret
          exact ⟨none, 0, 0, rfl, by rw [E.out, E2.out]; rfl, by rw [E.out, E2.out]; exact OwnQ.nil (below_drewN (below_drewN hb _) _)⟩
        · have hjn : j < ns.length := by rw [psOf_length] at hjl; exact hjl
          have HJ := Lib.hid hj
          obtain ⟨hj1, hj2, _⟩ := idx_some hj
          have hL : ∀ q, (Instr.lookup 94 (.map (some M)) (.int .i64 x) false).run Try.prog (wr.drewN q) = .ok (.pointer (some ⟨bAt ns j, 0, none⟩)) (wr.drewN q) := fun q => by
            obtain ⟨D, hD⟩ := ((HW.out.below hb).drewN q).tab
            have := hD.look_at (bAt_mem hjn) (by show Key (pAt (psOf ns) j).tsn; rw [hj2]; exact hxk)
            rw [show ((bAt ns j, pAt (psOf ns) j) : Nat × Part).2.tsn = x from hj2] at this
            exact this
          have HMJ := Lib.hid (bAt_mem hjn)
          clear hj hj1 hj2 hjl
          go_wp2_with fail
          go_quiet ((go_at_call 80; exact Calls.quiet_of_same (SA _)))
          have hB2 := below_drewN hb nq
          have HC2 := Lib.hid (hC.out.own.up (below_drewN (Below.refl wr.heap.size wr) nq))
          clear hL SA n4 n0 l2
          generalize hwx : World.drewN wr nq = wx at *
          have HWX := Lib.hid (HW.out.below hB2)
          have LI : ∀ W, Below wx.heap.size wx W → (Instr.loadAt 43 (.pointer (some ⟨bAt ns i, 0, none⟩))).run Try.prog W = .ok (partV (pAt (psOf ns) i)) W := fun W hW => load_part ((HWX.out.below hW).lk.nodes i hil)
          have LJ : ∀ W, Below wx.heap.size wx W → (Instr.loadAt 43 (.pointer (some ⟨bAt ns j, 0, none⟩))).run Try.prog W = .ok (partV (pAt (psOf ns) j)) W := fun W hW => load_part ((HWX.out.below hW).lk.nodes j hjn)
          have GO := fun w => goesOn_any (pAt (psOf ns) i) (pAt (psOf ns) j) w
          clear hwx
          cases hgo : (!(pAt (psOf ns) j).first && sameM (pAt (psOf ns) i) (pAt (psOf ns) j)) with
          | false =>
            have E2 := Lib.hid (show chainOf (psOf ns) k0 = [] from hC.out.f.symm.trans (chain_bad hf1 hlaH.out (by rw [HX.out]; exact HJ.out) (by
              cases h1 : (pAt (psOf ns) j).first with
              | true => exact .inl rfl
              | false => exact .inr (.inl (by simpa [h1] using hgo)))))
            simp only [hgo] at GO
            have GOH := Lib.hid GO
            clear hgo GO
            go_wp2_with fail
            refine region_class (C := fun W => Below wx.heap.size wx W) (by kernel_rfl) (by kernel_rfl) (Below.drew (Below.refl _ _)) ?_
            repeat (first
              | go_big_quiet_skip
              | (refine BigFrame.wpQuiet_want (by rfl) (fun K hK => ?_)
                 first
                   | (refine BigFrame.quiet_move _ (by rfl) (hK _ ?_))
                   | (refine quiet_load (by rfl) (by rfl) LI (hK _ ?_))
                   | (refine quiet_load (by rfl) (by rfl) LJ (hK _ ?_))
                   | (apply Exists.intro
                      refine ⟨fun W hW => ?_, hK _ ?_⟩
                      next =>
                        go_simp
                        first
                          | with_reducible exact rfl
                          | (refine (GOH.out _).mono ?_; rintro e w3 ⟨rfl, hb3⟩; exact ⟨rfl, hW.trans (hb3.mono hW.size)⟩))
                 conv => arg 6; simp only [Act.put, List.setIfInBounds_toArray, List.set_cons_zero, List.set_cons_succ]
                 clear hK K))
            refine wpQuiet_nil ?_
            intro W hW
            clear LI LJ
            go_wp2
            go_ret
            exact ⟨none, 0, 0, rfl, by rw [E.out, E2.out]; rfl, by rw [E.out, E2.out]; exact OwnQ.nil (hB2.trans (hW.mono hB2.size))⟩
          | true =>
            obtain ⟨g1, g2⟩ : (pAt (psOf ns) j).first = false ∧ sameM (pAt (psOf ns) i) (pAt (psOf ns) j) = true := by simpa using hgo
            have hm12 : out.length ≤ 12 := by rw [hC.out.ln]; exact hm2
            have CN := cn_step hC.out.cn hlaH.out (by rw [HX.out]; exact HJ.out) g1 g2 hm12
            have hm3 : m + 1 ≤ 12 := by
              have h1 := CN.fits
              rw [psOf_length, List.length_append, hC.out.ln] at h1
              simp at h1
              omega
            have F2 := Lib.hid (show chainP (psOf ns) (15 - (m + 1)) j (out ++ [j]) = chainOf (psOf ns) k0 from by
              have := chain_go hf1 hlaH.out (by rw [HX.out]; exact HJ.out) g1 g2 hm12
              rw [show 15 - m - 1 = 15 - (m + 1) from by omega] at this
              exact this.symm.trans hC.out.f)
            have CNH := Lib.hid CN
            simp only [hgo] at GO
            have GOH := Lib.hid GO
            clear hgo GO g1 g2 hm12 CN
            go_wp2_with fail
            refine region_class (C := fun W => Below wx.heap.size wx W) (by kernel_rfl) (by kernel_rfl) (Below.drew (Below.refl _ _)) ?_
            repeat (first
              | go_big_quiet_skip
              | (refine BigFrame.wpQuiet_want (by rfl) (fun K hK => ?_)
                 first
                   | (refine BigFrame.quiet_move _ (by rfl) (hK _ ?_))
                   | (refine quiet_load (by rfl) (by rfl) LI (hK _ ?_))
                   | (refine quiet_load (by rfl) (by rfl) LJ (hK _ ?_))
                   | (apply Exists.intro
                      refine ⟨fun W hW => ?_, hK _ ?_⟩
                      next =>
                        go_simp
                        first
                          | with_reducible exact rfl
                          | (refine (GOH.out _).mono ?_; rintro e w3 ⟨rfl, hb3⟩; exact ⟨rfl, hW.trans (hb3.mono hW.size)⟩))
                 conv => arg 6; simp only [Act.put, List.setIfInBounds_toArray, List.set_cons_zero, List.set_cons_succ]
                 clear hK K))
            refine wpQuiet_nil ?_
            intro W hW
            clear LI LJ
            have hO := HC2.out.up hW
            have hszW := hO.b.size
            have MA := Lib.hid (hO.up (below_box (.cells #[.pointer (some ⟨bAt ns j, 0, none⟩)] 95) (Nat.le_refl _)))
            have hlnH := Lib.hid hC.out.ln
            clear hO hW hC HC2 hB2 hb
            go_wp2_with (at_builtin; go_loud (refine wpList_append_lies _ rfl _ _ 111 rfl w.heap.size 95 i0 (.pointer none) 1 8 Try.underlying111 HI.out.1 HI.out.2.1 HI.out.2.2.1 HI.out.2.2.2 rfl (by decide) (.slice (some ⟨g, 0, none⟩) m cap) m _ rfl MA.out.own ⟨W.heap.size, 0, none⟩ 1 1 [.pointer (some ⟨bAt ns j, 0, none⟩)] rfl rfl (news_box rfl) (by simp [Value.oneCell']) (by decide) (by unfold maxLen; omega) (by omega) (by simp; omega) _ rfl ?_))
            intro g3 cap3 w9 hown hgrow hat hlt9
            have MP := Lib.hid (show Cw ns k0 w j (out ++ [j]) (m + 1) g3 cap3 w9 from ⟨F2.out, by rw [List.length_append, hlnH.out]; rfl, CNH.out, by rw [List.map_append]; exact MA.out.push hgrow (by rw [List.map_map]; exact hown)⟩)
            clear hown hgrow hat hlt9 MA
            go_wp2
            go_roundw
            case rel => exact ⟨j, out ++ [j], m + 1, g3, cap3, hjn, rfl, rfl, by omega, hm3, MP⟩
            case measure => simp [lenV]; omega

end Go.Proofs.Ytncbgejggfkdmab
