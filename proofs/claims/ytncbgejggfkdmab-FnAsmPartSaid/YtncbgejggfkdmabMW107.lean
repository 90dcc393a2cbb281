/- The walk of the law on parts that may be missing. -/
import Derived.Handy
import Derived.Test.YtncbgejggfkdmabM10
namespace Go.Proofs.Ytncbgejggfkdmab
open Go.RowKit Go.PlainAid

def PartG9 (n0 Ba : Nat) (f : Value) (xq : Addr) (n2 c2 K tt from_ m : Nat) (q1 : Option Addr) (d1 : Nat) (l1 l2 : List Part) : Nat → Value → World → Prop
  | 0 => fun v _ => v = .pointer (some ⟨Ba, 0, none⟩)
  | 1 => fun v _ => v = f
  | 2 => fun v W => RowP n0 0 [] v W
  | 3 => fun v _ => v = .pointer (some ⟨Ba, 1, none⟩)
  | 4 => fun v _ => v = .slice (some xq) n2 c2
  | 5 => fun v _ => v = .int .i64 (K : Int)
  | 6 => fun v _ => v = .slice (some xq) tt c2
  | 7 => fun v W => RowP n0 tt l1 v W
  | 8 => fun v _ => v = .pointer (some ⟨Ba, 1, none⟩)
  | 9 => fun v _ => v = .slice (some xq) n2 c2
  | 10 => fun v _ => v = .int .i64 (K : Int)
  | 11 => fun v _ => v = .int .i64 ((K : Int) + 1)
  | 12 => fun v _ => v = .slice q1 from_ d1
  | 13 => fun v W => RowP n0 m l2 v W
  | 14 => fun v W => RowA n0 m l2 f v W
  | 15 => fun v W => Box2 n0 v W
  | 16 => fun v W => PutA n0 m l2 f v W
  | _ => fun _ _ => False

def PartG10 (n0 Ba : Nat) (f : Value) (xq : Addr) (n2 c2 K tt from_ m : Nat) (q1 : Option Addr) (d1 : Nat) (l1 l2 : List Part) : Nat → Value → World → Prop
  | 0 => fun v _ => v = .pointer (some ⟨Ba, 0, none⟩)
  | 1 => fun v _ => v = f
  | 2 => fun v W => RowP n0 0 [] v W
  | 3 => fun v _ => v = .pointer (some ⟨Ba, 1, none⟩)
  | 4 => fun v _ => v = .slice (some xq) n2 c2
  | 5 => fun v _ => v = .int .i64 (K : Int)
  | 6 => fun v _ => v = .int .i64 ((K : Int) + 1)
  | 7 => fun v _ => v = .slice (some xq) tt c2
  | 8 => fun v W => RowP n0 tt l1 v W
  | 9 => fun v _ => v = .pointer (some ⟨Ba, 1, none⟩)
  | 10 => fun v _ => v = .slice (some xq) n2 c2
  | 11 => fun v _ => v = .int .i64 (K : Int)
  | 12 => fun v _ => v = .slice q1 from_ d1
  | 13 => fun v W => RowP n0 m l2 v W
  | 14 => fun v W => RowA n0 m l2 f v W
  | 15 => fun v W => Box2 n0 v W
  | 16 => fun v W => PutA n0 m l2 f v W
  | _ => fun _ _ => False

set_option maxHeartbeats 4000000 in
theorem walk_fnAsmPart (a0 : Option Addr) (len0 cap0 : Nat) (z0 : List Int) (b0 : Option Addr) (blen bcap : Nat) (bz : List Int) (w : World) (w0 : IsRow .u8 w a0 len0 cap0 z0) (_w1 : IsRow .u8 w b0 blen bcap bz) :
    Calls Try.prog 5 #[.slice a0 len0 cap0, .slice b0 blen bcap] w fun e w' => e = .returned (.bool true) ∧ Below w.heap.size w w' := by
  have H := Lib.hid w0
  clear w0 _w1
  by_cases hl : (1048576 : Int) < len0
  · go_enter Try.func5, Try.ntmps5
    go_wp2
    go_ret
    exact ⟨rfl, Below.refl _ _⟩
  by_cases hl1 : (1048576 : Int) < blen
  · go_enter Try.func5, Try.ntmps5
    go_wp2
    go_ret
    exact ⟨rfl, Below.refl _ _⟩
  · go_enter Try.func5, Try.ntmps5
    go_wp2_with fail
    refine (drawAsmValid_any a0 len0 cap0 z0 _ H.out).mono ?_
    rintro e w1 ⟨a1, n1, c1, a2, n2, c2, es, qs, rfl, hn1, hn2, hsm, hns, hpt, hb1⟩
    have NA := Lib.hid hns
    have PA := Lib.hid hpt
    have KY := Lib.hid (small_keys hsm)
    have LNA := Lib.hid hns.length
    have LPA := Lib.hid hpt.length
    clear hns hpt hsm
    obtain ⟨ok, hok⟩ : ∃ b, asmV es qs = b := ⟨_, rfl⟩
    have HOK := Lib.hid hok
    clear hok
    go_wp2_with fail
    refine (asmValid_any a1 n1 c1 es a2 n2 c2 qs _ ((NA.out).below (below_box (.cells (List.toArray [.slice a1 n1 c1, .slice a2 n2 c2]) 27) (Nat.le_refl _))) ((PA.out).below (below_box (.cells (List.toArray [.slice a1 n1 c1, .slice a2 n2 c2]) 27) (Nat.le_refl _))) KY.out).mono ?_
    rw [HOK.out]
    rintro e w2 ⟨rfl, hb2⟩
    have Vxa := Lib.hid ((VarN.new_at (w := w1) (d := w1.heap.size) (by simp) [.slice a1 n1 c1, .slice a2 n2 c2] 27).below hb2 (by simp))
    have HB2 := Lib.hid (((hb1).alloc (Nat.le_trans hb1.size (by exact Nat.le_refl _)) (.cells (List.toArray [.slice a1 n1 c1, .slice a2 n2 c2]) 27)).trans (hb2.mono (Nat.le_trans hb1.size (by simp <;> omega))))
    have ltxa : w1.heap.size < w2.heap.size := lt_of_cell (Vxa.out 0 _ rfl).1
    have nexa : ¬ w1.heap.size = w2.heap.size := by omega
    have NA := Lib.hid (((NA.out).below (below_box (.cells (List.toArray [.slice a1 n1 c1, .slice a2 n2 c2]) 27) (Nat.le_refl _))).below hb2)
    have PA := Lib.hid (((PA.out).below (below_box (.cells (List.toArray [.slice a1 n1 c1, .slice a2 n2 c2]) 27) (Nat.le_refl _))).below hb2)
    clear hb2
    have xa0 := (Vxa.out 0 _ rfl).1
    have xaf0 := (Vxa.out 0 _ rfl).2
    have xa1 := (Vxa.out 1 _ rfl).1
    have xaf1 := (Vxa.out 1 _ rfl).2
    go_wp2_with fail
    refine (sAsmValid_any a1 n1 c1 es a2 n2 c2 qs _ NA.out PA.out).mono ?_
    rw [HOK.out]
    rintro e w3 ⟨rfl, hb3⟩
    clear xa0 xaf0 xa1 xaf1
    have Vxa := Lib.hid ((Vxa.out).below hb3 ltxa)
    have HB3 := Lib.hid (HB2.out.trans (hb3.mono HB2.out.size))
    have ltxa : w1.heap.size < w3.heap.size := lt_of_cell (Vxa.out 0 _ rfl).1
    have nexa : ¬ w1.heap.size = w3.heap.size := by omega
    have NA := Lib.hid ((NA.out).below hb3)
    have PA := Lib.hid ((PA.out).below hb3)
    clear hb3
    cases ok
    · have xa0 := (Vxa.out 0 _ rfl).1
      have xaf0 := (Vxa.out 0 _ rfl).2
      have xa1 := (Vxa.out 1 _ rfl).1
      have xaf1 := (Vxa.out 1 _ rfl).2
      go_wp2
      go_ret
      exact ⟨rfl, HB3.out⟩
    · by_cases hn0 : n2 = 0
      · subst hn0
        have xa0 := (Vxa.out 0 _ rfl).1
        have xaf0 := (Vxa.out 0 _ rfl).2
        have xa1 := (Vxa.out 1 _ rfl).1
        have xaf1 := (Vxa.out 1 _ rfl).2
        go_wp2
        go_ret
        exact ⟨rfl, HB3.out⟩
      · have OK := Lib.hid (show AsmOk es qs from by have := HOK.out; exact of_decide_eq_true this)
        obtain ⟨xq, rfl⟩ := PA.out.addr (show 0 < n2 by omega)
        have hcap := PA.out.len_le
        have hlp := LPA.out
        obtain ⟨K, hK⟩ : ∃ K : Nat, blen % n2 = K := ⟨_, rfl⟩
        have hKn : K < n2 := hK ▸ Nat.mod_lt _ (by omega)
        have eK : (blen : Int) % (n2 : Int) = (K : Int) := by rw [← hK]; rfl
        have eK' : Int.tmod (blen : Int) (n2 : Int) = (K : Int) := by rw [Int.tmod_eq_emod_of_nonneg (by omega)]; exact eK
        have hnz : (((n2 : Nat) : Int) == 0) = false := by simp; omega
        have hnz' : ¬ (n2 : Int) = 0 := by omega
        have HX := Lib.hid (asm_drop OK.out K)
        have HY := Lib.hid (asm_twice (next := es) (ps := qs) (k := K) (by omega))
        obtain ⟨L1, hL1⟩ : ∃ L, qs.take K ++ qs.drop (K + 1) = L := ⟨_, rfl⟩
        obtain ⟨L2, hL2⟩ : ∃ L, qs.take (K + 1) ++ qs.drop K = L := ⟨_, rfl⟩
        rw [hL1] at HX
        rw [hL2] at HY
        have HL1 := Lib.hid hL1
        have HL2 := Lib.hid hL2
        have KX := Lib.hid (show ∀ p ∈ L1, Key p.tsn from fun p hp => by rw [← hL1] at hp; exact KY.out p ((List.mem_append.1 hp).elim (fun h => List.mem_of_mem_take h) fun h => List.mem_of_mem_drop h))
        have KZ := Lib.hid (show ∀ p ∈ L2, Key p.tsn from fun p hp => by rw [← hL2] at hp; exact KY.out p ((List.mem_append.1 hp).elim (fun h => List.mem_of_mem_take h) fun h => List.mem_of_mem_drop h))
        have TKK := Lib.hid (pts_take PA.out (show K ≤ n2 by omega))
        have TKK1 := Lib.hid (pts_take PA.out (show K + 1 ≤ n2 by omega))
        obtain ⟨q1, d1, hs1, fr1⟩ := cut_from PA.out (K + 1) (by omega)
        obtain ⟨q0, d0, hs0, fr0⟩ := cut_from PA.out K (by omega)
        have FRK1 := Lib.hid fr1
        have FRK := Lib.hid fr0
        have ht0 := cut_to (x := xq) (len := n2) (cap := c2) (L := K) (by omega) hcap.1
        have ht1 := cut_to (x := xq) (len := n2) (cap := c2) (L := K + 1) (by omega) hcap.1
        rw [show ((K + 1 : Nat) : Int) = (K : Int) + 1 from rfl] at hs1 ht1
        have wm : IntKind.i64.wrap ((K : Int) + 1) = (K : Int) + 1 := IntWalk.i64_in _ (by omega)
        obtain ⟨M1, hM1⟩ : ∃ M, n2 - 1 = M := ⟨_, rfl⟩
        obtain ⟨M2, hM2⟩ : ∃ M, n2 + 1 = M := ⟨_, rfl⟩
        clear hK hL1 hL2 fr1 fr0
        have xa0 := (Vxa.out 0 _ rfl).1
        have xaf0 := (Vxa.out 0 _ rfl).2
        have xa1 := (Vxa.out 1 _ rfl).1
        have xaf1 := (Vxa.out 1 _ rfl).2
        go_upto_region 9 with fail
        refine region_rows 17 [47, 48, 49, 50, 51, 52, 53, 54, 55, 56, 57, 58, 59, 60, 61, 9, 9] [47, 48, 49, 50, 51, 52, 53, 54, 55, 56, 57, 58, 59, 60, 61, 9] [none, none, some 7, none, none, none, none, some 13, none, none, none, none, none, some 14, none, some 16, none] [false, false, true, false, false, false, false, true, false, false, false, false, false, true, true, true, true] [none, none, none, none, none, none, none, some 2, none, none, none, none, none, some 7, some 13, none, some 15] [[], [0], [], [], [3], [], [4, 5], [2, 6], [], [8], [], [10], [9, 11], [7, 12], [1, 13], [], [15, 14]] [16] (PartG9 w3.heap.size (w1.heap.size) (.slice a1 n1 c1) xq n2 c2 K K (n2 - (K + 1)) M1 q1 d1 (qs.take K) L1) _ w3 (by kernel_rfl) (by kernel_rfl) (fun k hk => Nat.lt_of_lt_of_le ((by decide : ∀ k ∈ [47, 48, 49, 50, 51, 52, 53, 54, 55, 56, 57, 58, 59, 60, 61, 9], k < 84) k hk) (by simp)) ?_ ?_ (Below.drew (Below.refl _ _)) (Nat.le_refl _) ?_ ?_
        · intro j v W W' e hj hfn h hg hne
          rcases (show j = 0 ∨ j = 1 ∨ j = 2 ∨ j = 3 ∨ j = 4 ∨ j = 5 ∨ j = 6 ∨ j = 7 ∨ j = 8 ∨ j = 9 ∨ j = 10 ∨ j = 11 ∨ j = 12 ∨ j = 13 ∨ j = 14 ∨ j = 15 ∨ j = 16 from by omega) with rfl | rfl | rfl | rfl | rfl | rfl | rfl | rfl | rfl | rfl | rfl | rfl | rfl | rfl | rfl | rfl | rfl
          · exact h
          · exact h
          · exact RowP.grown h hg (hne rfl)
          · exact h
          · exact h
          · exact h
          · exact h
          · exact RowP.grown h hg (hne rfl)
          · exact h
          · exact h
          · exact h
          · exact h
          · exact h
          · exact RowP.grown h hg (hne rfl)
          · exact RowA.grown h hg (hne rfl)
          · exact Box2.grown h hg (hne rfl)
          · exact absurd hfn (by decide)
        · intro j v W hj ho h
          rcases (show j = 0 ∨ j = 1 ∨ j = 2 ∨ j = 3 ∨ j = 4 ∨ j = 5 ∨ j = 6 ∨ j = 7 ∨ j = 8 ∨ j = 9 ∨ j = 10 ∨ j = 11 ∨ j = 12 ∨ j = 13 ∨ j = 14 ∨ j = 15 ∨ j = 16 from by omega) with rfl | rfl | rfl | rfl | rfl | rfl | rfl | rfl | rfl | rfl | rfl | rfl | rfl | rfl | rfl | rfl | rfl
          · exact absurd ho (by decide)
          · exact absurd ho (by decide)
          · exact RowP.own h
          · exact absurd ho (by decide)
          · exact absurd ho (by decide)
          · exact absurd ho (by decide)
          · exact absurd ho (by decide)
          · exact RowP.own h
          · exact absurd ho (by decide)
          · exact absurd ho (by decide)
          · exact absurd ho (by decide)
          · exact absurd ho (by decide)
          · exact absurd ho (by decide)
          · exact RowP.own h
          · exact RowA.own h
          · exact Box2.own h
          · exact PutA.own h
        · intro i b W hi hB hs hf hd
          have hle := hB.size
          rcases (show i = 0 ∨ i = 1 ∨ i = 2 ∨ i = 3 ∨ i = 4 ∨ i = 5 ∨ i = 6 ∨ i = 7 ∨ i = 8 ∨ i = 9 ∨ i = 10 ∨ i = 11 ∨ i = 12 ∨ i = 13 ∨ i = 14 ∨ i = 15 ∨ i = 16 from by omega) with rfl | rfl | rfl | rfl | rfl | rfl | rfl | rfl | rfl | rfl | rfl | rfl | rfl | rfl | rfl | rfl | rfl
          · have x5 : b.tmps[5]?.getD undef = .pointer (some ⟨w1.heap.size, 0, none⟩) := raw_of (k := 5) ((hf 5 (by decide)).trans rfl)
            refine wpOp_plain (by rfl) (by rfl) (Oper.wp_mono (K := fun b' w' => b' = b.put (some 47) (.pointer (some ⟨w1.heap.size, 0, none⟩)) ∧ w' = W) ?_ ?_)
            · rintro b' w' ⟨rfl, rfl⟩
              exact ⟨_, .inl rfl, rfl, grown_quiet (Below.refl _ _), fun h => absurd h (by decide)⟩
            · clear hd hs
              go_simp
          · have cxa0 := (hB.cell (World.block_lt_of_cell? _ _ xa0)).trans xa0
            have x47 : b.tmps[47]?.getD undef = .pointer (some ⟨w1.heap.size, 0, none⟩) := raw_of (k := 47) (hd 0 (by kernel_rfl))
            refine wpOp_plain (by rfl) (by rfl) (Oper.wp_mono (K := fun b' w' => b' = b.put (some 48) (.slice a1 n1 c1) ∧ w' = W) ?_ ?_)
            · rintro b' w' ⟨rfl, rfl⟩
              exact ⟨_, .inl rfl, rfl, grown_quiet (Below.refl _ _), fun h => absurd h (by decide)⟩
            · clear hd hs
              go_simp
          · refine wpOp_plain (by rfl) (by rfl) (Oper.wp_mono (K := fun b' w' => b' = b.put (some 49) (.slice (some ⟨W.heap.size, 0, none⟩) 0 0) ∧ w' = W.alloc (.cells #[] 43)) ?_ ?_)
            · rintro b' w' ⟨rfl, rfl⟩
              exact ⟨_, .inl rfl, RowP.lit hle, World.grownBy_alloc _ _ _, fun _ x hx => .inr (by have h2 : some W.heap.size = some x := hx; cases h2; exact Nat.le_refl _)⟩
            · clear hd hs
              go_simp
          · have x5 : b.tmps[5]?.getD undef = .pointer (some ⟨w1.heap.size, 0, none⟩) := raw_of (k := 5) ((hf 5 (by decide)).trans rfl)
            refine wpOp_plain (by rfl) (by rfl) (Oper.wp_mono (K := fun b' w' => b' = b.put (some 50) (.pointer (some ⟨w1.heap.size, 1, none⟩)) ∧ w' = W) ?_ ?_)
            · rintro b' w' ⟨rfl, rfl⟩
              exact ⟨_, .inl rfl, rfl, grown_quiet (Below.refl _ _), fun h => absurd h (by decide)⟩
            · clear hd hs
              go_simp
          · have cxa1 := (hB.cell (World.block_lt_of_cell? _ _ xa1)).trans xa1
            have x50 : b.tmps[50]?.getD undef = .pointer (some ⟨w1.heap.size, 1, none⟩) := raw_of (k := 50) (hd 3 (by kernel_rfl))
            refine wpOp_plain (by rfl) (by rfl) (Oper.wp_mono (K := fun b' w' => b' = b.put (some 51) (.slice (some xq) n2 c2) ∧ w' = W) ?_ ?_)
            · rintro b' w' ⟨rfl, rfl⟩
              exact ⟨_, .inl rfl, rfl, grown_quiet (Below.refl _ _), fun h => absurd h (by decide)⟩
            · clear hd hs
              go_simp
          · have x8 : b.tmps[8]?.getD undef = .int .i64 (K : Int) := raw_of (k := 8) ((hf 8 (by decide)).trans rfl)
            refine wpOp_plain (by rfl) (by rfl) (Oper.wp_mono (K := fun b' w' => b' = b.put (some 52) (.int .i64 (K : Int)) ∧ w' = W) ?_ ?_)
            · rintro b' w' ⟨rfl, rfl⟩
              exact ⟨_, .inl rfl, rfl, grown_quiet (Below.refl _ _), fun h => absurd h (by decide)⟩
            · clear hd hs
              go_simp
          · have x51 : b.tmps[51]?.getD undef = .slice (some xq) n2 c2 := raw_of (k := 51) (hd 4 (by kernel_rfl))
            have x52 : b.tmps[52]?.getD undef = .int .i64 (K : Int) := raw_of (k := 52) (hd 5 (by kernel_rfl))
            refine wpOp_plain (by rfl) (by rfl) (Oper.wp_mono (K := fun b' w' => b' = b.put (some 53) (.slice (some xq) K c2) ∧ w' = W) ?_ ?_)
            · rintro b' w' ⟨rfl, rfl⟩
              exact ⟨_, .inl rfl, rfl, grown_quiet (Below.refl _ _), fun h => absurd h (by decide)⟩
            · clear hd hs
              go_simp
          · refine wpOp_plain (by rfl) (by rfl) (wp_addP _ _ rfl _ 0 K c2 (some xq) [] (qs.take K) (hd 2 (by kernel_rfl)) (hd 6 (by kernel_rfl)) (TKK.out.below hB) (by omega) hle ?_)
            intro v w' h1 h2 h3
            have h9 : RowP w3.heap.size K (qs.take K) v w' := by simpa using h1
            exact ⟨v, .inl rfl, h9, h2, fun _ x hx => h3 x hx⟩
          · have x5 : b.tmps[5]?.getD undef = .pointer (some ⟨w1.heap.size, 0, none⟩) := raw_of (k := 5) ((hf 5 (by decide)).trans rfl)
            refine wpOp_plain (by rfl) (by rfl) (Oper.wp_mono (K := fun b' w' => b' = b.put (some 55) (.pointer (some ⟨w1.heap.size, 1, none⟩)) ∧ w' = W) ?_ ?_)
            · rintro b' w' ⟨rfl, rfl⟩
              exact ⟨_, .inl rfl, rfl, grown_quiet (Below.refl _ _), fun h => absurd h (by decide)⟩
            · clear hd hs
              go_simp
          · have cxa1 := (hB.cell (World.block_lt_of_cell? _ _ xa1)).trans xa1
            have x55 : b.tmps[55]?.getD undef = .pointer (some ⟨w1.heap.size, 1, none⟩) := raw_of (k := 55) (hd 8 (by kernel_rfl))
            refine wpOp_plain (by rfl) (by rfl) (Oper.wp_mono (K := fun b' w' => b' = b.put (some 56) (.slice (some xq) n2 c2) ∧ w' = W) ?_ ?_)
            · rintro b' w' ⟨rfl, rfl⟩
              exact ⟨_, .inl rfl, rfl, grown_quiet (Below.refl _ _), fun h => absurd h (by decide)⟩
            · clear hd hs
              go_simp
          · have x8 : b.tmps[8]?.getD undef = .int .i64 (K : Int) := raw_of (k := 8) ((hf 8 (by decide)).trans rfl)
            refine wpOp_plain (by rfl) (by rfl) (Oper.wp_mono (K := fun b' w' => b' = b.put (some 57) (.int .i64 (K : Int)) ∧ w' = W) ?_ ?_)
            · rintro b' w' ⟨rfl, rfl⟩
              exact ⟨_, .inl rfl, rfl, grown_quiet (Below.refl _ _), fun h => absurd h (by decide)⟩
            · clear hd hs
              go_simp
          · have x57 : b.tmps[57]?.getD undef = .int .i64 (K : Int) := raw_of (k := 57) (hd 10 (by kernel_rfl))
            refine wpOp_plain (by rfl) (by rfl) (Oper.wp_mono (K := fun b' w' => b' = b.put (some 58) (.int .i64 ((K : Int) + 1)) ∧ w' = W) ?_ ?_)
            · rintro b' w' ⟨rfl, rfl⟩
              exact ⟨_, .inl rfl, rfl, grown_quiet (Below.refl _ _), fun h => absurd h (by decide)⟩
            · clear hd hs
              go_simp
          · have x56 : b.tmps[56]?.getD undef = .slice (some xq) n2 c2 := raw_of (k := 56) (hd 9 (by kernel_rfl))
            have x58 : b.tmps[58]?.getD undef = .int .i64 ((K : Int) + 1) := raw_of (k := 58) (hd 11 (by kernel_rfl))
            refine wpOp_plain (by rfl) (by rfl) (Oper.wp_mono (K := fun b' w' => b' = b.put (some 59) (.slice q1 (n2 - (K + 1)) d1) ∧ w' = W) ?_ ?_)
            · rintro b' w' ⟨rfl, rfl⟩
              exact ⟨_, .inl rfl, rfl, grown_quiet (Below.refl _ _), fun h => absurd h (by decide)⟩
            · clear hd hs
              go_simp
          · refine wpOp_plain (by rfl) (by rfl) (wp_addP _ _ rfl _ K (n2 - (K + 1)) d1 q1 (qs.take K) (qs.drop (K + 1)) (hd 7 (by kernel_rfl)) (hd 12 (by kernel_rfl)) (FRK1.out.below hB) (by omega) hle ?_)
            intro v w' h1 h2 h3
            have h9 : RowP w3.heap.size M1 L1 v w' := by rw [show K + (n2 - (K + 1)) = M1 by omega, HL1.out] at h1; exact h1
            exact ⟨v, .inl rfl, h9, h2, fun _ x hx => h3 x hx⟩
          · obtain ⟨g, c, he, ho⟩ : RowP w3.heap.size M1 L1 (valsOf b 60) W := hd 13 (by kernel_rfl)
            have x48 : b.tmps[48]?.getD undef = .slice a1 n1 c1 := raw_of (k := 48) (hd 1 (by kernel_rfl))
            have x60 : b.tmps[60]?.getD undef = .slice (some ⟨g, 0, none⟩) M1 c := raw_of (k := 60) (he)
            refine wpOp_plain (by rfl) (by rfl) (Oper.wp_mono (K := fun b' w' => b' = b.put (some 61) (.agg #[.slice a1 n1 c1, .slice (some ⟨g, 0, none⟩) M1 c]) ∧ w' = W) ?_ ?_)
            · rintro b' w' ⟨rfl, rfl⟩
              exact ⟨_, .inl rfl, ⟨_, rfl, g, c, rfl, ho⟩, grown_refl _ _, fun _ x hx => .inl (by show blkV (valsOf b 60) = some x; rw [he]; exact hx)⟩
            · clear hd hs he
              go_simp
          · refine wpOp_plain (by rfl) (by rfl) (Oper.wp_mono (K := fun b' w' => b' = b.put (some 9) (.pointer (some ⟨W.heap.size, 0, none⟩)) ∧ w' = W.alloc (.cells #[.slice none 0 0, .slice none 0 0] 27)) ?_ ?_)
            · rintro b' w' ⟨rfl, rfl⟩
              exact ⟨_, .inl rfl, Box2.lit hle, World.grownBy_alloc _ _ _, fun _ x hx => .inr (by have h2 : some W.heap.size = some x := hx; cases h2; exact Nat.le_refl _)⟩
            · clear hd hs
              go_simp
          · obtain ⟨D, x0, y0, hp, hn, hD⟩ : Box2 w3.heap.size (valsOf b 9) W := hd 15 (by kernel_rfl)
            obtain ⟨u, hu, g, c, rfl, ho⟩ : RowA w3.heap.size M1 L1 (.slice a1 n1 c1) (valsOf b 61) W := hd 14 (by kernel_rfl)
            have x9 : b.tmps[9]?.getD undef = .pointer (some ⟨D, 0, none⟩) := raw_of (k := 9) (hp)
            have x61 : b.tmps[61]?.getD undef = .agg #[.slice a1 n1 c1, .slice (some ⟨g, 0, none⟩) M1 c] := raw_of (k := 61) (hu)
            have c0 := Lib.cell_of_heap hD 0
            have c1' := Lib.cell_of_heap hD 1
            have g0 := Lib.frozen_of_heap hD 0
            have g1 := Lib.frozen_of_heap hD 1
            change W.cell? _ = some x0 at c0
            change W.cell? _ = some y0 at c1'
            refine wpOp_plain (by rfl) (by rfl) (Oper.wp_mono (K := fun b' w' => b' = b ∧ w' = (W.setCell ⟨D, 0, none⟩ (.slice a1 n1 c1)).setCell ⟨D, 1, none⟩ (.slice (some ⟨g, 0, none⟩) M1 c)) ?_ ?_)
            · rintro b' w' ⟨rfl, rfl⟩
              refine ⟨_, .inr ⟨rfl, rfl⟩, ?_, ?_, fun _ x hx => .inl hx⟩
              · show PutA _ _ _ _ (valsOf b' 9) _
                rw [hp]
                exact RowP.fill ⟨g, c, rfl, ho⟩ hD hn
              · show W.grownBy _ (blkV (valsOf b' 9))
                rw [hp]
                exact grown_trans grown_set grown_set
            · clear hd hs hp hu
              go_simp
        intro V w4 hB hk
        obtain ⟨Dx, u, e9, hnD, hDD, gx, kx, rfl, ho⟩ : PutA w3.heap.size M1 L1 (.slice a1 n1 c1) (V 9) w4 := hk 16 (by decide) rfl
        simp only [List.foldl, Act.put, List.setIfInBounds_toArray, List.set_cons_zero, List.set_cons_succ]
        rw [e9]
        generalize V 47 = z47
        generalize V 48 = z48
        generalize V 49 = z49
        generalize V 50 = z50
        generalize V 51 = z51
        generalize V 52 = z52
        generalize V 53 = z53
        generalize V 54 = z54
        generalize V 55 = z55
        generalize V 56 = z56
        generalize V 57 = z57
        generalize V 58 = z58
        generalize V 59 = z59
        generalize V 60 = z60
        generalize V 61 = z61
        have Vxb := Lib.hid (show VarN Dx [.slice a1 n1 c1, .slice (some ⟨gx, 0, none⟩) M1 kx] w4 from var_of_heap hDD)
        have Px := Lib.hid (own_pts ho)
        have lDx : w3.heap.size ≤ Dx := hnD
        have hb4 : Below w3.heap.size w3 w4 := hB
        clear hk e9 hDD ho hnD hB
        clear xa0 xaf0 xa1 xaf1
        have Vxa := Lib.hid ((Vxa.out).below hb4 ltxa)
        have HB4 := Lib.hid (HB3.out.trans (hb4.mono HB3.out.size))
        have NA := Lib.hid ((NA.out).below hb4)
        have PA := Lib.hid ((PA.out).below hb4)
        have TKK := Lib.hid ((TKK.out).below hb4)
        have TKK1 := Lib.hid ((TKK1.out).below hb4)
        have FRK1 := Lib.hid ((FRK1.out).below hb4)
        have FRK := Lib.hid ((FRK.out).below hb4)
        have hsz4 : w3.heap.size + 0 ≤ w4.heap.size := hb4.size
        have ltxa : w1.heap.size < w4.heap.size := lt_of_cell (Vxa.out 0 _ rfl).1
        have nexa : ¬ w1.heap.size = w4.heap.size := by omega
        clear hb4
        have ltxb : Dx < w4.heap.size := lt_of_cell (Vxb.out 0 _ rfl).1
        have nexb : ¬ Dx = w4.heap.size := by omega
        have xa0 := (Vxa.out 0 _ rfl).1
        have xaf0 := (Vxa.out 0 _ rfl).2
        have xa1 := (Vxa.out 1 _ rfl).1
        have xaf1 := (Vxa.out 1 _ rfl).2
        go_upto_region 10 with fail
        refine region_rows 17 [62, 63, 64, 65, 66, 67, 68, 69, 70, 71, 72, 73, 74, 75, 76, 10, 10] [62, 63, 64, 65, 66, 67, 68, 69, 70, 71, 72, 73, 74, 75, 76, 10] [none, none, some 8, none, none, none, none, none, some 13, none, none, none, none, some 14, none, some 16, none] [false, false, true, false, false, false, false, false, true, false, false, false, false, true, true, true, true] [none, none, none, none, none, none, none, none, some 2, none, none, none, none, some 8, some 13, none, some 15] [[], [0], [], [], [3], [], [5], [4, 6], [2, 7], [], [9], [], [10, 11], [8, 12], [1, 13], [], [15, 14]] [16] (PartG10 w4.heap.size (w1.heap.size) (.slice a1 n1 c1) xq n2 c2 K (K + 1) (n2 - K) M2 q0 d0 (qs.take (K + 1)) L2) _ w4 (by kernel_rfl) (by kernel_rfl) (fun k hk => Nat.lt_of_lt_of_le ((by decide : ∀ k ∈ [62, 63, 64, 65, 66, 67, 68, 69, 70, 71, 72, 73, 74, 75, 76, 10], k < 84) k hk) (by simp)) ?_ ?_ (Below.drew (Below.refl _ _)) (Nat.le_refl _) ?_ ?_
        · intro j v W W' e hj hfn h hg hne
          rcases (show j = 0 ∨ j = 1 ∨ j = 2 ∨ j = 3 ∨ j = 4 ∨ j = 5 ∨ j = 6 ∨ j = 7 ∨ j = 8 ∨ j = 9 ∨ j = 10 ∨ j = 11 ∨ j = 12 ∨ j = 13 ∨ j = 14 ∨ j = 15 ∨ j = 16 from by omega) with rfl | rfl | rfl | rfl | rfl | rfl | rfl | rfl | rfl | rfl | rfl | rfl | rfl | rfl | rfl | rfl | rfl
          · exact h
          · exact h
          · exact RowP.grown h hg (hne rfl)
          · exact h
          · exact h
          · exact h
          · exact h
          · exact h
          · exact RowP.grown h hg (hne rfl)
          · exact h
          · exact h
          · exact h
          · exact h
          · exact RowP.grown h hg (hne rfl)
          · exact RowA.grown h hg (hne rfl)
          · exact Box2.grown h hg (hne rfl)
          · exact absurd hfn (by decide)
        · intro j v W hj ho h
          rcases (show j = 0 ∨ j = 1 ∨ j = 2 ∨ j = 3 ∨ j = 4 ∨ j = 5 ∨ j = 6 ∨ j = 7 ∨ j = 8 ∨ j = 9 ∨ j = 10 ∨ j = 11 ∨ j = 12 ∨ j = 13 ∨ j = 14 ∨ j = 15 ∨ j = 16 from by omega) with rfl | rfl | rfl | rfl | rfl | rfl | rfl | rfl | rfl | rfl | rfl | rfl | rfl | rfl | rfl | rfl | rfl
          · exact absurd ho (by decide)
          · exact absurd ho (by decide)
          · exact RowP.own h
          · exact absurd ho (by decide)
          · exact absurd ho (by decide)
          · exact absurd ho (by decide)
          · exact absurd ho (by decide)
          · exact absurd ho (by decide)
          · exact RowP.own h
          · exact absurd ho (by decide)
          · exact absurd ho (by decide)
          · exact absurd ho (by decide)
          · exact absurd ho (by decide)
          · exact RowP.own h
          · exact RowA.own h
          · exact Box2.own h
          · exact PutA.own h
        · intro i b W hi hB hs hf hd
          have hle := hB.size
          rcases (show i = 0 ∨ i = 1 ∨ i = 2 ∨ i = 3 ∨ i = 4 ∨ i = 5 ∨ i = 6 ∨ i = 7 ∨ i = 8 ∨ i = 9 ∨ i = 10 ∨ i = 11 ∨ i = 12 ∨ i = 13 ∨ i = 14 ∨ i = 15 ∨ i = 16 from by omega) with rfl | rfl | rfl | rfl | rfl | rfl | rfl | rfl | rfl | rfl | rfl | rfl | rfl | rfl | rfl | rfl | rfl
          · have x5 : b.tmps[5]?.getD undef = .pointer (some ⟨w1.heap.size, 0, none⟩) := raw_of (k := 5) ((hf 5 (by decide)).trans rfl)
            refine wpOp_plain (by rfl) (by rfl) (Oper.wp_mono (K := fun b' w' => b' = b.put (some 62) (.pointer (some ⟨w1.heap.size, 0, none⟩)) ∧ w' = W) ?_ ?_)
            · rintro b' w' ⟨rfl, rfl⟩
              exact ⟨_, .inl rfl, rfl, grown_quiet (Below.refl _ _), fun h => absurd h (by decide)⟩
            · clear hd hs
              go_simp
          · have cxa0 := (hB.cell (World.block_lt_of_cell? _ _ xa0)).trans xa0
            have x62 : b.tmps[62]?.getD undef = .pointer (some ⟨w1.heap.size, 0, none⟩) := raw_of (k := 62) (hd 0 (by kernel_rfl))
            refine wpOp_plain (by rfl) (by rfl) (Oper.wp_mono (K := fun b' w' => b' = b.put (some 63) (.slice a1 n1 c1) ∧ w' = W) ?_ ?_)
            · rintro b' w' ⟨rfl, rfl⟩
              exact ⟨_, .inl rfl, rfl, grown_quiet (Below.refl _ _), fun h => absurd h (by decide)⟩
            · clear hd hs
              go_simp
          · refine wpOp_plain (by rfl) (by rfl) (Oper.wp_mono (K := fun b' w' => b' = b.put (some 64) (.slice (some ⟨W.heap.size, 0, none⟩) 0 0) ∧ w' = W.alloc (.cells #[] 43)) ?_ ?_)
            · rintro b' w' ⟨rfl, rfl⟩
              exact ⟨_, .inl rfl, RowP.lit hle, World.grownBy_alloc _ _ _, fun _ x hx => .inr (by have h2 : some W.heap.size = some x := hx; cases h2; exact Nat.le_refl _)⟩
            · clear hd hs
              go_simp
          · have x5 : b.tmps[5]?.getD undef = .pointer (some ⟨w1.heap.size, 0, none⟩) := raw_of (k := 5) ((hf 5 (by decide)).trans rfl)
            refine wpOp_plain (by rfl) (by rfl) (Oper.wp_mono (K := fun b' w' => b' = b.put (some 65) (.pointer (some ⟨w1.heap.size, 1, none⟩)) ∧ w' = W) ?_ ?_)
            · rintro b' w' ⟨rfl, rfl⟩
              exact ⟨_, .inl rfl, rfl, grown_quiet (Below.refl _ _), fun h => absurd h (by decide)⟩
            · clear hd hs
              go_simp
          · have cxa1 := (hB.cell (World.block_lt_of_cell? _ _ xa1)).trans xa1
            have x65 : b.tmps[65]?.getD undef = .pointer (some ⟨w1.heap.size, 1, none⟩) := raw_of (k := 65) (hd 3 (by kernel_rfl))
            refine wpOp_plain (by rfl) (by rfl) (Oper.wp_mono (K := fun b' w' => b' = b.put (some 66) (.slice (some xq) n2 c2) ∧ w' = W) ?_ ?_)
            · rintro b' w' ⟨rfl, rfl⟩
              exact ⟨_, .inl rfl, rfl, grown_quiet (Below.refl _ _), fun h => absurd h (by decide)⟩
            · clear hd hs
              go_simp
          · have x8 : b.tmps[8]?.getD undef = .int .i64 (K : Int) := raw_of (k := 8) ((hf 8 (by decide)).trans rfl)
            refine wpOp_plain (by rfl) (by rfl) (Oper.wp_mono (K := fun b' w' => b' = b.put (some 67) (.int .i64 (K : Int)) ∧ w' = W) ?_ ?_)
            · rintro b' w' ⟨rfl, rfl⟩
              exact ⟨_, .inl rfl, rfl, grown_quiet (Below.refl _ _), fun h => absurd h (by decide)⟩
            · clear hd hs
              go_simp
          · have x67 : b.tmps[67]?.getD undef = .int .i64 (K : Int) := raw_of (k := 67) (hd 5 (by kernel_rfl))
            refine wpOp_plain (by rfl) (by rfl) (Oper.wp_mono (K := fun b' w' => b' = b.put (some 68) (.int .i64 ((K : Int) + 1)) ∧ w' = W) ?_ ?_)
            · rintro b' w' ⟨rfl, rfl⟩
              exact ⟨_, .inl rfl, rfl, grown_quiet (Below.refl _ _), fun h => absurd h (by decide)⟩
            · clear hd hs
              go_simp
          · have x66 : b.tmps[66]?.getD undef = .slice (some xq) n2 c2 := raw_of (k := 66) (hd 4 (by kernel_rfl))
            have x68 : b.tmps[68]?.getD undef = .int .i64 ((K : Int) + 1) := raw_of (k := 68) (hd 6 (by kernel_rfl))
            refine wpOp_plain (by rfl) (by rfl) (Oper.wp_mono (K := fun b' w' => b' = b.put (some 69) (.slice (some xq) (K + 1) c2) ∧ w' = W) ?_ ?_)
            · rintro b' w' ⟨rfl, rfl⟩
              exact ⟨_, .inl rfl, rfl, grown_quiet (Below.refl _ _), fun h => absurd h (by decide)⟩
            · clear hd hs
              go_simp
          · refine wpOp_plain (by rfl) (by rfl) (wp_addP _ _ rfl _ 0 (K + 1) c2 (some xq) [] (qs.take (K + 1)) (hd 2 (by kernel_rfl)) (hd 7 (by kernel_rfl)) (TKK1.out.below hB) (by omega) hle ?_)
            intro v w' h1 h2 h3
            have h9 : RowP w4.heap.size (K + 1) (qs.take (K + 1)) v w' := by simpa using h1
            exact ⟨v, .inl rfl, h9, h2, fun _ x hx => h3 x hx⟩
          · have x5 : b.tmps[5]?.getD undef = .pointer (some ⟨w1.heap.size, 0, none⟩) := raw_of (k := 5) ((hf 5 (by decide)).trans rfl)
            refine wpOp_plain (by rfl) (by rfl) (Oper.wp_mono (K := fun b' w' => b' = b.put (some 71) (.pointer (some ⟨w1.heap.size, 1, none⟩)) ∧ w' = W) ?_ ?_)
            · rintro b' w' ⟨rfl, rfl⟩
              exact ⟨_, .inl rfl, rfl, grown_quiet (Below.refl _ _), fun h => absurd h (by decide)⟩
            · clear hd hs
              go_simp
          · have cxa1 := (hB.cell (World.block_lt_of_cell? _ _ xa1)).trans xa1
            have x71 : b.tmps[71]?.getD undef = .pointer (some ⟨w1.heap.size, 1, none⟩) := raw_of (k := 71) (hd 9 (by kernel_rfl))
            refine wpOp_plain (by rfl) (by rfl) (Oper.wp_mono (K := fun b' w' => b' = b.put (some 72) (.slice (some xq) n2 c2) ∧ w' = W) ?_ ?_)
            · rintro b' w' ⟨rfl, rfl⟩
              exact ⟨_, .inl rfl, rfl, grown_quiet (Below.refl _ _), fun h => absurd h (by decide)⟩
            · clear hd hs
              go_simp
          · have x8 : b.tmps[8]?.getD undef = .int .i64 (K : Int) := raw_of (k := 8) ((hf 8 (by decide)).trans rfl)
            refine wpOp_plain (by rfl) (by rfl) (Oper.wp_mono (K := fun b' w' => b' = b.put (some 73) (.int .i64 (K : Int)) ∧ w' = W) ?_ ?_)
            · rintro b' w' ⟨rfl, rfl⟩
              exact ⟨_, .inl rfl, rfl, grown_quiet (Below.refl _ _), fun h => absurd h (by decide)⟩
            · clear hd hs
              go_simp
          · have x72 : b.tmps[72]?.getD undef = .slice (some xq) n2 c2 := raw_of (k := 72) (hd 10 (by kernel_rfl))
            have x73 : b.tmps[73]?.getD undef = .int .i64 (K : Int) := raw_of (k := 73) (hd 11 (by kernel_rfl))
            refine wpOp_plain (by rfl) (by rfl) (Oper.wp_mono (K := fun b' w' => b' = b.put (some 74) (.slice q0 (n2 - K) d0) ∧ w' = W) ?_ ?_)
            · rintro b' w' ⟨rfl, rfl⟩
              exact ⟨_, .inl rfl, rfl, grown_quiet (Below.refl _ _), fun h => absurd h (by decide)⟩
            · clear hd hs
              go_simp
          · refine wpOp_plain (by rfl) (by rfl) (wp_addP _ _ rfl _ (K + 1) (n2 - K) d0 q0 (qs.take (K + 1)) (qs.drop K) (hd 8 (by kernel_rfl)) (hd 12 (by kernel_rfl)) (FRK.out.below hB) (by omega) hle ?_)
            intro v w' h1 h2 h3
            have h9 : RowP w4.heap.size M2 L2 v w' := by rw [show (K + 1) + (n2 - K) = M2 by omega, HL2.out] at h1; exact h1
            exact ⟨v, .inl rfl, h9, h2, fun _ x hx => h3 x hx⟩
          · obtain ⟨g, c, he, ho⟩ : RowP w4.heap.size M2 L2 (valsOf b 75) W := hd 13 (by kernel_rfl)
            have x63 : b.tmps[63]?.getD undef = .slice a1 n1 c1 := raw_of (k := 63) (hd 1 (by kernel_rfl))
            have x75 : b.tmps[75]?.getD undef = .slice (some ⟨g, 0, none⟩) M2 c := raw_of (k := 75) (he)
            refine wpOp_plain (by rfl) (by rfl) (Oper.wp_mono (K := fun b' w' => b' = b.put (some 76) (.agg #[.slice a1 n1 c1, .slice (some ⟨g, 0, none⟩) M2 c]) ∧ w' = W) ?_ ?_)
            · rintro b' w' ⟨rfl, rfl⟩
              exact ⟨_, .inl rfl, ⟨_, rfl, g, c, rfl, ho⟩, grown_refl _ _, fun _ x hx => .inl (by show blkV (valsOf b 75) = some x; rw [he]; exact hx)⟩
            · clear hd hs he
              go_simp
          · refine wpOp_plain (by rfl) (by rfl) (Oper.wp_mono (K := fun b' w' => b' = b.put (some 10) (.pointer (some ⟨W.heap.size, 0, none⟩)) ∧ w' = W.alloc (.cells #[.slice none 0 0, .slice none 0 0] 27)) ?_ ?_)
            · rintro b' w' ⟨rfl, rfl⟩
              exact ⟨_, .inl rfl, Box2.lit hle, World.grownBy_alloc _ _ _, fun _ x hx => .inr (by have h2 : some W.heap.size = some x := hx; cases h2; exact Nat.le_refl _)⟩
            · clear hd hs
              go_simp
          · obtain ⟨D, x0, y0, hp, hn, hD⟩ : Box2 w4.heap.size (valsOf b 10) W := hd 15 (by kernel_rfl)
            obtain ⟨u, hu, g, c, rfl, ho⟩ : RowA w4.heap.size M2 L2 (.slice a1 n1 c1) (valsOf b 76) W := hd 14 (by kernel_rfl)
            have x10 : b.tmps[10]?.getD undef = .pointer (some ⟨D, 0, none⟩) := raw_of (k := 10) (hp)
            have x76 : b.tmps[76]?.getD undef = .agg #[.slice a1 n1 c1, .slice (some ⟨g, 0, none⟩) M2 c] := raw_of (k := 76) (hu)
            have c0 := Lib.cell_of_heap hD 0
            have c1' := Lib.cell_of_heap hD 1
            have g0 := Lib.frozen_of_heap hD 0
            have g1 := Lib.frozen_of_heap hD 1
            change W.cell? _ = some x0 at c0
            change W.cell? _ = some y0 at c1'
            refine wpOp_plain (by rfl) (by rfl) (Oper.wp_mono (K := fun b' w' => b' = b ∧ w' = (W.setCell ⟨D, 0, none⟩ (.slice a1 n1 c1)).setCell ⟨D, 1, none⟩ (.slice (some ⟨g, 0, none⟩) M2 c)) ?_ ?_)
            · rintro b' w' ⟨rfl, rfl⟩
              refine ⟨_, .inr ⟨rfl, rfl⟩, ?_, ?_, fun _ x hx => .inl hx⟩
              · show PutA _ _ _ _ (valsOf b' 10) _
                rw [hp]
                exact RowP.fill ⟨g, c, rfl, ho⟩ hD hn
              · show W.grownBy _ (blkV (valsOf b' 10))
                rw [hp]
                exact grown_trans grown_set grown_set
            · clear hd hs hp hu
              go_simp
        intro V w5 hB hk
        obtain ⟨Dy, u, e9, hnD, hDD, gy, ky, rfl, ho⟩ : PutA w4.heap.size M2 L2 (.slice a1 n1 c1) (V 10) w5 := hk 16 (by decide) rfl
        simp only [List.foldl, Act.put, List.setIfInBounds_toArray, List.set_cons_zero, List.set_cons_succ]
        rw [e9]
        generalize V 62 = z62
        generalize V 63 = z63
        generalize V 64 = z64
        generalize V 65 = z65
        generalize V 66 = z66
        generalize V 67 = z67
        generalize V 68 = z68
        generalize V 69 = z69
        generalize V 70 = z70
        generalize V 71 = z71
        generalize V 72 = z72
        generalize V 73 = z73
        generalize V 74 = z74
        generalize V 75 = z75
        generalize V 76 = z76
        have Vxc := Lib.hid (show VarN Dy [.slice a1 n1 c1, .slice (some ⟨gy, 0, none⟩) M2 ky] w5 from var_of_heap hDD)
        have Py := Lib.hid (own_pts ho)
        have lDy : w4.heap.size ≤ Dy := hnD
        have hb5 : Below w4.heap.size w4 w5 := hB
        clear hk e9 hDD ho hnD hB
        clear xa0 xaf0 xa1 xaf1
        have Vxa := Lib.hid ((Vxa.out).below hb5 ltxa)
        have Vxb := Lib.hid ((Vxb.out).below hb5 ltxb)
        have HB5 := Lib.hid (HB4.out.trans (hb5.mono HB4.out.size))
        have NA := Lib.hid ((NA.out).below hb5)
        have PA := Lib.hid ((PA.out).below hb5)
        have TKK := Lib.hid ((TKK.out).below hb5)
        have TKK1 := Lib.hid ((TKK1.out).below hb5)
        have FRK1 := Lib.hid ((FRK1.out).below hb5)
        have FRK := Lib.hid ((FRK.out).below hb5)
        have Px := Lib.hid ((Px.out).below hb5)
        have hsz5 : w4.heap.size + 0 ≤ w5.heap.size := hb5.size
        have ltxa : w1.heap.size < w5.heap.size := lt_of_cell (Vxa.out 0 _ rfl).1
        have ltxb : Dx < w5.heap.size := lt_of_cell (Vxb.out 0 _ rfl).1
        have nexa : ¬ w1.heap.size = w5.heap.size := by omega
        have nexb : ¬ Dx = w5.heap.size := by omega
        clear hb5
        have ltxc : Dy < w5.heap.size := lt_of_cell (Vxc.out 0 _ rfl).1
        have nexc : ¬ Dy = w5.heap.size := by omega
        have xa0 := (Vxa.out 0 _ rfl).1
        have xaf0 := (Vxa.out 0 _ rfl).2
        have xa1 := (Vxa.out 1 _ rfl).1
        have xaf1 := (Vxa.out 1 _ rfl).2
        have xb0 := (Vxb.out 0 _ rfl).1
        have xbf0 := (Vxb.out 0 _ rfl).2
        have xb1 := (Vxb.out 1 _ rfl).1
        have xbf1 := (Vxb.out 1 _ rfl).2
        have xc0 := (Vxc.out 0 _ rfl).1
        have xcf0 := (Vxc.out 0 _ rfl).2
        have xc1 := (Vxc.out 1 _ rfl).1
        have xcf1 := (Vxc.out 1 _ rfl).2
        go_wp2_with fail
        refine (asmValid_any a1 n1 c1 es (some ⟨gx, 0, none⟩) M1 kx L1 _ NA.out Px.out KX.out).mono ?_
        rw [asmV_yes HX.out]
        rintro e w6 ⟨rfl, hb6⟩
        clear xa0 xaf0 xa1 xaf1 xb0 xbf0 xb1 xbf1 xc0 xcf0 xc1 xcf1
        have Vxa := Lib.hid ((Vxa.out).below hb6 ltxa)
        have Vxb := Lib.hid ((Vxb.out).below hb6 ltxb)
        have Vxc := Lib.hid ((Vxc.out).below hb6 ltxc)
        have HB6 := Lib.hid (HB5.out.trans (hb6.mono HB5.out.size))
        have ltxa : w1.heap.size < w6.heap.size := lt_of_cell (Vxa.out 0 _ rfl).1
        have ltxb : Dx < w6.heap.size := lt_of_cell (Vxb.out 0 _ rfl).1
        have ltxc : Dy < w6.heap.size := lt_of_cell (Vxc.out 0 _ rfl).1
        have nexa : ¬ w1.heap.size = w6.heap.size := by omega
        have nexb : ¬ Dx = w6.heap.size := by omega
        have nexc : ¬ Dy = w6.heap.size := by omega
        have NA := Lib.hid ((NA.out).below hb6)
        have PA := Lib.hid ((PA.out).below hb6)
        have TKK := Lib.hid ((TKK.out).below hb6)
        have TKK1 := Lib.hid ((TKK1.out).below hb6)
        have FRK1 := Lib.hid ((FRK1.out).below hb6)
        have FRK := Lib.hid ((FRK.out).below hb6)
        have Px := Lib.hid ((Px.out).below hb6)
        have Py := Lib.hid ((Py.out).below hb6)
        clear hb6
        have xa0 := (Vxa.out 0 _ rfl).1
        have xaf0 := (Vxa.out 0 _ rfl).2
        have xa1 := (Vxa.out 1 _ rfl).1
        have xaf1 := (Vxa.out 1 _ rfl).2
        have xb0 := (Vxb.out 0 _ rfl).1
        have xbf0 := (Vxb.out 0 _ rfl).2
        have xb1 := (Vxb.out 1 _ rfl).1
        have xbf1 := (Vxb.out 1 _ rfl).2
        have xc0 := (Vxc.out 0 _ rfl).1
        have xcf0 := (Vxc.out 0 _ rfl).2
        have xc1 := (Vxc.out 1 _ rfl).1
        have xcf1 := (Vxc.out 1 _ rfl).2
        go_wp2_with fail
        refine (asmValid_any a1 n1 c1 es (some ⟨gy, 0, none⟩) M2 ky L2 _ NA.out Py.out KZ.out).mono ?_
        rw [asmV_no HY.out]
        rintro e w7 ⟨rfl, hb7⟩
        clear xa0 xaf0 xa1 xaf1 xb0 xbf0 xb1 xbf1 xc0 xcf0 xc1 xcf1
        have Vxa := Lib.hid ((Vxa.out).below hb7 ltxa)
        have Vxb := Lib.hid ((Vxb.out).below hb7 ltxb)
        have Vxc := Lib.hid ((Vxc.out).below hb7 ltxc)
        have HB7 := Lib.hid (HB6.out.trans (hb7.mono HB6.out.size))
        have ltxa : w1.heap.size < w7.heap.size := lt_of_cell (Vxa.out 0 _ rfl).1
        have ltxb : Dx < w7.heap.size := lt_of_cell (Vxb.out 0 _ rfl).1
        have ltxc : Dy < w7.heap.size := lt_of_cell (Vxc.out 0 _ rfl).1
        have nexa : ¬ w1.heap.size = w7.heap.size := by omega
        have nexb : ¬ Dx = w7.heap.size := by omega
        have nexc : ¬ Dy = w7.heap.size := by omega
        have NA := Lib.hid ((NA.out).below hb7)
        have PA := Lib.hid ((PA.out).below hb7)
        have TKK := Lib.hid ((TKK.out).below hb7)
        have TKK1 := Lib.hid ((TKK1.out).below hb7)
        have FRK1 := Lib.hid ((FRK1.out).below hb7)
        have FRK := Lib.hid ((FRK.out).below hb7)
        have Px := Lib.hid ((Px.out).below hb7)
        have Py := Lib.hid ((Py.out).below hb7)
        clear hb7
        have xa0 := (Vxa.out 0 _ rfl).1
        have xaf0 := (Vxa.out 0 _ rfl).2
        have xa1 := (Vxa.out 1 _ rfl).1
        have xaf1 := (Vxa.out 1 _ rfl).2
        have xb0 := (Vxb.out 0 _ rfl).1
        have xbf0 := (Vxb.out 0 _ rfl).2
        have xb1 := (Vxb.out 1 _ rfl).1
        have xbf1 := (Vxb.out 1 _ rfl).2
        have xc0 := (Vxc.out 0 _ rfl).1
        have xcf0 := (Vxc.out 0 _ rfl).2
        have xc1 := (Vxc.out 1 _ rfl).1
        have xcf1 := (Vxc.out 1 _ rfl).2
        go_wp2
        go_ret
        exact ⟨rfl, HB7.out⟩

end Go.Proofs.Ytncbgejggfkdmab
