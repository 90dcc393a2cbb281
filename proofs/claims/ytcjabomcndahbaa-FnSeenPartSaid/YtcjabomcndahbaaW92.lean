/- The walk of the law on parts that may be missing. -/
import Derived.Test.YtcjabomcndahbaaK118
import Derived.Test.YtcjabomcndahbaaK94
import Derived.Handy
namespace Go.Proofs.Ytcjabomcndahbaa
open Go.RowKit Go.PlainAid

set_option maxHeartbeats 4000000 in
theorem walk_fnSeenPart (a0 : Option Addr) (len0 cap0 : Nat) (z0 : List Int) (b0 : Option Addr) (blen bcap : Nat) (bz : List Int) (w : World) (w0 : IsRow .u8 w a0 len0 cap0 z0) (_w1 : IsRow .u8 w b0 blen bcap bz) :
    Calls Try.prog 9 #[.slice a0 len0 cap0, .slice b0 blen bcap] w fun e w' => e = .returned (.bool true) ∧ Below w.heap.size w w' := by
  have H := Lib.hid w0
  clear w0 _w1
  by_cases hl : (1048576 : Int) < len0
  · go_enter Try.func9, Try.ntmps9
    go_wp2
    go_ret
    exact ⟨rfl, Below.refl _ _⟩
  by_cases hl1 : (1048576 : Int) < blen
  · go_enter Try.func9, Try.ntmps9
    go_wp2
    go_ret
    exact ⟨rfl, Below.refl _ _⟩
  · go_enter Try.func9, Try.ntmps9
    go_wp2_with fail
    refine (drawSeenValid_any a0 len0 cap0 z0 _ H.out).mono ?_
    rintro e w1 ⟨c, a, n, cap, es, rfl, nk, nc, ne, hown⟩
    have hb1 := hown.b
    have GA := Lib.hid hown.ns
    have HOW := Lib.hid hown.own
    clear hown ne nc
    by_cases hs : SeenOk c es
    · have HV := Lib.hid (seenV_yes hs)
      have HO := Lib.hid hs
      clear hs
      go_wp2_with fail
      refine (seenValid_any c a n cap es _ ((GA.out).below (below_box (.cells (List.toArray [.int .i64 c, .slice a n cap]) 26) (Nat.le_refl _)))).mono ?_
      rw [HV.out]
      rintro e w2 ⟨rfl, hb2⟩
      have Vs := Lib.hid ((VarN.new_at (w := w1) (d := w1.heap.size) (by simp) [.int .i64 c, .slice a n cap] 26).below hb2 (by simp))
      have HB2 := Lib.hid (((hb1).alloc (Nat.le_trans hb1.size (by exact Nat.le_refl _)) (.cells (List.toArray [.int .i64 c, .slice a n cap]) 26)).trans (hb2.mono (Nat.le_trans hb1.size (by simp <;> omega))))
      have lts : w1.heap.size < w2.heap.size := lt_of_cell (Vs.out 0 _ rfl).1
      have nes : ¬ w1.heap.size = w2.heap.size := by omega
      have GA := Lib.hid (((GA.out).below (below_box (.cells (List.toArray [.int .i64 c, .slice a n cap]) 26) (Nat.le_refl _))).below hb2)
      clear hb2
      have s0 := (Vs.out 0 _ rfl).1
      have sf0 := (Vs.out 0 _ rfl).2
      have s1 := (Vs.out 1 _ rfl).1
      have sf1 := (Vs.out 1 _ rfl).2
      go_wp2_with fail
      refine (sSeenValid_any c a n cap es _ GA.out).mono ?_
      rw [HV.out]
      rintro e w3 ⟨rfl, hb3⟩
      clear s0 sf0 s1 sf1
      have Vs := Lib.hid ((Vs.out).below hb3 lts)
      have HB3 := Lib.hid (HB2.out.trans (hb3.mono HB2.out.size))
      have lts : w1.heap.size < w3.heap.size := lt_of_cell (Vs.out 0 _ rfl).1
      have nes : ¬ w1.heap.size = w3.heap.size := by omega
      have GA := Lib.hid ((GA.out).below hb3)
      clear hb3
      by_cases hn0 : n = 0
      · subst hn0
        have s0 := (Vs.out 0 _ rfl).1
        have sf0 := (Vs.out 0 _ rfl).2
        have s1 := (Vs.out 1 _ rfl).1
        have sf1 := (Vs.out 1 _ rfl).2
        go_wp2
        go_ret
        exact ⟨rfl, HB3.out⟩
      · obtain ⟨g, rfl⟩ : ∃ g, a = some ⟨g, 0, none⟩ := by
          rcases HOW.out.2 with ⟨_, h0⟩ | ⟨g', cap', cur, hv, _⟩
          · exact absurd h0 hn0
          · exact ⟨g', by have := hv; simp at this; exact this.1⟩
        have hl := GA.out.length
        have hcap := GA.out.len_le
        have n16 : n ≤ 16 := by have := asc_few HO.out.2 (by decide); omega
        obtain ⟨m, hm⟩ : ∃ m, blen % n = m := ⟨_, rfl⟩
        have hmn : m < n := hm ▸ Nat.mod_lt _ (by omega)
        have HX := Lib.hid (show AscOk 1 (es.take m ++ es.drop (m + 1)) from asc_drop m HO.out.2 (by omega))
        have HY := Lib.hid (show ¬ AscOk 1 (es.take (m + 1) ++ es.drop m) from asc_twice m (by omega))
        have l1 : (es.take m).length = m := by rw [List.length_take, hl]; omega
        have l2 : (es.drop (m + 1)).length = n - (m + 1) := by rw [List.length_drop, hl]
        have l3 : (es.take (m + 1)).length = m + 1 := by rw [List.length_take, hl]; omega
        have l4 : (es.drop m).length = n - m := by rw [List.length_drop, hl]
        obtain ⟨L1, hL1⟩ : ∃ L1, es.take m ++ es.drop (m + 1) = L1 := ⟨_, rfl⟩
        obtain ⟨L2, hL2⟩ : ∃ L2, es.take (m + 1) ++ es.drop m = L2 := ⟨_, rfl⟩
        rw [hL1] at HX
        rw [hL2] at HY
        have HL1 := Lib.hid hL1
        have HL2 := Lib.hid hL2
        have hmi : ((blen : Int) % (n : Int)) = ((m : Nat) : Int) := by rw [← hm]; rfl
        have hnz : (((n : Nat) : Int) == 0) = false := by simp; omega
        have mc : m ≤ cap := by omega
        have mk : m + 1 ≤ n := by omega
        have mkc : m + 1 ≤ cap := by omega
        have mc' : (m : Int) ≤ (cap : Int) := by omega
        have mn' : (m : Int) ≤ (n : Int) := by omega
        have mk' : (m : Int) + 1 ≤ (n : Int) := by omega
        have mkc' : (m : Int) + 1 ≤ (cap : Int) := by omega
        have wm : IntKind.i64.wrap ((m : Int) + 1) = ((m + 1 : Nat) : Int) := (IntWalk.i64_in _ (by omega)).trans (by omega)
        have m01 : (0 : Int) ≤ (m : Int) + 1 := by omega
        have mm1 : (m : Int) ≤ (m : Int) + 1 := by omega
        have s0 := (Vs.out 0 _ rfl).1
        have sf0 := (Vs.out 0 _ rfl).2
        have s1 := (Vs.out 1 _ rfl).1
        have sf1 := (Vs.out 1 _ rfl).2
        have B0 := Lib.hid (show w3.cell? ⟨w1.heap.size, 0, none⟩ = some (.int .i64 c) ∧ w3.cell? ⟨w1.heap.size, 1, none⟩ = some (.slice (some ⟨g, 0, none⟩) n cap) ∧ Ns w3 (some ⟨g, 0, none⟩) n cap es ∧ Below w3.heap.size w3 w3 from ⟨s0, s1, GA.out, Below.refl _ _⟩)
        have hT := Lib.hid (keptS B0.out (Below.drew (Below.refl _ _)))
        have HBK := Lib.hid (HB3.out)
        clear hL1 hL2 sf0 sf1
        go_upto_region 9 with fail
        rw [hmi]
        try rw [hnz]
        clear hm hmi hnz
        go_cut [9] from 47 to 61 (fun p wx => ∃ d1 g1 cap1, p = .pointer (some ⟨d1, 0, none⟩) ∧ VarN d1 [.int .i64 c, .slice (some ⟨g1, 0, none⟩) (n - 1) cap1] wx ∧ Ns wx (some ⟨g1, 0, none⟩) (n - 1) cap1 L1 ∧ wx.cell? ⟨w1.heap.size, 0, none⟩ = some (.int .i64 c) ∧ wx.cell? ⟨w1.heap.size, 1, none⟩ = some (.slice (some ⟨g, 0, none⟩) n cap) ∧ Ns wx (some ⟨g, 0, none⟩) n cap es ∧ Below w3.heap.size w3 wx)
        case first =>
          by_cases hcm : cap = m + 1
          · obtain rfl : n = m + 1 := by omega
            subst hcm
            have HL := Lib.hid (show es.take m ++ ([] : List Int) = L1 from by rw [← HL1.out, List.eq_nil_of_length_eq_zero (l := es.drop (m + 1)) (by rw [l2]; omega)])
            clear mk mkc mc' mk' mkc' mn' hmn
            go_region_held_law (fun W => W.cell? ⟨w1.heap.size, 0, none⟩ = some (.int .i64 c) ∧ W.cell? ⟨w1.heap.size, 1, none⟩ = some (.slice (some ⟨g, 0, none⟩) (m + 1) (m + 1)) ∧ Ns W (some ⟨g, 0, none⟩) (m + 1) (m + 1) es ∧ Below w3.heap.size w3 W)
              (first | with_reducible assumption | with_reducible exact hT.out | exact keptS (by assumption) (by first | assumption | exact below_box _ (Nat.le_refl _) | exact Below.drew (Below.refl _ _)) | exact kp_grow B0.out (by assumption) (by first | assumption | omega | exact own_ge (by assumption) rfl) (by assumption) | exact kp_far B0.out (by first | omega | (simp; omega)) (by assumption) | exact kp_refill B0.out (by first | assumption | omega) (by assumption))
              (first
                | (refine step_catN (by rfl) _ _ (by rfl) w3.heap.size 0 m m _ _ _ _ [] (es.take m) (by omega) (by rfl) (by repeat (first | exact lit_ownN _ _ _ (by first | rfl | simp) (by first | omega | (simp; omega)) | with_reducible refine ownN_drew ?_ | with_reducible refine ownN_alloc ?_)) (by rfl) l1 (kp_first (by assumption) m) (by omega) (kp_lo (by assumption)) ?_; intro g3 cap3 w' hown3 hgrow3 hat3; rw [List.nil_append] at hown3; have hg3 : w3.heap.size ≤ g3 := own_ge hown3 rfl; have hlt3 : g3 < w'.heap.size := rowLt hown3; have hsz3 := hgrow3.size; (try simp at hat3); (try simp at hsz3); try (have hR := VarN.growE (vs := [.int .i64 0, .slice none 0 0]) (by first | exact varN_drew _ _ 26 | exact varN_drew2 _ _ 26 _) hgrow3 (by first | (simp; done) | (simp; omega)) (by first | omega | (simp; done) | (simp; omega)); try simp only [World.size_alloc] at hR))
                | (refine step_catN (by rfl) _ _ (by rfl) w3.heap.size m 0 m _ _ _ _ (es.take m) ([] : List Int) (by omega) (by rfl) (by repeat (first | with_reducible assumption | with_reducible refine ownN_drew ?_ | with_reducible refine ownN_alloc ?_)) (by rfl) (by rfl) (kp_nil _) (by omega) (kp_lo (by assumption)) ?_; intro g4 cap4 w'' hown4 hgrow4 hat4; have hg4 : w3.heap.size ≤ g4 := own_ge hown4 rfl; have hlt4 : g4 < w''.heap.size := rowLt hown4; (try simp at hat4); try (first | (have hR4 := VarN.growE hR hgrow4 (lt_of_cell (hR 0 _ rfl).1) (by omega)) | (have hR4 := VarN.growE (vs := [.int .i64 0, .slice none 0 0]) (VarN.new _ _ 26) hgrow4 (by simp) (by first | omega | (simp; omega)))); try (have r0 := (hR4 0 _ rfl).1; have r1 := (hR4 1 _ rfl).1; have rf0 := (hR4 0 _ rfl).2; have rf1 := (hR4 1 _ rfl).2)))
            all_goals
              rename_i hHeld
              have HW := hHeld
              go_wp2_with fail
              go_meet
              first
                | exact ⟨_, g4, cap4, rfl, (hR4.set (i := 0) _).set (i := 1) _, HL.out ▸ own_ns (rowFar (rowFar hown4 (by omega) _) (by omega) _), HW⟩
                | exact ⟨_, g4, cap4, rfl, VarN.new _ [.int .i64 c, .slice (some ⟨g4, 0, none⟩) _ cap4] _, HL.out ▸ own_ns (ownN_alloc hown4), HW⟩
          · have hcm2 : ¬ m + 1 = cap := fun h => hcm h.symm
            go_region_held_law (fun W => W.cell? ⟨w1.heap.size, 0, none⟩ = some (.int .i64 c) ∧ W.cell? ⟨w1.heap.size, 1, none⟩ = some (.slice (some ⟨g, 0, none⟩) n cap) ∧ Ns W (some ⟨g, 0, none⟩) n cap es ∧ Below w3.heap.size w3 W)
              (first | with_reducible assumption | with_reducible exact hT.out | exact keptS (by assumption) (by first | assumption | exact below_box _ (Nat.le_refl _) | exact Below.drew (Below.refl _ _)) | exact kp_grow B0.out (by assumption) (by first | assumption | omega | exact own_ge (by assumption) rfl) (by assumption) | exact kp_far B0.out (by first | omega | (simp; omega)) (by assumption) | exact kp_refill B0.out (by first | assumption | omega) (by assumption))
              (first
                | (refine step_catN (by rfl) _ _ (by rfl) w3.heap.size 0 m m _ _ _ _ [] (es.take m) (by omega) (by rfl) (by repeat (first | exact lit_ownN _ _ _ (by first | rfl | simp) (by first | omega | (simp; omega)) | with_reducible refine ownN_drew ?_ | with_reducible refine ownN_alloc ?_)) (by rfl) l1 (kp_first (by assumption) m) (by omega) (kp_lo (by assumption)) ?_; intro g3 cap3 w' hown3 hgrow3 hat3; rw [List.nil_append] at hown3; have hg3 : w3.heap.size ≤ g3 := own_ge hown3 rfl; have hlt3 : g3 < w'.heap.size := rowLt hown3; have hsz3 := hgrow3.size; (try simp at hat3); (try simp at hsz3); try (have hR := VarN.growE (vs := [.int .i64 0, .slice none 0 0]) (by first | exact varN_drew _ _ 26 | exact varN_drew2 _ _ 26 _) hgrow3 (by first | (simp; done) | (simp; omega)) (by first | omega | (simp; done) | (simp; omega)); try simp only [World.size_alloc] at hR))
                | (refine step_catN (by rfl) _ _ (by rfl) w3.heap.size m (n - (m + 1)) (n - 1) _ _ _ _ (es.take m) (es.drop (m + 1)) (by omega) (by rfl) (by repeat (first | with_reducible assumption | with_reducible refine ownN_drew ?_ | with_reducible refine ownN_alloc ?_)) (by rfl) l2 (kp_last (by assumption) (m + 1)) (by omega) (kp_lo (by assumption)) ?_; intro g4 cap4 w'' hown4 hgrow4 hat4; have hg4 : w3.heap.size ≤ g4 := own_ge hown4 rfl; have hlt4 : g4 < w''.heap.size := rowLt hown4; (try simp at hat4); try (first | (have hR4 := VarN.growE hR hgrow4 (lt_of_cell (hR 0 _ rfl).1) (by omega)) | (have hR4 := VarN.growE (vs := [.int .i64 0, .slice none 0 0]) (VarN.new _ _ 26) hgrow4 (by simp) (by first | omega | (simp; omega)))); try (have r0 := (hR4 0 _ rfl).1; have r1 := (hR4 1 _ rfl).1; have rf0 := (hR4 0 _ rfl).2; have rf1 := (hR4 1 _ rfl).2)))
            all_goals
              rename_i hHeld
              have HW := hHeld
              go_wp2_with fail
              go_meet
              first
                | exact ⟨_, g4, cap4, rfl, (hR4.set (i := 0) _).set (i := 1) _, HL1.out ▸ own_ns (rowFar (rowFar hown4 (by omega) _) (by omega) _), HW⟩
                | exact ⟨_, g4, cap4, rfl, VarN.new _ [.int .i64 c, .slice (some ⟨g4, 0, none⟩) _ cap4] _, HL1.out ▸ own_ns (ownN_alloc hown4), HW⟩
        case rest =>
          obtain ⟨d1, g1, cap1, rfl, hv1, hn1, hS1⟩ := hcut
          rename World => w20
          clear hT s0 s1
          have V1 := Lib.hid hv1
          have N1 := Lib.hid hn1
          have HB20 := Lib.hid (HBK.out.trans (hS1.2.2.2.mono HBK.out.size))
          have B1 := Lib.hid (show w20.cell? ⟨w1.heap.size, 0, none⟩ = some (.int .i64 c) ∧ w20.cell? ⟨w1.heap.size, 1, none⟩ = some (.slice (some ⟨g, 0, none⟩) n cap) ∧ Ns w20 (some ⟨g, 0, none⟩) n cap es ∧ Below w20.heap.size w20 w20 from ⟨hS1.1, hS1.2.1, hS1.2.2.1, Below.refl _ _⟩)
          have hT2 := Lib.hid (keptS B1.out (Below.drew (Below.refl _ _)))
          have d1lt : d1 < w20.heap.size := lt_of_cell (hv1 0 _ rfl).1
          clear hv1 hn1 hS1 B0 HBK
          have hcm3 : ¬ cap = m := by omega
          have hcm4 : ¬ m = cap := by omega
          go_upto_region 10 with fail
          go_cut [10] from 62 to 76 (fun p wx => ∃ d2 g2 cap2, p = .pointer (some ⟨d2, 0, none⟩) ∧ VarN d2 [.int .i64 c, .slice (some ⟨g2, 0, none⟩) (n + 1) cap2] wx ∧ Ns wx (some ⟨g2, 0, none⟩) (n + 1) cap2 L2 ∧ wx.cell? ⟨w1.heap.size, 0, none⟩ = some (.int .i64 c) ∧ wx.cell? ⟨w1.heap.size, 1, none⟩ = some (.slice (some ⟨g, 0, none⟩) n cap) ∧ Ns wx (some ⟨g, 0, none⟩) n cap es ∧ Below w20.heap.size w20 wx)
          case first =>
            go_region_held_law (fun W => W.cell? ⟨w1.heap.size, 0, none⟩ = some (.int .i64 c) ∧ W.cell? ⟨w1.heap.size, 1, none⟩ = some (.slice (some ⟨g, 0, none⟩) n cap) ∧ Ns W (some ⟨g, 0, none⟩) n cap es ∧ Below w20.heap.size w20 W)
              (first | with_reducible assumption | with_reducible exact hT2.out | exact keptS (by assumption) (by first | assumption | exact below_box _ (Nat.le_refl _) | exact Below.drew (Below.refl _ _)) | exact kp_grow B1.out (by assumption) (by first | assumption | omega | exact own_ge (by assumption) rfl) (by assumption) | exact kp_far B1.out (by first | omega | (simp; omega)) (by assumption) | exact kp_refill B1.out (by first | assumption | omega) (by assumption))
              (first
                | (refine step_catN (by rfl) _ _ (by rfl) w20.heap.size 0 (m + 1) (m + 1) _ _ _ _ [] (es.take (m + 1)) (by omega) (by rfl) (by repeat (first | exact lit_ownN _ _ _ (by first | rfl | simp) (by first | omega | (simp; omega)) | with_reducible refine ownN_drew ?_ | with_reducible refine ownN_alloc ?_)) (by rfl) l3 (kp_first (by assumption) (m + 1)) (by omega) (kp_lo (by assumption)) ?_; intro g3 cap3 w' hown3 hgrow3 hat3; rw [List.nil_append] at hown3; have hg3 : w20.heap.size ≤ g3 := own_ge hown3 rfl; have hlt3 : g3 < w'.heap.size := rowLt hown3; have hsz3 := hgrow3.size; (try simp at hat3); (try simp at hsz3); try (have hR := VarN.growE (vs := [.int .i64 0, .slice none 0 0]) (by first | exact varN_drew _ _ 26 | exact varN_drew2 _ _ 26 _) hgrow3 (by first | (simp; done) | (simp; omega)) (by first | omega | (simp; done) | (simp; omega)); try simp only [World.size_alloc] at hR))
                | (refine step_catN (by rfl) _ _ (by rfl) w20.heap.size (m + 1) (n - m) (n + 1) _ _ _ _ (es.take (m + 1)) (es.drop m) (by omega) (by rfl) (by repeat (first | with_reducible assumption | with_reducible refine ownN_drew ?_ | with_reducible refine ownN_alloc ?_)) (by rfl) l4 (kp_last (by assumption) m) (by omega) (kp_lo (by assumption)) ?_; intro g4 cap4 w'' hown4 hgrow4 hat4; have hg4 : w20.heap.size ≤ g4 := own_ge hown4 rfl; have hlt4 : g4 < w''.heap.size := rowLt hown4; (try simp at hat4); try (first | (have hR4 := VarN.growE hR hgrow4 (lt_of_cell (hR 0 _ rfl).1) (by omega)) | (have hR4 := VarN.growE (vs := [.int .i64 0, .slice none 0 0]) (VarN.new _ _ 26) hgrow4 (by simp) (by first | omega | (simp; omega)))); try (have r0 := (hR4 0 _ rfl).1; have r1 := (hR4 1 _ rfl).1; have rf0 := (hR4 0 _ rfl).2; have rf1 := (hR4 1 _ rfl).2)))
            all_goals
              rename_i hHeld
              have HW := hHeld
              go_wp2_with fail
              go_meet
              first
                | exact ⟨_, g4, cap4, rfl, (hR4.set (i := 0) _).set (i := 1) _, HL2.out ▸ own_ns (rowFar (rowFar hown4 (by omega) _) (by omega) _), HW⟩
                | exact ⟨_, g4, cap4, rfl, VarN.new _ [.int .i64 c, .slice (some ⟨g4, 0, none⟩) _ cap4] _, HL2.out ▸ own_ns (ownN_alloc hown4), HW⟩
          case rest =>
            obtain ⟨d2, g2, cap2, rfl, hv2, hn2, hS2⟩ := hcut
            rename World => w21
            clear hT2 B1
            have HB21 := Lib.hid (HB20.out.trans (hS2.2.2.2.mono HB20.out.size))
            have V1 := Lib.hid (V1.out.below hS2.2.2.2 d1lt)
            have N1 := Lib.hid (N1.out.below hS2.2.2.2)
            have V2 := Lib.hid hv2
            have N2 := Lib.hid hn2
            have d2lt : d2 < w21.heap.size := lt_of_cell (hv2 0 _ rfl).1
            clear hv2 hn2 hS2
            have x0 := (V1.out 0 _ rfl).1
            have x1 := (V1.out 1 _ rfl).1
            go_wp2_with fail
            refine (seenValid_any c _ (n - 1) cap1 L1 _ N1.out).mono ?_
            rw [seenV_yes ⟨HO.out.1, HX.out⟩]
            rintro e w22 ⟨rfl, hb22⟩
            have V2 := Lib.hid (V2.out.below hb22 d2lt)
            have N2 := Lib.hid (N2.out.below hb22)
            have HB22 := Lib.hid (HB21.out.trans (hb22.mono HB21.out.size))
            clear hb22 x0 x1
            have y0 := (V2.out 0 _ rfl).1
            have y1 := (V2.out 1 _ rfl).1
            go_wp2_with fail
            refine (seenValid_any c _ (n + 1) cap2 L2 _ N2.out).mono ?_
            rw [seenV_no fun h : SeenOk c L2 => HY.out h.2]
            rintro e w23 ⟨rfl, hb23⟩
            have HB23 := Lib.hid (HB22.out.trans (hb23.mono HB22.out.size))
            clear hb23
            go_wp2
            go_ret
            exact ⟨rfl, HB23.out⟩
    · have HV := Lib.hid (seenV_no hs)
      clear hs
      go_wp2_with fail
      refine (seenValid_any c a n cap es _ ((GA.out).below (below_box (.cells (List.toArray [.int .i64 c, .slice a n cap]) 26) (Nat.le_refl _)))).mono ?_
      rw [HV.out]
      rintro e w2 ⟨rfl, hb2⟩
      have Vs := Lib.hid ((VarN.new_at (w := w1) (d := w1.heap.size) (by simp) [.int .i64 c, .slice a n cap] 26).below hb2 (by simp))
      have HB2 := Lib.hid (((hb1).alloc (Nat.le_trans hb1.size (by exact Nat.le_refl _)) (.cells (List.toArray [.int .i64 c, .slice a n cap]) 26)).trans (hb2.mono (Nat.le_trans hb1.size (by simp <;> omega))))
      have lts : w1.heap.size < w2.heap.size := lt_of_cell (Vs.out 0 _ rfl).1
      have nes : ¬ w1.heap.size = w2.heap.size := by omega
      have GA := Lib.hid (((GA.out).below (below_box (.cells (List.toArray [.int .i64 c, .slice a n cap]) 26) (Nat.le_refl _))).below hb2)
      clear hb2
      have s0 := (Vs.out 0 _ rfl).1
      have sf0 := (Vs.out 0 _ rfl).2
      have s1 := (Vs.out 1 _ rfl).1
      have sf1 := (Vs.out 1 _ rfl).2
      go_wp2_with fail
      refine (sSeenValid_any c a n cap es _ GA.out).mono ?_
      rw [HV.out]
      rintro e w3 ⟨rfl, hb3⟩
      clear s0 sf0 s1 sf1
      have Vs := Lib.hid ((Vs.out).below hb3 lts)
      have HB3 := Lib.hid (HB2.out.trans (hb3.mono HB2.out.size))
      have lts : w1.heap.size < w3.heap.size := lt_of_cell (Vs.out 0 _ rfl).1
      have nes : ¬ w1.heap.size = w3.heap.size := by omega
      have GA := Lib.hid ((GA.out).below hb3)
      clear hb3
      have s0 := (Vs.out 0 _ rfl).1
      have sf0 := (Vs.out 0 _ rfl).2
      have s1 := (Vs.out 1 _ rfl).1
      have sf1 := (Vs.out 1 _ rfl).2
      go_wp2
      go_ret
      exact ⟨rfl, HB3.out⟩

end Go.Proofs.Ytcjabomcndahbaa
