/- The walk of the exact law on a part that is added. -/
import Derived.Deep.RegionHeldLaw
import Derived.Handy
import Derived.Test.YtncbgejggfkdmaaM8
namespace Go.Proofs.Ytncbgejggfkdmaa
open Go.RowKit Go.PlainAid

theorem own_box_ne {base e size n D e2 : Nat} {v : Value} {xs : List Value} {c : Array Value} {W : World} (h : W.ownsRow base e size v n xs) (hD : W.heap[D]? = some (.cells c e2 (0, 0))) (hne : e ≠ e2) : ∀ x, v.ownBlock = some x → x ≠ D := by
  intro x hx
  rcases h.2 with ⟨rfl, _⟩ | ⟨g, _, _, rfl, _, h3, _⟩
  · cases hx
  obtain rfl : g = x := by simpa [Value.ownBlock] using hx
  exact kind_ne h3 hD hne

set_option maxRecDepth 8000 in
set_option maxHeartbeats 4000000 in
theorem walk_fnExactAsmAdd (an : Option Addr) (ln cn : Nat) (es : List Int) (ap : Option Addr) (lp cp : Nat) (ps : List Part) (dt ds dq : Int) (dfi dla dlo : Bool) (dtx : ByteArray) (w1 : World) (hns : Ns w1 an ln cn es) (hpt : Pts w1 ap lp cp ps) (htx : ∀ p ∈ ps, p.text.size ≤ maxLen) (hky : ∀ p ∈ ps, Key p.tsn) (hdm : dtx.size ≤ 9223372036854775807) :
    Calls Try.prog 12 #[.agg #[.slice an ln cn, .slice ap lp cp], .agg #[.int .i64 dt, .int .i64 ds, .int .i64 dq, .bool dfi, .bool dla, .bool dlo, .string dtx]] w1 fun e w' => e = .returned (.bool true) ∧ Below w1.heap.size w1 w' := by
  have hb1 := Below.refl w1.heap.size w1
  have GA := Lib.hid hns
  have PA := Lib.hid hpt
  have LTA := Lib.hid hns.lts
  have LTP := Lib.hid hpt.lts
  have HTX := Lib.hid htx
  have HKY := Lib.hid hky
  clear hns hpt htx hky
  obtain ⟨⟨rn, rp, rm⟩, hr⟩ : ∃ r, ansR es ps ⟨dt, ds, dq, dfi, dla, dlo, dtx⟩ = r := ⟨_, rfl⟩
  obtain ⟨code, hc⟩ : ∃ c, ansC es ps ⟨dt, ds, dq, dfi, dla, dlo, dtx⟩ = c := ⟨_, rfl⟩
  have few := ansR_few hr
  obtain ⟨n1, hn1⟩ : ∃ n, rn.length = n := ⟨_, rfl⟩
  obtain ⟨n2, hn2⟩ : ∃ n, rp.length = n := ⟨_, rfl⟩
  obtain ⟨n3, hn3⟩ : ∃ n, rm.length = n := ⟨_, rfl⟩
  rw [hn1, hn2, hn3] at few
  have HR := Lib.hid hr
  have HC := Lib.hid hc
  have HLN := Lib.hid (And.intro hn1 (And.intro hn2 hn3))
  have hk1 : n1 ≤ 1048576 := by omega
  have hk2 : n2 ≤ 1048576 := by omega
  have hk3 : n3 ≤ 1048576 := by omega
  clear hr hc hn1 hn2 hn3
  go_enter Try.func12, Try.ntmps12
  go_wp2_with fail
  refine (szAssembly_b an ln cn es ap lp cp ps _ (((GA.out).below (below_box (.cells (List.toArray [.slice an ln cn, .slice ap lp cp]) 48) (Nat.le_refl _))).below (below_box (.cells (List.toArray [.int .i64 dt, .int .i64 ds, .int .i64 dq, .bool dfi, .bool dla, .bool dlo, .string dtx]) 49) (Nat.le_refl _))) (((PA.out).below (below_box (.cells (List.toArray [.slice an ln cn, .slice ap lp cp]) 48) (Nat.le_refl _))).below (below_box (.cells (List.toArray [.int .i64 dt, .int .i64 ds, .int .i64 dq, .bool dfi, .bool dla, .bool dlo, .string dtx]) 49) (Nat.le_refl _))) HTX.out).mono ?_
  rintro e w2 ⟨⟨z, rfl, hzz⟩, hb2⟩
  have Vp := Lib.hid (((VarN.new_at (w := w1) (d := w1.heap.size) (by simp) [.slice an ln cn, .slice ap lp cp] 48).alloc (.cells (List.toArray [.int .i64 dt, .int .i64 ds, .int .i64 dq, .bool dfi, .bool dla, .bool dlo, .string dtx]) 49) (by first | omega | (simp <;> omega))).below hb2 (by simp <;> omega))
  have Vu := Lib.hid ((VarN.new_at (w := (w1.alloc (.cells (List.toArray [.slice an ln cn, .slice ap lp cp]) 48))) (d := w1.heap.size + 1) (by simp) [.int .i64 dt, .int .i64 ds, .int .i64 dq, .bool dfi, .bool dla, .bool dlo, .string dtx] 49).below hb2 (by simp))
  have HB2 := Lib.hid ((((hb1).alloc (Nat.le_trans hb1.size (by exact Nat.le_refl _)) (.cells (List.toArray [.slice an ln cn, .slice ap lp cp]) 48)).alloc (Nat.le_trans hb1.size (by simp <;> omega)) (.cells (List.toArray [.int .i64 dt, .int .i64 ds, .int .i64 dq, .bool dfi, .bool dla, .bool dlo, .string dtx]) 49)).trans (hb2.mono (Nat.le_trans hb1.size (by simp <;> omega))))
  have ltp : w1.heap.size < w2.heap.size := lt_of_cell (Vp.out 0 _ rfl).1
  have ltu : w1.heap.size + 1 < w2.heap.size := lt_of_cell (Vu.out 0 _ rfl).1
  have nep : ¬ w1.heap.size = w2.heap.size := by omega
  have neu : ¬ w1.heap.size + 1 = w2.heap.size := by omega
  have GA := Lib.hid ((((GA.out).below (below_box (.cells (List.toArray [.slice an ln cn, .slice ap lp cp]) 48) (Nat.le_refl _))).below (below_box (.cells (List.toArray [.int .i64 dt, .int .i64 ds, .int .i64 dq, .bool dfi, .bool dla, .bool dlo, .string dtx]) 49) (Nat.le_refl _))).below hb2)
  have PA := Lib.hid ((((PA.out).below (below_box (.cells (List.toArray [.slice an ln cn, .slice ap lp cp]) 48) (Nat.le_refl _))).below (below_box (.cells (List.toArray [.int .i64 dt, .int .i64 ds, .int .i64 dq, .bool dfi, .bool dla, .bool dlo, .string dtx]) 49) (Nat.le_refl _))).below hb2)
  have hsz2 : w1.heap.size + 2 ≤ w2.heap.size := by have h := hb2.size; simp at h; omega
  clear hb2
  rcases hzz with rfl | ⟨y0, ym, y1, y2⟩
  · go_wp2
    go_ret
    exact ⟨rfl, HB2.out⟩
  · have yn : ¬ z < 0 := by omega
    have HLE := Lib.hid y1
    have HLP := Lib.hid y2
    have u0 := (Vu.out 0 _ rfl).1
    have uf0 := (Vu.out 0 _ rfl).2
    have u1 := (Vu.out 1 _ rfl).1
    have uf1 := (Vu.out 1 _ rfl).2
    have u2 := (Vu.out 2 _ rfl).1
    have uf2 := (Vu.out 2 _ rfl).2
    have u3 := (Vu.out 3 _ rfl).1
    have uf3 := (Vu.out 3 _ rfl).2
    have u4 := (Vu.out 4 _ rfl).1
    have uf4 := (Vu.out 4 _ rfl).2
    have u5 := (Vu.out 5 _ rfl).1
    have uf5 := (Vu.out 5 _ rfl).2
    have u6 := (Vu.out 6 _ rfl).1
    have uf6 := (Vu.out 6 _ rfl).2
    go_wp2_with fail
    refine (szDa_any dt ds dq dfi dla dlo dtx z _ y0 ym hdm).mono ?_
    rintro e w3 ⟨⟨zb, rfl, hzb⟩, hb3⟩
    clear u0 uf0 u1 uf1 u2 uf2 u3 uf3 u4 uf4 u5 uf5 u6 uf6
    have Vp := Lib.hid ((Vp.out).below hb3 ltp)
    have Vu := Lib.hid ((Vu.out).below hb3 ltu)
    have HB3 := Lib.hid (HB2.out.trans (hb3.mono HB2.out.size))
    have ltp : w1.heap.size < w3.heap.size := lt_of_cell (Vp.out 0 _ rfl).1
    have ltu : w1.heap.size + 1 < w3.heap.size := lt_of_cell (Vu.out 0 _ rfl).1
    have nep : ¬ w1.heap.size = w3.heap.size := by omega
    have neu : ¬ w1.heap.size + 1 = w3.heap.size := by omega
    have GA := Lib.hid ((GA.out).below hb3)
    have PA := Lib.hid ((PA.out).below hb3)
    have hsz3 : w2.heap.size + 0 ≤ w3.heap.size := by have h := hb3.size; omega
    clear hb3
    rcases hzb with rfl | ⟨yb, _⟩
    · go_wp2
      go_ret
      exact ⟨rfl, HB3.out⟩
    · have ybn : ¬ zb < 0 := by omega
      clear y0 ym y1 y2 yb
      have p0 := ((Vp.out) 0 _ rfl).1
      have p1 := ((Vp.out) 1 _ rfl).1
      have u0 := ((Vu.out) 0 _ rfl).1
      have u1 := ((Vu.out) 1 _ rfl).1
      have u2 := ((Vu.out) 2 _ rfl).1
      have u3 := ((Vu.out) 3 _ rfl).1
      have u4 := ((Vu.out) 4 _ rfl).1
      have u5 := ((Vu.out) 5 _ rfl).1
      have u6 := ((Vu.out) 6 _ rfl).1
      obtain ⟨N8, hN8⟩ : ∃ N, w3.heap.size = N := ⟨_, rfl⟩
      have HN8 := Lib.hid hN8
      clear hN8
      go_upto_region 8 with fail
      refine region_by 13 [30, 31, 32, 33, 34, 29, 35, 36, 37, 6, 0, 7, 8] 10 9 6 [0, 1, 2, 3, 4, 5, 6, 9] [5, 7, 8, 11, 12] [[], [0], [], [2], [1, 3], [4], [5], [5], [5], [], [9, 6], [7], [8]] (AddG ln lp es ps (.agg #[.slice an ln cn, .slice ap lp cp]) (.agg #[.int .i64 dt, .int .i64 ds, .int .i64 dq, .bool dfi, .bool dla, .bool dlo, .string dtx]) (N8) n1 n2 n3 rn rp rm code) (PutF (N8) n1 n2 rn rp) (N8) (w3) [30, 31, 32, 33, 34, 29, 35, 36, 37, 6, 7, 8] (by kernel_rfl) (by kernel_rfl) (by rfl) (fun k hk => Nat.lt_of_lt_of_le ((by decide : ∀ k ∈ [30, 31, 32, 33, 34, 29, 35, 36, 37, 6, 7, 8], k < 146) k hk) (by simp)) AddG.below (fun v W W' h hb => PutF.below h hb) (by rw [← HN8.out]; exact Below.drew (Below.refl _ _)) (Nat.le_of_eq HN8.out.symm) ?_ ?_ ?_
      · intro i b W hi hne hB hs hf hd
        match i, hi with
        | 0, _ =>
          have x2 : b.tmps[2]?.getD undef = .pointer (some ⟨w1.heap.size, 0, none⟩) := raw_of (k := 2) ((hf 2 (by decide)).trans rfl)
          have cp0 := (hB.cell (by rw [← HN8.out]; exact World.block_lt_of_cell? _ _ p0)).trans p0
          have cp1 := (hB.cell (by rw [← HN8.out]; exact World.block_lt_of_cell? _ _ p1)).trans p1
          refine wpOp_plain (by rfl) (by rfl) (Oper.wp_mono (K := fun b' w' => b' = b.put (some 30) (.agg #[.slice an ln cn, .slice ap lp cp]) ∧ w' = W) ?_ ?_)
          · rintro b' w' ⟨rfl, rfl⟩
            exact ⟨_, rfl, rfl, Below.refl _ _⟩
          · clear hd hs
            go_simp
        | 1, _ =>
          have x30 : b.tmps[30]?.getD undef = .agg #[.slice an ln cn, .slice ap lp cp] := raw_of (k := 30) (hd 0 (by kernel_rfl))
          have g1 := (GA.out).below (show Below w3.heap.size _ _ by rw [HN8.out]; exact hB)
          have g2 := (PA.out).below (show Below w3.heap.size _ _ by rw [HN8.out]; exact hB)
          refine wpOp_plain (by rfl) (by rfl) ?_
          clear hd hs
          go_simp
          go_at_call 27
          refine (toAssembly_any an ln cn es ap lp cp ps _ g1 g2 HLE.out HLP.out).mono ?_
          rintro e w' ⟨⟨d1, e1, rfl, ho1⟩, hbn⟩
          exact ⟨_, rfl, ⟨d1, e1, rfl, ho1.nsA, ho1.ptsA⟩, hbn⟩
        | 2, _ =>
          have x3 : b.tmps[3]?.getD undef = .pointer (some ⟨w1.heap.size + 1, 0, none⟩) := raw_of (k := 3) ((hf 3 (by decide)).trans rfl)
          have cu0 := (hB.cell (by rw [← HN8.out]; exact World.block_lt_of_cell? _ _ u0)).trans u0
          have cu1 := (hB.cell (by rw [← HN8.out]; exact World.block_lt_of_cell? _ _ u1)).trans u1
          have cu2 := (hB.cell (by rw [← HN8.out]; exact World.block_lt_of_cell? _ _ u2)).trans u2
          have cu3 := (hB.cell (by rw [← HN8.out]; exact World.block_lt_of_cell? _ _ u3)).trans u3
          have cu4 := (hB.cell (by rw [← HN8.out]; exact World.block_lt_of_cell? _ _ u4)).trans u4
          have cu5 := (hB.cell (by rw [← HN8.out]; exact World.block_lt_of_cell? _ _ u5)).trans u5
          have cu6 := (hB.cell (by rw [← HN8.out]; exact World.block_lt_of_cell? _ _ u6)).trans u6
          refine wpOp_plain (by rfl) (by rfl) (Oper.wp_mono (K := fun b' w' => b' = b.put (some 32) (.agg #[.int .i64 dt, .int .i64 ds, .int .i64 dq, .bool dfi, .bool dla, .bool dlo, .string dtx]) ∧ w' = W) ?_ ?_)
          · rintro b' w' ⟨rfl, rfl⟩
            exact ⟨_, rfl, rfl, Below.refl _ _⟩
          · clear hd hs
            go_simp
        | 3, _ =>
          have x32 : b.tmps[32]?.getD undef = .agg #[.int .i64 dt, .int .i64 ds, .int .i64 dq, .bool dfi, .bool dla, .bool dlo, .string dtx] := raw_of (k := 32) (hd 2 (by kernel_rfl))
          refine wpOp_plain (by rfl) (by rfl) ?_
          clear hd hs
          go_simp
          go_at_call 28
          refine (toDa_any dt ds dq dfi dla dlo dtx _).mono ?_
          rintro e w' ⟨rfl, hbn⟩
          exact ⟨_, rfl, rfl, hbn⟩
        | 4, _ =>
          obtain ⟨d1, e1, h31, g1, g2⟩ : CopF ln lp es ps (valsOf b 31) W := hd 1 (by kernel_rfl)
          have x31 : b.tmps[31]?.getD undef = .agg #[.slice (some ⟨d1, 0, none⟩) ln ln, .slice (some ⟨e1, 0, none⟩) lp lp] := raw_of (k := 31) (h31)
          have x33 : b.tmps[33]?.getD undef = .agg #[.int .i64 dt, .int .i64 ds, .int .i64 dq, .bool dfi, .bool dla, .bool dlo, .string dtx] := raw_of (k := 33) (hd 3 (by kernel_rfl))
          have hle : N8 ≤ W.heap.size := by rw [← HN8.out]; exact hB.size
          refine wpOp_plain (by rfl) (by rfl) ?_
          clear hd hs
          go_simp
          go_at_call 15
          refine (sAsmAdd_is _ ln ln es _ lp lp ps dt ds dq dfi dla dlo dtx _ g1 g2 HR.out HC.out HLN.out).mono ?_
          rintro e w' ⟨a1, c1, a2, c2, a3, c3, rfl, ⟨o1, o2, o3⟩, hbn⟩
          exact ⟨_, rfl, ⟨a1, c1, a2, c2, a3, c3, rfl, row_low o1 hle, row_low o2 hle, row_low o3 hle⟩, hbn⟩
        | 5, _ =>
          obtain ⟨a1, c1, a2, c2, a3, c3, ht, o1, o2, o3⟩ : TupF (N8) n1 n2 n3 rn rp rm code (valsOf b 34) W := hd 4 (by kernel_rfl)
          have x34 : b.tmps[34]?.getD undef = .tuple #[.agg #[.slice a1 n1 c1, .slice a2 n2 c2], .slice a3 n3 c3, .int .i64 code] := raw_of (k := 34) (ht)
          refine wpOp_plain (by rfl) (by rfl) (Oper.wp_mono (K := fun b' w' => b' = b.put (some 29) (.tuple #[.agg #[.slice a1 n1 c1, .slice a2 n2 c2], .slice a3 n3 c3, .int .i64 code]) ∧ w' = W) ?_ ?_)
          · rintro b' w' ⟨rfl, rfl⟩
            exact ⟨_, rfl, ⟨a1, c1, a2, c2, a3, c3, rfl, o1, o2, o3⟩, Below.refl _ _⟩
          · clear hd hs
            go_simp
        | 6, _ =>
          obtain ⟨a1, c1, a2, c2, a3, c3, ht, o1, o2, o3⟩ : TupF (N8) n1 n2 n3 rn rp rm code (valsOf b 29) W := hd 5 (by kernel_rfl)
          have x29 : b.tmps[29]?.getD undef = .tuple #[.agg #[.slice a1 n1 c1, .slice a2 n2 c2], .slice a3 n3 c3, .int .i64 code] := raw_of (k := 29) (ht)
          refine wpOp_plain (by rfl) (by rfl) (Oper.wp_mono (K := fun b' w' => b' = b.put (some 35) (.agg #[.slice a1 n1 c1, .slice a2 n2 c2]) ∧ w' = W) ?_ ?_)
          · rintro b' w' ⟨rfl, rfl⟩
            exact ⟨_, rfl, ⟨a1, c1, a2, c2, rfl, o1, o2⟩, Below.refl _ _⟩
          · clear hd hs
            go_simp
        | 7, _ =>
          obtain ⟨a1, c1, a2, c2, a3, c3, ht, o1, o2, o3⟩ : TupF (N8) n1 n2 n3 rn rp rm code (valsOf b 29) W := hd 5 (by kernel_rfl)
          have x29 : b.tmps[29]?.getD undef = .tuple #[.agg #[.slice a1 n1 c1, .slice a2 n2 c2], .slice a3 n3 c3, .int .i64 code] := raw_of (k := 29) (ht)
          refine wpOp_plain (by rfl) (by rfl) (Oper.wp_mono (K := fun b' w' => b' = b.put (some 36) (.slice a3 n3 c3) ∧ w' = W) ?_ ?_)
          · rintro b' w' ⟨rfl, rfl⟩
            exact ⟨_, rfl, ⟨a3, c3, rfl, o3⟩, Below.refl _ _⟩
          · clear hd hs
            go_simp
        | 8, _ =>
          obtain ⟨a1, c1, a2, c2, a3, c3, ht, o1, o2, o3⟩ : TupF (N8) n1 n2 n3 rn rp rm code (valsOf b 29) W := hd 5 (by kernel_rfl)
          have x29 : b.tmps[29]?.getD undef = .tuple #[.agg #[.slice a1 n1 c1, .slice a2 n2 c2], .slice a3 n3 c3, .int .i64 code] := raw_of (k := 29) (ht)
          refine wpOp_plain (by rfl) (by rfl) (Oper.wp_mono (K := fun b' w' => b' = b.put (some 37) (.int .i64 code) ∧ w' = W) ?_ ?_)
          · rintro b' w' ⟨rfl, rfl⟩
            exact ⟨_, rfl, rfl, Below.refl _ _⟩
          · clear hd hs
            go_simp
        | 9, _ =>
          have hle : N8 ≤ W.heap.size := by rw [← HN8.out]; exact hB.size
          refine wpOp_plain (by rfl) (by rfl) (Oper.wp_mono (K := fun b' w' => b' = b.put (some 6) (.pointer (some ⟨W.heap.size, 0, none⟩)) ∧ w' = W.alloc (.cells #[.slice none 0 0, .slice none 0 0] 26)) ?_ ?_)
          · rintro b' w' ⟨rfl, rfl⟩
            exact ⟨_, rfl, ⟨W.heap.size, _, _, rfl, hle, heap_alloc_new W _⟩, below_box _ (Nat.le_refl _)⟩
          · clear hd hs
            go_simp
        | 10, _ =>
          exact absurd rfl hne
        | 11, _ =>
          obtain ⟨a3, c3, ht, o3⟩ : MsgF (N8) n3 rm (valsOf b 36) W := hd 7 (by kernel_rfl)
          have x36 : b.tmps[36]?.getD undef = .slice a3 n3 c3 := raw_of (k := 36) (ht)
          refine wpOp_plain (by rfl) (by rfl) (Oper.wp_mono (K := fun b' w' => b' = b.put (some 7) (.slice a3 n3 c3) ∧ w' = W) ?_ ?_)
          · rintro b' w' ⟨rfl, rfl⟩
            exact ⟨_, rfl, ⟨a3, c3, rfl, o3⟩, Below.refl _ _⟩
          · clear hd hs
            go_simp
        | 12, _ =>
          have x37 : b.tmps[37]?.getD undef = .int .i64 code := raw_of (k := 37) (hd 8 (by kernel_rfl))
          refine wpOp_plain (by rfl) (by rfl) (Oper.wp_mono (K := fun b' w' => b' = b.put (some 8) (.int .i64 code) ∧ w' = W) ?_ ?_)
          · rintro b' w' ⟨rfl, rfl⟩
            exact ⟨_, rfl, rfl, Below.refl _ _⟩
          · clear hd hs
            go_simp
      · intro b W hB hf hga hgv
        obtain ⟨D, u, v, h6, hDn, hDb⟩ : BoxF (N8) (valsOf b 6) W := hga
        obtain ⟨a1, c1, a2, c2, h35, o1, o2⟩ : AggF (N8) n1 n2 rn rp (valsOf b 35) W := hgv
        have x6 : b.tmps[6]?.getD undef = .pointer (some ⟨D, 0, none⟩) := raw_of (k := 6) (h6)
        have x35 : b.tmps[35]?.getD undef = .agg #[.slice a1 n1 c1, .slice a2 n2 c2] := raw_of (k := 35) (h35)
        have c0 := Lib.cell_of_heap hDb 0
        have c1' := Lib.cell_of_heap hDb 1
        have q0 := Lib.frozen_of_heap hDb 0
        have q1 := Lib.frozen_of_heap hDb 1
        change W.cell? _ = some u at c0
        change W.cell? _ = some v at c1'
        refine wpOp_plain (by rfl) (by rfl) (Oper.wp_mono (K := fun b' w' => b' = b ∧ w' = (W.setCell ⟨D, 0, none⟩ (.slice a1 n1 c1)).setCell ⟨D, 1, none⟩ (.slice a2 n2 c2)) ?_ ?_)
        · rintro b' w' ⟨rfl, rfl⟩
          refine ⟨rfl, ?_, (hB.setCell (p := ⟨D, 0, none⟩) hDn _).setCell (p := ⟨D, 1, none⟩) hDn _, ?_⟩
          · show PutF _ n1 n2 rn rp (valsOf b' 6) _
            rw [h6]
            exact AggF.put o1 o2 hDn hDb
          · intro k y hk hkeep hg
            have hk2 : k = 5 ∨ k = 7 ∨ k = 8 ∨ k = 11 ∨ k = 12 := by
              revert hkeep
              clear hg
              match k, hk with
              | 0, _ => intro h; exact absurd h (by decide)
              | 1, _ => intro h; exact absurd h (by decide)
              | 2, _ => intro h; exact absurd h (by decide)
              | 3, _ => intro h; exact absurd h (by decide)
              | 4, _ => intro h; exact absurd h (by decide)
              | 5, _ => intro _; decide
              | 6, _ => intro h; exact absurd h (by decide)
              | 7, _ => intro _; decide
              | 8, _ => intro _; decide
              | 9, _ => intro h; exact absurd h (by decide)
              | 10, _ => intro h; exact absurd h (by decide)
              | 11, _ => intro _; decide
              | 12, _ => intro _; decide
            rcases hk2 with rfl | rfl | rfl | rfl | rfl
            · exact TupF.fill hg hDb
            · exact MsgF.fill hg hDb
            · exact hg
            · exact MsgF.fill hg hDb
            · exact hg
        · clear h6 h35
          go_simp
      intro V w4 hb4 hk h2
      obtain ⟨Dw, aw1, cw1, aw2, cw2, e6, hDn, hDb, o1, o2⟩ : PutF (N8) n1 n2 rn rp (V 6) w4 := h2
      obtain ⟨aw3, cw3, e7, o3⟩ : MsgF (N8) n3 rm (V 7) w4 := hk 11 (by decide) (by decide) (by decide)
      have e8 : V 8 = .int .i64 code := hk 12 (by decide) (by decide) (by decide)
      simp only [List.foldl, Act.put, List.setIfInBounds_toArray, List.set_cons_zero, List.set_cons_succ]
      rw [e6, e7, e8]
      rw [← HN8.out] at hb4
      have eN8 : N8 ≤ w3.heap.size + 0 := by rw [← HN8.out]; first | exact Nat.le_refl _ | (simp; done)
      have fN8 : w3.heap.size + 0 ≤ N8 := by rw [← HN8.out]; first | exact Nat.le_refl _ | (simp; done)
      generalize V 30 = zw30
      generalize V 31 = zw31
      generalize V 32 = zw32
      generalize V 33 = zw33
      generalize V 34 = zw34
      generalize V 29 = zw29
      generalize V 35 = zw35
      generalize V 36 = zw36
      generalize V 37 = zw37
      clear hk e6 e7 e8
      clear p0 p1 u0 u1 u2 u3 u4 u5 u6
      have Vp := Lib.hid ((Vp.out).below hb4 ltp)
      have Vu := Lib.hid ((Vu.out).below hb4 ltu)
      have HB4 := Lib.hid (HB3.out.trans (hb4.mono HB3.out.size))
      have ltp : w1.heap.size < w4.heap.size := lt_of_cell (Vp.out 0 _ rfl).1
      have ltu : w1.heap.size + 1 < w4.heap.size := lt_of_cell (Vu.out 0 _ rfl).1
      have nep : ¬ w1.heap.size = w4.heap.size := by omega
      have neu : ¬ w1.heap.size + 1 = w4.heap.size := by omega
      have GA := Lib.hid ((GA.out).below hb4)
      have PA := Lib.hid ((PA.out).below hb4)
      have hsz4 : w3.heap.size + 0 ≤ w4.heap.size := by have h := hb4.size; omega
      clear hb4
      have Vv := Lib.hid (show VarN Dw [.slice aw1 n1 cw1, .slice aw2 n2 cw2] w4 from var_of_heap hDb)
      have ltv : Dw < w4.heap.size := lt_of_cell (Vv.out 0 _ rfl).1
      have nev : ¬ Dw = w4.heap.size := by omega
      have GW := Lib.hid (own_ns o1)
      have PW := Lib.hid (own_pts o2)
      have MW := Lib.hid (own_mgs o3)
      have LGW := Lib.hid GW.out.lts
      have LPW := Lib.hid PW.out.lts
      have LMW := Lib.hid MW.out.lts
      clear o1 o2 o3 hDn hDb
      have p0 := (Vp.out 0 _ rfl).1
      have pf0 := (Vp.out 0 _ rfl).2
      have p1 := (Vp.out 1 _ rfl).1
      have pf1 := (Vp.out 1 _ rfl).2
      go_wp2_with fail
      refine (toAssembly_any an ln cn es ap lp cp ps _ GA.out PA.out HLE.out HLP.out).mono ?_
      rintro e w5 ⟨⟨cd2, ce2, rfl, ho2⟩, hb5⟩
      clear p0 pf0 p1 pf1
      have Vp := Lib.hid ((Vp.out).below hb5 ltp)
      have Vu := Lib.hid ((Vu.out).below hb5 ltu)
      have Vv := Lib.hid ((Vv.out).below hb5 ltv)
      have HB5 := Lib.hid (HB4.out.trans (hb5.mono HB4.out.size))
      have ltp : w1.heap.size < w5.heap.size := lt_of_cell (Vp.out 0 _ rfl).1
      have ltu : w1.heap.size + 1 < w5.heap.size := lt_of_cell (Vu.out 0 _ rfl).1
      have ltv : Dw < w5.heap.size := lt_of_cell (Vv.out 0 _ rfl).1
      have nep : ¬ w1.heap.size = w5.heap.size := by omega
      have neu : ¬ w1.heap.size + 1 = w5.heap.size := by omega
      have nev : ¬ Dw = w5.heap.size := by omega
      have GA := Lib.hid ((GA.out).below hb5)
      have PA := Lib.hid ((PA.out).below hb5)
      have GW := Lib.hid ((GW.out).below hb5)
      have PW := Lib.hid ((PW.out).below hb5)
      have MW := Lib.hid ((MW.out).below hb5)
      have hsz5 : w4.heap.size + 0 ≤ w5.heap.size := by have h := hb5.size; omega
      clear hb5
      have OA := Lib.hid ho2
      have l1 : w4.heap.size ≤ cd2 := ho2.lo.1
      have l2 : w4.heap.size ≤ ce2 := ho2.lo.2
      have l3 : cd2 < w5.heap.size := ho2.zn
      have l4 : ce2 < w5.heap.size := ho2.zp
      clear ho2
      have u0 := (((Vu.out).alloc (.cells (List.toArray [.slice (some ⟨cd2, 0, none⟩) ln ln, .slice (some ⟨ce2, 0, none⟩) lp lp]) 26) (by omega)) 0 _ rfl).1
      have u1 := (((Vu.out).alloc (.cells (List.toArray [.slice (some ⟨cd2, 0, none⟩) ln ln, .slice (some ⟨ce2, 0, none⟩) lp lp]) 26) (by omega)) 1 _ rfl).1
      have u2 := (((Vu.out).alloc (.cells (List.toArray [.slice (some ⟨cd2, 0, none⟩) ln ln, .slice (some ⟨ce2, 0, none⟩) lp lp]) 26) (by omega)) 2 _ rfl).1
      have u3 := (((Vu.out).alloc (.cells (List.toArray [.slice (some ⟨cd2, 0, none⟩) ln ln, .slice (some ⟨ce2, 0, none⟩) lp lp]) 26) (by omega)) 3 _ rfl).1
      have u4 := (((Vu.out).alloc (.cells (List.toArray [.slice (some ⟨cd2, 0, none⟩) ln ln, .slice (some ⟨ce2, 0, none⟩) lp lp]) 26) (by omega)) 4 _ rfl).1
      have u5 := (((Vu.out).alloc (.cells (List.toArray [.slice (some ⟨cd2, 0, none⟩) ln ln, .slice (some ⟨ce2, 0, none⟩) lp lp]) 26) (by omega)) 5 _ rfl).1
      have u6 := (((Vu.out).alloc (.cells (List.toArray [.slice (some ⟨cd2, 0, none⟩) ln ln, .slice (some ⟨ce2, 0, none⟩) lp lp]) 26) (by omega)) 6 _ rfl).1
      have x0 := ((VarN.new w5 [.slice (some ⟨cd2, 0, none⟩) ln ln, .slice (some ⟨ce2, 0, none⟩) lp lp] 26) 0 _ rfl).1
      have x1 := ((VarN.new w5 [.slice (some ⟨cd2, 0, none⟩) ln ln, .slice (some ⟨ce2, 0, none⟩) lp lp] 26) 1 _ rfl).1
      obtain ⟨N10, hN10⟩ : ∃ N, (w5.alloc (.cells (List.toArray [.slice (some ⟨cd2, 0, none⟩) ln ln, .slice (some ⟨ce2, 0, none⟩) lp lp]) 26)).heap.size = N := ⟨_, rfl⟩
      have HN10 := Lib.hid hN10
      clear hN10
      go_upto_region 10 with fail
      refine region_by 12 [41, 42, 43, 44, 40, 45, 46, 47, 10, 0, 11, 12] 9 8 5 [0, 1, 2, 3, 4, 5, 8] [4, 6, 7, 10, 11] [[], [], [1], [0, 2], [3], [4], [4], [4], [], [8, 5], [6], [7]] (fun i => (AddG ln lp es ps (.agg #[.slice (some ⟨cd2, 0, none⟩) ln ln, .slice (some ⟨ce2, 0, none⟩) lp lp]) (.agg #[.int .i64 dt, .int .i64 ds, .int .i64 dq, .bool dfi, .bool dla, .bool dlo, .string dtx]) (N10) n1 n2 n3 rn rp rm code) (if i = 0 then 0 else i + 1)) (PutF (N10) n1 n2 rn rp) (N10) ((w5.alloc (.cells (List.toArray [.slice (some ⟨cd2, 0, none⟩) ln ln, .slice (some ⟨ce2, 0, none⟩) lp lp]) 26))) [41, 42, 43, 44, 40, 45, 46, 47, 10, 11, 12] (by kernel_rfl) (by kernel_rfl) (by rfl) (fun k hk => Nat.lt_of_lt_of_le ((by decide : ∀ k ∈ [41, 42, 43, 44, 40, 45, 46, 47, 10, 11, 12], k < 146) k hk) (by simp)) (fun i v W W' h hb => AddG.below _ v W W' h hb) (fun v W W' h hb => PutF.below h hb) (by rw [← HN10.out]; exact Below.drew (Below.refl _ _)) (Nat.le_of_eq HN10.out.symm) ?_ ?_ ?_
      · intro i b W hi hne hB hs hf hd
        match i, hi with
        | 0, _ =>
          have x9 : b.tmps[9]?.getD undef = .pointer (some ⟨w5.heap.size, 0, none⟩) := raw_of (k := 9) ((hf 9 (by decide)).trans rfl)
          have cx0 := (hB.cell (by rw [← HN10.out]; exact World.block_lt_of_cell? _ _ x0)).trans x0
          have cx1 := (hB.cell (by rw [← HN10.out]; exact World.block_lt_of_cell? _ _ x1)).trans x1
          refine wpOp_plain (by rfl) (by rfl) (Oper.wp_mono (K := fun b' w' => b' = b.put (some 41) (.agg #[.slice (some ⟨cd2, 0, none⟩) ln ln, .slice (some ⟨ce2, 0, none⟩) lp lp]) ∧ w' = W) ?_ ?_)
          · rintro b' w' ⟨rfl, rfl⟩
            exact ⟨_, rfl, rfl, Below.refl _ _⟩
          · clear hd hs
            go_simp
        | 1, _ =>
          have x3 : b.tmps[3]?.getD undef = .pointer (some ⟨w1.heap.size + 1, 0, none⟩) := raw_of (k := 3) ((hf 3 (by decide)).trans rfl)
          have cu0 := (hB.cell (by rw [← HN10.out]; exact World.block_lt_of_cell? _ _ u0)).trans u0
          have cu1 := (hB.cell (by rw [← HN10.out]; exact World.block_lt_of_cell? _ _ u1)).trans u1
          have cu2 := (hB.cell (by rw [← HN10.out]; exact World.block_lt_of_cell? _ _ u2)).trans u2
          have cu3 := (hB.cell (by rw [← HN10.out]; exact World.block_lt_of_cell? _ _ u3)).trans u3
          have cu4 := (hB.cell (by rw [← HN10.out]; exact World.block_lt_of_cell? _ _ u4)).trans u4
          have cu5 := (hB.cell (by rw [← HN10.out]; exact World.block_lt_of_cell? _ _ u5)).trans u5
          have cu6 := (hB.cell (by rw [← HN10.out]; exact World.block_lt_of_cell? _ _ u6)).trans u6
          refine wpOp_plain (by rfl) (by rfl) (Oper.wp_mono (K := fun b' w' => b' = b.put (some 42) (.agg #[.int .i64 dt, .int .i64 ds, .int .i64 dq, .bool dfi, .bool dla, .bool dlo, .string dtx]) ∧ w' = W) ?_ ?_)
          · rintro b' w' ⟨rfl, rfl⟩
            exact ⟨_, rfl, rfl, Below.refl _ _⟩
          · clear hd hs
            go_simp
        | 2, _ =>
          have x42 : b.tmps[42]?.getD undef = .agg #[.int .i64 dt, .int .i64 ds, .int .i64 dq, .bool dfi, .bool dla, .bool dlo, .string dtx] := raw_of (k := 42) (hd 1 (by kernel_rfl))
          refine wpOp_plain (by rfl) (by rfl) ?_
          clear hd hs
          go_simp
          go_at_call 28
          refine (toDa_any dt ds dq dfi dla dlo dtx _).mono ?_
          rintro e w' ⟨rfl, hbn⟩
          exact ⟨_, rfl, rfl, hbn⟩
        | 3, _ =>
          have g1 := (((OA.out).below (below_box (.cells (List.toArray [.slice (some ⟨cd2, 0, none⟩) ln ln, .slice (some ⟨ce2, 0, none⟩) lp lp]) 26) (Nat.le_refl _)))).nsA.below (show Below (w5.alloc (.cells (List.toArray [.slice (some ⟨cd2, 0, none⟩) ln ln, .slice (some ⟨ce2, 0, none⟩) lp lp]) 26)).heap.size _ _ by rw [HN10.out]; exact hB)
          have g2 := (((OA.out).below (below_box (.cells (List.toArray [.slice (some ⟨cd2, 0, none⟩) ln ln, .slice (some ⟨ce2, 0, none⟩) lp lp]) 26) (Nat.le_refl _)))).ptsA.below (show Below (w5.alloc (.cells (List.toArray [.slice (some ⟨cd2, 0, none⟩) ln ln, .slice (some ⟨ce2, 0, none⟩) lp lp]) 26)).heap.size _ _ by rw [HN10.out]; exact hB)
          have x41 : b.tmps[41]?.getD undef = .agg #[.slice (some ⟨cd2, 0, none⟩) ln ln, .slice (some ⟨ce2, 0, none⟩) lp lp] := raw_of (k := 41) (hd 0 (by kernel_rfl))
          have x43 : b.tmps[43]?.getD undef = .agg #[.int .i64 dt, .int .i64 ds, .int .i64 dq, .bool dfi, .bool dla, .bool dlo, .string dtx] := raw_of (k := 43) (hd 2 (by kernel_rfl))
          have hle : N10 ≤ W.heap.size := by rw [← HN10.out]; exact hB.size
          refine wpOp_plain (by rfl) (by rfl) ?_
          clear hd hs
          go_simp
          go_at_call 14
          refine (asmAdd_is _ ln ln es _ lp lp ps dt ds dq dfi dla dlo dtx _ g1 g2 HKY.out HR.out HC.out HLN.out).mono ?_
          rintro e w' ⟨a1, c1, a2, c2, a3, c3, rfl, ⟨o1, o2, o3⟩, hbn⟩
          exact ⟨_, rfl, ⟨a1, c1, a2, c2, a3, c3, rfl, row_low o1 hle, row_low o2 hle, row_low o3 hle⟩, hbn⟩
        | 4, _ =>
          obtain ⟨a1, c1, a2, c2, a3, c3, ht, o1, o2, o3⟩ : TupF (N10) n1 n2 n3 rn rp rm code (valsOf b 44) W := hd 3 (by kernel_rfl)
          have x44 : b.tmps[44]?.getD undef = .tuple #[.agg #[.slice a1 n1 c1, .slice a2 n2 c2], .slice a3 n3 c3, .int .i64 code] := raw_of (k := 44) (ht)
          refine wpOp_plain (by rfl) (by rfl) (Oper.wp_mono (K := fun b' w' => b' = b.put (some 40) (.tuple #[.agg #[.slice a1 n1 c1, .slice a2 n2 c2], .slice a3 n3 c3, .int .i64 code]) ∧ w' = W) ?_ ?_)
          · rintro b' w' ⟨rfl, rfl⟩
            exact ⟨_, rfl, ⟨a1, c1, a2, c2, a3, c3, rfl, o1, o2, o3⟩, Below.refl _ _⟩
          · clear hd hs
            go_simp
        | 5, _ =>
          obtain ⟨a1, c1, a2, c2, a3, c3, ht, o1, o2, o3⟩ : TupF (N10) n1 n2 n3 rn rp rm code (valsOf b 40) W := hd 4 (by kernel_rfl)
          have x40 : b.tmps[40]?.getD undef = .tuple #[.agg #[.slice a1 n1 c1, .slice a2 n2 c2], .slice a3 n3 c3, .int .i64 code] := raw_of (k := 40) (ht)
          refine wpOp_plain (by rfl) (by rfl) (Oper.wp_mono (K := fun b' w' => b' = b.put (some 45) (.agg #[.slice a1 n1 c1, .slice a2 n2 c2]) ∧ w' = W) ?_ ?_)
          · rintro b' w' ⟨rfl, rfl⟩
            exact ⟨_, rfl, ⟨a1, c1, a2, c2, rfl, o1, o2⟩, Below.refl _ _⟩
          · clear hd hs
            go_simp
        | 6, _ =>
          obtain ⟨a1, c1, a2, c2, a3, c3, ht, o1, o2, o3⟩ : TupF (N10) n1 n2 n3 rn rp rm code (valsOf b 40) W := hd 4 (by kernel_rfl)
          have x40 : b.tmps[40]?.getD undef = .tuple #[.agg #[.slice a1 n1 c1, .slice a2 n2 c2], .slice a3 n3 c3, .int .i64 code] := raw_of (k := 40) (ht)
          refine wpOp_plain (by rfl) (by rfl) (Oper.wp_mono (K := fun b' w' => b' = b.put (some 46) (.slice a3 n3 c3) ∧ w' = W) ?_ ?_)
          · rintro b' w' ⟨rfl, rfl⟩
            exact ⟨_, rfl, ⟨a3, c3, rfl, o3⟩, Below.refl _ _⟩
          · clear hd hs
            go_simp
        | 7, _ =>
          obtain ⟨a1, c1, a2, c2, a3, c3, ht, o1, o2, o3⟩ : TupF (N10) n1 n2 n3 rn rp rm code (valsOf b 40) W := hd 4 (by kernel_rfl)
          have x40 : b.tmps[40]?.getD undef = .tuple #[.agg #[.slice a1 n1 c1, .slice a2 n2 c2], .slice a3 n3 c3, .int .i64 code] := raw_of (k := 40) (ht)
          refine wpOp_plain (by rfl) (by rfl) (Oper.wp_mono (K := fun b' w' => b' = b.put (some 47) (.int .i64 code) ∧ w' = W) ?_ ?_)
          · rintro b' w' ⟨rfl, rfl⟩
            exact ⟨_, rfl, rfl, Below.refl _ _⟩
          · clear hd hs
            go_simp
        | 8, _ =>
          have hle : N10 ≤ W.heap.size := by rw [← HN10.out]; exact hB.size
          refine wpOp_plain (by rfl) (by rfl) (Oper.wp_mono (K := fun b' w' => b' = b.put (some 10) (.pointer (some ⟨W.heap.size, 0, none⟩)) ∧ w' = W.alloc (.cells #[.slice none 0 0, .slice none 0 0] 26)) ?_ ?_)
          · rintro b' w' ⟨rfl, rfl⟩
            exact ⟨_, rfl, ⟨W.heap.size, _, _, rfl, hle, heap_alloc_new W _⟩, below_box _ (Nat.le_refl _)⟩
          · clear hd hs
            go_simp
        | 9, _ =>
          exact absurd rfl hne
        | 10, _ =>
          obtain ⟨a3, c3, ht, o3⟩ : MsgF (N10) n3 rm (valsOf b 46) W := hd 6 (by kernel_rfl)
          have x46 : b.tmps[46]?.getD undef = .slice a3 n3 c3 := raw_of (k := 46) (ht)
          refine wpOp_plain (by rfl) (by rfl) (Oper.wp_mono (K := fun b' w' => b' = b.put (some 11) (.slice a3 n3 c3) ∧ w' = W) ?_ ?_)
          · rintro b' w' ⟨rfl, rfl⟩
            exact ⟨_, rfl, ⟨a3, c3, rfl, o3⟩, Below.refl _ _⟩
          · clear hd hs
            go_simp
        | 11, _ =>
          have x47 : b.tmps[47]?.getD undef = .int .i64 code := raw_of (k := 47) (hd 7 (by kernel_rfl))
          refine wpOp_plain (by rfl) (by rfl) (Oper.wp_mono (K := fun b' w' => b' = b.put (some 12) (.int .i64 code) ∧ w' = W) ?_ ?_)
          · rintro b' w' ⟨rfl, rfl⟩
            exact ⟨_, rfl, rfl, Below.refl _ _⟩
          · clear hd hs
            go_simp
      · intro b W hB hf hga hgv
        obtain ⟨D, u, v, h6, hDn, hDb⟩ : BoxF (N10) (valsOf b 10) W := hga
        obtain ⟨a1, c1, a2, c2, h35, o1, o2⟩ : AggF (N10) n1 n2 rn rp (valsOf b 45) W := hgv
        have x10 : b.tmps[10]?.getD undef = .pointer (some ⟨D, 0, none⟩) := raw_of (k := 10) (h6)
        have x45 : b.tmps[45]?.getD undef = .agg #[.slice a1 n1 c1, .slice a2 n2 c2] := raw_of (k := 45) (h35)
        have c0 := Lib.cell_of_heap hDb 0
        have c1' := Lib.cell_of_heap hDb 1
        have q0 := Lib.frozen_of_heap hDb 0
        have q1 := Lib.frozen_of_heap hDb 1
        change W.cell? _ = some u at c0
        change W.cell? _ = some v at c1'
        refine wpOp_plain (by rfl) (by rfl) (Oper.wp_mono (K := fun b' w' => b' = b ∧ w' = (W.setCell ⟨D, 0, none⟩ (.slice a1 n1 c1)).setCell ⟨D, 1, none⟩ (.slice a2 n2 c2)) ?_ ?_)
        · rintro b' w' ⟨rfl, rfl⟩
          refine ⟨rfl, ?_, (hB.setCell (p := ⟨D, 0, none⟩) hDn _).setCell (p := ⟨D, 1, none⟩) hDn _, ?_⟩
          · show PutF _ n1 n2 rn rp (valsOf b' 10) _
            rw [h6]
            exact AggF.put o1 o2 hDn hDb
          · intro k y hk hkeep hg
            have hk2 : k = 4 ∨ k = 6 ∨ k = 7 ∨ k = 10 ∨ k = 11 := by
              revert hkeep
              clear hg
              match k, hk with
              | 0, _ => intro h; exact absurd h (by decide)
              | 1, _ => intro h; exact absurd h (by decide)
              | 2, _ => intro h; exact absurd h (by decide)
              | 3, _ => intro h; exact absurd h (by decide)
              | 4, _ => intro _; decide
              | 5, _ => intro h; exact absurd h (by decide)
              | 6, _ => intro _; decide
              | 7, _ => intro _; decide
              | 8, _ => intro h; exact absurd h (by decide)
              | 9, _ => intro h; exact absurd h (by decide)
              | 10, _ => intro _; decide
              | 11, _ => intro _; decide
            rcases hk2 with rfl | rfl | rfl | rfl | rfl
            · exact TupF.fill hg hDb
            · exact MsgF.fill hg hDb
            · exact hg
            · exact MsgF.fill hg hDb
            · exact hg
        · clear h6 h35
          go_simp
      intro V w6 hb6 hk h2
      obtain ⟨Dg, ag1, cg1, ag2, cg2, e6, hDn, hDb, o1, o2⟩ : PutF (N10) n1 n2 rn rp (V 10) w6 := h2
      obtain ⟨ag3, cg3, e7, o3⟩ : MsgF (N10) n3 rm (V 11) w6 := hk 10 (by decide) (by decide) (by decide)
      have e8 : V 12 = .int .i64 code := hk 11 (by decide) (by decide) (by decide)
      simp only [List.foldl, Act.put, List.setIfInBounds_toArray, List.set_cons_zero, List.set_cons_succ]
      rw [e6, e7, e8]
      rw [← HN10.out] at hb6
      have eN10 : N10 ≤ w5.heap.size + 1 := by rw [← HN10.out]; first | exact Nat.le_refl _ | (simp; done)
      have fN10 : w5.heap.size + 1 ≤ N10 := by rw [← HN10.out]; first | exact Nat.le_refl _ | (simp; done)
      generalize V 41 = zg41
      generalize V 42 = zg42
      generalize V 43 = zg43
      generalize V 44 = zg44
      generalize V 40 = zg40
      generalize V 45 = zg45
      generalize V 46 = zg46
      generalize V 47 = zg47
      clear hk e6 e7 e8
      clear u0 u1 u2 u3 u4 u5 u6 x0 x1
      have Vp := Lib.hid (((Vp.out).alloc (.cells (List.toArray [.slice (some ⟨cd2, 0, none⟩) ln ln, .slice (some ⟨ce2, 0, none⟩) lp lp]) 26) (by omega)).below hb6 (by simp; omega))
      have Vu := Lib.hid (((Vu.out).alloc (.cells (List.toArray [.slice (some ⟨cd2, 0, none⟩) ln ln, .slice (some ⟨ce2, 0, none⟩) lp lp]) 26) (by omega)).below hb6 (by simp; omega))
      have Vv := Lib.hid (((Vv.out).alloc (.cells (List.toArray [.slice (some ⟨cd2, 0, none⟩) ln ln, .slice (some ⟨ce2, 0, none⟩) lp lp]) 26) (by omega)).below hb6 (by simp; omega))
      have Vx := Lib.hid ((VarN.new_at (w := w5) (d := w5.heap.size) (by simp) [.slice (some ⟨cd2, 0, none⟩) ln ln, .slice (some ⟨ce2, 0, none⟩) lp lp] 26).below hb6 (by simp))
      have HB6 := Lib.hid (((HB5.out).alloc (Nat.le_trans HB5.out.size (by exact Nat.le_refl _)) (.cells (List.toArray [.slice (some ⟨cd2, 0, none⟩) ln ln, .slice (some ⟨ce2, 0, none⟩) lp lp]) 26)).trans (hb6.mono (Nat.le_trans HB5.out.size (by simp <;> omega))))
      have ltp : w1.heap.size < w6.heap.size := lt_of_cell (Vp.out 0 _ rfl).1
      have ltu : w1.heap.size + 1 < w6.heap.size := lt_of_cell (Vu.out 0 _ rfl).1
      have ltv : Dw < w6.heap.size := lt_of_cell (Vv.out 0 _ rfl).1
      have ltx : w5.heap.size < w6.heap.size := lt_of_cell (Vx.out 0 _ rfl).1
      have nep : ¬ w1.heap.size = w6.heap.size := by omega
      have neu : ¬ w1.heap.size + 1 = w6.heap.size := by omega
      have nev : ¬ Dw = w6.heap.size := by omega
      have nex : ¬ w5.heap.size = w6.heap.size := by omega
      have GA := Lib.hid (((GA.out).below (below_box (.cells (List.toArray [.slice (some ⟨cd2, 0, none⟩) ln ln, .slice (some ⟨ce2, 0, none⟩) lp lp]) 26) (Nat.le_refl _))).below hb6)
      have PA := Lib.hid (((PA.out).below (below_box (.cells (List.toArray [.slice (some ⟨cd2, 0, none⟩) ln ln, .slice (some ⟨ce2, 0, none⟩) lp lp]) 26) (Nat.le_refl _))).below hb6)
      have GW := Lib.hid (((GW.out).below (below_box (.cells (List.toArray [.slice (some ⟨cd2, 0, none⟩) ln ln, .slice (some ⟨ce2, 0, none⟩) lp lp]) 26) (Nat.le_refl _))).below hb6)
      have PW := Lib.hid (((PW.out).below (below_box (.cells (List.toArray [.slice (some ⟨cd2, 0, none⟩) ln ln, .slice (some ⟨ce2, 0, none⟩) lp lp]) 26) (Nat.le_refl _))).below hb6)
      have MW := Lib.hid (((MW.out).below (below_box (.cells (List.toArray [.slice (some ⟨cd2, 0, none⟩) ln ln, .slice (some ⟨ce2, 0, none⟩) lp lp]) 26) (Nat.le_refl _))).below hb6)
      have OA := Lib.hid (((OA.out).below (below_box (.cells (List.toArray [.slice (some ⟨cd2, 0, none⟩) ln ln, .slice (some ⟨ce2, 0, none⟩) lp lp]) 26) (Nat.le_refl _))).below hb6)
      have hsz6 : w5.heap.size + 1 ≤ w6.heap.size := by have h := hb6.size; simp at h; omega
      clear hb6
      have Vg := Lib.hid (show VarN Dg [.slice ag1 n1 cg1, .slice ag2 n2 cg2] w6 from var_of_heap hDb)
      have ltg : Dg < w6.heap.size := lt_of_cell (Vg.out 0 _ rfl).1
      have neg : ¬ Dg = w6.heap.size := by omega
      have RN := Lib.hid o1
      have RP := Lib.hid o2
      have RM := Lib.hid o3
      have HBN := Lib.hid (fun x (hx : (Value.slice ag1 n1 cg1).ownBlock = some x) => row_lt o1 hx)
      have HBP := Lib.hid (fun x (hx : (Value.slice ag2 n2 cg2).ownBlock = some x) => row_lt o2 hx)
      have HBM := Lib.hid (fun x (hx : (Value.slice ag3 n3 cg3).ownBlock = some x) => row_lt o3 hx)
      have NE1 := Lib.hid (own_box_ne o1 hDb (by decide))
      have NE2 := Lib.hid (own_box_ne o2 hDb (by decide))
      have NE3 := Lib.hid (own_box_ne o3 hDb (by decide))
      have lC : N10 ≤ Dg := hDn
      clear o1 o2 o3 hDn hDb
      have v0 := (Vv.out 0 _ rfl).1
      have vf0 := (Vv.out 0 _ rfl).2
      have v1 := (Vv.out 1 _ rfl).1
      have vf1 := (Vv.out 1 _ rfl).2
      have g0 := (Vg.out 0 _ rfl).1
      have gf0 := (Vg.out 0 _ rfl).2
      have g1 := (Vg.out 1 _ rfl).1
      have gf1 := (Vg.out 1 _ rfl).2
      go_wp2_with fail
      refine (eqAssembly_same _ _ _ _ n1 cg1 cw1 n2 cg2 cw2 rn rp _ (own_ns (RN.out)) GW.out (own_pts (RP.out)) PW.out).mono ?_
      rintro e w7 ⟨rfl, hb7⟩
      clear v0 vf0 v1 vf1 g0 gf0 g1 gf1
      have Vp := Lib.hid ((Vp.out).below hb7 ltp)
      have Vu := Lib.hid ((Vu.out).below hb7 ltu)
      have Vv := Lib.hid ((Vv.out).below hb7 ltv)
      have Vx := Lib.hid ((Vx.out).below hb7 ltx)
      have Vg := Lib.hid ((Vg.out).below hb7 ltg)
      have HB7 := Lib.hid (HB6.out.trans (hb7.mono HB6.out.size))
      have ltp : w1.heap.size < w7.heap.size := lt_of_cell (Vp.out 0 _ rfl).1
      have ltu : w1.heap.size + 1 < w7.heap.size := lt_of_cell (Vu.out 0 _ rfl).1
      have ltv : Dw < w7.heap.size := lt_of_cell (Vv.out 0 _ rfl).1
      have ltx : w5.heap.size < w7.heap.size := lt_of_cell (Vx.out 0 _ rfl).1
      have ltg : Dg < w7.heap.size := lt_of_cell (Vg.out 0 _ rfl).1
      have nep : ¬ w1.heap.size = w7.heap.size := by omega
      have neu : ¬ w1.heap.size + 1 = w7.heap.size := by omega
      have nev : ¬ Dw = w7.heap.size := by omega
      have nex : ¬ w5.heap.size = w7.heap.size := by omega
      have neg : ¬ Dg = w7.heap.size := by omega
      have GA := Lib.hid ((GA.out).below hb7)
      have PA := Lib.hid ((PA.out).below hb7)
      have GW := Lib.hid ((GW.out).below hb7)
      have PW := Lib.hid ((PW.out).below hb7)
      have MW := Lib.hid ((MW.out).below hb7)
      have OA := Lib.hid ((OA.out).below hb7)
      have hsz7 : w6.heap.size + 0 ≤ w7.heap.size := by have h := hb7.size; omega
      have RN := Lib.hid (ownUp (RN.out) hb7)
      have RP := Lib.hid (ownUp (RP.out) hb7)
      have RM := Lib.hid (ownUp (RM.out) hb7)
      clear hb7
      go_wp2_with fail
      refine (eqMessageS_same _ _ n3 cg3 cw3 rm _ (own_mgs (RM.out)) MW.out).mono ?_
      rintro e w8 ⟨rfl, hb8⟩
      have Vp := Lib.hid ((Vp.out).below hb8 ltp)
      have Vu := Lib.hid ((Vu.out).below hb8 ltu)
      have Vv := Lib.hid ((Vv.out).below hb8 ltv)
      have Vx := Lib.hid ((Vx.out).below hb8 ltx)
      have Vg := Lib.hid ((Vg.out).below hb8 ltg)
      have HB8 := Lib.hid (HB7.out.trans (hb8.mono HB7.out.size))
      have ltp : w1.heap.size < w8.heap.size := lt_of_cell (Vp.out 0 _ rfl).1
      have ltu : w1.heap.size + 1 < w8.heap.size := lt_of_cell (Vu.out 0 _ rfl).1
      have ltv : Dw < w8.heap.size := lt_of_cell (Vv.out 0 _ rfl).1
      have ltx : w5.heap.size < w8.heap.size := lt_of_cell (Vx.out 0 _ rfl).1
      have ltg : Dg < w8.heap.size := lt_of_cell (Vg.out 0 _ rfl).1
      have nep : ¬ w1.heap.size = w8.heap.size := by omega
      have neu : ¬ w1.heap.size + 1 = w8.heap.size := by omega
      have nev : ¬ Dw = w8.heap.size := by omega
      have nex : ¬ w5.heap.size = w8.heap.size := by omega
      have neg : ¬ Dg = w8.heap.size := by omega
      have GA := Lib.hid ((GA.out).below hb8)
      have PA := Lib.hid ((PA.out).below hb8)
      have GW := Lib.hid ((GW.out).below hb8)
      have PW := Lib.hid ((PW.out).below hb8)
      have MW := Lib.hid ((MW.out).below hb8)
      have OA := Lib.hid ((OA.out).below hb8)
      have hsz8 : w7.heap.size + 0 ≤ w8.heap.size := by have h := hb8.size; omega
      have RN := Lib.hid (ownUp (RN.out) hb8)
      have RP := Lib.hid (ownUp (RP.out) hb8)
      have RM := Lib.hid (ownUp (RM.out) hb8)
      clear hb8
      have p0 := (Vp.out 0 _ rfl).1
      have pf0 := (Vp.out 0 _ rfl).2
      have p1 := (Vp.out 1 _ rfl).1
      have pf1 := (Vp.out 1 _ rfl).2
      have x0 := (Vx.out 0 _ rfl).1
      have xf0 := (Vx.out 0 _ rfl).2
      have x1 := (Vx.out 1 _ rfl).1
      have xf1 := (Vx.out 1 _ rfl).2
      have hS := Lib.hid (keptY (W := w8) (w := w8) (p := ⟨w5.heap.size, 0, none⟩) (q := ⟨w5.heap.size, 1, none⟩) (p' := ⟨w1.heap.size, 0, none⟩) (q' := ⟨w1.heap.size, 1, none⟩) ⟨x0, x1, p0, p1, OA.out.nsA, OA.out.ptsA, GA.out, PA.out, Below.refl _ _⟩ (Below.drew (Below.refl _ _)))
      clear p0 pf0 p1 pf1 x0 xf0 x1 xf1
      go_wp2_with fail
      go_region_held_law (fun W => W.cell? ⟨w5.heap.size, 0, none⟩ = some (.slice (some ⟨cd2, 0, none⟩) ln ln) ∧ W.cell? ⟨w5.heap.size, 1, none⟩ = some (.slice (some ⟨ce2, 0, none⟩) lp lp) ∧ W.cell? ⟨w1.heap.size, 0, none⟩ = some (.slice an ln cn) ∧ W.cell? ⟨w1.heap.size, 1, none⟩ = some (.slice ap lp cp) ∧ Ns W (some ⟨cd2, 0, none⟩) ln ln es ∧ Pts W (some ⟨ce2, 0, none⟩) lp lp ps ∧ Ns W an ln cn es ∧ Pts W ap lp cp ps ∧ Below w8.heap.size w8 W)
        (first | with_reducible assumption | with_reducible exact hS.out | exact keptY (by assumption) (by assumption))
        (first | (go_simp; go_at_call 27; refine (toAssembly_any an ln cn es ap lp cp ps _ (by go_split_ands; assumption) (by go_split_ands; assumption) HLE.out HLP.out).mono ?_; rintro e w' ⟨⟨d3, e3, rfl, ho3⟩, hbn⟩; have G3 := ho3.nsA; have P3 := ho3.ptsA) | (go_simp; go_at_call 29; refine (eqAssembly_same _ _ _ _ ln ln ln lp lp lp es ps _ (by go_split_ands; assumption) (by assumption) (by go_split_ands; assumption) (by assumption)).mono ?_; rintro e w' ⟨rfl, hbn⟩))
      rename_i hHeld
      rename World => w9
      have hb9 : Below w8.heap.size w8 w9 := hHeld.2.2.2.2.2.2.2.2
      clear hHeld hS
      have Vp := Lib.hid ((Vp.out).below hb9 ltp)
      have Vu := Lib.hid ((Vu.out).below hb9 ltu)
      have Vv := Lib.hid ((Vv.out).below hb9 ltv)
      have Vx := Lib.hid ((Vx.out).below hb9 ltx)
      have Vg := Lib.hid ((Vg.out).below hb9 ltg)
      have HB9 := Lib.hid (HB8.out.trans (hb9.mono HB8.out.size))
      have GA := Lib.hid ((GA.out).below hb9)
      have PA := Lib.hid ((PA.out).below hb9)
      have GW := Lib.hid ((GW.out).below hb9)
      have PW := Lib.hid ((PW.out).below hb9)
      have MW := Lib.hid ((MW.out).below hb9)
      have OA := Lib.hid ((OA.out).below hb9)
      have RN := Lib.hid (ownUp (RN.out) hb9)
      have RP := Lib.hid (ownUp (RP.out) hb9)
      have RM := Lib.hid (ownUp (RM.out) hb9)
      have hsz9 : w8.heap.size + 0 ≤ w9.heap.size := hb9.size
      have ltp : w1.heap.size < w9.heap.size := lt_of_cell (Vp.out 0 _ rfl).1
      have ltu : w1.heap.size + 1 < w9.heap.size := lt_of_cell (Vu.out 0 _ rfl).1
      have ltv : Dw < w9.heap.size := lt_of_cell (Vv.out 0 _ rfl).1
      have ltx : w5.heap.size < w9.heap.size := lt_of_cell (Vx.out 0 _ rfl).1
      have ltg : Dg < w9.heap.size := lt_of_cell (Vg.out 0 _ rfl).1
      have nep : ¬ w1.heap.size = w9.heap.size := by omega
      have neu : ¬ w1.heap.size + 1 = w9.heap.size := by omega
      have nev : ¬ Dw = w9.heap.size := by omega
      have nex : ¬ w5.heap.size = w9.heap.size := by omega
      have neg : ¬ Dg = w9.heap.size := by omega
      clear hb9
      obtain ⟨zk, hzk⟩ : ∃ z : Int, ((1 + ln + 7 * lp : Nat) : Int) = z := ⟨_, rfl⟩
      have nzk : ¬ zk < 0 := by omega
      have p0 := (Vp.out 0 _ rfl).1
      have pf0 := (Vp.out 0 _ rfl).2
      have p1 := (Vp.out 1 _ rfl).1
      have pf1 := (Vp.out 1 _ rfl).2
      have u0 := (Vu.out 0 _ rfl).1
      have uf0 := (Vu.out 0 _ rfl).2
      have u1 := (Vu.out 1 _ rfl).1
      have uf1 := (Vu.out 1 _ rfl).2
      have u2 := (Vu.out 2 _ rfl).1
      have uf2 := (Vu.out 2 _ rfl).2
      have u3 := (Vu.out 3 _ rfl).1
      have uf3 := (Vu.out 3 _ rfl).2
      have u4 := (Vu.out 4 _ rfl).1
      have uf4 := (Vu.out 4 _ rfl).2
      have u5 := (Vu.out 5 _ rfl).1
      have uf5 := (Vu.out 5 _ rfl).2
      have u6 := (Vu.out 6 _ rfl).1
      have uf6 := (Vu.out 6 _ rfl).2
      have v0 := (Vv.out 0 _ rfl).1
      have vf0 := (Vv.out 0 _ rfl).2
      have v1 := (Vv.out 1 _ rfl).1
      have vf1 := (Vv.out 1 _ rfl).2
      have x0 := (Vx.out 0 _ rfl).1
      have xf0 := (Vx.out 0 _ rfl).2
      have x1 := (Vx.out 1 _ rfl).1
      have xf1 := (Vx.out 1 _ rfl).2
      have g0 := (Vg.out 0 _ rfl).1
      have gf0 := (Vg.out 0 _ rfl).2
      have g1 := (Vg.out 1 _ rfl).1
      have gf1 := (Vg.out 1 _ rfl).2
      go_wp2_with fail
      refine (markFil_z OA.out hzk).mono ?_
      rintro e w10 ⟨rfl, hs10, hm⟩
      clear p0 pf0 p1 pf1 u0 uf0 u1 uf1 u2 uf2 u3 uf3 u4 uf4 u5 uf5 u6 uf6 v0 vf0 v1 vf1 x0 xf0 x1 xf1 g0 gf0 g1 gf1
      have hsz10 : w9.heap.size + 0 ≤ w10.heap.size := hs10
      have Vp := Lib.hid (Vp.out.below (C := w4.heap.size) hm.b (by omega))
      have Vu := Lib.hid (Vu.out.below (C := w4.heap.size) hm.b (by omega))
      have Vv := Lib.hid (Vv.out.below (C := w4.heap.size) hm.b (by omega))
      have Vg := Lib.hid (Vg.out.mgl hm ltg (by simp; omega))
      have GA := Lib.hid (GA.out.mgC hm.b (fun x hx hl => Nat.lt_of_lt_of_le (LTA.out x hx hl) (by omega)))
      have PA := Lib.hid (PA.out.mgC hm.b (fun x hx hl => Nat.lt_of_lt_of_le (LTP.out x hx hl) (by omega)))
      have GW := Lib.hid (GW.out.mgC hm.b (fun x hx hl => Nat.lt_of_lt_of_le (LGW.out x hx hl) (by omega)))
      have PW := Lib.hid (PW.out.mgC hm.b (fun x hx hl => Nat.lt_of_lt_of_le (LPW.out x hx hl) (by omega)))
      have MW := Lib.hid (MW.out.mgC hm.b (fun x hx hl => Nat.lt_of_lt_of_le (LMW.out x hx hl) (by omega)))
      have RN := Lib.hid (own_mgl RN.out hm (fun x hx => by have := HBN.out x hx; simp; omega))
      have RP := Lib.hid (own_mgl RP.out hm (fun x hx => by have := HBP.out x hx; simp; omega))
      have RM := Lib.hid (own_mgl RM.out hm (fun x hx => by have := HBM.out x hx; simp; omega))
      have HB10 := Lib.hid (HB9.out.trans (hm.b.mono (show w1.heap.size ≤ w4.heap.size by omega)))
      have ltp : w1.heap.size < w10.heap.size := lt_of_cell (Vp.out 0 _ rfl).1
      have ltu : w1.heap.size + 1 < w10.heap.size := lt_of_cell (Vu.out 0 _ rfl).1
      have ltv : Dw < w10.heap.size := lt_of_cell (Vv.out 0 _ rfl).1
      have ltg : Dg < w10.heap.size := lt_of_cell (Vg.out 0 _ rfl).1
      have nep : ¬ w1.heap.size = w10.heap.size := by omega
      have neu : ¬ w1.heap.size + 1 = w10.heap.size := by omega
      have nev : ¬ Dw = w10.heap.size := by omega
      have neg : ¬ Dg = w10.heap.size := by omega
      clear hm hs10
      have v0 := (Vv.out 0 _ rfl).1
      have vf0 := (Vv.out 0 _ rfl).2
      have v1 := (Vv.out 1 _ rfl).1
      have vf1 := (Vv.out 1 _ rfl).2
      have g0 := (Vg.out 0 _ rfl).1
      have gf0 := (Vg.out 0 _ rfl).2
      have g1 := (Vg.out 1 _ rfl).1
      have gf1 := (Vg.out 1 _ rfl).2
      go_wp2_with fail
      refine (eqAssembly_same _ _ _ _ n1 cg1 cw1 n2 cg2 cw2 rn rp _ (own_ns (RN.out)) GW.out (own_pts (RP.out)) PW.out).mono ?_
      rintro e w11 ⟨rfl, hb11⟩
      clear v0 vf0 v1 vf1 g0 gf0 g1 gf1
      have Vp := Lib.hid ((Vp.out).below hb11 ltp)
      have Vu := Lib.hid ((Vu.out).below hb11 ltu)
      have Vv := Lib.hid ((Vv.out).below hb11 ltv)
      have Vg := Lib.hid ((Vg.out).below hb11 ltg)
      have HB11 := Lib.hid (HB10.out.trans (hb11.mono HB10.out.size))
      have ltp : w1.heap.size < w11.heap.size := lt_of_cell (Vp.out 0 _ rfl).1
      have ltu : w1.heap.size + 1 < w11.heap.size := lt_of_cell (Vu.out 0 _ rfl).1
      have ltv : Dw < w11.heap.size := lt_of_cell (Vv.out 0 _ rfl).1
      have ltg : Dg < w11.heap.size := lt_of_cell (Vg.out 0 _ rfl).1
      have nep : ¬ w1.heap.size = w11.heap.size := by omega
      have neu : ¬ w1.heap.size + 1 = w11.heap.size := by omega
      have nev : ¬ Dw = w11.heap.size := by omega
      have neg : ¬ Dg = w11.heap.size := by omega
      have GA := Lib.hid ((GA.out).below hb11)
      have PA := Lib.hid ((PA.out).below hb11)
      have GW := Lib.hid ((GW.out).below hb11)
      have PW := Lib.hid ((PW.out).below hb11)
      have MW := Lib.hid ((MW.out).below hb11)
      have hsz11 : w10.heap.size + 0 ≤ w11.heap.size := by have h := hb11.size; omega
      have RN := Lib.hid (ownUp (RN.out) hb11)
      have RP := Lib.hid (ownUp (RP.out) hb11)
      have RM := Lib.hid (ownUp (RM.out) hb11)
      clear hb11
      go_wp2_with fail
      refine (eqMessageS_same _ _ n3 cg3 cw3 rm _ (own_mgs (RM.out)) MW.out).mono ?_
      rintro e w12 ⟨rfl, hb12⟩
      have Vp := Lib.hid ((Vp.out).below hb12 ltp)
      have Vu := Lib.hid ((Vu.out).below hb12 ltu)
      have Vv := Lib.hid ((Vv.out).below hb12 ltv)
      have Vg := Lib.hid ((Vg.out).below hb12 ltg)
      have HB12 := Lib.hid (HB11.out.trans (hb12.mono HB11.out.size))
      have ltp : w1.heap.size < w12.heap.size := lt_of_cell (Vp.out 0 _ rfl).1
      have ltu : w1.heap.size + 1 < w12.heap.size := lt_of_cell (Vu.out 0 _ rfl).1
      have ltv : Dw < w12.heap.size := lt_of_cell (Vv.out 0 _ rfl).1
      have ltg : Dg < w12.heap.size := lt_of_cell (Vg.out 0 _ rfl).1
      have nep : ¬ w1.heap.size = w12.heap.size := by omega
      have neu : ¬ w1.heap.size + 1 = w12.heap.size := by omega
      have nev : ¬ Dw = w12.heap.size := by omega
      have neg : ¬ Dg = w12.heap.size := by omega
      have GA := Lib.hid ((GA.out).below hb12)
      have PA := Lib.hid ((PA.out).below hb12)
      have GW := Lib.hid ((GW.out).below hb12)
      have PW := Lib.hid ((PW.out).below hb12)
      have MW := Lib.hid ((MW.out).below hb12)
      have hsz12 : w11.heap.size + 0 ≤ w12.heap.size := by have h := hb12.size; omega
      have RN := Lib.hid (ownUp (RN.out) hb12)
      have RP := Lib.hid (ownUp (RP.out) hb12)
      have RM := Lib.hid (ownUp (RM.out) hb12)
      clear hb12
      obtain ⟨zm, hzm⟩ : ∃ z : Int, ((1 + n1 + 7 * n2 : Nat) : Int) = z := ⟨_, rfl⟩
      obtain ⟨zn, hzn⟩ : ∃ z : Int, ((1 + n1 + 7 * n2 + 4 * n3 : Nat) : Int) = z := ⟨_, rfl⟩
      have nzm : ¬ zm < 0 := by omega
      have nzn : ¬ zn < 0 := by omega
      have AP1 := Lib.hid (fun x (hx : ag1 = some x) => own_apart RN.out RM.out (by decide) (own_blk RN.out x hx).1)
      have AP2 := Lib.hid (fun x (hx : ag2 = some x) => own_apart RP.out RM.out (by decide) (own_blk RP.out x hx).1)
      have p0 := (Vp.out 0 _ rfl).1
      have pf0 := (Vp.out 0 _ rfl).2
      have p1 := (Vp.out 1 _ rfl).1
      have pf1 := (Vp.out 1 _ rfl).2
      have u0 := (Vu.out 0 _ rfl).1
      have uf0 := (Vu.out 0 _ rfl).2
      have u1 := (Vu.out 1 _ rfl).1
      have uf1 := (Vu.out 1 _ rfl).2
      have u2 := (Vu.out 2 _ rfl).1
      have uf2 := (Vu.out 2 _ rfl).2
      have u3 := (Vu.out 3 _ rfl).1
      have uf3 := (Vu.out 3 _ rfl).2
      have u4 := (Vu.out 4 _ rfl).1
      have uf4 := (Vu.out 4 _ rfl).2
      have u5 := (Vu.out 5 _ rfl).1
      have uf5 := (Vu.out 5 _ rfl).2
      have u6 := (Vu.out 6 _ rfl).1
      have uf6 := (Vu.out 6 _ rfl).2
      have v0 := (Vv.out 0 _ rfl).1
      have vf0 := (Vv.out 0 _ rfl).2
      have v1 := (Vv.out 1 _ rfl).1
      have vf1 := (Vv.out 1 _ rfl).2
      have g0 := (Vg.out 0 _ rfl).1
      have gf0 := (Vg.out 0 _ rfl).2
      have g1 := (Vg.out 1 _ rfl).1
      have gf1 := (Vg.out 1 _ rfl).2
      go_wp2_with fail
      refine (markA_z RN.out RP.out (by omega) hk1 hk2 hzm).mono ?_
      rintro e w13 ⟨rfl, ⟨hgn, hgp⟩, hs13, hm⟩
      clear p0 pf0 p1 pf1 u0 uf0 u1 uf1 u2 uf2 u3 uf3 u4 uf4 u5 uf5 u6 uf6 v0 vf0 v1 vf1 g0 gf0 g1 gf1
      have hsz13 : w12.heap.size + 0 ≤ w13.heap.size := hs13
      have Vp := Lib.hid (Vp.out.below (C := N10) hm.b (by omega))
      have Vu := Lib.hid (Vu.out.below (C := N10) hm.b (by omega))
      have Vv := Lib.hid (Vv.out.below (C := N10) hm.b (by omega))
      have Vg := Lib.hid (Vg.out.mgl hm ltg (by intro h; rcases List.mem_cons.1 h with h | h; exact NE1.out _ h.symm rfl; exact NE2.out _ (List.mem_singleton.1 h).symm rfl))
      have GA := Lib.hid (GA.out.mgC hm.b (fun x hx hl => Nat.lt_of_lt_of_le (LTA.out x hx hl) (by omega)))
      have PA := Lib.hid (PA.out.mgC hm.b (fun x hx hl => Nat.lt_of_lt_of_le (LTP.out x hx hl) (by omega)))
      have GW := Lib.hid (GW.out.mgC hm.b (fun x hx hl => Nat.lt_of_lt_of_le (LGW.out x hx hl) (by omega)))
      have PW := Lib.hid (PW.out.mgC hm.b (fun x hx hl => Nat.lt_of_lt_of_le (LPW.out x hx hl) (by omega)))
      have MW := Lib.hid (MW.out.mgC hm.b (fun x hx hl => Nat.lt_of_lt_of_le (LMW.out x hx hl) (by omega)))
      have RM := Lib.hid (own_mgl RM.out hm (fun x hx => own_apart2 RM.out RN.out RP.out (by decide) (by decide) hx))
      have GM := Lib.hid hgn
      have PM := Lib.hid hgp
      clear hgn hgp
      have HB13 := Lib.hid (HB12.out.trans (hm.b.mono (show w1.heap.size ≤ N10 by omega)))
      have ltp : w1.heap.size < w13.heap.size := lt_of_cell (Vp.out 0 _ rfl).1
      have ltu : w1.heap.size + 1 < w13.heap.size := lt_of_cell (Vu.out 0 _ rfl).1
      have ltv : Dw < w13.heap.size := lt_of_cell (Vv.out 0 _ rfl).1
      have ltg : Dg < w13.heap.size := lt_of_cell (Vg.out 0 _ rfl).1
      have nep : ¬ w1.heap.size = w13.heap.size := by omega
      have neu : ¬ w1.heap.size + 1 = w13.heap.size := by omega
      have nev : ¬ Dw = w13.heap.size := by omega
      have neg : ¬ Dg = w13.heap.size := by omega
      clear hm hs13
      have p0 := (Vp.out 0 _ rfl).1
      have pf0 := (Vp.out 0 _ rfl).2
      have p1 := (Vp.out 1 _ rfl).1
      have pf1 := (Vp.out 1 _ rfl).2
      have u0 := (Vu.out 0 _ rfl).1
      have uf0 := (Vu.out 0 _ rfl).2
      have u1 := (Vu.out 1 _ rfl).1
      have uf1 := (Vu.out 1 _ rfl).2
      have u2 := (Vu.out 2 _ rfl).1
      have uf2 := (Vu.out 2 _ rfl).2
      have u3 := (Vu.out 3 _ rfl).1
      have uf3 := (Vu.out 3 _ rfl).2
      have u4 := (Vu.out 4 _ rfl).1
      have uf4 := (Vu.out 4 _ rfl).2
      have u5 := (Vu.out 5 _ rfl).1
      have uf5 := (Vu.out 5 _ rfl).2
      have u6 := (Vu.out 6 _ rfl).1
      have uf6 := (Vu.out 6 _ rfl).2
      have v0 := (Vv.out 0 _ rfl).1
      have vf0 := (Vv.out 0 _ rfl).2
      have v1 := (Vv.out 1 _ rfl).1
      have vf1 := (Vv.out 1 _ rfl).2
      have g0 := (Vg.out 0 _ rfl).1
      have gf0 := (Vg.out 0 _ rfl).2
      have g1 := (Vg.out 1 _ rfl).1
      have gf1 := (Vg.out 1 _ rfl).2
      go_wp2_with fail
      refine (markM_z RM.out hk3 (by omega) (by omega) (by omega) hzm hzn).mono ?_
      rintro e w14 ⟨rfl, hgm, hs14, hm⟩
      clear p0 pf0 p1 pf1 u0 uf0 u1 uf1 u2 uf2 u3 uf3 u4 uf4 u5 uf5 u6 uf6 v0 vf0 v1 vf1 g0 gf0 g1 gf1
      have hsz14 : w13.heap.size + 0 ≤ w14.heap.size := hs14
      have Vp := Lib.hid (Vp.out.below (C := N10) hm.b (by omega))
      have Vu := Lib.hid (Vu.out.below (C := N10) hm.b (by omega))
      have Vv := Lib.hid (Vv.out.below (C := N10) hm.b (by omega))
      have Vg := Lib.hid (Vg.out.mgl hm ltg (by intro h; exact NE3.out _ (List.mem_singleton.1 h).symm rfl))
      have GA := Lib.hid (GA.out.mgC hm.b (fun x hx hl => Nat.lt_of_lt_of_le (LTA.out x hx hl) (by omega)))
      have PA := Lib.hid (PA.out.mgC hm.b (fun x hx hl => Nat.lt_of_lt_of_le (LTP.out x hx hl) (by omega)))
      have GW := Lib.hid (GW.out.mgC hm.b (fun x hx hl => Nat.lt_of_lt_of_le (LGW.out x hx hl) (by omega)))
      have PW := Lib.hid (PW.out.mgC hm.b (fun x hx hl => Nat.lt_of_lt_of_le (LPW.out x hx hl) (by omega)))
      have MW := Lib.hid (MW.out.mgC hm.b (fun x hx hl => Nat.lt_of_lt_of_le (LMW.out x hx hl) (by omega)))
      have GM := Lib.hid (GM.out.mgl hm AP1.out)
      have PM := Lib.hid (PM.out.mgl hm AP2.out)
      have MM := Lib.hid hgm
      clear hgm
      have HB14 := Lib.hid (HB13.out.trans (hm.b.mono (show w1.heap.size ≤ N10 by omega)))
      have ltp : w1.heap.size < w14.heap.size := lt_of_cell (Vp.out 0 _ rfl).1
      have ltu : w1.heap.size + 1 < w14.heap.size := lt_of_cell (Vu.out 0 _ rfl).1
      have ltv : Dw < w14.heap.size := lt_of_cell (Vv.out 0 _ rfl).1
      have ltg : Dg < w14.heap.size := lt_of_cell (Vg.out 0 _ rfl).1
      have nep : ¬ w1.heap.size = w14.heap.size := by omega
      have neu : ¬ w1.heap.size + 1 = w14.heap.size := by omega
      have nev : ¬ Dw = w14.heap.size := by omega
      have neg : ¬ Dg = w14.heap.size := by omega
      clear hm hs14
      have g0 := (Vg.out 0 _ rfl).1
      have gf0 := (Vg.out 0 _ rfl).2
      have g1 := (Vg.out 1 _ rfl).1
      have gf1 := (Vg.out 1 _ rfl).2
      go_wp2_with fail
      refine (heldA_z _ n1 cg1 _ n2 cg2 _ hk1 hk2 GM.out PM.out hzm).mono ?_
      rintro e w15 ⟨rfl, hb15⟩
      clear g0 gf0 g1 gf1
      have Vp := Lib.hid ((Vp.out).below hb15 ltp)
      have Vu := Lib.hid ((Vu.out).below hb15 ltu)
      have Vv := Lib.hid ((Vv.out).below hb15 ltv)
      have Vg := Lib.hid ((Vg.out).below hb15 ltg)
      have HB15 := Lib.hid (HB14.out.trans (hb15.mono HB14.out.size))
      have ltp : w1.heap.size < w15.heap.size := lt_of_cell (Vp.out 0 _ rfl).1
      have ltu : w1.heap.size + 1 < w15.heap.size := lt_of_cell (Vu.out 0 _ rfl).1
      have ltv : Dw < w15.heap.size := lt_of_cell (Vv.out 0 _ rfl).1
      have ltg : Dg < w15.heap.size := lt_of_cell (Vg.out 0 _ rfl).1
      have nep : ¬ w1.heap.size = w15.heap.size := by omega
      have neu : ¬ w1.heap.size + 1 = w15.heap.size := by omega
      have nev : ¬ Dw = w15.heap.size := by omega
      have neg : ¬ Dg = w15.heap.size := by omega
      have GA := Lib.hid ((GA.out).below hb15)
      have PA := Lib.hid ((PA.out).below hb15)
      have GW := Lib.hid ((GW.out).below hb15)
      have PW := Lib.hid ((PW.out).below hb15)
      have MW := Lib.hid ((MW.out).below hb15)
      have GM := Lib.hid ((GM.out).below hb15)
      have PM := Lib.hid ((PM.out).below hb15)
      have MM := Lib.hid ((MM.out).below hb15)
      have hsz15 : w14.heap.size + 0 ≤ w15.heap.size := by have h := hb15.size; omega
      clear hb15
      go_wp2_with fail
      refine (heldM_z _ n3 cg3 (1 + n1 + 7 * n2) _ hk3 (by omega) (by omega) MM.out hzm hzn).mono ?_
      rintro e w16 ⟨rfl, hb16⟩
      have Vp := Lib.hid ((Vp.out).below hb16 ltp)
      have Vu := Lib.hid ((Vu.out).below hb16 ltu)
      have Vv := Lib.hid ((Vv.out).below hb16 ltv)
      have Vg := Lib.hid ((Vg.out).below hb16 ltg)
      have HB16 := Lib.hid (HB15.out.trans (hb16.mono HB15.out.size))
      have ltp : w1.heap.size < w16.heap.size := lt_of_cell (Vp.out 0 _ rfl).1
      have ltu : w1.heap.size + 1 < w16.heap.size := lt_of_cell (Vu.out 0 _ rfl).1
      have ltv : Dw < w16.heap.size := lt_of_cell (Vv.out 0 _ rfl).1
      have ltg : Dg < w16.heap.size := lt_of_cell (Vg.out 0 _ rfl).1
      have nep : ¬ w1.heap.size = w16.heap.size := by omega
      have neu : ¬ w1.heap.size + 1 = w16.heap.size := by omega
      have nev : ¬ Dw = w16.heap.size := by omega
      have neg : ¬ Dg = w16.heap.size := by omega
      have GA := Lib.hid ((GA.out).below hb16)
      have PA := Lib.hid ((PA.out).below hb16)
      have GW := Lib.hid ((GW.out).below hb16)
      have PW := Lib.hid ((PW.out).below hb16)
      have MW := Lib.hid ((MW.out).below hb16)
      have GM := Lib.hid ((GM.out).below hb16)
      have PM := Lib.hid ((PM.out).below hb16)
      have MM := Lib.hid ((MM.out).below hb16)
      have hsz16 : w15.heap.size + 0 ≤ w16.heap.size := by have h := hb16.size; omega
      clear hb16
      have p0 := ((Vp.out) 0 _ rfl).1
      have p1 := ((Vp.out) 1 _ rfl).1
      have u0 := ((Vu.out) 0 _ rfl).1
      have u1 := ((Vu.out) 1 _ rfl).1
      have u2 := ((Vu.out) 2 _ rfl).1
      have u3 := ((Vu.out) 3 _ rfl).1
      have u4 := ((Vu.out) 4 _ rfl).1
      have u5 := ((Vu.out) 5 _ rfl).1
      have u6 := ((Vu.out) 6 _ rfl).1
      obtain ⟨N31, hN31⟩ : ∃ N, w16.heap.size = N := ⟨_, rfl⟩
      have HN31 := Lib.hid hN31
      clear hN31
      go_upto_region 31 with fail
      refine region_by 13 [110, 111, 112, 113, 114, 109, 115, 116, 117, 16, 0, 17, 18] 10 9 6 [0, 1, 2, 3, 4, 5, 6, 9] [5, 7, 8, 11, 12] [[], [0], [], [2], [1, 3], [4], [5], [5], [5], [], [9, 6], [7], [8]] (AddG ln lp es ps (.agg #[.slice an ln cn, .slice ap lp cp]) (.agg #[.int .i64 dt, .int .i64 ds, .int .i64 dq, .bool dfi, .bool dla, .bool dlo, .string dtx]) (N31) n1 n2 n3 rn rp rm code) (PutF (N31) n1 n2 rn rp) (N31) (w16) [110, 111, 112, 113, 114, 109, 115, 116, 117, 16, 17, 18] (by kernel_rfl) (by kernel_rfl) (by rfl) (fun k hk => Nat.lt_of_lt_of_le ((by decide : ∀ k ∈ [110, 111, 112, 113, 114, 109, 115, 116, 117, 16, 17, 18], k < 146) k hk) (by simp)) AddG.below (fun v W W' h hb => PutF.below h hb) (by rw [← HN31.out]; exact Below.drew (Below.refl _ _)) (Nat.le_of_eq HN31.out.symm) ?_ ?_ ?_
      · intro i b W hi hne hB hs hf hd
        match i, hi with
        | 0, _ =>
          have x2 : b.tmps[2]?.getD undef = .pointer (some ⟨w1.heap.size, 0, none⟩) := raw_of (k := 2) ((hf 2 (by decide)).trans rfl)
          have cp0 := (hB.cell (by rw [← HN31.out]; exact World.block_lt_of_cell? _ _ p0)).trans p0
          have cp1 := (hB.cell (by rw [← HN31.out]; exact World.block_lt_of_cell? _ _ p1)).trans p1
          refine wpOp_plain (by rfl) (by rfl) (Oper.wp_mono (K := fun b' w' => b' = b.put (some 110) (.agg #[.slice an ln cn, .slice ap lp cp]) ∧ w' = W) ?_ ?_)
          · rintro b' w' ⟨rfl, rfl⟩
            exact ⟨_, rfl, rfl, Below.refl _ _⟩
          · clear hd hs
            go_simp
        | 1, _ =>
          have x110 : b.tmps[110]?.getD undef = .agg #[.slice an ln cn, .slice ap lp cp] := raw_of (k := 110) (hd 0 (by kernel_rfl))
          have g1 := (GA.out).below (show Below w16.heap.size _ _ by rw [HN31.out]; exact hB)
          have g2 := (PA.out).below (show Below w16.heap.size _ _ by rw [HN31.out]; exact hB)
          refine wpOp_plain (by rfl) (by rfl) ?_
          clear hd hs
          go_simp
          go_at_call 27
          refine (toAssembly_any an ln cn es ap lp cp ps _ g1 g2 HLE.out HLP.out).mono ?_
          rintro e w' ⟨⟨d1, e1, rfl, ho1⟩, hbn⟩
          exact ⟨_, rfl, ⟨d1, e1, rfl, ho1.nsA, ho1.ptsA⟩, hbn⟩
        | 2, _ =>
          have x3 : b.tmps[3]?.getD undef = .pointer (some ⟨w1.heap.size + 1, 0, none⟩) := raw_of (k := 3) ((hf 3 (by decide)).trans rfl)
          have cu0 := (hB.cell (by rw [← HN31.out]; exact World.block_lt_of_cell? _ _ u0)).trans u0
          have cu1 := (hB.cell (by rw [← HN31.out]; exact World.block_lt_of_cell? _ _ u1)).trans u1
          have cu2 := (hB.cell (by rw [← HN31.out]; exact World.block_lt_of_cell? _ _ u2)).trans u2
          have cu3 := (hB.cell (by rw [← HN31.out]; exact World.block_lt_of_cell? _ _ u3)).trans u3
          have cu4 := (hB.cell (by rw [← HN31.out]; exact World.block_lt_of_cell? _ _ u4)).trans u4
          have cu5 := (hB.cell (by rw [← HN31.out]; exact World.block_lt_of_cell? _ _ u5)).trans u5
          have cu6 := (hB.cell (by rw [← HN31.out]; exact World.block_lt_of_cell? _ _ u6)).trans u6
          refine wpOp_plain (by rfl) (by rfl) (Oper.wp_mono (K := fun b' w' => b' = b.put (some 112) (.agg #[.int .i64 dt, .int .i64 ds, .int .i64 dq, .bool dfi, .bool dla, .bool dlo, .string dtx]) ∧ w' = W) ?_ ?_)
          · rintro b' w' ⟨rfl, rfl⟩
            exact ⟨_, rfl, rfl, Below.refl _ _⟩
          · clear hd hs
            go_simp
        | 3, _ =>
          have x112 : b.tmps[112]?.getD undef = .agg #[.int .i64 dt, .int .i64 ds, .int .i64 dq, .bool dfi, .bool dla, .bool dlo, .string dtx] := raw_of (k := 112) (hd 2 (by kernel_rfl))
          refine wpOp_plain (by rfl) (by rfl) ?_
          clear hd hs
          go_simp
          go_at_call 28
          refine (toDa_any dt ds dq dfi dla dlo dtx _).mono ?_
          rintro e w' ⟨rfl, hbn⟩
          exact ⟨_, rfl, rfl, hbn⟩
        | 4, _ =>
          obtain ⟨d1, e1, h31, g1, g2⟩ : CopF ln lp es ps (valsOf b 111) W := hd 1 (by kernel_rfl)
          have x111 : b.tmps[111]?.getD undef = .agg #[.slice (some ⟨d1, 0, none⟩) ln ln, .slice (some ⟨e1, 0, none⟩) lp lp] := raw_of (k := 111) (h31)
          have x113 : b.tmps[113]?.getD undef = .agg #[.int .i64 dt, .int .i64 ds, .int .i64 dq, .bool dfi, .bool dla, .bool dlo, .string dtx] := raw_of (k := 113) (hd 3 (by kernel_rfl))
          have hle : N31 ≤ W.heap.size := by rw [← HN31.out]; exact hB.size
          refine wpOp_plain (by rfl) (by rfl) ?_
          clear hd hs
          go_simp
          go_at_call 14
          refine (asmAdd_is _ ln ln es _ lp lp ps dt ds dq dfi dla dlo dtx _ g1 g2 HKY.out HR.out HC.out HLN.out).mono ?_
          rintro e w' ⟨a1, c1, a2, c2, a3, c3, rfl, ⟨o1, o2, o3⟩, hbn⟩
          exact ⟨_, rfl, ⟨a1, c1, a2, c2, a3, c3, rfl, row_low o1 hle, row_low o2 hle, row_low o3 hle⟩, hbn⟩
        | 5, _ =>
          obtain ⟨a1, c1, a2, c2, a3, c3, ht, o1, o2, o3⟩ : TupF (N31) n1 n2 n3 rn rp rm code (valsOf b 114) W := hd 4 (by kernel_rfl)
          have x114 : b.tmps[114]?.getD undef = .tuple #[.agg #[.slice a1 n1 c1, .slice a2 n2 c2], .slice a3 n3 c3, .int .i64 code] := raw_of (k := 114) (ht)
          refine wpOp_plain (by rfl) (by rfl) (Oper.wp_mono (K := fun b' w' => b' = b.put (some 109) (.tuple #[.agg #[.slice a1 n1 c1, .slice a2 n2 c2], .slice a3 n3 c3, .int .i64 code]) ∧ w' = W) ?_ ?_)
          · rintro b' w' ⟨rfl, rfl⟩
            exact ⟨_, rfl, ⟨a1, c1, a2, c2, a3, c3, rfl, o1, o2, o3⟩, Below.refl _ _⟩
          · clear hd hs
            go_simp
        | 6, _ =>
          obtain ⟨a1, c1, a2, c2, a3, c3, ht, o1, o2, o3⟩ : TupF (N31) n1 n2 n3 rn rp rm code (valsOf b 109) W := hd 5 (by kernel_rfl)
          have x109 : b.tmps[109]?.getD undef = .tuple #[.agg #[.slice a1 n1 c1, .slice a2 n2 c2], .slice a3 n3 c3, .int .i64 code] := raw_of (k := 109) (ht)
          refine wpOp_plain (by rfl) (by rfl) (Oper.wp_mono (K := fun b' w' => b' = b.put (some 115) (.agg #[.slice a1 n1 c1, .slice a2 n2 c2]) ∧ w' = W) ?_ ?_)
          · rintro b' w' ⟨rfl, rfl⟩
            exact ⟨_, rfl, ⟨a1, c1, a2, c2, rfl, o1, o2⟩, Below.refl _ _⟩
          · clear hd hs
            go_simp
        | 7, _ =>
          obtain ⟨a1, c1, a2, c2, a3, c3, ht, o1, o2, o3⟩ : TupF (N31) n1 n2 n3 rn rp rm code (valsOf b 109) W := hd 5 (by kernel_rfl)
          have x109 : b.tmps[109]?.getD undef = .tuple #[.agg #[.slice a1 n1 c1, .slice a2 n2 c2], .slice a3 n3 c3, .int .i64 code] := raw_of (k := 109) (ht)
          refine wpOp_plain (by rfl) (by rfl) (Oper.wp_mono (K := fun b' w' => b' = b.put (some 116) (.slice a3 n3 c3) ∧ w' = W) ?_ ?_)
          · rintro b' w' ⟨rfl, rfl⟩
            exact ⟨_, rfl, ⟨a3, c3, rfl, o3⟩, Below.refl _ _⟩
          · clear hd hs
            go_simp
        | 8, _ =>
          obtain ⟨a1, c1, a2, c2, a3, c3, ht, o1, o2, o3⟩ : TupF (N31) n1 n2 n3 rn rp rm code (valsOf b 109) W := hd 5 (by kernel_rfl)
          have x109 : b.tmps[109]?.getD undef = .tuple #[.agg #[.slice a1 n1 c1, .slice a2 n2 c2], .slice a3 n3 c3, .int .i64 code] := raw_of (k := 109) (ht)
          refine wpOp_plain (by rfl) (by rfl) (Oper.wp_mono (K := fun b' w' => b' = b.put (some 117) (.int .i64 code) ∧ w' = W) ?_ ?_)
          · rintro b' w' ⟨rfl, rfl⟩
            exact ⟨_, rfl, rfl, Below.refl _ _⟩
          · clear hd hs
            go_simp
        | 9, _ =>
          have hle : N31 ≤ W.heap.size := by rw [← HN31.out]; exact hB.size
          refine wpOp_plain (by rfl) (by rfl) (Oper.wp_mono (K := fun b' w' => b' = b.put (some 16) (.pointer (some ⟨W.heap.size, 0, none⟩)) ∧ w' = W.alloc (.cells #[.slice none 0 0, .slice none 0 0] 26)) ?_ ?_)
          · rintro b' w' ⟨rfl, rfl⟩
            exact ⟨_, rfl, ⟨W.heap.size, _, _, rfl, hle, heap_alloc_new W _⟩, below_box _ (Nat.le_refl _)⟩
          · clear hd hs
            go_simp
        | 10, _ =>
          exact absurd rfl hne
        | 11, _ =>
          obtain ⟨a3, c3, ht, o3⟩ : MsgF (N31) n3 rm (valsOf b 116) W := hd 7 (by kernel_rfl)
          have x116 : b.tmps[116]?.getD undef = .slice a3 n3 c3 := raw_of (k := 116) (ht)
          refine wpOp_plain (by rfl) (by rfl) (Oper.wp_mono (K := fun b' w' => b' = b.put (some 17) (.slice a3 n3 c3) ∧ w' = W) ?_ ?_)
          · rintro b' w' ⟨rfl, rfl⟩
            exact ⟨_, rfl, ⟨a3, c3, rfl, o3⟩, Below.refl _ _⟩
          · clear hd hs
            go_simp
        | 12, _ =>
          have x117 : b.tmps[117]?.getD undef = .int .i64 code := raw_of (k := 117) (hd 8 (by kernel_rfl))
          refine wpOp_plain (by rfl) (by rfl) (Oper.wp_mono (K := fun b' w' => b' = b.put (some 18) (.int .i64 code) ∧ w' = W) ?_ ?_)
          · rintro b' w' ⟨rfl, rfl⟩
            exact ⟨_, rfl, rfl, Below.refl _ _⟩
          · clear hd hs
            go_simp
      · intro b W hB hf hga hgv
        obtain ⟨D, u, v, h6, hDn, hDb⟩ : BoxF (N31) (valsOf b 16) W := hga
        obtain ⟨a1, c1, a2, c2, h35, o1, o2⟩ : AggF (N31) n1 n2 rn rp (valsOf b 115) W := hgv
        have x16 : b.tmps[16]?.getD undef = .pointer (some ⟨D, 0, none⟩) := raw_of (k := 16) (h6)
        have x115 : b.tmps[115]?.getD undef = .agg #[.slice a1 n1 c1, .slice a2 n2 c2] := raw_of (k := 115) (h35)
        have c0 := Lib.cell_of_heap hDb 0
        have c1' := Lib.cell_of_heap hDb 1
        have q0 := Lib.frozen_of_heap hDb 0
        have q1 := Lib.frozen_of_heap hDb 1
        change W.cell? _ = some u at c0
        change W.cell? _ = some v at c1'
        refine wpOp_plain (by rfl) (by rfl) (Oper.wp_mono (K := fun b' w' => b' = b ∧ w' = (W.setCell ⟨D, 0, none⟩ (.slice a1 n1 c1)).setCell ⟨D, 1, none⟩ (.slice a2 n2 c2)) ?_ ?_)
        · rintro b' w' ⟨rfl, rfl⟩
          refine ⟨rfl, ?_, (hB.setCell (p := ⟨D, 0, none⟩) hDn _).setCell (p := ⟨D, 1, none⟩) hDn _, ?_⟩
          · show PutF _ n1 n2 rn rp (valsOf b' 16) _
            rw [h6]
            exact AggF.put o1 o2 hDn hDb
          · intro k y hk hkeep hg
            have hk2 : k = 5 ∨ k = 7 ∨ k = 8 ∨ k = 11 ∨ k = 12 := by
              revert hkeep
              clear hg
              match k, hk with
              | 0, _ => intro h; exact absurd h (by decide)
              | 1, _ => intro h; exact absurd h (by decide)
              | 2, _ => intro h; exact absurd h (by decide)
              | 3, _ => intro h; exact absurd h (by decide)
              | 4, _ => intro h; exact absurd h (by decide)
              | 5, _ => intro _; decide
              | 6, _ => intro h; exact absurd h (by decide)
              | 7, _ => intro _; decide
              | 8, _ => intro _; decide
              | 9, _ => intro h; exact absurd h (by decide)
              | 10, _ => intro h; exact absurd h (by decide)
              | 11, _ => intro _; decide
              | 12, _ => intro _; decide
            rcases hk2 with rfl | rfl | rfl | rfl | rfl
            · exact TupF.fill hg hDb
            · exact MsgF.fill hg hDb
            · exact hg
            · exact MsgF.fill hg hDb
            · exact hg
        · clear h6 h35
          go_simp
      intro V w17 hb17 hk h2
      obtain ⟨Dh, ah1, ch1, ah2, ch2, e6, hDn, hDb, o1, o2⟩ : PutF (N31) n1 n2 rn rp (V 16) w17 := h2
      obtain ⟨ah3, ch3, e7, o3⟩ : MsgF (N31) n3 rm (V 17) w17 := hk 11 (by decide) (by decide) (by decide)
      have e8 : V 18 = .int .i64 code := hk 12 (by decide) (by decide) (by decide)
      simp only [List.foldl, Act.put, List.setIfInBounds_toArray, List.set_cons_zero, List.set_cons_succ]
      rw [e6, e7, e8]
      rw [← HN31.out] at hb17
      have eN31 : N31 ≤ w16.heap.size + 0 := by rw [← HN31.out]; first | exact Nat.le_refl _ | (simp; done)
      have fN31 : w16.heap.size + 0 ≤ N31 := by rw [← HN31.out]; first | exact Nat.le_refl _ | (simp; done)
      generalize V 110 = zh110
      generalize V 111 = zh111
      generalize V 112 = zh112
      generalize V 113 = zh113
      generalize V 114 = zh114
      generalize V 109 = zh109
      generalize V 115 = zh115
      generalize V 116 = zh116
      generalize V 117 = zh117
      clear hk e6 e7 e8
      clear p0 p1 u0 u1 u2 u3 u4 u5 u6
      have Vp := Lib.hid ((Vp.out).below hb17 ltp)
      have Vu := Lib.hid ((Vu.out).below hb17 ltu)
      have Vv := Lib.hid ((Vv.out).below hb17 ltv)
      have Vg := Lib.hid ((Vg.out).below hb17 ltg)
      have HB17 := Lib.hid (HB16.out.trans (hb17.mono HB16.out.size))
      have ltp : w1.heap.size < w17.heap.size := lt_of_cell (Vp.out 0 _ rfl).1
      have ltu : w1.heap.size + 1 < w17.heap.size := lt_of_cell (Vu.out 0 _ rfl).1
      have ltv : Dw < w17.heap.size := lt_of_cell (Vv.out 0 _ rfl).1
      have ltg : Dg < w17.heap.size := lt_of_cell (Vg.out 0 _ rfl).1
      have nep : ¬ w1.heap.size = w17.heap.size := by omega
      have neu : ¬ w1.heap.size + 1 = w17.heap.size := by omega
      have nev : ¬ Dw = w17.heap.size := by omega
      have neg : ¬ Dg = w17.heap.size := by omega
      have GA := Lib.hid ((GA.out).below hb17)
      have PA := Lib.hid ((PA.out).below hb17)
      have GW := Lib.hid ((GW.out).below hb17)
      have PW := Lib.hid ((PW.out).below hb17)
      have MW := Lib.hid ((MW.out).below hb17)
      have GM := Lib.hid ((GM.out).below hb17)
      have PM := Lib.hid ((PM.out).below hb17)
      have MM := Lib.hid ((MM.out).below hb17)
      have hsz17 : w16.heap.size + 0 ≤ w17.heap.size := by have h := hb17.size; omega
      clear hb17
      have Vh := Lib.hid (show VarN Dh [.slice ah1 n1 ch1, .slice ah2 n2 ch2] w17 from var_of_heap hDb)
      have lth : Dh < w17.heap.size := lt_of_cell (Vh.out 0 _ rfl).1
      have neh : ¬ Dh = w17.heap.size := by omega
      have GH := Lib.hid (own_ns o1)
      have PH := Lib.hid (own_pts o2)
      have MH := Lib.hid (own_mgs o3)
      clear o1 o2 o3 hDn hDb
      have v0 := (Vv.out 0 _ rfl).1
      have vf0 := (Vv.out 0 _ rfl).2
      have v1 := (Vv.out 1 _ rfl).1
      have vf1 := (Vv.out 1 _ rfl).2
      have h0 := (Vh.out 0 _ rfl).1
      have hf0 := (Vh.out 0 _ rfl).2
      have h1 := (Vh.out 1 _ rfl).1
      have hf1 := (Vh.out 1 _ rfl).2
      go_wp2_with fail
      refine (eqAssembly_same _ _ _ _ n1 ch1 cw1 n2 ch2 cw2 rn rp _ GH.out GW.out PH.out PW.out).mono ?_
      rintro e w18 ⟨rfl, hb18⟩
      clear v0 vf0 v1 vf1 h0 hf0 h1 hf1
      have Vp := Lib.hid ((Vp.out).below hb18 ltp)
      have Vu := Lib.hid ((Vu.out).below hb18 ltu)
      have Vv := Lib.hid ((Vv.out).below hb18 ltv)
      have Vg := Lib.hid ((Vg.out).below hb18 ltg)
      have Vh := Lib.hid ((Vh.out).below hb18 lth)
      have HB18 := Lib.hid (HB17.out.trans (hb18.mono HB17.out.size))
      have ltp : w1.heap.size < w18.heap.size := lt_of_cell (Vp.out 0 _ rfl).1
      have ltu : w1.heap.size + 1 < w18.heap.size := lt_of_cell (Vu.out 0 _ rfl).1
      have ltv : Dw < w18.heap.size := lt_of_cell (Vv.out 0 _ rfl).1
      have ltg : Dg < w18.heap.size := lt_of_cell (Vg.out 0 _ rfl).1
      have lth : Dh < w18.heap.size := lt_of_cell (Vh.out 0 _ rfl).1
      have nep : ¬ w1.heap.size = w18.heap.size := by omega
      have neu : ¬ w1.heap.size + 1 = w18.heap.size := by omega
      have nev : ¬ Dw = w18.heap.size := by omega
      have neg : ¬ Dg = w18.heap.size := by omega
      have neh : ¬ Dh = w18.heap.size := by omega
      have GA := Lib.hid ((GA.out).below hb18)
      have PA := Lib.hid ((PA.out).below hb18)
      have GW := Lib.hid ((GW.out).below hb18)
      have PW := Lib.hid ((PW.out).below hb18)
      have MW := Lib.hid ((MW.out).below hb18)
      have GM := Lib.hid ((GM.out).below hb18)
      have PM := Lib.hid ((PM.out).below hb18)
      have MM := Lib.hid ((MM.out).below hb18)
      have GH := Lib.hid ((GH.out).below hb18)
      have PH := Lib.hid ((PH.out).below hb18)
      have MH := Lib.hid ((MH.out).below hb18)
      have hsz18 : w17.heap.size + 0 ≤ w18.heap.size := by have h := hb18.size; omega
      clear hb18
      go_wp2_with fail
      refine (eqMessageS_same _ _ n3 ch3 cw3 rm _ MH.out MW.out).mono ?_
      rintro e w19 ⟨rfl, hb19⟩
      have Vp := Lib.hid ((Vp.out).below hb19 ltp)
      have Vu := Lib.hid ((Vu.out).below hb19 ltu)
      have Vv := Lib.hid ((Vv.out).below hb19 ltv)
      have Vg := Lib.hid ((Vg.out).below hb19 ltg)
      have Vh := Lib.hid ((Vh.out).below hb19 lth)
      have HB19 := Lib.hid (HB18.out.trans (hb19.mono HB18.out.size))
      have ltp : w1.heap.size < w19.heap.size := lt_of_cell (Vp.out 0 _ rfl).1
      have ltu : w1.heap.size + 1 < w19.heap.size := lt_of_cell (Vu.out 0 _ rfl).1
      have ltv : Dw < w19.heap.size := lt_of_cell (Vv.out 0 _ rfl).1
      have ltg : Dg < w19.heap.size := lt_of_cell (Vg.out 0 _ rfl).1
      have lth : Dh < w19.heap.size := lt_of_cell (Vh.out 0 _ rfl).1
      have nep : ¬ w1.heap.size = w19.heap.size := by omega
      have neu : ¬ w1.heap.size + 1 = w19.heap.size := by omega
      have nev : ¬ Dw = w19.heap.size := by omega
      have neg : ¬ Dg = w19.heap.size := by omega
      have neh : ¬ Dh = w19.heap.size := by omega
      have GA := Lib.hid ((GA.out).below hb19)
      have PA := Lib.hid ((PA.out).below hb19)
      have GW := Lib.hid ((GW.out).below hb19)
      have PW := Lib.hid ((PW.out).below hb19)
      have MW := Lib.hid ((MW.out).below hb19)
      have GM := Lib.hid ((GM.out).below hb19)
      have PM := Lib.hid ((PM.out).below hb19)
      have MM := Lib.hid ((MM.out).below hb19)
      have GH := Lib.hid ((GH.out).below hb19)
      have PH := Lib.hid ((PH.out).below hb19)
      have MH := Lib.hid ((MH.out).below hb19)
      have hsz19 : w18.heap.size + 0 ≤ w19.heap.size := by have h := hb19.size; omega
      clear hb19
      have g0 := (Vg.out 0 _ rfl).1
      have gf0 := (Vg.out 0 _ rfl).2
      have g1 := (Vg.out 1 _ rfl).1
      have gf1 := (Vg.out 1 _ rfl).2
      go_wp2_with fail
      refine (heldA_z _ n1 cg1 _ n2 cg2 _ hk1 hk2 GM.out PM.out hzm).mono ?_
      rintro e w20 ⟨rfl, hb20⟩
      clear g0 gf0 g1 gf1
      have Vp := Lib.hid ((Vp.out).below hb20 ltp)
      have Vu := Lib.hid ((Vu.out).below hb20 ltu)
      have Vv := Lib.hid ((Vv.out).below hb20 ltv)
      have Vg := Lib.hid ((Vg.out).below hb20 ltg)
      have Vh := Lib.hid ((Vh.out).below hb20 lth)
      have HB20 := Lib.hid (HB19.out.trans (hb20.mono HB19.out.size))
      have ltp : w1.heap.size < w20.heap.size := lt_of_cell (Vp.out 0 _ rfl).1
      have ltu : w1.heap.size + 1 < w20.heap.size := lt_of_cell (Vu.out 0 _ rfl).1
      have ltv : Dw < w20.heap.size := lt_of_cell (Vv.out 0 _ rfl).1
      have ltg : Dg < w20.heap.size := lt_of_cell (Vg.out 0 _ rfl).1
      have lth : Dh < w20.heap.size := lt_of_cell (Vh.out 0 _ rfl).1
      have nep : ¬ w1.heap.size = w20.heap.size := by omega
      have neu : ¬ w1.heap.size + 1 = w20.heap.size := by omega
      have nev : ¬ Dw = w20.heap.size := by omega
      have neg : ¬ Dg = w20.heap.size := by omega
      have neh : ¬ Dh = w20.heap.size := by omega
      have GA := Lib.hid ((GA.out).below hb20)
      have PA := Lib.hid ((PA.out).below hb20)
      have GW := Lib.hid ((GW.out).below hb20)
      have PW := Lib.hid ((PW.out).below hb20)
      have MW := Lib.hid ((MW.out).below hb20)
      have GM := Lib.hid ((GM.out).below hb20)
      have PM := Lib.hid ((PM.out).below hb20)
      have MM := Lib.hid ((MM.out).below hb20)
      have GH := Lib.hid ((GH.out).below hb20)
      have PH := Lib.hid ((PH.out).below hb20)
      have MH := Lib.hid ((MH.out).below hb20)
      have hsz20 : w19.heap.size + 0 ≤ w20.heap.size := by have h := hb20.size; omega
      clear hb20
      go_wp2_with fail
      refine (heldM_z _ n3 cg3 (1 + n1 + 7 * n2) _ hk3 (by omega) (by omega) MM.out hzm hzn).mono ?_
      rintro e w21 ⟨rfl, hb21⟩
      have Vp := Lib.hid ((Vp.out).below hb21 ltp)
      have Vu := Lib.hid ((Vu.out).below hb21 ltu)
      have Vv := Lib.hid ((Vv.out).below hb21 ltv)
      have Vg := Lib.hid ((Vg.out).below hb21 ltg)
      have Vh := Lib.hid ((Vh.out).below hb21 lth)
      have HB21 := Lib.hid (HB20.out.trans (hb21.mono HB20.out.size))
      have ltp : w1.heap.size < w21.heap.size := lt_of_cell (Vp.out 0 _ rfl).1
      have ltu : w1.heap.size + 1 < w21.heap.size := lt_of_cell (Vu.out 0 _ rfl).1
      have ltv : Dw < w21.heap.size := lt_of_cell (Vv.out 0 _ rfl).1
      have ltg : Dg < w21.heap.size := lt_of_cell (Vg.out 0 _ rfl).1
      have lth : Dh < w21.heap.size := lt_of_cell (Vh.out 0 _ rfl).1
      have nep : ¬ w1.heap.size = w21.heap.size := by omega
      have neu : ¬ w1.heap.size + 1 = w21.heap.size := by omega
      have nev : ¬ Dw = w21.heap.size := by omega
      have neg : ¬ Dg = w21.heap.size := by omega
      have neh : ¬ Dh = w21.heap.size := by omega
      have GA := Lib.hid ((GA.out).below hb21)
      have PA := Lib.hid ((PA.out).below hb21)
      have GW := Lib.hid ((GW.out).below hb21)
      have PW := Lib.hid ((PW.out).below hb21)
      have MW := Lib.hid ((MW.out).below hb21)
      have GM := Lib.hid ((GM.out).below hb21)
      have PM := Lib.hid ((PM.out).below hb21)
      have MM := Lib.hid ((MM.out).below hb21)
      have GH := Lib.hid ((GH.out).below hb21)
      have PH := Lib.hid ((PH.out).below hb21)
      have MH := Lib.hid ((MH.out).below hb21)
      have hsz21 : w20.heap.size + 0 ≤ w21.heap.size := by have h := hb21.size; omega
      clear hb21
      go_wp2
      go_ret
      exact ⟨rfl, HB21.out⟩

end Go.Proofs.Ytncbgejggfkdmaa
