/- The walk of the law on a run, part by part. -/
import Derived.Handy
import Derived.Test.YtncbgejggfkdmabM11
namespace Go.Proofs.Ytncbgejggfkdmab
open Go.RowKit Go.PlainAid

set_option maxHeartbeats 4000000 in
theorem walk_fnAsmRun (a0 : Option Addr) (len0 cap0 : Nat) (z0 : List Int) (w : World) (w0 : IsRow .u8 w a0 len0 cap0 z0) :
    Calls Try.prog 6 #[.slice a0 len0 cap0] w fun e w' => e = .returned (.bool true) ∧ Below w.heap.size w w' := by
  have H := Lib.hid w0
  clear w0
  by_cases hl : (1048576 : Int) < len0
  · go_enter Try.func6, Try.ntmps6
    go_wp2
    go_ret
    exact ⟨rfl, Below.refl _ _⟩
  · go_enter Try.func6, Try.ntmps6
    go_wp2_with fail
    refine (drawAsmRun_any a0 len0 cap0 z0 _ H.out).mono ?_
    rintro e w1 ⟨n, a, k, cap, ps, rfl, hn, hk13, _, hp, hb1⟩
    have PA := Lib.hid hp
    have KL := Lib.hid hp.length
    clear hp
    obtain ⟨rm, hr⟩ : ∃ r, runV n ps = r := ⟨_, rfl⟩
    have few := runV_few hr
    rw [KL.out] at few
    obtain ⟨n3, hn3⟩ : ∃ q, rm.length = q := ⟨_, rfl⟩
    rw [hn3] at few
    have HR := Lib.hid hr
    have HN := Lib.hid hn3
    clear hr hn3
    go_wp2_with fail
    refine (asmRun_is n a k cap ps _ PA.out (by omega) HR.out HN.out).mono ?_
    rintro e w2 ⟨g1, d1, rfl, ho1, hb2⟩
    have HB2 := Lib.hid (hb1.trans (hb2.mono hb1.size))
    have PA := Lib.hid ((PA.out).below hb2)
    clear hb2
    have M1 := Lib.hid (own_mgs ho1)
    clear ho1
    go_wp2_with fail
    refine (sAsmRun_is n a k cap ps _ PA.out (by omega) HR.out HN.out).mono ?_
    rintro e w3 ⟨g2, d2, rfl, ho2, hb3⟩
    have HB3 := Lib.hid (HB2.out.trans (hb3.mono HB2.out.size))
    have PA := Lib.hid ((PA.out).below hb3)
    have M1 := Lib.hid ((M1.out).below hb3)
    clear hb3
    have M2 := Lib.hid (own_mgs ho2)
    clear ho2
    go_wp2_with fail
    refine (sameMessages_same _ _ n3 d1 d2 rm _ M1.out M2.out).mono ?_
    rintro e w4 ⟨rfl, hb4⟩
    have HB4 := Lib.hid (HB3.out.trans (hb4.mono HB3.out.size))
    have PA := Lib.hid ((PA.out).below hb4)
    have M1 := Lib.hid ((M1.out).below hb4)
    have M2 := Lib.hid ((M2.out).below hb4)
    clear hb4
    clear M2
    have BL := Lib.hid (below_box (w := w4) (.cells #[] 46) (Nat.le_refl _))
    have OL := Lib.hid (show (w4.alloc (.cells #[] 46)).ownsRow w4.heap.size 46 4 (.slice (some ⟨w4.heap.size, 0, none⟩) 0 0) 0 (flatM []) from World.ownsRow_lit w4 #[] 0 (Nat.le_refl _) (by decide) rfl)
    have HP := Lib.hid PA.out
    have LD := Lib.hid KL.out
    clear PA KL
    by_cases hnn : 1 ≤ n ∧ n ≤ 4
    · obtain ⟨m, rfl⟩ : ∃ m : Nat, n = (m : Int) := ⟨n.toNat, by omega⟩
      have HM := Lib.hid (show 1 ≤ m ∧ m ≤ 4 by omega)
      have RV := Lib.hid (runV_yes ps HM.out)
      clear hnn
      go_wp2_with fail
      refine (asmNew_at m _ HM.out).mono ?_
      rintro e v1w ⟨g, p, rfl, o1, o2, hb1⟩
      have A1 := Lib.hid (show Ar w4 v1w.heap.size (some ⟨g, 0, none⟩) m m p 0 0 (List.replicate m 0) [] (v1w.alloc (.cells #[.slice (some ⟨g, 0, none⟩) m m, .slice p 0 0] 27)) from ⟨heap_alloc_new v1w _, (row_low o1 BL.out.size).alloc _, (row_low o2 BL.out.size).alloc _, (BL.out.trans (hb1.mono BL.out.size)).alloc (Nat.le_trans BL.out.size hb1.size) _, Nat.le_trans BL.out.size hb1.size⟩)
      have O1 := Lib.hid ((ownB OL.out hb1).alloc (.cells #[.slice (some ⟨g, 0, none⟩) m m, .slice p 0 0] 27))
      have G0 := Lib.hid (show goP m (ps.take 0) (List.replicate m 0) [] = ⟨List.replicate m 0, [], []⟩ from rfl)
      clear o1 o2 hb1
      go_wp2
      obtain ⟨D, hD⟩ : ∃ D, v1w.heap.size = D := ⟨_, rfl⟩
      rw [hD] at A1 ⊢
      clear hD
      go_loopw [10, 7] (fun i o wr => ∃ (j : Nat) (sa : Option Addr) (kk cap3 : Nat) (next : List Int) (pq : List Part) (ms : List Msg) (a1 : Option Addr) (n1 c1 : Nat) (a2 : Option Addr) (n2 c2 : Nat), j ≤ k ∧ i = .int .i64 j ∧ o = .slice sa kk cap3 ∧ kk ≤ j ∧
        Hid (kk = ms.length ∧ ms.length + pq.length ≤ j) ∧ Hid (goP m (ps.take j) (List.replicate m 0) [] = ⟨next, pq, ms⟩) ∧ Hid (Ar w4 D a1 n1 c1 a2 n2 c2 next pq wr) ∧ Hid (wr.ownsRow w4.heap.size 46 4 (.slice sa kk cap3) kk (flatM ms))) (fun i _ _ => k - (intOf i).toNat)
      case atStart => exact ⟨0, _, 0, 0, List.replicate m 0, [], [], _, _, _, _, _, _, Nat.zero_le _, rfl, rfl, Nat.le_refl _, Lib.hid ⟨rfl, Nat.le_refl _⟩, G0, A1, O1⟩
      case round =>
        obtain ⟨j, sa, kk, cap3, next, pq, ms, a1, n1, c1, a2, n2, c2, hj, rfl, rfl, hkj, HC, HG, hA, hO⟩ := hrel
        clear A1 O1 G0
        by_cases hlt : j < k
        · obtain ⟨x, rfl⟩ := HP.out.addr hlt
          obtain ⟨p0, p1, p2, p3, p4, p5, p6⟩ := HP.out.at hA.out.b hlt
          have hT := Lib.hid (take_pAt (ps := ps) (k := j) (by rw [LD.out]; exact hlt))
          obtain ⟨⟨t, s, q, fi, la, lo, tx⟩, hd⟩ : ∃ d, pAt ps j = d := ⟨_, rfl⟩
          rw [hd] at p0 p1 p2 p3 p4 p5 p6 hT
          dsimp only at p0 p1 p2 p3 p4 p5 p6
          have OKN := Lib.hid (by have := go_next (ps.take j) HM.out; rw [HG.out] at this; exact this)
          have ji : (j : Int) < (k : Int) := by omega
          have AB := Lib.hid (hA.out.step (Below.drew (Below.refl _ _)))
          have OB := Lib.hid (ownB hO.out (Below.drew (Below.refl _ _)))
          have BZ := Lib.hid (below_box (w := wr.drew) (.cells #[.slice none 0 0, .slice none 0 0] 27) (Nat.le_refl _))
          have AZ := Lib.hid (AB.out.step BZ.out)
          have VZ := Lib.hid (show VarN wr.heap.size [.slice none 0 0, .slice none 0 0] (wr.drew.alloc (.cells #[.slice none 0 0, .slice none 0 0] 27)) from VarN.new wr.drew [.slice none 0 0, .slice none 0 0] 27)
          have LZ : wr.heap.size < (wr.drew.alloc (.cells #[.slice none 0 0, .slice none 0 0] 27)).heap.size := lt_of_cell (VZ.out 0 _ rfl).1
          have v0 := (hA.out.var 0 _ rfl).1
          have v1 := (hA.out.var 1 _ rfl).1
          have lv0 := lt_of_cell v0
          have lx : (x.add (j * 7)).block < wr.heap.size := World.block_lt_of_cell? wr _ p0
          clear hd hA hO
          go_wp2_with fail
          go_region_law (go_simp; go_at_call 23; (first | refine (asmAdd_any a1 n1 c1 next a2 n2 c2 pq ⟨t, s, q, fi, la, lo, tx⟩ _ (own_ns AB.out.n) (own_pts AB.out.p) (ok_keys OKN.out.1)).mono ?_ | refine (asmAdd_any a1 n1 c1 next a2 n2 c2 pq ⟨t, s, q, fi, la, lo, tx⟩ _ (own_ns AZ.out.n) (own_pts AZ.out.p) (ok_keys OKN.out.1)).mono ?_); rintro e v3w ⟨b1, m1, d1, b2, m2, d2, b3, m3, d3, rfl, hown, hb3⟩; unfold ansV; dsimp only; try (have y0 := ((VZ.out.below hb3 LZ) 0 _ rfl).1; have y1 := ((VZ.out.below hb3 LZ) 1 _ rfl).1; have y0f := ((VZ.out.below hb3 LZ) 0 _ rfl).2; have y1f := ((VZ.out.below hb3 LZ) 1 _ rfl).2))
          all_goals
            first
              | (have F := Lib.hid (Aft.late AB.out OB.out hown hb3); generalize (v3w.alloc (.cells #[.slice b1 m1 d1, .slice b2 m2 d2] 27)) = W9 at F ⊢)
              | (have F := Lib.hid (Aft.early AB.out OB.out hown hb3); generalize ((v3w.setCell ⟨wr.heap.size, 0, none⟩ (.slice b1 m1 d1)).setCell ⟨wr.heap.size, 1, none⟩ (.slice b2 m2 d2)) = W9 at F ⊢)
            have STP := Lib.hid (go_step (d := ⟨t, s, q, fi, la, lo, tx⟩) HG.out OKN.out.1 OKN.out.2)
            have CNT := Lib.hid (ansR_count (d := ⟨t, s, q, fi, la, lo, tx⟩) OKN.out.1)
            have M3 := Lib.hid (show (ansR next pq ⟨t, s, q, fi, la, lo, tx⟩).ms.length = m3 by have := F.out.s.1; rw [flatM_length] at this; omega)
            have m3j : kk + m3 ≤ j + 1 := by have := CNT.out; have := M3.out; have := HC.out; omega
            obtain ⟨code, hcode⟩ : ∃ c, ansC next pq ⟨t, s, q, fi, la, lo, tx⟩ = c := ⟨_, rfl⟩
            rw [hcode] at STP ⊢
            try clear y0 y1 y0f y1f
            clear hcode hown hb3 AB OB BZ AZ VZ LZ p0 p1 p2 p3 p4 p5 p6 v0 v1 lv0 lx
            by_cases hc : code = 3
            · subst hc
              have hR3 := Lib.hid (STP.out.2 (by decide))
              have HG2 := Lib.hid (show goP m (ps.take (j + 1)) (List.replicate m 0) [] = ⟨next, pq, ms ++ (ansR next pq ⟨t, s, q, fi, la, lo, tx⟩).ms⟩ by rw [hT.out, hR3.out.1, hR3.out.2, List.append_nil])
              have HC2 := Lib.hid (show kk + m3 = (ms ++ (ansR next pq ⟨t, s, q, fi, la, lo, tx⟩).ms).length ∧ (ms ++ (ansR next pq ⟨t, s, q, fi, la, lo, tx⟩).ms).length + pq.length ≤ j + 1 from by
                have h1 := HC.out
                have h3 := M3.out
                rw [List.length_append]
                rw [hR3.out.2] at h3 ⊢
                simp at h3 ⊢
                omega)
              go_wp2_with (at_builtin; go_loud (refine list_catM rfl _ _ rfl w4.heap.size w4.heap.size kk m3 cap3 d3 sa b3 ms (ansR next pq ⟨t, s, q, fi, la, lo, tx⟩).ms rfl F.out.o rfl F.out.s (by omega) F.out.a.b.size ?_))
              intro g3 cap4 v6w hown6 hgrow
              have A6 := Lib.hid (F.out.a.grow hgrow F.out.o (Nat.le_refl _))
              have O6 := Lib.hid hown6
              clear hown6 hgrow F
              go_wp2
              go_roundw
              case rel => exact ⟨j + 1, g3, kk + m3, cap4, _, _, _, a1, n1, c1, a2, n2, c2, by omega, by go_num, rfl, m3j, HC2, HG2, A6, O6⟩
              case measure => simp [intOf]; omega
            · have hcd : decide (code = 3) = false := decide_eq_false hc
              have c0 := (F.out.a.var 0 _ rfl).1
              have c1' := (F.out.a.var 1 _ rfl).1
              have c0f := (F.out.a.var 0 _ rfl).2
              have c1f := (F.out.a.var 1 _ rfl).2
              have x0 := (F.out.bv 0 _ rfl).1
              have x1 := (F.out.bv 1 _ rfl).1
              have A5 := Lib.hid (F.out.a.store F.out.n F.out.p)
              have O5 := Lib.hid (F.out.a.keep F.out.o (.slice b1 m1 d1) (.slice b2 m2 d2))
              have S5 := Lib.hid (F.out.a.keep F.out.s (.slice b1 m1 d1) (.slice b2 m2 d2))
              have HG2 := Lib.hid (show goP m (ps.take (j + 1)) (List.replicate m 0) [] = ⟨(ansR next pq ⟨t, s, q, fi, la, lo, tx⟩).next, (ansR next pq ⟨t, s, q, fi, la, lo, tx⟩).ps, ms ++ (ansR next pq ⟨t, s, q, fi, la, lo, tx⟩).ms⟩ by rw [hT.out]; exact STP.out.1 hc)
              have HC2 := Lib.hid (show kk + m3 = (ms ++ (ansR next pq ⟨t, s, q, fi, la, lo, tx⟩).ms).length ∧ (ms ++ (ansR next pq ⟨t, s, q, fi, la, lo, tx⟩).ms).length + (ansR next pq ⟨t, s, q, fi, la, lo, tx⟩).ps.length ≤ j + 1 from by
                have h1 := HC.out
                have h2 := CNT.out
                have h3 := M3.out
                rw [List.length_append]
                omega)
              go_wp2_with (at_builtin; go_loud (refine list_catM rfl _ _ rfl w4.heap.size w4.heap.size kk m3 cap3 d3 sa b3 ms (ansR next pq ⟨t, s, q, fi, la, lo, tx⟩).ms rfl O5.out rfl S5.out (by omega) A5.out.b.size ?_))
              intro g3 cap4 v6w hown6 hgrow
              have A6 := Lib.hid (A5.out.grow hgrow O5.out (Nat.le_refl _))
              have O6 := Lib.hid hown6
              clear hown6 hgrow A5 O5 S5 c0 c1' c0f c1f x0 x1 F
              go_wp2
              go_roundw
              case rel => exact ⟨j + 1, g3, kk + m3, cap4, _, _, _, b1, m1, d1, b2, m2, d2, by omega, by go_num, rfl, m3j, HC2, HG2, A6, O6⟩
              case measure => simp [intOf]; omega
        · obtain rfl : j = k := by omega
          have E := Lib.hid (show runV (m : Int) ps = ms by
            rw [RV.out]
            unfold runL
            have := HG.out
            rw [List.take_of_length_le (by rw [LD.out]; exact Nat.le_refl _)] at this
            rw [this])
          obtain rfl : ms = rm := E.out.symm.trans HR.out
          obtain rfl : kk = n3 := by have := HC.out.1; have := HN.out; omega
          clear HC HG RV E HP LD HR HN
          have MA := Lib.hid (own_mgs hO.out)
          have MB := Lib.hid (M1.out.below hA.out.b)
          have BB := Lib.hid hA.out.b
          clear hA hO M1
          go_wp2_with fail
          refine (sameMessages_same _ _ kk cap3 d1 ms _ MA.out MB.out).mono ?_
          rintro e v7w ⟨rfl, hb7⟩
          have HB7 := Lib.hid (HB4.out.trans ((BB.out.trans (hb7.mono BB.out.size)).mono HB4.out.size))
          go_wp2
          go_ret
          exact ⟨rfl, HB7.out⟩
    · have HN2 := Lib.hid hnn
      have RV := Lib.hid (show runV n ps = [] by unfold runV; rw [if_neg hnn])
      clear hnn
      go_wp2_with fail
      refine (asmNew_no n _ HN2.out).mono ?_
      rintro e v1w ⟨rfl, hb1⟩
      have O1 := Lib.hid ((ownB OL.out hb1).alloc (.cells #[.slice none 0 0, .slice none 0 0] 27))
      have B1 := Lib.hid ((BL.out.trans (hb1.mono BL.out.size)).alloc (Nat.le_trans BL.out.size hb1.size) (.cells #[.slice none 0 0, .slice none 0 0] 27))
      clear hb1
      go_wp2
      go_loopw [10, 7] (fun i o wr => i = .int .i64 0 ∧ o = .slice (some ⟨w4.heap.size, 0, none⟩) 0 0 ∧ wr = v1w.alloc (.cells #[.slice none 0 0, .slice none 0 0] 27)) (fun _ _ _ => 0)
      case atStart => exact ⟨rfl, rfl, rfl⟩
      case round =>
        obtain ⟨rfl, rfl, rfl⟩ := hrel
        obtain rfl : rm = [] := HR.out.symm.trans RV.out
        obtain rfl : n3 = 0 := by have := HN.out; simpa using this.symm
        have MA := Lib.hid (own_mgs O1.out)
        have MB := Lib.hid (M1.out.below B1.out)
        by_cases h0 : (0 : Int) < (k : Int)
        all_goals
          go_wp2_with fail
          refine (sameMessages_same _ _ 0 0 d1 [] _ MA.out MB.out).mono ?_
          rintro e v7w ⟨rfl, hb7⟩
          have HB7 := Lib.hid (HB4.out.trans ((B1.out.trans (hb7.mono B1.out.size)).mono HB4.out.size))
          go_wp2
          go_ret
          exact ⟨rfl, HB7.out⟩

end Go.Proofs.Ytncbgejggfkdmab
