/- Texts that a proof needs, merged: K198, K180, K181, K200, K201. -/
import Derived.Test.YtncbgejggfkdmaaM11

/- The draw of an assembly and a part. -/
namespace Go.Proofs.Ytncbgejggfkdmaa
open Go.RowKit Go.PlainAid

set_option maxRecDepth 8000 in
set_option maxHeartbeats 8000000 in
theorem drawAsmAdd_any (a0 : Option Addr) (len cap : Nat) (zs : List Int) (w : World) (h : IsRow .u8 w a0 len cap zs) :
    Calls Try.prog 13 #[.slice a0 len cap] w (DrewAd w) := by
  have H := Lib.hid h
  clear h
  have BW := Lib.hid ((below_box (w := w) (.cells (List.toArray [.slice none 0 0, .slice none 0 0]) 26) (Nat.le_refl _)).alloc (by simp) (.cells (List.toArray [.int .i64 0, .int .i64 0, .int .i64 0, .bool false, .bool false, .bool false, .string (ByteArray.mk #[])]) 28))
  have Q1 := Lib.hid (show ((w.alloc (.cells (List.toArray [.slice none 0 0, .slice none 0 0]) 26)).alloc (.cells (List.toArray [.int .i64 0, .int .i64 0, .int .i64 0, .bool false, .bool false, .bool false, .string (ByteArray.mk #[])]) 28)).heap[w.heap.size]? = some (.cells (List.toArray [.slice none 0 0, .slice none 0 0]) 26 (0, 0)) from by rw [(below_box (w := w.alloc (.cells (List.toArray [.slice none 0 0, .slice none 0 0]) 26)) (.cells (List.toArray [.int .i64 0, .int .i64 0, .int .i64 0, .bool false, .bool false, .bool false, .string (ByteArray.mk #[])]) 28) (Nat.le_refl _)).block _ (by simp)]; exact heap_alloc_new w _)
  have Q2 := Lib.hid (show ((w.alloc (.cells (List.toArray [.slice none 0 0, .slice none 0 0]) 26)).alloc (.cells (List.toArray [.int .i64 0, .int .i64 0, .int .i64 0, .bool false, .bool false, .bool false, .string (ByteArray.mk #[])]) 28)).heap[w.heap.size + 1]? = some (.cells (List.toArray [.int .i64 0, .int .i64 0, .int .i64 0, .bool false, .bool false, .bool false, .string (ByteArray.mk #[])]) 28 (0, 0)) from by have := heap_alloc_new (w.alloc (.cells (List.toArray [.slice none 0 0, .slice none 0 0]) 26)) (.cells (List.toArray [.int .i64 0, .int .i64 0, .int .i64 0, .bool false, .bool false, .bool false, .string (ByteArray.mk #[])]) 28); simpa using this)
  go_enter Try.func13, Try.ntmps13
  go_wp2_with fail
  refine (l6Open_any a0 len cap zs _ (H.out.keep BW.out)).mono ?_
  rintro e w1 ⟨r, rfl, hr1, hb1⟩
  obtain ⟨B, hBd⟩ : ∃ B, ((w.alloc (.cells (List.toArray [.slice none 0 0, .slice none 0 0]) 26)).alloc (.cells (List.toArray [.int .i64 0, .int .i64 0, .int .i64 0, .bool false, .bool false, .bool false, .string (ByteArray.mk #[])]) 28)).heap.size = B := ⟨_, rfl⟩
  rw [hBd] at hr1 hb1
  have hB : w.heap.size + 1 < B := by rw [← hBd]; simp
  have q1 := (hb1.block w.heap.size (by omega)).trans Q1.out
  have q2 := (hb1.block (w.heap.size + 1) (by omega)).trans Q2.out
  have bw1 := BW.out.trans (hb1.mono (show w.heap.size ≤ B by omega))
  clear hBd Q1 Q2 BW H
  have hBr := hr1.1
  go_wp2_with fail
  refine (l92Asm_any B r 0 _ hr1 (by omega)).mono ?_
  rintro e w2 ⟨a1, n1, c1, a2, n2, c2, es, qs, rfl, hn1, hn2, hsm, o1, o2, hr2, hb2, ha2⟩
  have SM := Lib.hid hsm
  obtain ⟨R, hR⟩ : ∃ R, w.heap.size = R := ⟨_, rfl⟩
  have hrz := hr1.2.1
  have S2 := Lib.hid (Da.new (R := R) (by rw [← hR]; exact hB) hr2 o1 o2 hrz (by rw [← hR]; exact bw1.trans (hb2.mono (by omega))) ((ha2 _ (by omega) (by omega)).trans (by rw [← hR]; exact q1)) ((ha2 _ (by omega) (by omega)).trans (by rw [← hR]; exact q2)) (hb2.size))
  have LQ := Lib.hid (show qs.length = n2 from (own_pts o2).length)
  obtain ⟨R0, hR0⟩ : ∃ R0, w1.heap.size = R0 := ⟨_, rfl⟩
  rw [hR0] at S2
  obtain ⟨D, hD⟩ : ∃ D, w2.heap.size = D := ⟨_, rfl⟩
  rw [hD] at S2
  clear hsm o1 o2 hr2 hb2 ha2 hr1 hb1 hR0 bw1 q1 q2 hrz
  have hRB : R + 1 < B := by rw [← hR]; exact hB
  have b1 := (S2.out.var 1 _ rfl).1
  by_cases hz0 : n2 = 0
  · subst hz0
    have nn : ¬ (0 : Int) < (0 : Int) := by decide
    go_wp2_with fail
    refine (l91Part_fr B r _ _ S2.out.rd (by omega)).mono ?_
    rintro e wp ⟨⟨pt, ps, pq, pf, pl, po, px, rfl, hp, hrp, hbp⟩, hfp⟩
    have P2 := Lib.hid ((S2.out.by hfp.aside hrp (hbp.mono (by omega))).box [.int .i64 pt, .int .i64 ps, .int .i64 pq, .bool pf, .bool pl, .bool po, .string px])
    have HP := Lib.hid (show Smally ⟨pt, ps, pq, pf, pl, po, px⟩ from ⟨hp.1, hp.2.1, hp.2.2.1, hp.2.2.2⟩)
    obtain ⟨X, hX⟩ : ∃ X, wp.heap.size = X := ⟨_, rfl⟩
    rw [hX] at P2
    clear hrp hbp hfp hp
    go_wp2_with fail
    try rw [hX]
    refine (pick_any B r _ 2 _ P2.out.z.rd (by omega) (by omega) (by omega)).mono ?_
    rintro e wq ⟨y, rfl, ya, yb, hrq, hoq⟩
    have P3 := Lib.hid (P2.out.only hoq hrq)
    clear hrq hoq P2
    by_cases hy : y = 0
    · subst hy
      have vx1 := (P3.out.var 1 _ rfl).1
      have vy1 := (P3.out.var 1 _ rfl).2
      have vx2 := (P3.out.var 2 _ rfl).1
      have vy2 := (P3.out.var 2 _ rfl).2
      have vx3 := (P3.out.var 3 _ rfl).1
      have vy3 := (P3.out.var 3 _ rfl).2
      have vx4 := (P3.out.var 4 _ rfl).1
      have vy4 := (P3.out.var 4 _ rfl).2
      have P4 := Lib.hid (show De B r _ D R0 R a1 n1 c1 a2 0 c2 es qs X (cellsP ⟨pt, 0, pq, true, true, po, px⟩) w (((wq.setCell ⟨X, 3, none⟩ (.bool true)).setCell ⟨X, 4, none⟩ (.bool true)).setCell ⟨X, 1, none⟩ (.int .i64 0)) from ((P3.out.set 3 (.bool true)).set 4 (.bool true)).set 1 (.int .i64 0))
      have va0 := (P4.out.z.var 0 _ rfl).1
      have nDX : D ≠ X := by have := P3.out.lt; omega
      by_cases hn0 : n1 = 0
      · subst hn0
        have nz : ¬ (0 : Int) < (0 : Int) := by decide
        go_wp2_with fail
        obtain ⟨W4, hW4⟩ : ∃ W4, (((wq.setCell ⟨X, 3, none⟩ (.bool true)).setCell ⟨X, 4, none⟩ (.bool true)).setCell ⟨X, 1, none⟩ (.int .i64 0)) = W4 := ⟨_, rfl⟩
        rw [hW4] at P4 ⊢
        clear va0 hW4
        clear vx1 vy1 vx2 vy2 vx3 vy3 vx4 vy4
        have vr0 := (P4.out.z.v1 0 _ rfl).1
        have vr1 := (P4.out.z.v1 1 _ rfl).1
        have vf0 := (P4.out.z.v1 0 _ rfl).2
        have vf1 := (P4.out.z.v1 1 _ rfl).2
        have vs0 := (P4.out.z.v2 0 _ rfl).1
        have vg0 := (P4.out.z.v2 0 _ rfl).2
        have vs1 := (P4.out.z.v2 1 _ rfl).1
        have vg1 := (P4.out.z.v2 1 _ rfl).2
        have vs2 := (P4.out.z.v2 2 _ rfl).1
        have vg2 := (P4.out.z.v2 2 _ rfl).2
        have vs3 := (P4.out.z.v2 3 _ rfl).1
        have vg3 := (P4.out.z.v2 3 _ rfl).2
        have vs4 := (P4.out.z.v2 4 _ rfl).1
        have vg4 := (P4.out.z.v2 4 _ rfl).2
        have vs5 := (P4.out.z.v2 5 _ rfl).1
        have vg5 := (P4.out.z.v2 5 _ rfl).2
        have vs6 := (P4.out.z.v2 6 _ rfl).1
        have vg6 := (P4.out.z.v2 6 _ rfl).2
        have va0 := (P4.out.z.var 0 _ rfl).1
        have va1 := (P4.out.z.var 1 _ rfl).1
        have vx0 := (P4.out.var 0 _ rfl).1
        have vx1 := (P4.out.var 1 _ rfl).1
        have vx2 := (P4.out.var 2 _ rfl).1
        have vx3 := (P4.out.var 3 _ rfl).1
        have vx4 := (P4.out.var 4 _ rfl).1
        have vx5 := (P4.out.var 5 _ rfl).1
        have vx6 := (P4.out.var 6 _ rfl).1
        have nRD : ¬ R = D := by have := P4.out.z.o1; have := P4.out.z.o3; have := P4.out.z.o2; omega
        have nR1D : ¬ R + 1 = D := by have := P4.out.z.o1; have := P4.out.z.o3; have := P4.out.z.o2; omega
        have nRX : ¬ R = X := by have := P4.out.lt; have := P4.out.z.o1; have := P4.out.z.o3; have := P4.out.z.o2; omega
        have nR1X : ¬ R + 1 = X := by have := P4.out.lt; have := P4.out.z.o1; have := P4.out.z.o3; have := P4.out.z.o2; omega
        have nR : ¬ R + 1 = R := by omega
        obtain ⟨W9, hW9, F1, F2, F3⟩ := P4.out.ret hn1 hn2 SM.out (show Smally ⟨pt, 0, pq, true, true, po, px⟩ from ⟨HP.out.1, ⟨by dsimp only; omega, by dsimp only; omega⟩, HP.out.2.2.1, HP.out.2.2.2⟩) hR
        dsimp only at hW9
        go_wp2_with fail
        go_region
        all_goals
          go_wp2
          try rw [hW9]
          have rr0 := (F1 0 _ rfl).1
          have rr1 := (F1 1 _ rfl).1
          have rs0 := (F2 0 _ rfl).1
          have rs1 := (F2 1 _ rfl).1
          have rs2 := (F2 2 _ rfl).1
          have rs3 := (F2 3 _ rfl).1
          have rs4 := (F2 4 _ rfl).1
          have rs5 := (F2 5 _ rfl).1
          have rs6 := (F2 6 _ rfl).1
          refine bodyPost_ret (v := .tuple #[.agg #[.slice a1 0 c1, .slice a2 0 c2], .agg #[.int .i64 pt, .int .i64 0, .int .i64 pq, .bool true, .bool true, .bool po, .string px]]) ?_ rfl ?_
          · simp [results, Try.results13, go_sem, rr0, rr1, rs0, rs1, rs2, rs3, rs4, rs5, rs6]
          · exact F3
      · have nz : (0 : Int) < (n1 : Int) := by omega
        obtain ⟨x0, rfl⟩ := (own_ns P4.out.z.n).addr (show 0 < n1 by omega)
        have en := (own_ns P4.out.z.n).at (Below.refl _ _) (show 0 < n1 by omega)
        rw [show x0.add 0 = x0 from rfl] at en
        obtain ⟨e0, he0⟩ : ∃ e0, nAt es 0 = e0 := ⟨_, rfl⟩
        rw [he0] at en
        go_wp2_with fail
        by_cases hser : Ser e0
        · refine (l3Ok_yes e0 _ hser).mono ?_
          rintro e wz ⟨rfl, hwz⟩
          rw [hwz] at P4 en va0
          clear hwz
          clear vx1 vy1 vx2 vy2 vx3 vy3 vx4 vy4
          have P5 := Lib.hid (P4.out.up (Below.drew (Below.refl _ _)))
          have vx2 := (P4.out.var 2 _ rfl).1
          have vy2 := (P4.out.var 2 _ rfl).2
          have HSR := Lib.hid hser
          go_wp2_with fail
          go_cut [] from 75 to 82 (fun wx => ∃ (M : Nat) (k : Int), Hid (De B r M D R0 R (some x0) n1 c1 a2 0 c2 es qs X (cellsP ⟨pt, 0, addS e0 k, true, true, po, px⟩) w wx))
          case first =>
            go_region_law (first
            | (go_simp; go_at_call 37; refine (pick_any B r _ 2 _ P5.out.z.rd (by omega) (by omega) (by omega)).mono ?_; rintro e wk ⟨k, rfl, k0, k1, hrk, hok⟩; have P6 := Lib.hid (P5.out.only hok hrk); have va0 := (P6.out.z.var 0 _ rfl).1; have en := (own_ns P6.out.z.n).at (Below.refl _ _) (show 0 < n1 by omega); rw [show x0.add 0 = x0 from rfl, he0] at en; have vx2 := (P6.out.var 2 _ rfl).1; have vy2 := (P6.out.var 2 _ rfl).2)
            | (go_simp; go_at_call 39; refine (l3Add_any e0 _ _ HSR.out).mono ?_; rintro e wl ⟨rfl, rfl⟩; dsimp only))
            all_goals
              go_wp2_with fail
              go_meet
              exact ⟨_, k, Lib.hid (P6.out.set 2 (.int .i64 (addS e0 k)))⟩
          case rest =>
            obtain ⟨M7, k, P7⟩ := hcut
            rename World => W5
            clear va0 en vx2 vy2 he0
            have vr0 := (P7.out.z.v1 0 _ rfl).1
            have vr1 := (P7.out.z.v1 1 _ rfl).1
            have vf0 := (P7.out.z.v1 0 _ rfl).2
            have vf1 := (P7.out.z.v1 1 _ rfl).2
            have vs0 := (P7.out.z.v2 0 _ rfl).1
            have vg0 := (P7.out.z.v2 0 _ rfl).2
            have vs1 := (P7.out.z.v2 1 _ rfl).1
            have vg1 := (P7.out.z.v2 1 _ rfl).2
            have vs2 := (P7.out.z.v2 2 _ rfl).1
            have vg2 := (P7.out.z.v2 2 _ rfl).2
            have vs3 := (P7.out.z.v2 3 _ rfl).1
            have vg3 := (P7.out.z.v2 3 _ rfl).2
            have vs4 := (P7.out.z.v2 4 _ rfl).1
            have vg4 := (P7.out.z.v2 4 _ rfl).2
            have vs5 := (P7.out.z.v2 5 _ rfl).1
            have vg5 := (P7.out.z.v2 5 _ rfl).2
            have vs6 := (P7.out.z.v2 6 _ rfl).1
            have vg6 := (P7.out.z.v2 6 _ rfl).2
            have va0 := (P7.out.z.var 0 _ rfl).1
            have va1 := (P7.out.z.var 1 _ rfl).1
            have vx0 := (P7.out.var 0 _ rfl).1
            have vx1 := (P7.out.var 1 _ rfl).1
            have vx2 := (P7.out.var 2 _ rfl).1
            have vx3 := (P7.out.var 3 _ rfl).1
            have vx4 := (P7.out.var 4 _ rfl).1
            have vx5 := (P7.out.var 5 _ rfl).1
            have vx6 := (P7.out.var 6 _ rfl).1
            have nRD : ¬ R = D := by have := P7.out.z.o1; have := P7.out.z.o3; have := P7.out.z.o2; omega
            have nR1D : ¬ R + 1 = D := by have := P7.out.z.o1; have := P7.out.z.o3; have := P7.out.z.o2; omega
            have nRX : ¬ R = X := by have := P7.out.lt; have := P7.out.z.o1; have := P7.out.z.o3; have := P7.out.z.o2; omega
            have nR1X : ¬ R + 1 = X := by have := P7.out.lt; have := P7.out.z.o1; have := P7.out.z.o3; have := P7.out.z.o2; omega
            have nR : ¬ R + 1 = R := by omega
            obtain ⟨W9, hW9, F1, F2, F3⟩ := P7.out.ret hn1 hn2 SM.out (show Smally ⟨pt, 0, addS e0 k, true, true, po, px⟩ from ⟨HP.out.1, ⟨by dsimp only; omega, by dsimp only; omega⟩, ⟨by have := (addS_ser e0 k).1; dsimp only; omega, by have := (addS_ser e0 k).2; dsimp only; omega⟩, HP.out.2.2.2⟩) hR
            dsimp only at hW9
            go_wp2_with fail
            go_region
            all_goals
              go_wp2
              try rw [hW9]
              have rr0 := (F1 0 _ rfl).1
              have rr1 := (F1 1 _ rfl).1
              have rs0 := (F2 0 _ rfl).1
              have rs1 := (F2 1 _ rfl).1
              have rs2 := (F2 2 _ rfl).1
              have rs3 := (F2 3 _ rfl).1
              have rs4 := (F2 4 _ rfl).1
              have rs5 := (F2 5 _ rfl).1
              have rs6 := (F2 6 _ rfl).1
              refine bodyPost_ret (v := .tuple #[.agg #[.slice (some x0) n1 c1, .slice a2 0 c2], .agg #[.int .i64 pt, .int .i64 0, .int .i64 (addS e0 k), .bool true, .bool true, .bool po, .string px]]) ?_ rfl ?_
              · simp [results, Try.results13, go_sem, rr0, rr1, rs0, rs1, rs2, rs3, rs4, rs5, rs6]
              · exact F3
        · refine (l3Ok_no e0 _ hser).mono ?_
          rintro e wz ⟨rfl, hwz⟩
          rw [hwz] at P4
          clear en he0 va0 hwz
          clear vx1 vy1 vx2 vy2 vx3 vy3 vx4 vy4
          have vr0 := (P4.out.z.v1 0 _ rfl).1
          have vr1 := (P4.out.z.v1 1 _ rfl).1
          have vf0 := (P4.out.z.v1 0 _ rfl).2
          have vf1 := (P4.out.z.v1 1 _ rfl).2
          have vs0 := (P4.out.z.v2 0 _ rfl).1
          have vg0 := (P4.out.z.v2 0 _ rfl).2
          have vs1 := (P4.out.z.v2 1 _ rfl).1
          have vg1 := (P4.out.z.v2 1 _ rfl).2
          have vs2 := (P4.out.z.v2 2 _ rfl).1
          have vg2 := (P4.out.z.v2 2 _ rfl).2
          have vs3 := (P4.out.z.v2 3 _ rfl).1
          have vg3 := (P4.out.z.v2 3 _ rfl).2
          have vs4 := (P4.out.z.v2 4 _ rfl).1
          have vg4 := (P4.out.z.v2 4 _ rfl).2
          have vs5 := (P4.out.z.v2 5 _ rfl).1
          have vg5 := (P4.out.z.v2 5 _ rfl).2
          have vs6 := (P4.out.z.v2 6 _ rfl).1
          have vg6 := (P4.out.z.v2 6 _ rfl).2
          have va0 := (P4.out.z.var 0 _ rfl).1
          have va1 := (P4.out.z.var 1 _ rfl).1
          have vx0 := (P4.out.var 0 _ rfl).1
          have vx1 := (P4.out.var 1 _ rfl).1
          have vx2 := (P4.out.var 2 _ rfl).1
          have vx3 := (P4.out.var 3 _ rfl).1
          have vx4 := (P4.out.var 4 _ rfl).1
          have vx5 := (P4.out.var 5 _ rfl).1
          have vx6 := (P4.out.var 6 _ rfl).1
          have nRD : ¬ R = D := by have := P4.out.z.o1; have := P4.out.z.o3; have := P4.out.z.o2; omega
          have nR1D : ¬ R + 1 = D := by have := P4.out.z.o1; have := P4.out.z.o3; have := P4.out.z.o2; omega
          have nRX : ¬ R = X := by have := P4.out.lt; have := P4.out.z.o1; have := P4.out.z.o3; have := P4.out.z.o2; omega
          have nR1X : ¬ R + 1 = X := by have := P4.out.lt; have := P4.out.z.o1; have := P4.out.z.o3; have := P4.out.z.o2; omega
          have nR : ¬ R + 1 = R := by omega
          obtain ⟨W9, hW9, F1, F2, F3⟩ := P4.out.ret hn1 hn2 SM.out (show Smally ⟨pt, 0, pq, true, true, po, px⟩ from ⟨HP.out.1, ⟨by dsimp only; omega, by dsimp only; omega⟩, HP.out.2.2.1, HP.out.2.2.2⟩) hR
          dsimp only at hW9
          go_wp2_with fail
          go_region
          all_goals
            go_wp2
            try rw [hW9]
            have rr0 := (F1 0 _ rfl).1
            have rr1 := (F1 1 _ rfl).1
            have rs0 := (F2 0 _ rfl).1
            have rs1 := (F2 1 _ rfl).1
            have rs2 := (F2 2 _ rfl).1
            have rs3 := (F2 3 _ rfl).1
            have rs4 := (F2 4 _ rfl).1
            have rs5 := (F2 5 _ rfl).1
            have rs6 := (F2 6 _ rfl).1
            refine bodyPost_ret (v := .tuple #[.agg #[.slice (some x0) n1 c1, .slice a2 0 c2], .agg #[.int .i64 pt, .int .i64 0, .int .i64 pq, .bool true, .bool true, .bool po, .string px]]) ?_ rfl ?_
            · simp [results, Try.results13, go_sem, rr0, rr1, rs0, rs1, rs2, rs3, rs4, rs5, rs6]
            · exact F3
    · have yn : (y == 0) = false := beq_eq_false_iff_ne.2 hy
      have vr0 := (P3.out.z.v1 0 _ rfl).1
      have vr1 := (P3.out.z.v1 1 _ rfl).1
      have vf0 := (P3.out.z.v1 0 _ rfl).2
      have vf1 := (P3.out.z.v1 1 _ rfl).2
      have vs0 := (P3.out.z.v2 0 _ rfl).1
      have vg0 := (P3.out.z.v2 0 _ rfl).2
      have vs1 := (P3.out.z.v2 1 _ rfl).1
      have vg1 := (P3.out.z.v2 1 _ rfl).2
      have vs2 := (P3.out.z.v2 2 _ rfl).1
      have vg2 := (P3.out.z.v2 2 _ rfl).2
      have vs3 := (P3.out.z.v2 3 _ rfl).1
      have vg3 := (P3.out.z.v2 3 _ rfl).2
      have vs4 := (P3.out.z.v2 4 _ rfl).1
      have vg4 := (P3.out.z.v2 4 _ rfl).2
      have vs5 := (P3.out.z.v2 5 _ rfl).1
      have vg5 := (P3.out.z.v2 5 _ rfl).2
      have vs6 := (P3.out.z.v2 6 _ rfl).1
      have vg6 := (P3.out.z.v2 6 _ rfl).2
      have va0 := (P3.out.z.var 0 _ rfl).1
      have va1 := (P3.out.z.var 1 _ rfl).1
      have vx0 := (P3.out.var 0 _ rfl).1
      have vx1 := (P3.out.var 1 _ rfl).1
      have vx2 := (P3.out.var 2 _ rfl).1
      have vx3 := (P3.out.var 3 _ rfl).1
      have vx4 := (P3.out.var 4 _ rfl).1
      have vx5 := (P3.out.var 5 _ rfl).1
      have vx6 := (P3.out.var 6 _ rfl).1
      have nRD : ¬ R = D := by have := P3.out.z.o1; have := P3.out.z.o3; have := P3.out.z.o2; omega
      have nR1D : ¬ R + 1 = D := by have := P3.out.z.o1; have := P3.out.z.o3; have := P3.out.z.o2; omega
      have nRX : ¬ R = X := by have := P3.out.lt; have := P3.out.z.o1; have := P3.out.z.o3; have := P3.out.z.o2; omega
      have nR1X : ¬ R + 1 = X := by have := P3.out.lt; have := P3.out.z.o1; have := P3.out.z.o3; have := P3.out.z.o2; omega
      have nR : ¬ R + 1 = R := by omega
      obtain ⟨W9, hW9, F1, F2, F3⟩ := P3.out.ret hn1 hn2 SM.out (HP.out) hR
      dsimp only at hW9
      go_wp2_with fail
      go_region
      all_goals
        go_wp2
        try rw [hW9]
        have rr0 := (F1 0 _ rfl).1
        have rr1 := (F1 1 _ rfl).1
        have rs0 := (F2 0 _ rfl).1
        have rs1 := (F2 1 _ rfl).1
        have rs2 := (F2 2 _ rfl).1
        have rs3 := (F2 3 _ rfl).1
        have rs4 := (F2 4 _ rfl).1
        have rs5 := (F2 5 _ rfl).1
        have rs6 := (F2 6 _ rfl).1
        refine bodyPost_ret (v := .tuple #[.agg #[.slice a1 n1 c1, .slice a2 0 c2], .agg #[.int .i64 pt, .int .i64 ps, .int .i64 pq, .bool pf, .bool pl, .bool po, .string px]]) ?_ rfl ?_
        · simp [results, Try.results13, go_sem, rr0, rr1, rs0, rs1, rs2, rs3, rs4, rs5, rs6]
        · exact F3
  · obtain ⟨j, rfl⟩ : ∃ j, n2 = j + 1 := ⟨n2 - 1, by omega⟩
    have nn : (0 : Int) < ((j + 1 : Nat) : Int) := by omega
    go_wp2_with fail
    refine (pick_any B r _ 3 _ S2.out.rd (by omega) (by omega) (by omega)).mono ?_
    rintro e w3 ⟨g, rfl, g0, g1, hrg, hog⟩
    have S3 := Lib.hid (S2.out.only hog hrg)
    clear hrg hog b1
    have b1 := (S3.out.var 1 _ rfl).1
    by_cases hg : 0 < g
    · obtain ⟨x2, rfl⟩ := (own_pts S3.out.p).addr (show j < j + 1 by omega)
      obtain ⟨p0, p1, p2, p3, p4, p5, p6⟩ := (own_pts S3.out.p).at (Below.refl _ _) (show j < j + 1 by omega)
      obtain ⟨⟨lt, ls, lq, lf, ll, lo, lx⟩, hd⟩ : ∃ d, pAt qs j = d := ⟨_, rfl⟩
      rw [hd] at p0 p1 p2 p3 p4 p5 p6
      dsimp only at p0 p1 p2 p3 p4 p5 p6
      have wj : IntKind.i64.wrap (((j + 1 : Nat) : Int) - 1) = (j : Int) := by rw [IntWalk.i64_in _ ⟨by omega, by omega⟩]; omega
      have jj : (j : Int) < ((j + 1 : Nat) : Int) := by omega
      go_wp2_with fail
      refine (l12Data_any lt ls lq lf ll lo lx _).mono ?_
      rintro e w4 ⟨rfl, hb4⟩
      have S4 := Lib.hid (S3.out.up hb4)
      clear hb4 p0 p1 p2 p3 p4 p5 p6 hd
      generalize dataOkV lt ls lq lx = ok
      cases ok
      · go_wp2_with fail
        refine (l91Part_fr B r _ _ S4.out.rd (by omega)).mono ?_
        rintro e wp ⟨⟨pt, ps, pq, pf, pl, po, px, rfl, hp, hrp, hbp⟩, hfp⟩
        have P2 := Lib.hid ((S4.out.by hfp.aside hrp (hbp.mono (by omega))).box [.int .i64 pt, .int .i64 ps, .int .i64 pq, .bool pf, .bool pl, .bool po, .string px])
        have HP := Lib.hid (show Smally ⟨pt, ps, pq, pf, pl, po, px⟩ from ⟨hp.1, hp.2.1, hp.2.2.1, hp.2.2.2⟩)
        obtain ⟨X, hX⟩ : ∃ X, wp.heap.size = X := ⟨_, rfl⟩
        rw [hX] at P2
        clear hrp hbp hfp hp
        go_wp2_with fail
        try rw [hX]
        refine (pick_any B r _ 2 _ P2.out.z.rd (by omega) (by omega) (by omega)).mono ?_
        rintro e wq ⟨y, rfl, ya, yb, hrq, hoq⟩
        have P3 := Lib.hid (P2.out.only hoq hrq)
        clear hrq hoq P2
        by_cases hy : y = 0
        · subst hy
          have vx1 := (P3.out.var 1 _ rfl).1
          have vy1 := (P3.out.var 1 _ rfl).2
          have vx2 := (P3.out.var 2 _ rfl).1
          have vy2 := (P3.out.var 2 _ rfl).2
          have vx3 := (P3.out.var 3 _ rfl).1
          have vy3 := (P3.out.var 3 _ rfl).2
          have vx4 := (P3.out.var 4 _ rfl).1
          have vy4 := (P3.out.var 4 _ rfl).2
          have P4 := Lib.hid (show De B r _ D R0 R a1 n1 c1 (some x2) (j + 1) c2 es qs X (cellsP ⟨pt, 0, pq, true, true, po, px⟩) w (((wq.setCell ⟨X, 3, none⟩ (.bool true)).setCell ⟨X, 4, none⟩ (.bool true)).setCell ⟨X, 1, none⟩ (.int .i64 0)) from ((P3.out.set 3 (.bool true)).set 4 (.bool true)).set 1 (.int .i64 0))
          have va0 := (P4.out.z.var 0 _ rfl).1
          have nDX : D ≠ X := by have := P3.out.lt; omega
          by_cases hn0 : n1 = 0
          · subst hn0
            have nz : ¬ (0 : Int) < (0 : Int) := by decide
            go_wp2_with fail
            obtain ⟨W4, hW4⟩ : ∃ W4, (((wq.setCell ⟨X, 3, none⟩ (.bool true)).setCell ⟨X, 4, none⟩ (.bool true)).setCell ⟨X, 1, none⟩ (.int .i64 0)) = W4 := ⟨_, rfl⟩
            rw [hW4] at P4 ⊢
            clear va0 hW4
            clear vx1 vy1 vx2 vy2 vx3 vy3 vx4 vy4
            have vr0 := (P4.out.z.v1 0 _ rfl).1
            have vr1 := (P4.out.z.v1 1 _ rfl).1
            have vf0 := (P4.out.z.v1 0 _ rfl).2
            have vf1 := (P4.out.z.v1 1 _ rfl).2
            have vs0 := (P4.out.z.v2 0 _ rfl).1
            have vg0 := (P4.out.z.v2 0 _ rfl).2
            have vs1 := (P4.out.z.v2 1 _ rfl).1
            have vg1 := (P4.out.z.v2 1 _ rfl).2
            have vs2 := (P4.out.z.v2 2 _ rfl).1
            have vg2 := (P4.out.z.v2 2 _ rfl).2
            have vs3 := (P4.out.z.v2 3 _ rfl).1
            have vg3 := (P4.out.z.v2 3 _ rfl).2
            have vs4 := (P4.out.z.v2 4 _ rfl).1
            have vg4 := (P4.out.z.v2 4 _ rfl).2
            have vs5 := (P4.out.z.v2 5 _ rfl).1
            have vg5 := (P4.out.z.v2 5 _ rfl).2
            have vs6 := (P4.out.z.v2 6 _ rfl).1
            have vg6 := (P4.out.z.v2 6 _ rfl).2
            have va0 := (P4.out.z.var 0 _ rfl).1
            have va1 := (P4.out.z.var 1 _ rfl).1
            have vx0 := (P4.out.var 0 _ rfl).1
            have vx1 := (P4.out.var 1 _ rfl).1
            have vx2 := (P4.out.var 2 _ rfl).1
            have vx3 := (P4.out.var 3 _ rfl).1
            have vx4 := (P4.out.var 4 _ rfl).1
            have vx5 := (P4.out.var 5 _ rfl).1
            have vx6 := (P4.out.var 6 _ rfl).1
            have nRD : ¬ R = D := by have := P4.out.z.o1; have := P4.out.z.o3; have := P4.out.z.o2; omega
            have nR1D : ¬ R + 1 = D := by have := P4.out.z.o1; have := P4.out.z.o3; have := P4.out.z.o2; omega
            have nRX : ¬ R = X := by have := P4.out.lt; have := P4.out.z.o1; have := P4.out.z.o3; have := P4.out.z.o2; omega
            have nR1X : ¬ R + 1 = X := by have := P4.out.lt; have := P4.out.z.o1; have := P4.out.z.o3; have := P4.out.z.o2; omega
            have nR : ¬ R + 1 = R := by omega
            obtain ⟨W9, hW9, F1, F2, F3⟩ := P4.out.ret hn1 hn2 SM.out (show Smally ⟨pt, 0, pq, true, true, po, px⟩ from ⟨HP.out.1, ⟨by dsimp only; omega, by dsimp only; omega⟩, HP.out.2.2.1, HP.out.2.2.2⟩) hR
            dsimp only at hW9
            go_wp2_with fail
            go_region
            all_goals
              go_wp2
              try rw [hW9]
              have rr0 := (F1 0 _ rfl).1
              have rr1 := (F1 1 _ rfl).1
              have rs0 := (F2 0 _ rfl).1
              have rs1 := (F2 1 _ rfl).1
              have rs2 := (F2 2 _ rfl).1
              have rs3 := (F2 3 _ rfl).1
              have rs4 := (F2 4 _ rfl).1
              have rs5 := (F2 5 _ rfl).1
              have rs6 := (F2 6 _ rfl).1
              refine bodyPost_ret (v := .tuple #[.agg #[.slice a1 0 c1, .slice (some x2) (j + 1) c2], .agg #[.int .i64 pt, .int .i64 0, .int .i64 pq, .bool true, .bool true, .bool po, .string px]]) ?_ rfl ?_
              · simp [results, Try.results13, go_sem, rr0, rr1, rs0, rs1, rs2, rs3, rs4, rs5, rs6]
              · exact F3
          · have nz : (0 : Int) < (n1 : Int) := by omega
            obtain ⟨x0, rfl⟩ := (own_ns P4.out.z.n).addr (show 0 < n1 by omega)
            have en := (own_ns P4.out.z.n).at (Below.refl _ _) (show 0 < n1 by omega)
            rw [show x0.add 0 = x0 from rfl] at en
            obtain ⟨e0, he0⟩ : ∃ e0, nAt es 0 = e0 := ⟨_, rfl⟩
            rw [he0] at en
            go_wp2_with fail
            by_cases hser : Ser e0
            · refine (l3Ok_yes e0 _ hser).mono ?_
              rintro e wz ⟨rfl, hwz⟩
              rw [hwz] at P4 en va0
              clear hwz
              clear vx1 vy1 vx2 vy2 vx3 vy3 vx4 vy4
              have P5 := Lib.hid (P4.out.up (Below.drew (Below.refl _ _)))
              have vx2 := (P4.out.var 2 _ rfl).1
              have vy2 := (P4.out.var 2 _ rfl).2
              have HSR := Lib.hid hser
              go_wp2_with fail
              go_cut [] from 75 to 82 (fun wx => ∃ (M : Nat) (k : Int), Hid (De B r M D R0 R (some x0) n1 c1 (some x2) (j + 1) c2 es qs X (cellsP ⟨pt, 0, addS e0 k, true, true, po, px⟩) w wx))
              case first =>
                go_region_law (first
                | (go_simp; go_at_call 37; refine (pick_any B r _ 2 _ P5.out.z.rd (by omega) (by omega) (by omega)).mono ?_; rintro e wk ⟨k, rfl, k0, k1, hrk, hok⟩; have P6 := Lib.hid (P5.out.only hok hrk); have va0 := (P6.out.z.var 0 _ rfl).1; have en := (own_ns P6.out.z.n).at (Below.refl _ _) (show 0 < n1 by omega); rw [show x0.add 0 = x0 from rfl, he0] at en; have vx2 := (P6.out.var 2 _ rfl).1; have vy2 := (P6.out.var 2 _ rfl).2)
                | (go_simp; go_at_call 39; refine (l3Add_any e0 _ _ HSR.out).mono ?_; rintro e wl ⟨rfl, rfl⟩; dsimp only))
                all_goals
                  go_wp2_with fail
                  go_meet
                  exact ⟨_, k, Lib.hid (P6.out.set 2 (.int .i64 (addS e0 k)))⟩
              case rest =>
                obtain ⟨M7, k, P7⟩ := hcut
                rename World => W5
                clear va0 en vx2 vy2 he0
                have vr0 := (P7.out.z.v1 0 _ rfl).1
                have vr1 := (P7.out.z.v1 1 _ rfl).1
                have vf0 := (P7.out.z.v1 0 _ rfl).2
                have vf1 := (P7.out.z.v1 1 _ rfl).2
                have vs0 := (P7.out.z.v2 0 _ rfl).1
                have vg0 := (P7.out.z.v2 0 _ rfl).2
                have vs1 := (P7.out.z.v2 1 _ rfl).1
                have vg1 := (P7.out.z.v2 1 _ rfl).2
                have vs2 := (P7.out.z.v2 2 _ rfl).1
                have vg2 := (P7.out.z.v2 2 _ rfl).2
                have vs3 := (P7.out.z.v2 3 _ rfl).1
                have vg3 := (P7.out.z.v2 3 _ rfl).2
                have vs4 := (P7.out.z.v2 4 _ rfl).1
                have vg4 := (P7.out.z.v2 4 _ rfl).2
                have vs5 := (P7.out.z.v2 5 _ rfl).1
                have vg5 := (P7.out.z.v2 5 _ rfl).2
                have vs6 := (P7.out.z.v2 6 _ rfl).1
                have vg6 := (P7.out.z.v2 6 _ rfl).2
                have va0 := (P7.out.z.var 0 _ rfl).1
                have va1 := (P7.out.z.var 1 _ rfl).1
                have vx0 := (P7.out.var 0 _ rfl).1
                have vx1 := (P7.out.var 1 _ rfl).1
                have vx2 := (P7.out.var 2 _ rfl).1
                have vx3 := (P7.out.var 3 _ rfl).1
                have vx4 := (P7.out.var 4 _ rfl).1
                have vx5 := (P7.out.var 5 _ rfl).1
                have vx6 := (P7.out.var 6 _ rfl).1
                have nRD : ¬ R = D := by have := P7.out.z.o1; have := P7.out.z.o3; have := P7.out.z.o2; omega
                have nR1D : ¬ R + 1 = D := by have := P7.out.z.o1; have := P7.out.z.o3; have := P7.out.z.o2; omega
                have nRX : ¬ R = X := by have := P7.out.lt; have := P7.out.z.o1; have := P7.out.z.o3; have := P7.out.z.o2; omega
                have nR1X : ¬ R + 1 = X := by have := P7.out.lt; have := P7.out.z.o1; have := P7.out.z.o3; have := P7.out.z.o2; omega
                have nR : ¬ R + 1 = R := by omega
                obtain ⟨W9, hW9, F1, F2, F3⟩ := P7.out.ret hn1 hn2 SM.out (show Smally ⟨pt, 0, addS e0 k, true, true, po, px⟩ from ⟨HP.out.1, ⟨by dsimp only; omega, by dsimp only; omega⟩, ⟨by have := (addS_ser e0 k).1; dsimp only; omega, by have := (addS_ser e0 k).2; dsimp only; omega⟩, HP.out.2.2.2⟩) hR
                dsimp only at hW9
                go_wp2_with fail
                go_region
                all_goals
                  go_wp2
                  try rw [hW9]
                  have rr0 := (F1 0 _ rfl).1
                  have rr1 := (F1 1 _ rfl).1
                  have rs0 := (F2 0 _ rfl).1
                  have rs1 := (F2 1 _ rfl).1
                  have rs2 := (F2 2 _ rfl).1
                  have rs3 := (F2 3 _ rfl).1
                  have rs4 := (F2 4 _ rfl).1
                  have rs5 := (F2 5 _ rfl).1
                  have rs6 := (F2 6 _ rfl).1
                  refine bodyPost_ret (v := .tuple #[.agg #[.slice (some x0) n1 c1, .slice (some x2) (j + 1) c2], .agg #[.int .i64 pt, .int .i64 0, .int .i64 (addS e0 k), .bool true, .bool true, .bool po, .string px]]) ?_ rfl ?_
                  · simp [results, Try.results13, go_sem, rr0, rr1, rs0, rs1, rs2, rs3, rs4, rs5, rs6]
                  · exact F3
            · refine (l3Ok_no e0 _ hser).mono ?_
              rintro e wz ⟨rfl, hwz⟩
              rw [hwz] at P4
              clear en he0 va0 hwz
              clear vx1 vy1 vx2 vy2 vx3 vy3 vx4 vy4
              have vr0 := (P4.out.z.v1 0 _ rfl).1
              have vr1 := (P4.out.z.v1 1 _ rfl).1
              have vf0 := (P4.out.z.v1 0 _ rfl).2
              have vf1 := (P4.out.z.v1 1 _ rfl).2
              have vs0 := (P4.out.z.v2 0 _ rfl).1
              have vg0 := (P4.out.z.v2 0 _ rfl).2
              have vs1 := (P4.out.z.v2 1 _ rfl).1
              have vg1 := (P4.out.z.v2 1 _ rfl).2
              have vs2 := (P4.out.z.v2 2 _ rfl).1
              have vg2 := (P4.out.z.v2 2 _ rfl).2
              have vs3 := (P4.out.z.v2 3 _ rfl).1
              have vg3 := (P4.out.z.v2 3 _ rfl).2
              have vs4 := (P4.out.z.v2 4 _ rfl).1
              have vg4 := (P4.out.z.v2 4 _ rfl).2
              have vs5 := (P4.out.z.v2 5 _ rfl).1
              have vg5 := (P4.out.z.v2 5 _ rfl).2
              have vs6 := (P4.out.z.v2 6 _ rfl).1
              have vg6 := (P4.out.z.v2 6 _ rfl).2
              have va0 := (P4.out.z.var 0 _ rfl).1
              have va1 := (P4.out.z.var 1 _ rfl).1
              have vx0 := (P4.out.var 0 _ rfl).1
              have vx1 := (P4.out.var 1 _ rfl).1
              have vx2 := (P4.out.var 2 _ rfl).1
              have vx3 := (P4.out.var 3 _ rfl).1
              have vx4 := (P4.out.var 4 _ rfl).1
              have vx5 := (P4.out.var 5 _ rfl).1
              have vx6 := (P4.out.var 6 _ rfl).1
              have nRD : ¬ R = D := by have := P4.out.z.o1; have := P4.out.z.o3; have := P4.out.z.o2; omega
              have nR1D : ¬ R + 1 = D := by have := P4.out.z.o1; have := P4.out.z.o3; have := P4.out.z.o2; omega
              have nRX : ¬ R = X := by have := P4.out.lt; have := P4.out.z.o1; have := P4.out.z.o3; have := P4.out.z.o2; omega
              have nR1X : ¬ R + 1 = X := by have := P4.out.lt; have := P4.out.z.o1; have := P4.out.z.o3; have := P4.out.z.o2; omega
              have nR : ¬ R + 1 = R := by omega
              obtain ⟨W9, hW9, F1, F2, F3⟩ := P4.out.ret hn1 hn2 SM.out (show Smally ⟨pt, 0, pq, true, true, po, px⟩ from ⟨HP.out.1, ⟨by dsimp only; omega, by dsimp only; omega⟩, HP.out.2.2.1, HP.out.2.2.2⟩) hR
              dsimp only at hW9
              go_wp2_with fail
              go_region
              all_goals
                go_wp2
                try rw [hW9]
                have rr0 := (F1 0 _ rfl).1
                have rr1 := (F1 1 _ rfl).1
                have rs0 := (F2 0 _ rfl).1
                have rs1 := (F2 1 _ rfl).1
                have rs2 := (F2 2 _ rfl).1
                have rs3 := (F2 3 _ rfl).1
                have rs4 := (F2 4 _ rfl).1
                have rs5 := (F2 5 _ rfl).1
                have rs6 := (F2 6 _ rfl).1
                refine bodyPost_ret (v := .tuple #[.agg #[.slice (some x0) n1 c1, .slice (some x2) (j + 1) c2], .agg #[.int .i64 pt, .int .i64 0, .int .i64 pq, .bool true, .bool true, .bool po, .string px]]) ?_ rfl ?_
                · simp [results, Try.results13, go_sem, rr0, rr1, rs0, rs1, rs2, rs3, rs4, rs5, rs6]
                · exact F3
        · have yn : (y == 0) = false := beq_eq_false_iff_ne.2 hy
          have vr0 := (P3.out.z.v1 0 _ rfl).1
          have vr1 := (P3.out.z.v1 1 _ rfl).1
          have vf0 := (P3.out.z.v1 0 _ rfl).2
          have vf1 := (P3.out.z.v1 1 _ rfl).2
          have vs0 := (P3.out.z.v2 0 _ rfl).1
          have vg0 := (P3.out.z.v2 0 _ rfl).2
          have vs1 := (P3.out.z.v2 1 _ rfl).1
          have vg1 := (P3.out.z.v2 1 _ rfl).2
          have vs2 := (P3.out.z.v2 2 _ rfl).1
          have vg2 := (P3.out.z.v2 2 _ rfl).2
          have vs3 := (P3.out.z.v2 3 _ rfl).1
          have vg3 := (P3.out.z.v2 3 _ rfl).2
          have vs4 := (P3.out.z.v2 4 _ rfl).1
          have vg4 := (P3.out.z.v2 4 _ rfl).2
          have vs5 := (P3.out.z.v2 5 _ rfl).1
          have vg5 := (P3.out.z.v2 5 _ rfl).2
          have vs6 := (P3.out.z.v2 6 _ rfl).1
          have vg6 := (P3.out.z.v2 6 _ rfl).2
          have va0 := (P3.out.z.var 0 _ rfl).1
          have va1 := (P3.out.z.var 1 _ rfl).1
          have vx0 := (P3.out.var 0 _ rfl).1
          have vx1 := (P3.out.var 1 _ rfl).1
          have vx2 := (P3.out.var 2 _ rfl).1
          have vx3 := (P3.out.var 3 _ rfl).1
          have vx4 := (P3.out.var 4 _ rfl).1
          have vx5 := (P3.out.var 5 _ rfl).1
          have vx6 := (P3.out.var 6 _ rfl).1
          have nRD : ¬ R = D := by have := P3.out.z.o1; have := P3.out.z.o3; have := P3.out.z.o2; omega
          have nR1D : ¬ R + 1 = D := by have := P3.out.z.o1; have := P3.out.z.o3; have := P3.out.z.o2; omega
          have nRX : ¬ R = X := by have := P3.out.lt; have := P3.out.z.o1; have := P3.out.z.o3; have := P3.out.z.o2; omega
          have nR1X : ¬ R + 1 = X := by have := P3.out.lt; have := P3.out.z.o1; have := P3.out.z.o3; have := P3.out.z.o2; omega
          have nR : ¬ R + 1 = R := by omega
          obtain ⟨W9, hW9, F1, F2, F3⟩ := P3.out.ret hn1 hn2 SM.out (HP.out) hR
          dsimp only at hW9
          go_wp2_with fail
          go_region
          all_goals
            go_wp2
            try rw [hW9]
            have rr0 := (F1 0 _ rfl).1
            have rr1 := (F1 1 _ rfl).1
            have rs0 := (F2 0 _ rfl).1
            have rs1 := (F2 1 _ rfl).1
            have rs2 := (F2 2 _ rfl).1
            have rs3 := (F2 3 _ rfl).1
            have rs4 := (F2 4 _ rfl).1
            have rs5 := (F2 5 _ rfl).1
            have rs6 := (F2 6 _ rfl).1
            refine bodyPost_ret (v := .tuple #[.agg #[.slice a1 n1 c1, .slice (some x2) (j + 1) c2], .agg #[.int .i64 pt, .int .i64 ps, .int .i64 pq, .bool pf, .bool pl, .bool po, .string px]]) ?_ rfl ?_
            · simp [results, Try.results13, go_sem, rr0, rr1, rs0, rs1, rs2, rs3, rs4, rs5, rs6]
            · exact F3
      · have S4d := Lib.hid (S4.out.up (Below.drew (Below.refl _ _)))
        have S4z := Lib.hid (show De B r (0 + 200 + 1) D R0 R a1 n1 c1 (some x2) (j + 1) c2 es qs w4.heap.size [.int .i64 0, .int .i64 0, .int .i64 0, .bool false, .bool false, .bool false, .string (ByteArray.mk #[])] w (w4.drew.alloc (.cells (List.toArray [.int .i64 0, .int .i64 0, .int .i64 0, .bool false, .bool false, .bool false, .string (ByteArray.mk #[])]) 28)) from S4d.out.box [.int .i64 0, .int .i64 0, .int .i64 0, .bool false, .bool false, .bool false, .string (ByteArray.mk #[])])
        have b1 := (S4.out.var 1 _ rfl).1
        have lD := S4.out.lt
        obtain ⟨X, hX⟩ : ∃ X, w4.heap.size = X := ⟨_, rfl⟩
        rw [hX] at lD S4z
        go_wp2_with fail
        go_cut [7] from 32 to 38 (fun v wx => ∃ (M X : Nat) (pt ps pq : Int) (pf pl po : Bool) (px : ByteArray), v = .pointer (some ⟨X, 0, none⟩) ∧ M ≤ 1000 ∧ Hid (Smally ⟨pt, ps, pq, pf, pl, po, px⟩) ∧ Hid (De B r M D R0 R a1 n1 c1 (some x2) (j + 1) c2 es qs X (cellsP ⟨pt, ps, pq, pf, pl, po, px⟩) w wx))
        case first =>
          go_region_law (first
          | (go_simp; go_at_call 37; refine (pick_any B r _ ((j : Int) + 1) _ S4d.out.rd (by omega) (by omega) (by omega)).mono ?_; rintro e w5 ⟨i', rfl, i0, i1, hr5, ho5⟩; have S5 := Lib.hid (S4d.out.only ho5 hr5); obtain ⟨i, rfl⟩ : ∃ q : Nat, i' = (q : Int) := ⟨i'.toNat, by omega⟩; have b1 := (S5.out.var 1 _ rfl).1; obtain ⟨p0, p1, p2, p3, p4, p5, p6⟩ := (own_pts S5.out.p).at (Below.refl _ _) (show i < j + 1 by omega); obtain ⟨⟨pt, ps, pq, pf, pl, po, px⟩, hd⟩ : ∃ d, pAt qs i = d := ⟨_, rfl⟩; have HP := Lib.hid (show Smally ⟨pt, ps, pq, pf, pl, po, px⟩ from smally_at SM.out LQ.out (by omega) hd); rw [hd] at p0 p1 p2 p3 p4 p5 p6; dsimp only at p0 p1 p2 p3 p4 p5 p6; have ij : (i : Int) < (j : Int) + 1 := (by omega); have lx := World.block_lt_of_cell? w5 _ p0; have lD5 := S5.out.lt; obtain ⟨W9, hW9, T5⟩ := S5.out.late ⟨pt, ps, pq, pf, pl, po, px⟩; dsimp only at hW9; have T5 := Lib.hid T5; obtain ⟨X, hX5⟩ : ∃ X, w5.heap.size = X := ⟨_, rfl⟩; rw [hX5] at lx lD5 T5)
          | (go_simp; go_at_call 37; refine (pick_any B r _ ((j : Int) + 1) _ S4z.out.z.rd (by omega) (by omega) (by omega)).mono ?_; rintro e w5 ⟨i', rfl, i0, i1, hr5, ho5⟩; have S5 := Lib.hid (S4z.out.only ho5 hr5); obtain ⟨i, rfl⟩ : ∃ q : Nat, i' = (q : Int) := ⟨i'.toNat, by omega⟩; have b1 := (S5.out.z.var 1 _ rfl).1; obtain ⟨p0, p1, p2, p3, p4, p5, p6⟩ := (own_pts S5.out.z.p).at (Below.refl _ _) (show i < j + 1 by omega); obtain ⟨⟨pt, ps, pq, pf, pl, po, px⟩, hd⟩ : ∃ d, pAt qs i = d := ⟨_, rfl⟩; have HP := Lib.hid (show Smally ⟨pt, ps, pq, pf, pl, po, px⟩ from smally_at SM.out LQ.out (by omega) hd); rw [hd] at p0 p1 p2 p3 p4 p5 p6; dsimp only at p0 p1 p2 p3 p4 p5 p6; have ij : (i : Int) < (j : Int) + 1 := (by omega); have lx := World.block_lt_of_cell? w5 _ p0; obtain ⟨W9, hW9, T5⟩ := De.put (p := ⟨pt, ps, pq, pf, pl, po, px⟩) S5.out; dsimp only at hW9; have T5 := Lib.hid T5; have z0 := (S5.out.var 0 _ rfl).1; have y0 := (S5.out.var 0 _ rfl).2; have z1 := (S5.out.var 1 _ rfl).1; have y1 := (S5.out.var 1 _ rfl).2; have z2 := (S5.out.var 2 _ rfl).1; have y2 := (S5.out.var 2 _ rfl).2; have z3 := (S5.out.var 3 _ rfl).1; have y3 := (S5.out.var 3 _ rfl).2; have z4 := (S5.out.var 4 _ rfl).1; have y4 := (S5.out.var 4 _ rfl).2; have z5 := (S5.out.var 5 _ rfl).1; have y5 := (S5.out.var 5 _ rfl).2; have z6 := (S5.out.var 6 _ rfl).1; have y6 := (S5.out.var 6 _ rfl).2))
          all_goals
            go_wp2_with fail
            go_meet
            exact ⟨_, _, pt, ps, pq, pf, pl, po, px, rfl, by omega, HP, T5⟩
        case rest =>
          obtain ⟨M5, X, pt, ps, pq, pf, pl, po, px, rfl, hM5, HP, T5⟩ := hcut
          rename World => W5
          clear b1 lD hX S4z S4d
          have T5d := Lib.hid (T5.out.up (Below.drew (Below.refl _ _)))
          have x0 := (T5.out.var 0 _ rfl).1
          have f0 := (T5.out.var 0 _ rfl).2
          go_wp2_with fail
          go_cut [] from 39 to 45 (fun wx => ∃ (M : Nat) (k : Int), M ≤ 2000 ∧ Hid (De B r M D R0 R a1 n1 c1 (some x2) (j + 1) c2 es qs X (cellsP ⟨addS pt (k - 1), ps, pq, pf, pl, po, px⟩) w wx))
          case first =>
            go_region_law (first
            | (go_simp; go_at_call 37; refine (pick_any B r _ 3 _ T5d.out.z.rd (by omega) (by omega) (by omega)).mono ?_; rintro e w6 ⟨k, rfl, k0, k1, hr6, ho6⟩; have T6 := Lib.hid (T5d.out.only ho6 hr6); have x0 := (T6.out.var 0 _ rfl).1; have f0 := (T6.out.var 0 _ rfl).2; have wk : IntKind.i64.wrap (k - 1) = k - 1 := IntWalk.i64_in _ (by omega))
            | (go_simp; go_at_call 39; refine (l3Add_near pt _ _ HP.out.1).mono ?_; rintro e wl ⟨rfl, rfl⟩; dsimp only))
            all_goals
              go_wp2_with fail
              go_meet
              exact ⟨_, k, by omega, Lib.hid (T6.out.set 0 (.int .i64 (addS pt (k - 1))))⟩
          case rest =>
            obtain ⟨M6, k, hM6, T7⟩ := hcut
            rename World => w7
            clear x0 f0 T5d T5
            go_wp2_with fail
            refine (pick_any B r _ 3 _ T7.out.z.rd (by omega) (by omega) (by omega)).mono ?_
            rintro e w8 ⟨k3, rfl, k30, k31, hr8, ho8⟩
            have T8 := Lib.hid (T7.out.only ho8 hr8)
            have x3 := (T8.out.var 3 _ rfl).1
            have f3 := (T8.out.var 3 _ rfl).2
            have T9 := Lib.hid (show De B r _ D R0 R a1 n1 c1 (some x2) (j + 1) c2 es qs X (cellsP ⟨addS pt (k - 1), ps, pq, k3 == 0, pl, po, px⟩) w (w8.setCell ⟨X, 3, none⟩ (.bool (k3 == 0))) from T8.out.set 3 _)
            go_wp2_with fail
            refine (pick_any B r _ 2 _ T9.out.z.rd (by omega) (by omega) (by omega)).mono ?_
            rintro e w10 ⟨k4, rfl, k40, k41, hr10, ho10⟩
            have T10 := Lib.hid (T9.out.only ho10 hr10)
            clear x3 f3
            have x4 := (T10.out.var 4 _ rfl).1
            have f4 := (T10.out.var 4 _ rfl).2
            have T11 := Lib.hid (show De B r _ D R0 R a1 n1 c1 (some x2) (j + 1) c2 es qs X (cellsP ⟨addS pt (k - 1), ps, pq, k3 == 0, k4 == 0, po, px⟩) w (w10.setCell ⟨X, 4, none⟩ (.bool (k4 == 0))) from T10.out.set 4 _)
            go_wp2_with fail
            obtain ⟨W11, hW11⟩ : ∃ W11, w10.setCell ⟨X, 4, none⟩ (.bool (k4 == 0)) = W11 := ⟨_, rfl⟩
            rw [hW11] at T11 ⊢
            clear x4 f4 hW11 hr8 ho8 hr10 ho10 T10 T9 T8 T7
            have vr0 := (T11.out.z.v1 0 _ rfl).1
            have vr1 := (T11.out.z.v1 1 _ rfl).1
            have vf0 := (T11.out.z.v1 0 _ rfl).2
            have vf1 := (T11.out.z.v1 1 _ rfl).2
            have vs0 := (T11.out.z.v2 0 _ rfl).1
            have vg0 := (T11.out.z.v2 0 _ rfl).2
            have vs1 := (T11.out.z.v2 1 _ rfl).1
            have vg1 := (T11.out.z.v2 1 _ rfl).2
            have vs2 := (T11.out.z.v2 2 _ rfl).1
            have vg2 := (T11.out.z.v2 2 _ rfl).2
            have vs3 := (T11.out.z.v2 3 _ rfl).1
            have vg3 := (T11.out.z.v2 3 _ rfl).2
            have vs4 := (T11.out.z.v2 4 _ rfl).1
            have vg4 := (T11.out.z.v2 4 _ rfl).2
            have vs5 := (T11.out.z.v2 5 _ rfl).1
            have vg5 := (T11.out.z.v2 5 _ rfl).2
            have vs6 := (T11.out.z.v2 6 _ rfl).1
            have vg6 := (T11.out.z.v2 6 _ rfl).2
            have va0 := (T11.out.z.var 0 _ rfl).1
            have va1 := (T11.out.z.var 1 _ rfl).1
            have vx0 := (T11.out.var 0 _ rfl).1
            have vx1 := (T11.out.var 1 _ rfl).1
            have vx2 := (T11.out.var 2 _ rfl).1
            have vx3 := (T11.out.var 3 _ rfl).1
            have vx4 := (T11.out.var 4 _ rfl).1
            have vx5 := (T11.out.var 5 _ rfl).1
            have vx6 := (T11.out.var 6 _ rfl).1
            have nRD : ¬ R = D := by have := T11.out.z.o1; have := T11.out.z.o3; have := T11.out.z.o2; omega
            have nR1D : ¬ R + 1 = D := by have := T11.out.z.o1; have := T11.out.z.o3; have := T11.out.z.o2; omega
            have nRX : ¬ R = X := by have := T11.out.lt; have := T11.out.z.o1; have := T11.out.z.o3; have := T11.out.z.o2; omega
            have nR1X : ¬ R + 1 = X := by have := T11.out.lt; have := T11.out.z.o1; have := T11.out.z.o3; have := T11.out.z.o2; omega
            have nR : ¬ R + 1 = R := by omega
            obtain ⟨W9, hW9, F1, F2, F3⟩ := T11.out.ret hn1 hn2 SM.out (show Smally ⟨addS pt (k - 1), ps, pq, k3 == 0, k4 == 0, po, px⟩ from ⟨⟨by have := (addS_ser pt (k - 1)).1; dsimp only; omega, by have := (addS_ser pt (k - 1)).2; dsimp only; omega⟩, HP.out.2.1, HP.out.2.2.1, HP.out.2.2.2⟩) hR
            dsimp only at hW9
            go_wp2_with fail
            go_region
            all_goals
              go_wp2
              try rw [hW9]
              have rr0 := (F1 0 _ rfl).1
              have rr1 := (F1 1 _ rfl).1
              have rs0 := (F2 0 _ rfl).1
              have rs1 := (F2 1 _ rfl).1
              have rs2 := (F2 2 _ rfl).1
              have rs3 := (F2 3 _ rfl).1
              have rs4 := (F2 4 _ rfl).1
              have rs5 := (F2 5 _ rfl).1
              have rs6 := (F2 6 _ rfl).1
              refine bodyPost_ret (v := .tuple #[.agg #[.slice a1 n1 c1, .slice (some x2) (j + 1) c2], .agg #[.int .i64 (addS pt (k - 1)), .int .i64 ps, .int .i64 pq, .bool (k3 == 0), .bool (k4 == 0), .bool po, .string px]]) ?_ rfl ?_
              · simp [results, Try.results13, go_sem, rr0, rr1, rs0, rs1, rs2, rs3, rs4, rs5, rs6]
              · exact F3
    · go_wp2_with fail
      refine (l91Part_fr B r _ _ S3.out.rd (by omega)).mono ?_
      rintro e wp ⟨⟨pt, ps, pq, pf, pl, po, px, rfl, hp, hrp, hbp⟩, hfp⟩
      have P2 := Lib.hid ((S3.out.by hfp.aside hrp (hbp.mono (by omega))).box [.int .i64 pt, .int .i64 ps, .int .i64 pq, .bool pf, .bool pl, .bool po, .string px])
      have HP := Lib.hid (show Smally ⟨pt, ps, pq, pf, pl, po, px⟩ from ⟨hp.1, hp.2.1, hp.2.2.1, hp.2.2.2⟩)
      obtain ⟨X, hX⟩ : ∃ X, wp.heap.size = X := ⟨_, rfl⟩
      rw [hX] at P2
      clear hrp hbp hfp hp
      go_wp2_with fail
      try rw [hX]
      refine (pick_any B r _ 2 _ P2.out.z.rd (by omega) (by omega) (by omega)).mono ?_
      rintro e wq ⟨y, rfl, ya, yb, hrq, hoq⟩
      have P3 := Lib.hid (P2.out.only hoq hrq)
      clear hrq hoq P2
      by_cases hy : y = 0
      · subst hy
        have vx1 := (P3.out.var 1 _ rfl).1
        have vy1 := (P3.out.var 1 _ rfl).2
        have vx2 := (P3.out.var 2 _ rfl).1
        have vy2 := (P3.out.var 2 _ rfl).2
        have vx3 := (P3.out.var 3 _ rfl).1
        have vy3 := (P3.out.var 3 _ rfl).2
        have vx4 := (P3.out.var 4 _ rfl).1
        have vy4 := (P3.out.var 4 _ rfl).2
        have P4 := Lib.hid (show De B r _ D R0 R a1 n1 c1 a2 (j + 1) c2 es qs X (cellsP ⟨pt, 0, pq, true, true, po, px⟩) w (((wq.setCell ⟨X, 3, none⟩ (.bool true)).setCell ⟨X, 4, none⟩ (.bool true)).setCell ⟨X, 1, none⟩ (.int .i64 0)) from ((P3.out.set 3 (.bool true)).set 4 (.bool true)).set 1 (.int .i64 0))
        have va0 := (P4.out.z.var 0 _ rfl).1
        have nDX : D ≠ X := by have := P3.out.lt; omega
        by_cases hn0 : n1 = 0
        · subst hn0
          have nz : ¬ (0 : Int) < (0 : Int) := by decide
          go_wp2_with fail
          obtain ⟨W4, hW4⟩ : ∃ W4, (((wq.setCell ⟨X, 3, none⟩ (.bool true)).setCell ⟨X, 4, none⟩ (.bool true)).setCell ⟨X, 1, none⟩ (.int .i64 0)) = W4 := ⟨_, rfl⟩
          rw [hW4] at P4 ⊢
          clear va0 hW4
          clear vx1 vy1 vx2 vy2 vx3 vy3 vx4 vy4
          have vr0 := (P4.out.z.v1 0 _ rfl).1
          have vr1 := (P4.out.z.v1 1 _ rfl).1
          have vf0 := (P4.out.z.v1 0 _ rfl).2
          have vf1 := (P4.out.z.v1 1 _ rfl).2
          have vs0 := (P4.out.z.v2 0 _ rfl).1
          have vg0 := (P4.out.z.v2 0 _ rfl).2
          have vs1 := (P4.out.z.v2 1 _ rfl).1
          have vg1 := (P4.out.z.v2 1 _ rfl).2
          have vs2 := (P4.out.z.v2 2 _ rfl).1
          have vg2 := (P4.out.z.v2 2 _ rfl).2
          have vs3 := (P4.out.z.v2 3 _ rfl).1
          have vg3 := (P4.out.z.v2 3 _ rfl).2
          have vs4 := (P4.out.z.v2 4 _ rfl).1
          have vg4 := (P4.out.z.v2 4 _ rfl).2
          have vs5 := (P4.out.z.v2 5 _ rfl).1
          have vg5 := (P4.out.z.v2 5 _ rfl).2
          have vs6 := (P4.out.z.v2 6 _ rfl).1
          have vg6 := (P4.out.z.v2 6 _ rfl).2
          have va0 := (P4.out.z.var 0 _ rfl).1
          have va1 := (P4.out.z.var 1 _ rfl).1
          have vx0 := (P4.out.var 0 _ rfl).1
          have vx1 := (P4.out.var 1 _ rfl).1
          have vx2 := (P4.out.var 2 _ rfl).1
          have vx3 := (P4.out.var 3 _ rfl).1
          have vx4 := (P4.out.var 4 _ rfl).1
          have vx5 := (P4.out.var 5 _ rfl).1
          have vx6 := (P4.out.var 6 _ rfl).1
          have nRD : ¬ R = D := by have := P4.out.z.o1; have := P4.out.z.o3; have := P4.out.z.o2; omega
          have nR1D : ¬ R + 1 = D := by have := P4.out.z.o1; have := P4.out.z.o3; have := P4.out.z.o2; omega
          have nRX : ¬ R = X := by have := P4.out.lt; have := P4.out.z.o1; have := P4.out.z.o3; have := P4.out.z.o2; omega
          have nR1X : ¬ R + 1 = X := by have := P4.out.lt; have := P4.out.z.o1; have := P4.out.z.o3; have := P4.out.z.o2; omega
          have nR : ¬ R + 1 = R := by omega
          obtain ⟨W9, hW9, F1, F2, F3⟩ := P4.out.ret hn1 hn2 SM.out (show Smally ⟨pt, 0, pq, true, true, po, px⟩ from ⟨HP.out.1, ⟨by dsimp only; omega, by dsimp only; omega⟩, HP.out.2.2.1, HP.out.2.2.2⟩) hR
          dsimp only at hW9
          go_wp2_with fail
          go_region
          all_goals
            go_wp2
            try rw [hW9]
            have rr0 := (F1 0 _ rfl).1
            have rr1 := (F1 1 _ rfl).1
            have rs0 := (F2 0 _ rfl).1
            have rs1 := (F2 1 _ rfl).1
            have rs2 := (F2 2 _ rfl).1
            have rs3 := (F2 3 _ rfl).1
            have rs4 := (F2 4 _ rfl).1
            have rs5 := (F2 5 _ rfl).1
            have rs6 := (F2 6 _ rfl).1
            refine bodyPost_ret (v := .tuple #[.agg #[.slice a1 0 c1, .slice a2 (j + 1) c2], .agg #[.int .i64 pt, .int .i64 0, .int .i64 pq, .bool true, .bool true, .bool po, .string px]]) ?_ rfl ?_
            · simp [results, Try.results13, go_sem, rr0, rr1, rs0, rs1, rs2, rs3, rs4, rs5, rs6]
            · exact F3
        · have nz : (0 : Int) < (n1 : Int) := by omega
          obtain ⟨x0, rfl⟩ := (own_ns P4.out.z.n).addr (show 0 < n1 by omega)
          have en := (own_ns P4.out.z.n).at (Below.refl _ _) (show 0 < n1 by omega)
          rw [show x0.add 0 = x0 from rfl] at en
          obtain ⟨e0, he0⟩ : ∃ e0, nAt es 0 = e0 := ⟨_, rfl⟩
          rw [he0] at en
          go_wp2_with fail
          by_cases hser : Ser e0
          · refine (l3Ok_yes e0 _ hser).mono ?_
            rintro e wz ⟨rfl, hwz⟩
            rw [hwz] at P4 en va0
            clear hwz
            clear vx1 vy1 vx2 vy2 vx3 vy3 vx4 vy4
            have P5 := Lib.hid (P4.out.up (Below.drew (Below.refl _ _)))
            have vx2 := (P4.out.var 2 _ rfl).1
            have vy2 := (P4.out.var 2 _ rfl).2
            have HSR := Lib.hid hser
            go_wp2_with fail
            go_cut [] from 75 to 82 (fun wx => ∃ (M : Nat) (k : Int), Hid (De B r M D R0 R (some x0) n1 c1 a2 (j + 1) c2 es qs X (cellsP ⟨pt, 0, addS e0 k, true, true, po, px⟩) w wx))
            case first =>
              go_region_law (first
              | (go_simp; go_at_call 37; refine (pick_any B r _ 2 _ P5.out.z.rd (by omega) (by omega) (by omega)).mono ?_; rintro e wk ⟨k, rfl, k0, k1, hrk, hok⟩; have P6 := Lib.hid (P5.out.only hok hrk); have va0 := (P6.out.z.var 0 _ rfl).1; have en := (own_ns P6.out.z.n).at (Below.refl _ _) (show 0 < n1 by omega); rw [show x0.add 0 = x0 from rfl, he0] at en; have vx2 := (P6.out.var 2 _ rfl).1; have vy2 := (P6.out.var 2 _ rfl).2)
              | (go_simp; go_at_call 39; refine (l3Add_any e0 _ _ HSR.out).mono ?_; rintro e wl ⟨rfl, rfl⟩; dsimp only))
              all_goals
                go_wp2_with fail
                go_meet
                exact ⟨_, k, Lib.hid (P6.out.set 2 (.int .i64 (addS e0 k)))⟩
            case rest =>
              obtain ⟨M7, k, P7⟩ := hcut
              rename World => W5
              clear va0 en vx2 vy2 he0
              have vr0 := (P7.out.z.v1 0 _ rfl).1
              have vr1 := (P7.out.z.v1 1 _ rfl).1
              have vf0 := (P7.out.z.v1 0 _ rfl).2
              have vf1 := (P7.out.z.v1 1 _ rfl).2
              have vs0 := (P7.out.z.v2 0 _ rfl).1
              have vg0 := (P7.out.z.v2 0 _ rfl).2
              have vs1 := (P7.out.z.v2 1 _ rfl).1
              have vg1 := (P7.out.z.v2 1 _ rfl).2
              have vs2 := (P7.out.z.v2 2 _ rfl).1
              have vg2 := (P7.out.z.v2 2 _ rfl).2
              have vs3 := (P7.out.z.v2 3 _ rfl).1
              have vg3 := (P7.out.z.v2 3 _ rfl).2
              have vs4 := (P7.out.z.v2 4 _ rfl).1
              have vg4 := (P7.out.z.v2 4 _ rfl).2
              have vs5 := (P7.out.z.v2 5 _ rfl).1
              have vg5 := (P7.out.z.v2 5 _ rfl).2
              have vs6 := (P7.out.z.v2 6 _ rfl).1
              have vg6 := (P7.out.z.v2 6 _ rfl).2
              have va0 := (P7.out.z.var 0 _ rfl).1
              have va1 := (P7.out.z.var 1 _ rfl).1
              have vx0 := (P7.out.var 0 _ rfl).1
              have vx1 := (P7.out.var 1 _ rfl).1
              have vx2 := (P7.out.var 2 _ rfl).1
              have vx3 := (P7.out.var 3 _ rfl).1
              have vx4 := (P7.out.var 4 _ rfl).1
              have vx5 := (P7.out.var 5 _ rfl).1
              have vx6 := (P7.out.var 6 _ rfl).1
              have nRD : ¬ R = D := by have := P7.out.z.o1; have := P7.out.z.o3; have := P7.out.z.o2; omega
              have nR1D : ¬ R + 1 = D := by have := P7.out.z.o1; have := P7.out.z.o3; have := P7.out.z.o2; omega
              have nRX : ¬ R = X := by have := P7.out.lt; have := P7.out.z.o1; have := P7.out.z.o3; have := P7.out.z.o2; omega
              have nR1X : ¬ R + 1 = X := by have := P7.out.lt; have := P7.out.z.o1; have := P7.out.z.o3; have := P7.out.z.o2; omega
              have nR : ¬ R + 1 = R := by omega
              obtain ⟨W9, hW9, F1, F2, F3⟩ := P7.out.ret hn1 hn2 SM.out (show Smally ⟨pt, 0, addS e0 k, true, true, po, px⟩ from ⟨HP.out.1, ⟨by dsimp only; omega, by dsimp only; omega⟩, ⟨by have := (addS_ser e0 k).1; dsimp only; omega, by have := (addS_ser e0 k).2; dsimp only; omega⟩, HP.out.2.2.2⟩) hR
              dsimp only at hW9
              go_wp2_with fail
              go_region
              all_goals
                go_wp2
                try rw [hW9]
                have rr0 := (F1 0 _ rfl).1
                have rr1 := (F1 1 _ rfl).1
                have rs0 := (F2 0 _ rfl).1
                have rs1 := (F2 1 _ rfl).1
                have rs2 := (F2 2 _ rfl).1
                have rs3 := (F2 3 _ rfl).1
                have rs4 := (F2 4 _ rfl).1
                have rs5 := (F2 5 _ rfl).1
                have rs6 := (F2 6 _ rfl).1
                refine bodyPost_ret (v := .tuple #[.agg #[.slice (some x0) n1 c1, .slice a2 (j + 1) c2], .agg #[.int .i64 pt, .int .i64 0, .int .i64 (addS e0 k), .bool true, .bool true, .bool po, .string px]]) ?_ rfl ?_
                · simp [results, Try.results13, go_sem, rr0, rr1, rs0, rs1, rs2, rs3, rs4, rs5, rs6]
                · exact F3
          · refine (l3Ok_no e0 _ hser).mono ?_
            rintro e wz ⟨rfl, hwz⟩
            rw [hwz] at P4
            clear en he0 va0 hwz
            clear vx1 vy1 vx2 vy2 vx3 vy3 vx4 vy4
            have vr0 := (P4.out.z.v1 0 _ rfl).1
            have vr1 := (P4.out.z.v1 1 _ rfl).1
            have vf0 := (P4.out.z.v1 0 _ rfl).2
            have vf1 := (P4.out.z.v1 1 _ rfl).2
            have vs0 := (P4.out.z.v2 0 _ rfl).1
            have vg0 := (P4.out.z.v2 0 _ rfl).2
            have vs1 := (P4.out.z.v2 1 _ rfl).1
            have vg1 := (P4.out.z.v2 1 _ rfl).2
            have vs2 := (P4.out.z.v2 2 _ rfl).1
            have vg2 := (P4.out.z.v2 2 _ rfl).2
            have vs3 := (P4.out.z.v2 3 _ rfl).1
            have vg3 := (P4.out.z.v2 3 _ rfl).2
            have vs4 := (P4.out.z.v2 4 _ rfl).1
            have vg4 := (P4.out.z.v2 4 _ rfl).2
            have vs5 := (P4.out.z.v2 5 _ rfl).1
            have vg5 := (P4.out.z.v2 5 _ rfl).2
            have vs6 := (P4.out.z.v2 6 _ rfl).1
            have vg6 := (P4.out.z.v2 6 _ rfl).2
            have va0 := (P4.out.z.var 0 _ rfl).1
            have va1 := (P4.out.z.var 1 _ rfl).1
            have vx0 := (P4.out.var 0 _ rfl).1
            have vx1 := (P4.out.var 1 _ rfl).1
            have vx2 := (P4.out.var 2 _ rfl).1
            have vx3 := (P4.out.var 3 _ rfl).1
            have vx4 := (P4.out.var 4 _ rfl).1
            have vx5 := (P4.out.var 5 _ rfl).1
            have vx6 := (P4.out.var 6 _ rfl).1
            have nRD : ¬ R = D := by have := P4.out.z.o1; have := P4.out.z.o3; have := P4.out.z.o2; omega
            have nR1D : ¬ R + 1 = D := by have := P4.out.z.o1; have := P4.out.z.o3; have := P4.out.z.o2; omega
            have nRX : ¬ R = X := by have := P4.out.lt; have := P4.out.z.o1; have := P4.out.z.o3; have := P4.out.z.o2; omega
            have nR1X : ¬ R + 1 = X := by have := P4.out.lt; have := P4.out.z.o1; have := P4.out.z.o3; have := P4.out.z.o2; omega
            have nR : ¬ R + 1 = R := by omega
            obtain ⟨W9, hW9, F1, F2, F3⟩ := P4.out.ret hn1 hn2 SM.out (show Smally ⟨pt, 0, pq, true, true, po, px⟩ from ⟨HP.out.1, ⟨by dsimp only; omega, by dsimp only; omega⟩, HP.out.2.2.1, HP.out.2.2.2⟩) hR
            dsimp only at hW9
            go_wp2_with fail
            go_region
            all_goals
              go_wp2
              try rw [hW9]
              have rr0 := (F1 0 _ rfl).1
              have rr1 := (F1 1 _ rfl).1
              have rs0 := (F2 0 _ rfl).1
              have rs1 := (F2 1 _ rfl).1
              have rs2 := (F2 2 _ rfl).1
              have rs3 := (F2 3 _ rfl).1
              have rs4 := (F2 4 _ rfl).1
              have rs5 := (F2 5 _ rfl).1
              have rs6 := (F2 6 _ rfl).1
              refine bodyPost_ret (v := .tuple #[.agg #[.slice (some x0) n1 c1, .slice a2 (j + 1) c2], .agg #[.int .i64 pt, .int .i64 0, .int .i64 pq, .bool true, .bool true, .bool po, .string px]]) ?_ rfl ?_
              · simp [results, Try.results13, go_sem, rr0, rr1, rs0, rs1, rs2, rs3, rs4, rs5, rs6]
              · exact F3
      · have yn : (y == 0) = false := beq_eq_false_iff_ne.2 hy
        have vr0 := (P3.out.z.v1 0 _ rfl).1
        have vr1 := (P3.out.z.v1 1 _ rfl).1
        have vf0 := (P3.out.z.v1 0 _ rfl).2
        have vf1 := (P3.out.z.v1 1 _ rfl).2
        have vs0 := (P3.out.z.v2 0 _ rfl).1
        have vg0 := (P3.out.z.v2 0 _ rfl).2
        have vs1 := (P3.out.z.v2 1 _ rfl).1
        have vg1 := (P3.out.z.v2 1 _ rfl).2
        have vs2 := (P3.out.z.v2 2 _ rfl).1
        have vg2 := (P3.out.z.v2 2 _ rfl).2
        have vs3 := (P3.out.z.v2 3 _ rfl).1
        have vg3 := (P3.out.z.v2 3 _ rfl).2
        have vs4 := (P3.out.z.v2 4 _ rfl).1
        have vg4 := (P3.out.z.v2 4 _ rfl).2
        have vs5 := (P3.out.z.v2 5 _ rfl).1
        have vg5 := (P3.out.z.v2 5 _ rfl).2
        have vs6 := (P3.out.z.v2 6 _ rfl).1
        have vg6 := (P3.out.z.v2 6 _ rfl).2
        have va0 := (P3.out.z.var 0 _ rfl).1
        have va1 := (P3.out.z.var 1 _ rfl).1
        have vx0 := (P3.out.var 0 _ rfl).1
        have vx1 := (P3.out.var 1 _ rfl).1
        have vx2 := (P3.out.var 2 _ rfl).1
        have vx3 := (P3.out.var 3 _ rfl).1
        have vx4 := (P3.out.var 4 _ rfl).1
        have vx5 := (P3.out.var 5 _ rfl).1
        have vx6 := (P3.out.var 6 _ rfl).1
        have nRD : ¬ R = D := by have := P3.out.z.o1; have := P3.out.z.o3; have := P3.out.z.o2; omega
        have nR1D : ¬ R + 1 = D := by have := P3.out.z.o1; have := P3.out.z.o3; have := P3.out.z.o2; omega
        have nRX : ¬ R = X := by have := P3.out.lt; have := P3.out.z.o1; have := P3.out.z.o3; have := P3.out.z.o2; omega
        have nR1X : ¬ R + 1 = X := by have := P3.out.lt; have := P3.out.z.o1; have := P3.out.z.o3; have := P3.out.z.o2; omega
        have nR : ¬ R + 1 = R := by omega
        obtain ⟨W9, hW9, F1, F2, F3⟩ := P3.out.ret hn1 hn2 SM.out (HP.out) hR
        dsimp only at hW9
        go_wp2_with fail
        go_region
        all_goals
          go_wp2
          try rw [hW9]
          have rr0 := (F1 0 _ rfl).1
          have rr1 := (F1 1 _ rfl).1
          have rs0 := (F2 0 _ rfl).1
          have rs1 := (F2 1 _ rfl).1
          have rs2 := (F2 2 _ rfl).1
          have rs3 := (F2 3 _ rfl).1
          have rs4 := (F2 4 _ rfl).1
          have rs5 := (F2 5 _ rfl).1
          have rs6 := (F2 6 _ rfl).1
          refine bodyPost_ret (v := .tuple #[.agg #[.slice a1 n1 c1, .slice a2 (j + 1) c2], .agg #[.int .i64 pt, .int .i64 ps, .int .i64 pq, .bool pf, .bool pl, .bool po, .string px]]) ?_ rfl ?_
          · simp [results, Try.results13, go_sem, rr0, rr1, rs0, rs1, rs2, rs3, rs4, rs5, rs6]
          · exact F3

end Go.Proofs.Ytncbgejggfkdmaa

/- The laws' helpers on an answer: a number among parts, the bytes. -/
namespace Go.Proofs.Ytncbgejggfkdmaa
open Go.RowKit Go.PlainAid

theorem hasT_upto {ps : List Part} {k : Nat} {t : Int} (hk : k < ps.length) (h : hasT (ps.take k) t = false) : hasT (ps.take (k + 1)) t = ((pAt ps k).tsn == t) := by
  rw [take_pAt hk]
  unfold hasT at h ⊢
  rw [List.any_append, h, Bool.false_or]
  simp

set_option maxHeartbeats 1000000 in
theorem hasTsn_any (a : Option Addr) (len cap : Nat) (ps : List Part) (t : Int) (w : World) (h : Pts w a len cap ps) :
    Calls Try.prog 19 #[.slice a len cap, .int .i64 t] w fun e w' => e = .returned (.bool (hasT ps t)) ∧ Below w.heap.size w w' := by
  have hl := h.length
  have hm := h.len_int
  have HG := Lib.hid h
  clear h
  go_enter Try.func19, Try.ntmps19
  go_wp2
  go_loopw [5] (fun i wr => ∃ k : Nat, k ≤ len ∧ i = .int .i64 k ∧ Hid (hasT (ps.take k) t = false) ∧ Hid (Below w.heap.size w wr)) (fun i _ => len - (intOf i).toNat)
  case atStart => exact ⟨0, Nat.zero_le _, rfl, Lib.hid rfl, Lib.hid (Below.refl _ _)⟩
  case round =>
    obtain ⟨k, hk, rfl, hno, hbel⟩ := hrel
    by_cases hlt : k < len
    · obtain ⟨x, rfl⟩ := HG.out.addr hlt
      obtain ⟨p0, p1, p2, p3, p4, p5, p6⟩ := HG.out.at hbel.out hlt
      have hkl : k < ps.length := by omega
      have HM := Lib.hid (pAt_mem hkl)
      have HT := Lib.hid (hasT_upto hkl hno.out)
      obtain ⟨⟨u, s, q, fi, la, lo, tx⟩, hd⟩ : ∃ d, pAt ps k = d := ⟨_, rfl⟩
      rw [hd] at p0 HM HT
      dsimp only at p0
      clear p1 p2 p3 p4 p5 p6 hd
      by_cases hen : u = t
      · subst hen
        have V := Lib.hid (hasT_yes HM.out)
        go_wp2
        go_ret
        exact ⟨ret_b V.out.symm, hbel.out⟩
      · have hen2 : decide (u = t) = false := decide_eq_false hen
        have O := Lib.hid (show hasT (ps.take (k + 1)) t = false by rw [HT.out]; simpa using hen)
        go_wp2
        go_roundw
        case rel => exact ⟨k + 1, by omega, by go_num, O, hbel⟩
        case measure => simp [intOf]; omega
    · obtain rfl : k = len := by omega
      have V := Lib.hid (show hasT ps t = false by have := hno.out; rwa [List.take_of_length_le (by omega)] at this)
      go_wp2
      go_ret
      exact ⟨ret_b V.out.symm, hbel.out⟩

theorem sumB_take {ps : List Part} {k : Nat} (hk : k < ps.length) : sumB (ps.take (k + 1)) = sumB (ps.take k) + (pAt ps k).text.size := by
  rw [take_pAt hk, sumB_append]
  simp [sumB]
theorem sumB_le (ps : List Part) (k : Nat) : sumB (ps.take k) ≤ sumB ps := by
  have h := sumB_append (ps.take k) (ps.drop k)
  rw [List.take_append_drop] at h
  omega
theorem sumM_app (ps qs : List Msg) : sumM (ps ++ qs) = sumM ps + sumM qs := by unfold sumM; rw [List.map_append, List.sum_append]
theorem sumM_take {ms : List Msg} {k : Nat} (hk : k < ms.length) : sumM (ms.take (k + 1)) = sumM (ms.take k) + (mAt ms k).text.size := by
  rw [take_mAt hk, sumM_app]
  simp [sumM]
theorem sumM_le (ms : List Msg) (k : Nat) : sumM (ms.take k) ≤ sumM ms := by
  have h := sumM_app (ms.take k) (ms.drop k)
  rw [List.take_append_drop] at h
  omega

set_option maxHeartbeats 1000000 in
theorem bytesOf_any (a : Option Addr) (len cap : Nat) (ps : List Part) (b : Option Addr) (len2 cap2 : Nat) (ms : List Msg) (w : World) (h : Pts w a len cap ps) (k : Mgs w b len2 cap2 ms) (hs : sumB ps + sumM ms ≤ 1000000000) :
    Calls Try.prog 20 #[.slice a len cap, .slice b len2 cap2] w fun e w' => e = .returned (.int .i64 ((sumB ps + sumM ms : Nat) : Int)) ∧ Below w.heap.size w w' := by
  have hl := h.length
  have hl2 := k.length
  have hm := h.len_int
  have hm2 := k.len_int
  have HG := Lib.hid h
  have HK := Lib.hid k
  have HS := Lib.hid hs
  clear h k hs
  go_enter Try.func20, Try.ntmps20
  go_wp2
  go_loopw [5, 6] (fun z i wr => ∃ k y : Nat, k ≤ len ∧ i = .int .i64 k ∧ z = .int .i64 (y : Int) ∧ Hid (y = sumB (ps.take k)) ∧ Hid (Below w.heap.size w wr)) (fun _ i _ => len - (intOf i).toNat)
  case atStart => exact ⟨0, 0, Nat.zero_le _, rfl, rfl, Lib.hid rfl, Lib.hid (Below.refl _ _)⟩
  case round =>
    obtain ⟨k, y, hk, rfl, rfl, hy, hbel⟩ := hrel
    by_cases hlt : k < len
    · obtain ⟨x, rfl⟩ := HG.out.addr hlt
      obtain ⟨p0, p1, p2, p3, p4, p5, p6⟩ := HG.out.at hbel.out hlt
      have hkl : k < ps.length := by omega
      obtain ⟨T, hT⟩ : ∃ T, (pAt ps k).text = T := ⟨_, rfl⟩
      have HY := Lib.hid (show y + T.size = sumB (ps.take (k + 1)) by rw [sumB_take hkl, hT, hy.out])
      have hle : y + T.size ≤ 1000000000 := by have h1 := HY.out; have h2 := sumB_le ps (k + 1); have h3 := HS.out; omega
      rw [hT] at p6
      clear p0 p1 p2 p3 p4 p5 hT
      have k1 : IntKind.i64.wrap ((y : Int) + (T.size : Int)) = (y : Int) + (T.size : Int) := IntWalk.i64_in _ (by omega)
      go_wp2
      go_roundw
      case rel => exact ⟨k + 1, y + T.size, by omega, by go_num, by go_num, HY, hbel⟩
      case measure => simp [intOf]; omega
    · obtain rfl : k = len := by omega
      have HB := Lib.hid (show y = sumB ps by have := hy.out; rwa [List.take_of_length_le (by omega)] at this)
      clear hy
      go_wp2
      go_loopw [5, 7] (fun z i wr => ∃ j v : Nat, j ≤ len2 ∧ i = .int .i64 j ∧ z = .int .i64 (v : Int) ∧ Hid (v = y + sumM (ms.take j)) ∧ Hid (Below w.heap.size w wr)) (fun _ i _ => len2 - (intOf i).toNat)
      case atStart => exact ⟨0, y, Nat.zero_le _, rfl, rfl, Lib.hid rfl, hbel⟩
      case round =>
        obtain ⟨j, v, hj, rfl, rfl, hv, hbel2⟩ := hrel
        by_cases hlt2 : j < len2
        · obtain ⟨x, rfl⟩ := HK.out.addr hlt2
          obtain ⟨p0, p1, p2, p3⟩ := HK.out.at hbel2.out hlt2
          have hjl : j < ms.length := by omega
          obtain ⟨T, hT⟩ : ∃ T, (mAt ms j).text = T := ⟨_, rfl⟩
          have HV := Lib.hid (show v + T.size = y + sumM (ms.take (j + 1)) by rw [sumM_take hjl, hT, hv.out, Nat.add_assoc])
          have hle : v + T.size ≤ 1000000000 := by have h1 := HV.out; have h2 := sumM_le ms (j + 1); have h3 := HS.out; have h4 := HB.out; omega
          rw [hT] at p3
          clear p0 p1 p2 hT
          have k1 : IntKind.i64.wrap ((v : Int) + (T.size : Int)) = (v : Int) + (T.size : Int) := IntWalk.i64_in _ (by omega)
          go_wp2
          go_roundw
          case rel => exact ⟨j + 1, v + T.size, by omega, by go_num, by go_num, HV, hbel2⟩
          case measure => simp [intOf]; omega
        · obtain rfl : j = len2 := by omega
          have E := Lib.hid (show v = sumB ps + sumM ms by have := hv.out; rw [List.take_of_length_le (by omega)] at this; rw [this, HB.out])
          clear hv
          go_wp2
          go_ret
          exact ⟨by rw [← E.out]; rfl, hbel2.out⟩

end Go.Proofs.Ytncbgejggfkdmaa

/- The laws' helper on an answer: the messages of a stream. -/
namespace Go.Proofs.Ytncbgejggfkdmaa
open Go.RowKit Go.PlainAid

theorem ofS_take {ms : List Msg} {k : Nat} (s : Int) (hk : k < ms.length) : ofS (ms.take (k + 1)) s = ofS (ms.take k) s ++ ofS [mAt ms k] s := by
  rw [take_mAt hk]
  unfold ofS
  rw [List.filter_append]
theorem ofS_len (ms : List Msg) (s : Int) (k : Nat) : (ofS (ms.take k) s).length ≤ k := by
  unfold ofS
  exact Nat.le_trans (List.length_filter_le _ _) (by rw [List.length_take]; omega)

set_option maxHeartbeats 2000000 in
theorem ofStream_any (a : Option Addr) (len cap : Nat) (ms : List Msg) (s : Int) (w : World) (h : Mgs w a len cap ms) (hz : len ≤ 1048576) :
    Calls Try.prog 24 #[.slice a len cap, .int .i64 (s : Int)] w fun e w' => ∃ g k c, e = .returned (.slice (some ⟨g, 0, none⟩) k c) ∧ w'.ownsRow w.heap.size 45 4 (.slice (some ⟨g, 0, none⟩) k c) k (flatM (ofS ms s)) ∧ Below w.heap.size w w' := by
  have hl := h.length
  have hm := h.len_int
  have HG := Lib.hid h
  have O0 := Lib.hid (show (w.alloc (.cells #[] 45)).ownsRow w.heap.size 45 4 (.slice (some ⟨w.heap.size, 0, none⟩) 0 0) 0 (flatM (ofS (ms.take 0) s)) from World.ownsRow_lit w #[] 0 (Nat.le_refl _) (by decide) rfl)
  have B0 := Lib.hid (below_box (w := w) (.cells #[] 45) (Nat.le_refl _))
  obtain ⟨i0, hi, hz0, hz1, hz2⟩ := info_parts info_mg
  have HI := Lib.hid (And.intro hi (And.intro hz0 (And.intro hz1 hz2)))
  clear h hi hz0 hz1 hz2
  go_enter Try.func24, Try.ntmps24
  go_wp2
  go_loopw [6, 5] (fun i o wr => ∃ k g n c : Nat, k ≤ len ∧ i = .int .i64 k ∧ o = .slice (some ⟨g, 0, none⟩) n c ∧ n ≤ k ∧ Hid (wr.ownsRow w.heap.size 45 4 (.slice (some ⟨g, 0, none⟩) n c) n (flatM (ofS (ms.take k) s))) ∧ Hid (Below w.heap.size w wr)) (fun i _ _ => len - (intOf i).toNat)
  case atStart => exact ⟨0, w.heap.size, 0, 0, Nat.zero_le _, rfl, rfl, Nat.le_refl _, O0, B0⟩
  case round =>
    obtain ⟨k, g, n, c, hk, rfl, rfl, hnk, hO, hbel⟩ := hrel
    clear O0 B0
    by_cases hlt : k < len
    · obtain ⟨x, rfl⟩ := HG.out.addr hlt
      obtain ⟨p0, p1, p2, p3⟩ := HG.out.at hbel.out hlt
      have HT := Lib.hid (ofS_take (k := k) s (show k < ms.length by omega))
      obtain ⟨⟨st, q, lo, tx⟩, hd⟩ : ∃ d, mAt ms k = d := ⟨_, rfl⟩
      rw [hd] at p0 p1 p2 p3 HT
      dsimp only at p0 p1 p2 p3
      clear hd
      by_cases hst : st = (s : Int) ∧ lo = false
      · obtain ⟨h9, rfl⟩ := hst
        have h9 := h9.symm
        subst h9
        have HE := Lib.hid (show ofS (ms.take (k + 1)) s = ofS (ms.take k) s ++ [⟨(s : Int), q, false, tx⟩] by rw [HT.out]; simp [ofS])
        have RA := Lib.hid (hO.out.alloc (.cells #[.int .i64 (s : Int), .int .i64 q, .bool false, .string tx] 45))
        have hzz := hbel.out.size
        have RB := Lib.hid (hbel.out.trans ((below_box (w := wr) (.cells #[.int .i64 (s : Int), .int .i64 q, .bool false, .string tx] 45) (Nat.le_refl _)).mono hzz))
        clear hbel
        go_wp2_with (at_builtin; go_loud (refine wpList_append_lies _ rfl _ _ 31 rfl w.heap.size 45 i0 (msgV ⟨0, 0, false, ByteArray.mk #[]⟩) 4 40 Try.underlying31 HI.out.1 HI.out.2.1 HI.out.2.2.1 HI.out.2.2.2 rfl (by decide) (.slice (some ⟨g, 0, none⟩) n c) n (flatM (ofS (ms.take k) s)) rfl RA.out ⟨wr.heap.size, 0, none⟩ 1 1 (cellsM ⟨(s : Int), q, false, tx⟩) rfl rfl (news_box rfl) (cellsM_one _) (by decide) (by unfold maxLen; omega) (by omega) (by simp; omega) _ rfl ?_))
        intro g3 cap3 w9 hown hgrow _ _
        have O9 := Lib.hid (show w9.ownsRow w.heap.size 45 4 (.slice (some ⟨g3, 0, none⟩) (n + 1) cap3) (n + 1) (flatM (ofS (ms.take (k + 1)) s)) by
          rw [HE.out, flatM_append, flatM_one_]
          exact hown)
        have B9 := Lib.hid (Below.grown RB.out hgrow RB.out.size fun y hy => own_ge RA.out hy)
        clear hown hgrow RA RB p0 p1 p2 p3 hO
        go_wp2
        go_roundw
        case rel => exact ⟨k + 1, g3, n + 1, cap3, by omega, by go_num, rfl, by omega, O9, B9⟩
        case measure => simp [intOf]; omega
      · have HE := Lib.hid (show ofS (ms.take (k + 1)) s = ofS (ms.take k) s by
          rw [HT.out]
          have : ofS [⟨st, q, lo, tx⟩] s = [] := by
            unfold ofS
            simp
            intro h1
            cases lo with
            | true => rfl
            | false => exact absurd ⟨h1, rfl⟩ hst
          rw [this, List.append_nil])
        have O9 := Lib.hid (show wr.ownsRow w.heap.size 45 4 (.slice (some ⟨g, 0, none⟩) n c) n (flatM (ofS (ms.take (k + 1)) s)) by rw [HE.out]; exact hO.out)
        by_cases h1 : st = (s : Int)
        · obtain rfl : lo = true := by cases lo with | true => rfl | false => exact absurd ⟨h1, rfl⟩ hst
          have h9 := h1.symm
          subst h9
          clear hO
          go_wp2
          go_roundw
          case rel => exact ⟨k + 1, g, n, c, by omega, by go_num, rfl, by omega, O9, hbel⟩
          case measure => simp [intOf]; omega
        · have h2 : decide (st = (s : Int)) = false := decide_eq_false h1
          clear hO
          go_wp2
          go_roundw
          case rel => exact ⟨k + 1, g, n, c, by omega, by go_num, rfl, by omega, O9, hbel⟩
          case measure => simp [intOf]; omega
    · obtain rfl : k = len := by omega
      have E := Lib.hid (show ofS (ms.take k) s = ofS ms s by rw [List.take_of_length_le (by omega)])
      rw [E.out] at hO
      go_wp2
      go_ret
      exact ⟨g, n, c, rfl, hO.out, hbel.out⟩

end Go.Proofs.Ytncbgejggfkdmaa

/- Regions that draw their order and make, grow and fill memory of their own: each operation's own fact, which may end with another operation. -/
namespace Go.Proofs.Ytncbgejggfkdmaa
open Go.RowKit Go.PlainAid

/-- The block that a slice or a pointer points to. -/
def blkV : Value → Option Nat
  | .slice (some a) _ _ => some a.block
  | .pointer (some a) => some a.block
  | _ => none
theorem grown_quiet {W W' : World} (h : Below W.heap.size W W') : W.grownBy W' none := ⟨h.os, h.tape, h.output, h.size, fun k hk _ => h.block k hk⟩
theorem grown_set {W : World} {D i : Nat} {u : Value} : W.grownBy (W.setCell ⟨D, i, none⟩ u) (some D) := by
  have h := (Below.refl D W).setCell (p := ⟨D, i, none⟩) (Nat.le_refl _) u
  exact ⟨h.os, h.tape, h.output, h.size, fun k _ hne => Below.heap_setCell _ _ _ _ (fun e => hne (by rw [show k = D from e]))⟩
theorem grown_trans {W W2 W3 : World} {e : Option Nat} (h : W.grownBy W2 e) (k : W2.grownBy W3 e) : W.grownBy W3 e :=
  ⟨k.os.trans h.os, k.tape.trans h.tape, k.output.trans h.output, Nat.le_trans h.size k.size, fun x hx hne => (k.block x (Nat.lt_of_lt_of_le hx h.size) hne).trans (h.block x hx hne)⟩
/-- What an operation changes: the block of another one's value, or nothing that was there. -/
def hitO (dst : Nat → Nat) (tgt : Nat → Option Nat) (V : Nat → Value) (i : Nat) : Option Nat :=
  match tgt i with
  | none => none
  | some c => blkV (V (dst c))
/-- What holds while the region runs. -/
structure FacO (ops : Array Oper) (n : Nat) (dst : Nat → Nat) (kill : Nat → Option Nat) (own : Nat → Bool) (G : Nat → Value → World → Prop) (n0 : Nat) (w0 : World) (ds : List Nat) (V0 : Nat → Value) (l : Nat → Bool) (V : Nat → Value) (W : World) : Prop where
  b : Below n0 w0 W
  sh : Shut ops n l
  fr : ∀ k, k ∉ ds → V k = V0 k
  f : ∀ i, i < n → l i = true → (∀ j, kill i = some j → l j = false) → G i (V (dst i)) W
  ap : ∀ i j, i < n → j < n → i ≠ j → own i = true → own j = true → l i = true → l j = true → (∀ k, kill i = some k → l k = false) → (∀ k, kill j = some k → l k = false) → ∀ x, blkV (V (dst i)) = some x → blkV (V (dst j)) ≠ some x
theorem region_own {P : Program} {ops : Array Oper} {Q : Exit → Act → World → Prop} {id : Nat} {a : Act} {w : World} (n : Nat) (dst : Nat → Nat) (kill : Nat → Option Nat) (own : Nat → Bool) (tgt : Nat → Option Nat) (nd : Nat → Nat → Bool) (G : Nat → Value → World → Prop) (n0 : Nat) (w0 : World) (ds : List Nat)
    (hm : P.follows .mixedOrders = true) (hn : ops.size = n) (hlow : low2B ops = true) (hs : ∀ k ∈ ds, k < a.tmps.size) (hds : ∀ i, i < n → dst i ∈ ds)
    (hinj : ∀ i j, i < n → j < n → i ≠ j → dst j = dst i → kill j = some i ∨ depB ops j i = true)
    (htgt : ∀ i c, i < n → tgt i = some c → c < n ∧ c ≠ i ∧ own c = true ∧ kill c = some i ∧ depB ops i c = true)
    (hnd : ∀ i j, i < n → nd i j = true → j < n ∧ depB ops i j = true ∧ ∀ k, kill j = some k → k = i ∨ k < n ∧ depB ops k i = true)
    (gm : ∀ j v W W' e, j < n → G j v W → W.grownBy W' e → (own j = true → ∀ x, e = some x → blkV v ≠ some x) → G j v W')
    (hown : ∀ j v W, j < n → own j = true → G j v W → ∀ x, blkV v = some x → n0 ≤ x ∧ x < W.heap.size)
    (h0 : Below n0 w0 w.drew) (hn0 : n0 ≤ w0.heap.size)
    (hstep : ∀ i b W, i < n → Below n0 w0 W → (∀ k ∈ ds, k < b.tmps.size) → (∀ k, k ∉ ds → valsOf b k = valsOf a k) → (∀ j, nd i j = true → G j (valsOf b (dst j)) W) →
      wpOp P ops Q i (fun b' W' => ∃ v, (b' = b.put (some (dst i)) v ∨ b' = b ∧ v = valsOf b (dst i)) ∧ G i v W' ∧ W.grownBy W' (hitO dst tgt (valsOf b) i) ∧ (own i = true → ∀ x, blkV v = some x → hitO dst tgt (valsOf b) i = some x ∨ W.heap.size ≤ x)) b W)
    (hend : ∀ (V : Nat → Value) W, Below n0 w0 W → (∀ i, i < n → kill i = none → G i (V (dst i)) W) → Q .normal (ds.foldl (fun b k => b.put (some k) (V k)) a) W) : (Code.region id ops true).wp P Q a w := by
  refine region_vals2 ds (FacO ops n dst kill own G n0 w0 ds (valsOf a)) hm hn hlow hs ?_ ?_ ?_
  · exact ⟨h0, (fun i j _ h => by cases h), (fun _ _ => rfl), (fun i _ h => by cases h), (fun i j _ _ _ _ _ h => by cases h)⟩
  · intro i l b W hi hl hd hsb hI
    have shut2 : Shut ops n (more l i) := fun x y hx hmx hxy => by
      unfold more at hmx ⊢
      by_cases e : x = i
      · subst e
        rw [depB_spec hxy hd, Bool.or_true]
      · have : l x = true := by simpa [e] using hmx
        rw [hI.sh x y hx this hxy, Bool.or_true]
    have notYet : ∀ k, k < n → depB ops k i = true → l k = false := fun k hk hki => by
      cases hlk : l k with
      | false => rfl
      | true =>
        have := hI.sh k i hk hlk hki
        rw [hl] at this
        cases this
    have hdeps : ∀ j, nd i j = true → G j (valsOf b (dst j)) W := fun j hj => by
      obtain ⟨h1, h2, h3⟩ := hnd i j hi hj
      refine hI.f j h1 (depB_spec h2 hd) fun k hk => ?_
      rcases h3 k hk with rfl | h4
      · exact hl
      · exact notYet k h4.1 h4.2
    refine wpOp_mono ?_ (hstep i b W hi hI.b hsb hI.fr hdeps)
    rintro b' W' ⟨v, hb', hg, hgr, hbk⟩
    have hV : valsOf b' = upd (valsOf b) (dst i) v := by
      rcases hb' with rfl | ⟨rfl, rfl⟩
      · exact vals_put (hsb _ (hds i hi)) v
      · funext j
        unfold upd
        split
        · rename_i e; rw [e]
        · rfl
    refine ⟨?_, ?_⟩
    · rcases hb' with rfl | ⟨rfl, _⟩
      · exact .inr ⟨dst i, hds i hi, v, rfl⟩
      · exact .inl rfl
    rw [hV]
    -- the facts that go on
    have live : ∀ j, j ≠ i → (∀ k, kill j = some k → more l i k = false) → (∀ k, kill j = some k → l k = false) ∧ kill j ≠ some i := fun j _ h =>
      ⟨fun k hk => by have := h k hk; simpa [more] using And.right (by simpa [more] using this : ¬ k = i ∧ l k = false), fun hk => by have := h i hk; simp [more] at this⟩
    have listed : ∀ j, j ≠ i → more l i j = true → l j = true := fun j hj h => by simpa [more, hj] using h
    have same : ∀ j, j < n → j ≠ i → l j = true → kill j ≠ some i → upd (valsOf b) (dst i) v (dst j) = valsOf b (dst j) := fun j hj hne hlj hk => by
      unfold upd
      rw [if_neg]
      intro e
      rcases hinj i j hi hj (Ne.symm hne) e with h | h
      · exact hk h
      · have := hI.sh j i hj hlj h
        rw [hl] at this
        cases this
    have apart : ∀ j, j < n → j ≠ i → own j = true → l j = true → (∀ k, kill j = some k → l k = false) → kill j ≠ some i → ∀ x, hitO dst tgt (valsOf b) i = some x → blkV (valsOf b (dst j)) ≠ some x := fun j hj hne ho hlj hlv hk x hx => by
      unfold hitO at hx
      cases ht : tgt i with
      | none => rw [ht] at hx; cases hx
      | some c =>
        rw [ht] at hx
        obtain ⟨c1, c2, c3, c4, c5⟩ := htgt i c hi ht
        have hcj : c ≠ j := fun e => hk (e ▸ c4)
        refine hI.ap c j c1 hj hcj c3 ho (depB_spec c5 hd) hlj (fun k hk2 => ?_) hlv x hx
        rw [c4] at hk2
        cases hk2
        exact hl
    refine ⟨Below.grown hI.b hgr (Nat.le_trans hn0 hI.b.size) fun x hx => ?_, shut2, fun k hk => ?_, fun j hj hlj hlv => ?_, fun p q hp hq hpq op oq lp lq vp vq x hx => ?_⟩
    · unfold hitO at hx
      cases ht : tgt i with
      | none => rw [ht] at hx; cases hx
      | some c =>
        rw [ht] at hx
        obtain ⟨c1, c2, c3, c4, c5⟩ := htgt i c hi ht
        refine (hown c _ W c1 c3 (hI.f c c1 (depB_spec c5 hd) fun k hk2 => ?_) x hx).1
        rw [c4] at hk2
        cases hk2
        exact hl
    · unfold upd
      rw [if_neg (fun (e : k = dst i) => hk (by rw [e]; exact hds i hi))]
      exact hI.fr k hk
    · by_cases e : j = i
      · subst e
        simpa [upd] using hg
      · have hlj' := listed j e hlj
        obtain ⟨v1, v2⟩ := live j e hlv
        rw [same j hj e hlj' v2]
        exact gm j _ W W' _ hj (hI.f j hj hlj' v1) hgr fun ho x hx => apart j hj e ho hlj' v1 v2 x hx
    · by_cases ep : p = i
      · subst ep
        have eq : q ≠ p := Ne.symm hpq
        obtain ⟨v1, v2⟩ := live q eq vq
        have lq' := listed q eq lq
        rw [same q hq eq lq' v2]
        have hx' : blkV v = some x := by simpa [upd] using hx
        rcases hbk op x hx' with h | h
        · exact apart q hq eq oq lq' v1 v2 x h
        · intro hqx
          have := (hown q _ W hq oq (hI.f q hq lq' v1) x hqx).2
          omega
      · by_cases eq : q = i
        · subst eq
          obtain ⟨v1, v2⟩ := live p ep vp
          have lp' := listed p ep lp
          rw [same p hp ep lp' v2] at hx
          intro hqx
          have hqx' : blkV v = some x := by simpa [upd] using hqx
          rcases hbk oq x hqx' with h | h
          · exact apart p hp ep op lp' v1 v2 x h hx
          · have := (hown p _ W hp op (hI.f p hp lp' v1) x hx).2
            omega
        · obtain ⟨v1, v2⟩ := live p ep vp
          obtain ⟨u1, u2⟩ := live q eq vq
          have lp' := listed p ep lp
          have lq' := listed q eq lq
          rw [same p hp ep lp' v2] at hx
          rw [same q hq eq lq' u2]
          exact hI.ap p q hp hq hpq op oq lp' lq' v1 u1 x hx
  · intro l V W hall hI
    exact hend V W hI.b fun i hi hk => hI.f i hi (hall i hi) fun j hj => by rw [hk] at hj; cases hj
/-- What is asked of a region's shape. -/
def shapeO (ops : Array Oper) (n : Nat) (dl ds : List Nat) (kl : List (Option Nat)) (ow : List Bool) (tl : List (Option Nat)) (nd : List (List Nat)) : Bool :=
  low2B ops && decide (ops.size = n) && ((List.range n).all fun i => ds.contains (dl.getD i 0)) &&
  ((List.range n).all fun i => (List.range n).all fun j => i == j || dl.getD j 0 != dl.getD i 0 || (kl.getD j none == some i || depB ops j i)) &&
  ((List.range n).all fun i => match tl.getD i none with | none => true | some c => decide (c < n) && (c != i) && ow.getD c false && (kl.getD c none == some i) && depB ops i c) &&
  ((List.range n).all fun i => (nd.getD i []).all fun j => decide (j < n) && depB ops i j && (match kl.getD j none with | none => true | some k => k == i || (decide (k < n) && depB ops k i)))
theorem region_rows {P : Program} {ops : Array Oper} {Q : Exit → Act → World → Prop} {id : Nat} {a : Act} {w : World} (n : Nat) (dl ds : List Nat) (kl : List (Option Nat)) (ow : List Bool) (tl : List (Option Nat)) (nd : List (List Nat)) (G : Nat → Value → World → Prop) (n0 : Nat) (w0 : World)
    (hm : P.follows .mixedOrders = true) (hsh : shapeO ops n dl ds kl ow tl nd = true) (hs : ∀ k ∈ ds, k < a.tmps.size)
    (gm : ∀ j v W W' e, j < n → G j v W → W.grownBy W' e → (ow.getD j false = true → ∀ x, e = some x → blkV v ≠ some x) → G j v W')
    (hown : ∀ j v W, j < n → ow.getD j false = true → G j v W → ∀ x, blkV v = some x → n0 ≤ x ∧ x < W.heap.size)
    (h0 : Below n0 w0 w.drew) (hn0 : n0 ≤ w0.heap.size)
    (hstep : ∀ i b W, i < n → Below n0 w0 W → (∀ k ∈ ds, k < b.tmps.size) → (∀ k, k ∉ ds → valsOf b k = valsOf a k) → (∀ j, (nd.getD i []).contains j = true → G j (valsOf b (dstL dl j)) W) →
      wpOp P ops Q i (fun b' W' => ∃ v, (b' = b.put (some (dstL dl i)) v ∨ b' = b ∧ v = valsOf b (dstL dl i)) ∧ G i v W' ∧ W.grownBy W' (hitO (dstL dl) (fun i => tl.getD i none) (valsOf b) i) ∧ (ow.getD i false = true → ∀ x, blkV v = some x → hitO (dstL dl) (fun i => tl.getD i none) (valsOf b) i = some x ∨ W.heap.size ≤ x)) b W)
    (hend : ∀ (V : Nat → Value) W, Below n0 w0 W → (∀ i, i < n → kl.getD i none = none → G i (V (dstL dl i)) W) → Q .normal (ds.foldl (fun b k => b.put (some k) (V k)) a) W) : (Code.region id ops true).wp P Q a w := by
  unfold shapeO at hsh
  simp only [Bool.and_eq_true, decide_eq_true_eq] at hsh
  obtain ⟨⟨⟨⟨⟨h1, h2⟩, h3⟩, h4⟩, h5⟩, h6⟩ := hsh
  refine region_own n (dstL dl) (fun i => kl.getD i none) (fun i => ow.getD i false) (fun i => tl.getD i none) (fun i j => (nd.getD i []).contains j) G n0 w0 ds hm h2 h1 hs ?_ ?_ ?_ ?_ gm hown h0 hn0 hstep hend
  · intro i hi
    exact List.contains_iff_mem.1 (List.all_eq_true.1 h3 i (List.mem_range.2 hi))
  · intro i j hi hj hne e
    have := List.all_eq_true.1 (List.all_eq_true.1 h4 i (List.mem_range.2 hi)) j (List.mem_range.2 hj)
    simp only [Bool.or_eq_true, beq_iff_eq, bne_iff_ne, ne_eq] at this
    rcases this with (h | h) | h
    · exact absurd h hne
    · exact absurd e h
    · exact h
  · intro i c hi hc
    have := List.all_eq_true.1 h5 i (List.mem_range.2 hi)
    rw [show tl.getD i none = some c from hc] at this
    simp only [Bool.and_eq_true, decide_eq_true_eq, bne_iff_ne, ne_eq, beq_iff_eq] at this
    exact ⟨this.1.1.1.1, this.1.1.1.2, this.1.1.2, this.1.2, this.2⟩
  · intro i j hi hj
    have := List.all_eq_true.1 (List.all_eq_true.1 h6 i (List.mem_range.2 hi)) j (List.contains_iff_mem.1 hj)
    simp only [Bool.and_eq_true, decide_eq_true_eq] at this
    refine ⟨this.1.1, this.1.2, fun k hk => ?_⟩
    have h7 := this.2
    rw [show kl.getD j none = some k from hk] at h7
    simpa using h7
theorem wpOp_guard {P : Program} {ops : Array Oper} {Q : Exit → Act → World → Prop} {i g k : Nat} {want : Bool} {o og : Oper} {K : Act → World → Prop} {a : Act} {w : World} (hi : ops[i]? = some o) (hg : o.guard = some (g, want)) (hgo : ops[g]? = some og) (hgd : og.dst = some k) (hk : k < a.tmps.size) (hv : valsOf a k = .bool want) (h : o.wp P a w K Q) : wpOp P ops Q i K a w := by
  have hy : yielded ops a.tmps g = some want := by
    unfold yielded
    rw [hgo]
    have : a.tmps[k]? = some (.bool want) := by
      rw [Array.getElem?_eq_getElem hk]
      unfold valsOf Act.eval at hv
      simpa [Array.getD_eq_getD_getElem?, hk] using hv
    simp [hgd, this]
  unfold wpOp
  rw [hi]
  simp only [Region.wanted, hg, hy]
  simp only [beq_self_eq_true, if_true]
  exact .inl h

end Go.Proofs.Ytncbgejggfkdmaa

/- Rows of parts in a region that draws its order: their fact, an append that grows one. -/
namespace Go.Proofs.Ytncbgejggfkdmaa
open Go.RowKit Go.PlainAid

/-- A row of parts of one's own. -/
def RowP (n0 n : Nat) (ps : List Part) (v : Value) (W : World) : Prop :=
  ∃ e c, v = .slice (some ⟨e, 0, none⟩) n c ∧ W.ownsRow n0 28 7 (.slice (some ⟨e, 0, none⟩) n c) n (flatP ps)
theorem RowP.grown {n0 n : Nat} {ps : List Part} {v : Value} {W W' : World} {e : Option Nat} (h : RowP n0 n ps v W) (hg : W.grownBy W' e) (hne : ∀ x, e = some x → blkV v ≠ some x) : RowP n0 n ps v W' := by
  obtain ⟨g, c, rfl, h1⟩ := h
  exact ⟨g, c, rfl, rowGrown h1 hg fun he => hne g he.symm rfl⟩
theorem RowP.own {n0 n : Nat} {ps : List Part} {v : Value} {W : World} (h : RowP n0 n ps v W) : ∀ x, blkV v = some x → n0 ≤ x ∧ x < W.heap.size := by
  obtain ⟨g, c, rfl, h1⟩ := h
  intro x hx
  exact row_lt h1 (show (Value.slice (some ⟨g, 0, none⟩) n c).ownBlock = some x from hx)
theorem RowP.lit {n0 : Nat} {W : World} (h : n0 ≤ W.heap.size) : RowP n0 0 [] (.slice (some ⟨W.heap.size, 0, none⟩) 0 0) (W.alloc (.cells #[] 28)) :=
  ⟨W.heap.size, 0, rfl, World.ownsRow_lit (base := n0) (e := 28) (size := 7) W #[] 0 h (by decide) rfl⟩
theorem RowP.one {n0 : Nat} {W : World} (h : n0 ≤ W.heap.size) (t s q : Int) (fi la lo : Bool) (tx : ByteArray) : RowP n0 1 [⟨t, s, q, fi, la, lo, tx⟩] (.slice (some ⟨W.heap.size, 0, none⟩) 1 1) (W.alloc (.cells #[.int .i64 t, .int .i64 s, .int .i64 q, .bool fi, .bool la, .bool lo, .string tx] 28)) :=
  ⟨W.heap.size, 1, rfl, World.ownsRow_lit (base := n0) (e := 28) (size := 7) W #[.int .i64 t, .int .i64 s, .int .i64 q, .bool fi, .bool la, .bool lo, .string tx] 1 h (by decide) rfl⟩
/-- Parts that are appended to a row of one's own: where the row lies then. -/
theorem wp_addP {o : Oper} {a : Act} {w : World} {K : Act → World → Prop} {Q : Exit → Act → World → Prop} (s x : Operand) (hop : o.op = Op.call { callee := Callee.builtin Builtin.append, args := #[s, x], argTypes := #[24, 24] })
    (base k len cc : Nat) (q : Option Addr) (xs ys : List Part) (hv : RowP base k xs (a.eval s) w) (hx : a.eval x = .slice q len cc) (h : Pts w q len cc ys) (him : k + len ≤ 100000) (hb : base ≤ w.heap.size)
    (hK : ∀ v w', RowP base (k + len) (xs ++ ys) v w' → w.grownBy w' (blkV (a.eval s)) → (∀ x, blkV v = some x → blkV (a.eval s) = some x ∨ w.heap.size ≤ x) → K (a.put o.dst v) w') :
    Oper.wp Try.prog o a w K Q := by
  obtain ⟨e, cap, hv, hown⟩ := hv
  rw [hv] at hK
  obtain ⟨i0, hi, hz0, hz1, hz2⟩ := info_parts info_pt
  obtain ⟨v, w', hr, h2, h3, h4⟩ : ∃ v w', (Builtin.append_ #[24, 24] o.type #[.slice (some ⟨e, 0, none⟩) k cap, .slice q len cc]).run Try.prog w = .ok v w' ∧ RowP base (k + len) (xs ++ ys) v w' ∧ w.grownBy w' (some e) ∧ (∀ x, blkV v = some x → some e = some x ∨ w.heap.size ≤ x) := by
    rcases h with ⟨rfl, rfl, rfl, rfl⟩ | ⟨ad, rfl, h7, h8, h9, h10⟩
    · rw [List.append_nil]
      exact ⟨_, w, run_append_owned_none w base 24 o.type 28 i0 7 Try.underlying24 hi _ k (flatP xs) hown, ⟨e, cap, rfl, hown⟩, ⟨rfl, rfl, rfl, Nat.le_refl _, fun _ _ _ => rfl⟩, fun x hx => .inl hx⟩
    · have hps : Pts w (some ad) len cc ys := .inr ⟨ad, rfl, h7, h8, h9, h10⟩
      have hflat : ∀ j u, (flatP ys)[j]? = some u → w.cell? (ad.add j) = some u := pts_src hps
      obtain ⟨v', w', hr, h2, h3, h4, h5⟩ := run_append_own_at (P := Try.prog) w base 24 o.type 28 i0 (partV ⟨0, 0, 0, false, false, false, ByteArray.mk #[]⟩) 7 48 Try.underlying24 hi hz0 hz1 hz2 rfl (by decide) (.slice (some ⟨e, 0, none⟩) k cap) k (flatP xs) hown ad len cc (flatP ys) (by rw [flatP_length, h9]) hflat (flatP_one ys) (by unfold maxLen; omega) (by omega) hb
      rw [← flatP_append] at h2
      rcases h2.2 with ⟨h0, _⟩ | ⟨g3, cap3, cur, hv3, hh⟩
      · have := (h4.1 h0).1
        cases this
      · subst hv3
        refine ⟨_, w', hr, ⟨g3, cap3, rfl, ⟨h2.1, .inr ⟨g3, cap3, cur, rfl, hh⟩⟩⟩, h3, fun x hx => ?_⟩
        rcases h5 with h6 | h6
        · exact .inl (h6.symm.trans hx)
        · have : some w.heap.size = some x := h6.symm.trans hx
          exact .inr (by cases this; exact Nat.le_refl _)
  unfold Oper.wp execOp
  simp only [hop, resolve, invoke, builtin, Sem.run_bind, Sem.run_pure, Result.andThen_ok, List.map_toArray, List.map_cons, List.map_nil, hv, hx, hr]
  exact hK v w' h2 h3 h4
theorem RowP.pts {n0 n : Nat} {ps : List Part} {v : Value} {W : World} (h : RowP n0 n ps v W) : ∃ a c, v = .slice a n c ∧ Pts W a n c ps := by
  obtain ⟨g, c, rfl, h1⟩ := h
  exact ⟨_, c, rfl, own_pts h1⟩

end Go.Proofs.Ytncbgejggfkdmaa
