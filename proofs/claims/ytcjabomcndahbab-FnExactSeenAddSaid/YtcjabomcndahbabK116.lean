/- The contract of the program's SeenAdd. -/
import Derived.Test.YtcjabomcndahbabK115
import Derived.Test.YtcjabomcndahbabK105
namespace Go.Proofs.Ytcjabomcndahbab
open Go.RowKit Go.PlainAid

set_option maxHeartbeats 4000000 in
theorem seenAdd_any (c : Int) (a : Option Addr) (len cap : Nat) (es : List Int) (t : Int) (w : World) (h : Ns w a len cap es) :
    Calls Try.prog 12 #[.agg #[.int .i64 c, .slice a len cap], .int .i64 t] w fun e w' => GotSn w c es t e w' := by
  have HP := Lib.hid (below_box (w := w) (.cells #[.int .i64 c, .slice a len cap] 25) (Nat.le_refl _))
  have HP2 := Lib.hid (HP.out.alloc (Nat.le_of_lt (by simp)) (.cells #[.int .i64 0, .slice none 0 0] 25))
  have hl := h.length
  have PZ := Lib.hid (show Pz w c a len cap ((w.alloc (.cells #[.int .i64 c, .slice a len cap] 25)).alloc (.cells #[.int .i64 0, .slice none 0 0] 25)) from
    ⟨(VarN.new w [.int .i64 c, .slice a len cap] 25).alloc _ (by simp), VarN.new_at (w := w.alloc (.cells #[.int .i64 c, .slice a len cap] 25)) (d := w.heap.size + 1) (by simp) [.int .i64 0, .slice none 0 0] _, HP2.out, by simp⟩)
  have GN := Lib.hid (h.below HP2.out)
  have HN0 := Lib.hid h
  clear h
  by_cases hs : SeenOk c es
  · have S1 := Lib.hid (seenV_yes hs)
    have HO := Lib.hid hs
    have HS := Lib.hid (seen_ser hs)
    have hl16 : len ≤ 16 := by have := asc_few hs.2 (by decide); omega
    by_cases ht : Ser t
    · have HT := Lib.hid ht
      obtain ⟨n, hn⟩ : ∃ n, diffS c t = n := ⟨_, rfl⟩
      have HN := Lib.hid hn
      have HD := Lib.hid ((diffV_yes HS.out ht).trans hn)
      clear hs ht hn
      go_enter Try.func12, Try.ntmps12
      go_wp2_with fail
      refine (seenValid_any c a len cap es _ GN.out).mono ?_
      rw [S1.out]
      rintro e w1 ⟨rfl, hb1⟩
      have P1 := Lib.hid (PZ.out.up hb1)
      have G1 := Lib.hid (GN.out.below hb1)
      clear hb1 PZ GN HP HP2
      go_wp2_with fail
      refine (serialValid_yes t _ HT.out).mono ?_
      rintro e w2 ⟨rfl, rfl⟩
      have p0 := (P1.out.pb 0 _ rfl).1
      have p1 := (P1.out.pb 1 _ rfl).1
      go_wp2_with fail
      refine (serialDiff_any c t _).mono ?_
      rw [HD.out]
      rintro e w2 ⟨rfl, hb2⟩
      have P2 := Lib.hid (P1.out.up hb2)
      have G2 := Lib.hid (G1.out.below hb2)
      clear hb2 P1 G1 p0 p1
      have p0 := (P2.out.pb 0 _ rfl).1
      have p1 := (P2.out.pb 1 _ rfl).1
      go_wp2_with fail
      refine (stepsSeen_any c a len cap es n _ G2.out).mono ?_
      by_cases hz : n ≤ 0 ∨ n ∈ es
      · rw [decide_eq_true hz]
        have AV := Lib.hid (show AddV c es t c es 1 from .inl ⟨⟨HO.out, HT.out⟩, .inl ⟨by unfold HasS; rw [HN.out]; exact hz, rfl, rfl, rfl⟩⟩)
        rintro e w3 ⟨rfl, hb3⟩
        have P3 := Lib.hid (P2.out.up hb3)
        have G3 := Lib.hid (G2.out.below hb3)
        clear hb3 P2 G2 p0 p1 hz
        have p0 := (P3.out.pb 0 _ rfl).1
        have p1 := (P3.out.pb 1 _ rfl).1
        go_wp2_with fail
        refine (seenCopy_any c a len cap es _ G3.out (by omega)).mono ?_
        rintro e w4 ⟨a2, cap2, rfl, ho⟩
        have P4 := Lib.hid (P3.out.up (ho.b))
        have r0 := (P4.out.rb 0 _ rfl).1
        have r1 := (P4.out.rb 1 _ rfl).1
        have s0 := (P4.out.rb 0 _ rfl).2
        have s1 := (P4.out.rb 1 _ rfl).2
        have hlo := P3.out.lo
        have hne : ∀ x, (Value.slice a2 len cap2).ownBlock = some x → x ≠ w.heap.size + 1 := fun x e => by have := own_ge ho.own e; omega
        have OC := Lib.hid (show OwnN len (.slice a2 len cap2) es w ((w4.setCell ⟨w.heap.size + 1, 0, none⟩ (.int .i64 c)).setCell ⟨w.heap.size + 1, 1, none⟩ (.slice a2 len cap2)) from
          ⟨ownN_low (ownFar (ownFar ho.own hne) hne) (by omega), (P4.out.b.setCell (p := ⟨w.heap.size + 1, 0, none⟩) (Nat.le_succ _) _).setCell (p := ⟨w.heap.size + 1, 1, none⟩) (Nat.le_succ _) _⟩)
        clear ho hne hlo p0 p1 P3
        go_wp2
        refine bodyPost_ret (v := .tuple #[.agg #[.int .i64 c, .slice a2 len cap2], .int .i64 1]) ?_ rfl ?_
        · simp [results, Try.results12, go_sem, r0, r1]
        · exact ⟨c, 1, es, _, _, _, rfl, AV.out, OC.out⟩
      · rw [decide_eq_false hz]
        rintro e w3 ⟨rfl, hb3⟩
        have P3 := Lib.hid (P2.out.up hb3)
        have G3 := Lib.hid (G2.out.below hb3)
        clear hb3 P2 G2 p0 p1
        have p0 := (P3.out.pb 0 _ rfl).1
        have p1 := (P3.out.pb 1 _ rfl).1
        by_cases h16 : n > 16
        · have AV := Lib.hid (show AddV c es t c es 2 from .inl ⟨⟨HO.out, HT.out⟩, .inr (.inl ⟨by unfold HasS; rw [HN.out]; exact hz, by rw [HN.out]; exact h16, rfl, rfl, rfl⟩)⟩)
          clear hz
          go_wp2_with fail
          refine (seenCopy_any c a len cap es _ G3.out (by omega)).mono ?_
          rintro e w4 ⟨a2, cap2, rfl, ho⟩
          have P4 := Lib.hid (P3.out.up (ho.b))
          have r0 := (P4.out.rb 0 _ rfl).1
          have r1 := (P4.out.rb 1 _ rfl).1
          have s0 := (P4.out.rb 0 _ rfl).2
          have s1 := (P4.out.rb 1 _ rfl).2
          have hlo := P3.out.lo
          have hne : ∀ x, (Value.slice a2 len cap2).ownBlock = some x → x ≠ w.heap.size + 1 := fun x e => by have := own_ge ho.own e; omega
          have OC := Lib.hid (show OwnN len (.slice a2 len cap2) es w ((w4.setCell ⟨w.heap.size + 1, 0, none⟩ (.int .i64 c)).setCell ⟨w.heap.size + 1, 1, none⟩ (.slice a2 len cap2)) from
            ⟨ownN_low (ownFar (ownFar ho.own hne) hne) (by omega), (P4.out.b.setCell (p := ⟨w.heap.size + 1, 0, none⟩) (Nat.le_succ _) _).setCell (p := ⟨w.heap.size + 1, 1, none⟩) (Nat.le_succ _) _⟩)
          clear ho hne hlo p0 p1 P3
          go_wp2
          refine bodyPost_ret (v := .tuple #[.agg #[.int .i64 c, .slice a2 len cap2], .int .i64 2]) ?_ rfl ?_
          · simp [results, Try.results12, go_sem, r0, r1]
          · exact ⟨c, 2, es, _, _, _, rfl, AV.out, OC.out⟩
        · have HF := Lib.hid (show Fresh es n from ⟨by omega, by omega, fun h => hz (.inr h)⟩)
          have n16 : ¬ n > 16 := h16
          clear hz
          go_wp2_with fail
          refine (aheadOf_any c a len cap es _ G3.out (by omega)).mono ?_
          rintro e w4 ⟨P, q, cap2, rfl, hq, hb4⟩
          have hB : w.heap.size + 2 ≤ w3.heap.size := P3.out.lo
          have P4 := Lib.hid (P3.out.up hb4)
          have Q4 := Lib.hid hq
          have B4 := Lib.hid hb4
          have HH := Lib.hid (show HeapOk es len from hl ▸ asc_heap HO.out.2)
          clear hq hb4 p0 p1 P3 G3
          go_wp2_with fail
          refine (hPush_any w3.heap.size P len cap2 q es n _ Q4.out (by omega) HH.out).mono ?_
          rintro e w5 ⟨rfl, ⟨g, cap3, hs, hh, hperm, hp⟩, hb5⟩
          have hw4 : w3.heap.size ≤ w4.heap.size := B4.out.size
          have H5 := Lib.hid hp
          have GO := Lib.hid (show Go1 (With es n) 0 hs from go1_start HO.out.2 HF.out (by rw [hp.len]; exact hh) hperm)
          have V5 := Lib.hid (show VarN w.heap.size [.int .i64 c, .slice a len cap] w5 ∧ VarN (w.heap.size + 1) [.int .i64 0, .slice none 0 0] w5 ∧ Below w.heap.size w w5 from
            ⟨P4.out.pb.below (C := w3.heap.size) hb5 (by omega), P4.out.rb.below (C := w3.heap.size) hb5 (by omega), P4.out.b.trans (hb5.mono (by omega))⟩)
          have q0 := (V5.out.1 0 _ rfl).1
          clear hh hperm hp hb5 P4 Q4 HH
          go_wp2_with fail
          refine (hSeen_any w3.heap.size P g (len + 1) cap3 hs c (With es n) _ H5.out (by omega) HS.out GO.out (with_range HO.out.2 HF.out.1 HF.out.2.1)).mono ?_
          rintro e w6 ⟨q6, k6, cap6, m, ds, rfl, hmv, hown, hfh⟩
          have AV := Lib.hid (show AddV c es t (addS c m) ds 0 from .inl ⟨⟨HO.out, HT.out⟩, .inr (.inr ⟨by rw [HN.out]; exact HF.out, rfl, m, moved_congr hmv (fun j => by rw [HN.out]), rfl⟩)⟩)
          have hg := H5.out.ge
          have hP := H5.out.bp
          have hw5 : w3.heap.size ≤ w5.heap.size := Nat.le_trans hP (Nat.le_of_lt H5.out.lt.2)
          have RB := V5.out.2.1.fh hfh (by omega) (by omega) (by omega)
          have r0 := (RB 0 _ rfl).1
          have r1 := (RB 1 _ rfl).1
          have s0 := (RB 0 _ rfl).2
          have s1 := (RB 1 _ rfl).2
          have hne : ∀ x, (Value.slice q6 k6 cap6).ownBlock = some x → x ≠ w.heap.size + 1 := fun x e => by have := own_ge hown e; omega
          have OC := Lib.hid (show OwnN k6 (.slice q6 k6 cap6) ds w ((w6.setCell ⟨w.heap.size + 1, 0, none⟩ (.int .i64 (addS c m))).setCell ⟨w.heap.size + 1, 1, none⟩ (.slice q6 k6 cap6)) from
            ⟨ownN_low (ownFar (ownFar hown hne) hne) (by omega), ((V5.out.2.2.trans (hfh.below (by omega) (by omega) (by omega))).setCell (p := ⟨w.heap.size + 1, 0, none⟩) (Nat.le_succ _) _).setCell (p := ⟨w.heap.size + 1, 1, none⟩) (Nat.le_succ _) _⟩)
          clear hmv hown hfh RB hne q0
          go_wp2
          refine bodyPost_ret (v := .tuple #[.agg #[.int .i64 (addS c m), .slice q6 k6 cap6], .int .i64 0]) ?_ rfl ?_
          · simp [results, Try.results12, go_sem, r0, r1]
          · exact ⟨addS c m, 0, ds, _, _, _, rfl, AV.out, OC.out⟩
    · have S3 := Lib.hid (show AddV c es t 0 [] 3 from .inr ⟨fun h => ht h.2, rfl, rfl, rfl⟩)
      have HT := Lib.hid ht
      clear hs ht
      go_enter Try.func12, Try.ntmps12
      go_wp2_with fail
      refine (seenValid_any c a len cap es _ GN.out).mono ?_
      rw [S1.out]
      rintro e w1 ⟨rfl, hb1⟩
      have P1 := Lib.hid (PZ.out.up hb1)
      have r0 := (P1.out.rb 0 _ rfl).1
      have r1 := (P1.out.rb 1 _ rfl).1
      have s0 := (P1.out.rb 0 _ rfl).2
      have s1 := (P1.out.rb 1 _ rfl).2
      have OC := Lib.hid (OwnN.nil ((P1.out.b.setCell (p := ⟨w.heap.size + 1, 0, none⟩) (Nat.le_succ _) (.int .i64 0)).setCell (p := ⟨w.heap.size + 1, 1, none⟩) (Nat.le_succ _) (.slice none 0 0)))
      clear hb1 PZ GN HP HP2
      go_wp2_with fail
      refine (serialValid_no t _ HT.out).mono ?_
      rintro e w2 ⟨rfl, rfl⟩
      go_wp2
      refine bodyPost_ret (v := .tuple #[.agg #[.int .i64 0, .slice none 0 0], .int .i64 3]) ?_ rfl ?_
      · simp [results, Try.results12, go_sem, r0, r1]
      · exact ⟨_, 3, [], _, _, _, rfl, S3.out, OC.out⟩
  · have S1 := Lib.hid (seenV_no hs)
    have S3 := Lib.hid (show AddV c es t 0 [] 3 from .inr ⟨fun h => hs h.1, rfl, rfl, rfl⟩)
    clear hs
    go_enter Try.func12, Try.ntmps12
    go_wp2_with fail
    refine (seenValid_any c a len cap es _ GN.out).mono ?_
    rw [S1.out]
    rintro e w1 ⟨rfl, hb1⟩
    have P1 := Lib.hid (PZ.out.up hb1)
    have r0 := (P1.out.rb 0 _ rfl).1
    have r1 := (P1.out.rb 1 _ rfl).1
    have s0 := (P1.out.rb 0 _ rfl).2
    have s1 := (P1.out.rb 1 _ rfl).2
    have OC := Lib.hid (OwnN.nil ((P1.out.b.setCell (p := ⟨w.heap.size + 1, 0, none⟩) (Nat.le_succ _) (.int .i64 0)).setCell (p := ⟨w.heap.size + 1, 1, none⟩) (Nat.le_succ _) (.slice none 0 0)))
    clear hb1 PZ GN HP HP2
    go_wp2
    refine bodyPost_ret (v := .tuple #[.agg #[.int .i64 0, .slice none 0 0], .int .i64 3]) ?_ rfl ?_
    · simp [results, Try.results12, go_sem, r0, r1]
    · exact ⟨_, 3, [], _, _, _, rfl, S3.out, OC.out⟩

end Go.Proofs.Ytcjabomcndahbab
