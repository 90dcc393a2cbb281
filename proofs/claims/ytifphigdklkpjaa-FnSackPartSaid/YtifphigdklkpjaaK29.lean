/- The contracts of chapter 12's model: receipts, asked and written. -/
import Derived.Test.YtifphigdklkpjaaK28
import Derived.Test.YtifphigdklkpjaaK19
import Derived.Deep.RegionHeldLaw
namespace Go.Proofs.Ytifphigdklkpjaa
open Go.RowKit Go.PlainAid

/-- Whether a receipt has a part. -/
def hasV (c s : Int) (gs : List (Int × Int)) : Bool := decide (SackOk c gs) && decide (0 ≤ s ∧ s ≤ 65535) && (blockV (diffS c s) gs || decide (diffS c s ≤ 0))

set_option maxHeartbeats 400000 in
theorem sSackPut_no (c : Int) (a : Option Addr) (len cap : Nat) (gs : List (Int × Int)) (w : World) (h : Gaps w a len cap gs) (hk : ¬ SackOk c gs) :
    Calls Try.prog 13 #[.agg #[.int .i64 c, .slice a len cap]] w fun e w' => e = .returned notMadeV ∧ Below w.heap.size w w' := by
  have G0 := Lib.hid ((h.below (below_box (.cells #[.int .i64 c, .slice a len cap] 28) (Nat.le_refl _))).below (below_box (.cells #[.int .i64 0, .int .i64 0, .string (ByteArray.mk #[])] 24) (Nat.le_refl _)))
  have K := Lib.hid (sackV_no hk)
  have R1 := VarN.new (w.alloc (.cells #[.int .i64 c, .slice a len cap] 28)) [.int .i64 0, .int .i64 0, .string (ByteArray.mk #[])] 24
  rw [show (w.alloc (.cells #[.int .i64 c, .slice a len cap] 28)).heap.size = w.heap.size + 1 by simp] at R1
  clear h hk
  go_enter Try.func13, Try.ntmps13
  go_wp2_with fail
  refine (l12Sack_any c a len cap gs _ G0.out).mono ?_
  rintro e w1 ⟨rfl, hb1⟩
  rw [K.out]
  have R2 := R1.below hb1 (by simp)
  have hB1 : Below w.heap.size w w1 := ((below_box _ (Nat.le_refl _)).alloc (by simp) _).trans (hb1.mono (by simp <;> omega))
  have r0 := (R2 0 _ rfl).1
  have r1 := (R2 1 _ rfl).1
  have r2 := (R2 2 _ rfl).1
  have g0 := (R2 0 _ rfl).2
  have g1 := (R2 1 _ rfl).2
  have g2 := (R2 2 _ rfl).2
  clear hb1 R1 R2
  go_wp2
  refine bodyPost_ret (v := notMadeV) ?_ rfl ?_
  · simp [results, Try.results13, go_sem, notMadeV, r0, r1, r2]
  · exact ⟨rfl, ((hB1.setCell (Nat.le_succ _) _).setCell (Nat.le_succ _) _).setCell (Nat.le_succ _) _⟩

/-- What a region that reads a block needs to know of a world. -/
theorem keptG {y z : Addr} {b : Nat} {sv : Value} {f t : Int} {w1 W W' : World} (h : W.cell? ⟨b, 1, none⟩ = some sv ∧ W.cell? y = some (.int .i64 f) ∧ W.cell? z = some (.int .i64 t) ∧ Below w1.heap.size w1 W) (hb : Below W.heap.size W W') :
    W'.cell? ⟨b, 1, none⟩ = some sv ∧ W'.cell? y = some (.int .i64 f) ∧ W'.cell? z = some (.int .i64 t) ∧ Below w1.heap.size w1 W' :=
  ⟨(hb.cell (World.block_lt_of_cell? W _ h.1)).trans h.1, (hb.cell (World.block_lt_of_cell? W _ h.2.1)).trans h.2.1, (hb.cell (World.block_lt_of_cell? W _ h.2.2.1)).trans h.2.2.1, h.2.2.2.trans (hb.mono h.2.2.2.size)⟩

set_option maxHeartbeats 2000000 in
theorem sSackPut_yes (c : Int) (a : Option Addr) (len cap : Nat) (gs : List (Int × Int)) (w : World) (h : Gaps w a len cap gs) (hk : SackOk c gs) :
    Calls Try.prog 13 #[.agg #[.int .i64 c, .slice a len cap]] w fun e w' => e = .returned (madeV 3 0 (sackS c gs)) ∧ Below w.heap.size w w' := by
  have hl := h.length
  have h8 := sack_few hk
  have G0 := Lib.hid ((h.below (below_box (.cells #[.int .i64 c, .slice a len cap] 28) (Nat.le_refl _))).below (below_box (.cells #[.int .i64 0, .int .i64 0, .string (ByteArray.mk #[])] 24) (Nat.le_refl _)))
  have K := Lib.hid (sackV_yes hk)
  have HK := Lib.hid hk
  have R1 := VarN.new (w.alloc (.cells #[.int .i64 c, .slice a len cap] 28)) [.int .i64 0, .int .i64 0, .string (ByteArray.mk #[])] 24
  rw [show (w.alloc (.cells #[.int .i64 c, .slice a len cap] 28)).heap.size = w.heap.size + 1 by simp] at R1
  clear h hk
  go_enter Try.func13, Try.ntmps13
  go_wp2_with fail
  refine (l12Sack_any c a len cap gs _ G0.out).mono ?_
  rintro e w1 ⟨rfl, hb1⟩
  rw [K.out]
  have R2 := Lib.hid (R1.below hb1 (by simp))
  have G1 := Lib.hid (G0.out.below hb1)
  have c0 : w1.cell? ⟨w.heap.size, 0, none⟩ = some (.int .i64 c) := (hb1.cell (p := ⟨w.heap.size, 0, none⟩) (by simp <;> omega)).trans (by simp [go_sem])
  have c1 : w1.cell? ⟨w.heap.size, 1, none⟩ = some (.slice a len cap) := (hb1.cell (p := ⟨w.heap.size, 1, none⟩) (by simp <;> omega)).trans (by simp [go_sem])
  have HB1 := Lib.hid (((below_box (.cells #[.int .i64 c, .slice a len cap] 28) (Nat.le_refl w.heap.size)).alloc (by simp) (.cells #[.int .i64 0, .int .i64 0, .string (ByteArray.mk #[])] 24)).trans (hb1.mono (by simp <;> omega)))
  have hlt1 : w.heap.size < w1.heap.size := lt_of_cell c0
  clear hb1 R1 G0
  go_wp2_with fail
  refine (l1Word_any c (by have := HK.out.1.1; omega) (by have := HK.out.1.2; omega) _).mono ?_
  rintro e w2 ⟨rfl, hb2⟩
  go_wp2
  go_loopw [4, 5] (fun s i wr => ∃ k : Nat, k ≤ len ∧ i = .int .i64 k ∧ s = .string (sackS c (gs.take k)) ∧ wr.cell? ⟨w.heap.size, 1, none⟩ = some (.slice a len cap) ∧ Hid (Below w1.heap.size w1 wr)) (fun _ i _ => len - (intOf i).toNat)
  case atStart => exact ⟨0, Nat.zero_le _, rfl, congrArg Value.string (ByteArray.append_empty).symm, kept_cell hb2 hlt1 c1, Lib.hid hb2⟩
  case round =>
    obtain ⟨k, hk, rfl, rfl, hc1, hbel⟩ := hrel
    clear c0 c1 hb2
    by_cases hlt : k < len
    · have hG := G1.out
      rcases hG with ⟨_, h0, _, _⟩ | ⟨x, rfl, h1, h2, h3, h4⟩
      · omega
      obtain ⟨p0, p1⟩ := h4 k hlt
      obtain ⟨f, hf⟩ : ∃ f, (gs.getD k (0, 0)).1 = f := ⟨_, rfl⟩
      obtain ⟨t, ht⟩ : ∃ t, (gs.getD k (0, 0)).2 = t := ⟨_, rfl⟩
      rw [hf] at p0
      rw [ht] at p1
      have hkl : k < gs.length := by omega
      have q0 : wr.cell? (x.add (k * 2)) = some (.int .i64 f) := (hbel.out.cell (World.block_lt_of_cell? w1 _ p0)).trans p0
      have q1 : wr.cell? ⟨(x.add (k * 2)).block, (x.add (k * 2)).off + 1, none⟩ = some (.int .i64 t) := (hbel.out.cell (World.block_lt_of_cell? w1 _ p1)).trans p1
      have L := last_range (gaps_head (k := k) HK.out.2) (by decide) (by decide)
      have N := (gaps_next hkl hf ht (gaps_head HK.out.2)).1 (gaps_head HK.out.2)
      have f0 : 0 ≤ f := by omega
      have f1 : f ≤ 65535 := by omega
      have t0 : 0 ≤ t := by omega
      have t1 : t ≤ 65535 := by omega
      have E := Lib.hid (show sackS c (gs.take k) ++ wordS f ++ wordS t = sackS c (gs.take (k + 1)) by rw [take_next hkl, sackS_append, hf, ht])
      have hz := sackS_size c (gs.take k)
      rw [List.length_take] at hz
      have hz1 : ¬ 9223372036854775807 < (sackS c (gs.take k)).size + (wordS f).size := by rw [wordS_size]; omega
      have hz2 : ¬ 9223372036854775807 < (sackS c (gs.take k)).size + (wordS f).size + (wordS t).size := by rw [wordS_size, wordS_size]; omega
      have hS := keptG (w1 := w1) (W := wr) ⟨hc1, q0, q1, hbel.out⟩ (Below.drew (Below.refl _ _))
      clear p0 p1 h4 hf ht L N hz
      go_wp2_with fail
      go_region_held_law (fun W => W.cell? ⟨w.heap.size, 1, none⟩ = some (.slice (some x) len cap) ∧ W.cell? (x.add (k * 2)) = some (.int .i64 f) ∧ W.cell? ⟨(x.add (k * 2)).block, (x.add (k * 2)).off + 1, none⟩ = some (.int .i64 t) ∧ Below w1.heap.size w1 W)
        (first | with_reducible assumption | with_reducible exact hS | exact keptG (by assumption) (by assumption))
        (first | (go_simp; go_at_call_of 31 (Value.int .i64 f); refine (l1Word_any f f0 f1 _).mono ?_; rintro e w' ⟨rfl, hbn⟩) | (go_simp; go_at_call_of 31 (Value.int .i64 t); refine (l1Word_any t t0 t1 _).mono ?_; rintro e w' ⟨rfl, hbn⟩))
      all_goals
        go_wp2
        go_roundw
        case rel => exact ⟨k + 1, by omega, by go_num, by rw [E.out], by go_split_ands; assumption, by go_split_ands; exact Lib.hid (by assumption)⟩
        case measure => simp [intOf]; omega
    · obtain rfl : k = len := by omega
      have V := Lib.hid (show sackS c (gs.take k) = sackS c gs by rw [List.take_of_length_le (by omega)])
      have R3 := R2.out.below hbel.out (lt_of_cell (R2.out 0 _ rfl).1)
      have hB3 := HB1.out.trans (hbel.out.mono (Nat.le_of_lt hlt1))
      have r0 := (R3 0 _ rfl).1
      have r1 := (R3 1 _ rfl).1
      have r2 := (R3 2 _ rfl).1
      have g0 := (R3 0 _ rfl).2
      have g1 := (R3 1 _ rfl).2
      have g2 := (R3 2 _ rfl).2
      rw [V.out]
      clear R3
      go_wp2
      refine bodyPost_ret (v := madeV 3 0 (sackS c gs)) ?_ rfl ?_
      · simp [results, Try.results13, go_sem, madeV, r0, r1, r2]
      · exact ⟨rfl, ((hB3.setCell (Nat.le_succ _) _).setCell (Nat.le_succ _) _).setCell (Nat.le_succ _) _⟩

end Go.Proofs.Ytifphigdklkpjaa
