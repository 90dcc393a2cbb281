/- The contracts of the program's chapter 12: receipts that are judged, written and asked. -/
import Derived.Test.YtcjabomcndahbaaK29
import Derived.Test.YtcjabomcndahbaaK11
import Derived.Test.YtcjabomcndahbaaK26c
namespace Go.Proofs.Ytcjabomcndahbaa
open Go.RowKit Go.PlainAid

set_option maxHeartbeats 1000000 in
theorem gapsValid_any (a : Option Addr) (len cap : Nat) (gs : List (Int × Int)) (w : World) (h : Gaps w a len cap gs) :
    Calls Try.prog 86 #[.slice a len cap] w fun e w' => e = .returned (.bool (decide (GapsOk 0 gs))) ∧ Below w.heap.size w w' := by
  have hl := h.length
  have hm : len ≤ 9223372036854775807 := by
    rcases h with ⟨_, rfl, _⟩ | ⟨_, _, h1, h2, _⟩
    · omega
    · unfold maxLen at h2
      omega
  have HG := Lib.hid h
  clear h
  go_enter Try.func86, Try.ntmps86
  go_wp2
  go_loopw [3, 8] (fun l i wr => ∃ k : Nat, k ≤ len ∧ i = .int .i64 k ∧ l = .int .i64 (lastOf 0 (gs.take k)) ∧ Hid (GapsOk 0 (gs.take k)) ∧ Hid (Below w.heap.size w wr)) (fun _ i _ => len - (intOf i).toNat)
  case atStart => exact ⟨0, Nat.zero_le _, rfl, rfl, trivial, Lib.hid (Below.refl _ _)⟩
  case round =>
    obtain ⟨k, hk, rfl, rfl, hok, hbel⟩ := hrel
    by_cases hlt : k < len
    · have hG := HG.out
      rcases hG with ⟨_, h0, _, _⟩ | ⟨x, rfl, h1, h2, h3, h4⟩
      · omega
      obtain ⟨p0, p1⟩ := h4 k hlt
      obtain ⟨f, hf⟩ : ∃ f, (gs.getD k (0, 0)).1 = f := ⟨_, rfl⟩
      obtain ⟨t, ht⟩ : ∃ t, (gs.getD k (0, 0)).2 = t := ⟨_, rfl⟩
      rw [hf] at p0
      rw [ht] at p1
      have q0 : wr.cell? (x.add (k * 2)) = some (.int .i64 f) := (hbel.out.cell (World.block_lt_of_cell? w _ p0)).trans p0
      have q1 : wr.cell? ⟨(x.add (k * 2)).block, (x.add (k * 2)).off + 1, none⟩ = some (.int .i64 t) := (hbel.out.cell (World.block_lt_of_cell? w _ p1)).trans p1
      have hkl : k < gs.length := by omega
      have L := last_range hok.out (by decide) (by decide)
      have N := Lib.hid (gaps_next hkl hf ht hok.out)
      have LN := Lib.hid ((last_next hkl).trans ht)
      obtain ⟨l, hl0⟩ : ∃ l, lastOf 0 (gs.take k) = l := ⟨_, rfl⟩
      rw [hl0] at L N ⊢
      have hB := hbel.out.size
      clear p0 p1 h4 hf ht hl0
      by_cases c1 : l + 2 ≤ f
      · by_cases c2 : f ≤ t
        · by_cases c3 : t ≤ 16
          · go_wp2
            go_roundw
            case rel => exact ⟨k + 1, by omega, by go_num, by rw [LN.out], Lib.hid (N.out.2 ⟨c1, c2, c3⟩), Lib.hid (hbel.out.alloc hB _)⟩
            case measure => simp [intOf]; omega
          · have V := Lib.hid (decide_eq_false (p := GapsOk 0 gs) fun h => c3 (N.out.1 (gaps_head h)).2.2)
            go_wp2
            go_ret
            exact ⟨ret_b V.out.symm, hbel.out.alloc hB _⟩
        · have V := Lib.hid (decide_eq_false (p := GapsOk 0 gs) fun h => c2 (N.out.1 (gaps_head h)).2.1)
          go_wp2
          go_ret
          exact ⟨ret_b V.out.symm, hbel.out.alloc hB _⟩
      · have V := Lib.hid (decide_eq_false (p := GapsOk 0 gs) fun h => c1 (N.out.1 (gaps_head h)).1)
        go_wp2
        go_ret
        exact ⟨ret_b V.out.symm, hbel.out.alloc hB _⟩
    · obtain rfl : k = len := by omega
      have hall : GapsOk 0 gs := by
        have := hok.out
        rw [List.take_of_length_le (by omega)] at this
        exact this
      have V := Lib.hid (decide_eq_true hall)
      clear hall
      go_wp2
      go_ret
      exact ⟨ret_b V.out.symm, hbel.out⟩

set_option maxHeartbeats 1000000 in
theorem sackValid_any (c : Int) (a : Option Addr) (len cap : Nat) (gs : List (Int × Int)) (w : World) (h : Gaps w a len cap gs) :
    Calls Try.prog 64 #[.agg #[.int .i64 c, .slice a len cap]] w fun e w' => e = .returned (.bool (sackV c gs)) ∧ Below w.heap.size w w' := by
  have G1 := Lib.hid (h.below (below_box (.cells #[.int .i64 c, .slice a len cap] 41) (Nat.le_refl _)))
  have hl := h.length
  have hm : len ≤ 9223372036854775807 := by
    rcases h with ⟨_, rfl, _⟩ | ⟨_, _, h1, h2, _⟩
    · omega
    · unfold maxLen at h2
      omega
  have HG := Lib.hid h
  clear h
  by_cases hs : Ser c
  · have HS := Lib.hid hs
    by_cases h8 : len ≤ 8
    · have V := Lib.hid (show decide (GapsOk 0 gs) = sackV c gs by
        by_cases hg : GapsOk 0 gs
        · rw [sackV_yes ⟨ser_le hs, hg⟩, decide_eq_true hg]
        · rw [sackV_no fun h => hg h.2, decide_eq_false hg])
      clear hs
      go_enter Try.func64, Try.ntmps64
      go_wp2_with fail
      refine (serialValid_yes c _ HS.out).mono ?_
      rintro e w1 ⟨rfl, rfl⟩
      go_wp2_with fail
      refine (gapsValid_any a len cap gs _ G1.out).mono ?_
      rintro e w1 ⟨rfl, hb1⟩
      rw [V.out]
      go_wp2
      go_ret
      exact ⟨rfl, (below_box _ (Nat.le_refl _)).trans (hb1.mono (by simp))⟩
    · have V := Lib.hid (sackV_no (c := c) (gs := gs) fun h => h8 (by have := sack_few h; omega))
      clear hs
      go_enter Try.func64, Try.ntmps64
      go_wp2_with fail
      refine (serialValid_yes c _ HS.out).mono ?_
      rintro e w1 ⟨rfl, rfl⟩
      go_wp2
      go_ret
      exact ⟨ret_b V.out.symm, below_box _ (Nat.le_refl _)⟩
  · have HS := Lib.hid hs
    have V := Lib.hid (sackV_no (c := c) (gs := gs) fun h => ser_not hs h.1)
    clear hs
    go_enter Try.func64, Try.ntmps64
    go_wp2_with fail
    refine (serialValid_no c _ HS.out).mono ?_
    rintro e w1 ⟨rfl, rfl⟩
    go_wp2
    go_ret
    exact ⟨ret_b V.out.symm, below_box _ (Nat.le_refl _)⟩

theorem wordsPut_two (a b : Int) (a0 : 0 ≤ a ∧ a ≤ 65535) (b0 : 0 ≤ b ∧ b ≤ 65535) (d cap : Nat) (w : World) (hv : VarN d [.int .i64 a, .int .i64 b] w) :
    Calls Try.prog 67 #[.slice (some ⟨d, 0, none⟩) 2 cap] w fun e w' => e = .returned (.string (wordS a ++ wordS b)) ∧ Below w.heap.size w w' := by
  rw [← wordsS_two]
  exact wordsPut_any [a, b] d cap w (by simp) (fun n hn => by simp at hn; rcases hn with rfl | rfl <;> assumption) hv (lt_of_cell (hv 0 _ rfl).1)
theorem wordsPut_one (a : Int) (a0 : 0 ≤ a ∧ a ≤ 65535) (d cap : Nat) (w : World) (hv : VarN d [.int .i64 a] w) :
    Calls Try.prog 67 #[.slice (some ⟨d, 0, none⟩) 1 cap] w fun e w' => e = .returned (.string (wordS a)) ∧ Below w.heap.size w w' := by
  rw [← wordsS_one]
  exact wordsPut_any [a] d cap w (by simp) (fun n hn => by simp at hn; rcases hn with rfl; assumption) hv (lt_of_cell (hv 0 _ rfl).1)

set_option maxHeartbeats 400000 in
theorem sackPut_no (c : Int) (a : Option Addr) (len cap : Nat) (gs : List (Int × Int)) (w : World) (h : Gaps w a len cap gs) (hk : ¬ SackOk c gs) :
    Calls Try.prog 33 #[.agg #[.int .i64 c, .slice a len cap]] w fun e w' => e = .returned notMadeV ∧ Below w.heap.size w w' := by
  have G0 := Lib.hid ((h.below (below_box (.cells #[.int .i64 c, .slice a len cap] 41) (Nat.le_refl _))).below (below_box (.cells #[.int .i64 0, .int .i64 0, .string (ByteArray.mk #[])] 47) (Nat.le_refl _)))
  have K := Lib.hid (sackV_no hk)
  have R1 := VarN.new_at (w := w.alloc (.cells #[.int .i64 c, .slice a len cap] 41)) (d := w.heap.size + 1) (by simp) [.int .i64 0, .int .i64 0, .string (ByteArray.mk #[])] 47
  clear h hk
  go_enter Try.func33, Try.ntmps33
  go_wp2_with fail
  refine (sackValid_any c a len cap gs _ G0.out).mono ?_
  rintro e w1 ⟨rfl, hb1⟩
  rw [K.out]
  have R2 := R1.below hb1 (by simp)
  have hB1 : Below w.heap.size w w1 := ((below_box _ (Nat.le_refl _)).alloc (by simp) _).trans (hb1.mono (by simp <;> omega))
  have r0 := (R2 0 _ rfl).1
  have r1 := (R2 1 _ rfl).1
  have r2 := (R2 2 _ rfl).1
  have g0 := (R2 0 _ rfl).2
  have g1 := (R2 1 _ rfl).2
  have g2 := (R2 2 _ rfl).2
  clear hb1 R1 R2
  go_wp2
  refine bodyPost_ret (v := notMadeV) ?_ rfl ?_
  · simp [results, Try.results33, go_sem, notMadeV, r0, r1, r2]
  · exact ⟨rfl, ((hB1.setCell (Nat.le_succ _) _).setCell (Nat.le_succ _) _).setCell (Nat.le_succ _) _⟩

set_option maxHeartbeats 2000000 in
theorem sackPut_yes (c : Int) (a : Option Addr) (len cap : Nat) (gs : List (Int × Int)) (w : World) (h : Gaps w a len cap gs) (hk : SackOk c gs) :
    Calls Try.prog 33 #[.agg #[.int .i64 c, .slice a len cap]] w fun e w' => e = .returned (madeV 3 0 (sackS c gs)) ∧ Below w.heap.size w w' := by
  have hl := h.length
  have h8 := sack_few hk
  have G0 := Lib.hid ((h.below (below_box (.cells #[.int .i64 c, .slice a len cap] 41) (Nat.le_refl _))).below (below_box (.cells #[.int .i64 0, .int .i64 0, .string (ByteArray.mk #[])] 47) (Nat.le_refl _)))
  have K := Lib.hid (sackV_yes hk)
  have HK := Lib.hid hk
  have R1 := VarN.new_at (w := w.alloc (.cells #[.int .i64 c, .slice a len cap] 41)) (d := w.heap.size + 1) (by simp) [.int .i64 0, .int .i64 0, .string (ByteArray.mk #[])] 47
  clear h hk
  go_enter Try.func33, Try.ntmps33
  go_wp2_with fail
  refine (sackValid_any c a len cap gs _ G0.out).mono ?_
  rintro e w1 ⟨rfl, hb1⟩
  rw [K.out]
  have R2 := Lib.hid (R1.below hb1 (by simp))
  have G1 := Lib.hid (G0.out.below hb1)
  have c0 : w1.cell? ⟨w.heap.size, 0, none⟩ = some (.int .i64 c) := (hb1.cell (p := ⟨w.heap.size, 0, none⟩) (by simp <;> omega)).trans (by simp [go_sem])
  have c1 : w1.cell? ⟨w.heap.size, 1, none⟩ = some (.slice a len cap) := (hb1.cell (p := ⟨w.heap.size, 1, none⟩) (by simp <;> omega)).trans (by simp [go_sem])
  have HB1 := Lib.hid (((below_box (.cells #[.int .i64 c, .slice a len cap] 41) (Nat.le_refl w.heap.size)).alloc (by simp) (.cells #[.int .i64 0, .int .i64 0, .string (ByteArray.mk #[])] 47)).trans (hb1.mono (by simp <;> omega)))
  have hlt1 : w.heap.size < w1.heap.size := lt_of_cell c0
  clear hb1 R1 G0
  go_wp2_with fail
  refine (wordsPut_one c HK.out.1 _ _ _ (VarN.new _ _ _)).mono ?_
  rintro e w2 ⟨rfl, hb2⟩
  have hb2 := (below_box _ (Nat.le_refl w1.heap.size)).trans (hb2.mono (by simp))
  have c1' := kept_cell hb2 hlt1 c1
  have HB2 := Lib.hid hb2
  clear hb2 c0 c1
  go_wp2
  go_loopw [4, 18] (fun s i wr => ∃ k : Nat, k ≤ len ∧ i = .int .i64 k ∧ s = .string (sackS c (gs.take k)) ∧ Hid (Below w1.heap.size w1 wr)) (fun _ i _ => len - (intOf i).toNat)
  case atStart => exact ⟨0, Nat.zero_le _, rfl, congrArg Value.string (ByteArray.append_empty).symm, HB2⟩
  case round =>
    obtain ⟨k, hk, rfl, rfl, hbel⟩ := hrel
    clear c1'
    by_cases hlt : k < len
    · have hG := G1.out
      rcases hG with ⟨_, h0, _, _⟩ | ⟨x, rfl, h1, h2, h3, h4⟩
      · omega
      obtain ⟨p0, p1⟩ := h4 k hlt
      obtain ⟨f, hf⟩ : ∃ f, (gs.getD k (0, 0)).1 = f := ⟨_, rfl⟩
      obtain ⟨t, ht⟩ : ∃ t, (gs.getD k (0, 0)).2 = t := ⟨_, rfl⟩
      rw [hf] at p0
      rw [ht] at p1
      have q0 : wr.cell? (x.add (k * 2)) = some (.int .i64 f) := (hbel.out.cell (World.block_lt_of_cell? w1 _ p0)).trans p0
      have q1 : wr.cell? ⟨(x.add (k * 2)).block, (x.add (k * 2)).off + 1, none⟩ = some (.int .i64 t) := (hbel.out.cell (World.block_lt_of_cell? w1 _ p1)).trans p1
      have hkl : k < gs.length := by omega
      have L := last_range (gaps_head (k := k) HK.out.2) (by decide) (by decide)
      have N := (gaps_next hkl hf ht (gaps_head HK.out.2)).1 (gaps_head HK.out.2)
      have f0 : 0 ≤ f ∧ f ≤ 65535 := by omega
      have t0 : 0 ≤ t ∧ t ≤ 65535 := by omega
      have E := Lib.hid (show sackS c (gs.take k) ++ (wordS f ++ wordS t) = sackS c (gs.take (k + 1)) by rw [take_next hkl, sackS_append, hf, ht, ByteArray.append_assoc])
      have hz := sackS_size c (gs.take k)
      rw [List.length_take] at hz
      have hz2 : ¬ 9223372036854775807 < (sackS c (gs.take k)).size + ((wordS f).size + (wordS t).size) := by rw [wordS_size, wordS_size]; omega
      have hB := hbel.out.size
      clear p0 p1 h4 hf ht L N hz
      go_wp2_with fail
      refine (wordsPut_two f t f0 t0 _ _ _ (VarN.new_at (by simp) _ _)).mono ?_
      rintro e w3 ⟨rfl, hb3⟩
      have hb3 := Lib.hid (((hbel.out.alloc hB _).alloc (by simp; omega) _).trans (hb3.mono (by simp; omega)))
      go_wp2
      go_roundw
      case rel => exact ⟨k + 1, by omega, by go_num, by rw [E.out], hb3⟩
      case measure => simp [intOf]; omega
    · obtain rfl : k = len := by omega
      have V := Lib.hid (show sackS c (gs.take k) = sackS c gs by rw [List.take_of_length_le (by omega)])
      have R3 := R2.out.below hbel.out (lt_of_cell (R2.out 0 _ rfl).1)
      have hB3 := HB1.out.trans (hbel.out.mono (Nat.le_of_lt hlt1))
      have r0 := (R3 0 _ rfl).1
      have r1 := (R3 1 _ rfl).1
      have r2 := (R3 2 _ rfl).1
      have g0 := (R3 0 _ rfl).2
      have g1 := (R3 1 _ rfl).2
      have g2 := (R3 2 _ rfl).2
      rw [V.out]
      clear R3
      go_wp2
      refine bodyPost_ret (v := madeV 3 0 (sackS c gs)) ?_ rfl ?_
      · simp [results, Try.results33, go_sem, madeV, r0, r1, r2]
      · exact ⟨rfl, ((hB3.setCell (Nat.le_succ _) _).setCell (Nat.le_succ _) _).setCell (Nat.le_succ _) _⟩

set_option maxHeartbeats 400000 in
theorem has1_any (f t n : Int) (B : Nat) (w : World) (hc : w.cell? ⟨B, 0, none⟩ = some (.int .i64 n)) :
    Calls Try.prog 66 #[.agg #[.int .i64 f, .int .i64 t], .pointer (some ⟨B, 0, none⟩)] w fun e w' => e = .returned (.bool (decide (f ≤ n ∧ n ≤ t))) ∧ Below w.heap.size w w' := by
  have hc' : (w.alloc (.cells #[.int .i64 f, .int .i64 t] 76)).cell? ⟨B, 0, none⟩ = some (.int .i64 n) := past_cell hc _
  by_cases h1 : f ≤ n
  · have E := Lib.hid (show decide (n ≤ t) = decide (f ≤ n ∧ n ≤ t) by
      by_cases h2 : n ≤ t
      · rw [decide_eq_true h2, decide_eq_true ⟨h1, h2⟩]
      · rw [decide_eq_false h2, decide_eq_false fun h => h2 h.2])
    go_enter Try.func66, Try.ntmps66
    go_wp2
    go_ret
    exact ⟨ret_b E.out, below_box _ (Nat.le_refl _)⟩
  · have E := Lib.hid (show false = decide (f ≤ n ∧ n ≤ t) from (decide_eq_false fun h => h1 h.1).symm)
    go_enter Try.func66, Try.ntmps66
    go_wp2
    go_ret
    exact ⟨ret_b (by first | exact E.out | rw [decide_eq_false (by omega), Bool.false_and]), below_box _ (Nat.le_refl _)⟩

set_option maxHeartbeats 1000000 in
theorem indexFunc_any (n : Int) (B : Nat) (a : Option Addr) (len cap : Nat) (gs : List (Int × Int)) (w : World) (h : Gaps w a len cap gs) (hc : w.cell? ⟨B, 0, none⟩ = some (.int .i64 n)) :
    Calls Try.prog 87 #[.slice a len cap, .func (.func 66) #[] #[.pointer (some ⟨B, 0, none⟩)]] w fun e w' => (∃ i : Int, e = .returned (.int .i64 i) ∧ decide (0 ≤ i) = blockV n gs) ∧ Below w.heap.size w w' := by
  have hl := h.length
  have hm : len ≤ 9223372036854775807 := by
    rcases h with ⟨_, rfl, _⟩ | ⟨_, _, h1, h2, _⟩
    · omega
    · unfold maxLen at h2
      omega
  have HG := Lib.hid h
  clear h
  have hcB := World.block_lt_of_cell? w ⟨B, 0, none⟩ hc
  have HC := Lib.hid hc
  clear hc
  go_enter Try.func87, Try.ntmps87
  go_wp2
  go_loopw [8] (fun i wr => ∃ k : Nat, k ≤ len ∧ i = .int .i64 k ∧ Hid (blockV n (gs.take k) = false) ∧ Hid (Below w.heap.size w wr)) (fun i _ => len - (intOf i).toNat)
  case atStart => exact ⟨0, Nat.zero_le _, rfl, rfl, Lib.hid (Below.refl _ _)⟩
  case round =>
    obtain ⟨k, hk, rfl, hok, hbel⟩ := hrel
    by_cases hlt : k < len
    · have hG := HG.out
      rcases hG with ⟨_, h0, _, _⟩ | ⟨x, rfl, h1, h2, h3, h4⟩
      · omega
      obtain ⟨p0, p1⟩ := h4 k hlt
      obtain ⟨f, hf⟩ : ∃ f, (gs.getD k (0, 0)).1 = f := ⟨_, rfl⟩
      obtain ⟨t, ht⟩ : ∃ t, (gs.getD k (0, 0)).2 = t := ⟨_, rfl⟩
      rw [hf] at p0
      rw [ht] at p1
      have q0 : wr.cell? (x.add (k * 2)) = some (.int .i64 f) := (hbel.out.cell (World.block_lt_of_cell? w _ p0)).trans p0
      have q1 : wr.cell? ⟨(x.add (k * 2)).block, (x.add (k * 2)).off + 1, none⟩ = some (.int .i64 t) := (hbel.out.cell (World.block_lt_of_cell? w _ p1)).trans p1
      have hkl : k < gs.length := by omega
      have N := Lib.hid (blockV_next (n := n) hkl hf ht)
      have hcr := (hbel.out.cell (p := ⟨B, 0, none⟩) hcB).trans HC.out
      have HCR := Lib.hid hcr
      clear p0 p1 h4 hf ht hcr
      by_cases hin : f ≤ n ∧ n ≤ t
      · have D := Lib.hid (decide_eq_true hin)
        have V := Lib.hid (show blockV n gs = true from blockV_head (k := k + 1) (by rw [N.out, D.out, Bool.or_true]))
        clear hin
        go_wp2_with fail
        refine (has1_any f t n B _ HCR.out).mono ?_
        rw [D.out]
        rintro e w2 ⟨rfl, hb2⟩
        go_wp2
        go_ret
        exact ⟨⟨k, rfl, by rw [V.out]; exact decide_eq_true (by omega)⟩, hbel.out.trans (hb2.mono hbel.out.size)⟩
      · have D := Lib.hid (decide_eq_false hin)
        have O := Lib.hid (show blockV n (gs.take (k + 1)) = false by rw [N.out, D.out, Bool.or_false]; exact hok.out)
        clear hin
        go_wp2_with fail
        refine (has1_any f t n B _ HCR.out).mono ?_
        rw [D.out]
        rintro e w2 ⟨rfl, hb2⟩
        go_wp2
        go_roundw
        case rel => exact ⟨k + 1, by omega, by go_num, O, Lib.hid (hbel.out.trans (hb2.mono hbel.out.size))⟩
        case measure => simp [intOf]; omega
    · obtain rfl : k = len := by omega
      have V := Lib.hid (show blockV n gs = false by
        have := hok.out
        rw [List.take_of_length_le (by omega)] at this
        exact this)
      go_wp2
      go_ret
      exact ⟨⟨-1, rfl, by rw [V.out]; decide⟩, hbel.out⟩

set_option maxHeartbeats 400000 in
theorem containsFunc_any (n : Int) (B : Nat) (a : Option Addr) (len cap : Nat) (gs : List (Int × Int)) (w : World) (h : Gaps w a len cap gs) (hc : w.cell? ⟨B, 0, none⟩ = some (.int .i64 n)) :
    Calls Try.prog 65 #[.slice a len cap, .func (.func 66) #[] #[.pointer (some ⟨B, 0, none⟩)]] w fun e w' => e = .returned (.bool (blockV n gs)) ∧ Below w.heap.size w w' := by
  go_enter Try.func65, Try.ntmps65
  go_wp2_with fail
  refine (indexFunc_any n B a len cap gs _ h hc).mono ?_
  rintro e w1 ⟨⟨i, rfl, hi⟩, hb1⟩
  have HI := Lib.hid hi
  clear hi
  go_wp2
  go_ret
  exact ⟨ret_b HI.out, hb1⟩

set_option maxHeartbeats 1000000 in
theorem sackHas_any (c s : Int) (a : Option Addr) (len cap : Nat) (gs : List (Int × Int)) (w : World) (h : Gaps w a len cap gs) :
    Calls Try.prog 32 #[.agg #[.int .i64 c, .slice a len cap], .int .i64 s] w fun e w' => e = .returned (.bool (hasV c s gs)) ∧ Below w.heap.size w w' := by
  have hmf : ∀ (fn : Fn) (first cap : Array Value) (w : World), (Instr.makeFunc fn first cap).run Try.prog w = .ok (.func fn first cap) w := fun _ _ _ _ => rfl
  have G0 := Lib.hid (h.below (below_box (.cells #[.int .i64 c, .slice a len cap] 41) (Nat.le_refl _)))
  clear h
  by_cases hk : SackOk c gs
  · have K := Lib.hid (sackV_yes hk)
    have hc := ser_of hk.1
    by_cases hs : Ser s
    · obtain ⟨n, hn⟩ : ∃ n, diffS c s = n := ⟨_, rfl⟩
      have V := Lib.hid (show hasV c s gs = (blockV n gs || decide (n ≤ 0)) by
        unfold hasV
        rw [decide_eq_true hk, decide_eq_true (ser_le hs), Bool.true_and, Bool.true_and, hn])
      have D := Lib.hid ((diffV_yes hc hs).trans hn)
      have HS := Lib.hid hs
      clear hk hc hs hn
      go_enter Try.func32, Try.ntmps32
      go_wp2_with fail
      refine (sackValid_any c a len cap gs _ G0.out).mono ?_
      rintro e w1 ⟨rfl, hb1⟩
      rw [K.out]
      have c0 : w1.cell? ⟨w.heap.size, 0, none⟩ = some (.int .i64 c) := kept_cell hb1 (by simp) (by simp)
      have c1 : w1.cell? ⟨w.heap.size, 1, none⟩ = some (.slice a len cap) := kept_cell hb1 (by simp) (by simp)
      have G1 := Lib.hid (G0.out.below hb1)
      have HB1 := Lib.hid ((below_box (.cells #[.int .i64 c, .slice a len cap] 41) (Nat.le_refl w.heap.size)).trans (hb1.mono (by simp)))
      clear hb1
      go_wp2_with fail
      refine (serialValid_yes s _ HS.out).mono ?_
      rintro e w2 ⟨rfl, rfl⟩
      go_wp2_with fail
      refine (serialDiff_any c s _).mono ?_
      rw [D.out]
      rintro e w2 ⟨rfl, hb2⟩
      have c1' : (w2.alloc (.cells #[.int .i64 n] 3)).cell? ⟨w.heap.size, 1, none⟩ = some (.slice a len cap) := past_cell ((hb2.cell (World.block_lt_of_cell? w1 _ c1)).trans c1) _
      have G2 := Lib.hid ((G1.out.below hb2).below (below_box (.cells #[.int .i64 n] 3) (Nat.le_refl _)))
      have HB2 := Lib.hid ((HB1.out.trans (hb2.mono HB1.out.size)).alloc (Nat.le_trans HB1.out.size hb2.size) (.cells #[.int .i64 n] 3))
      have HN := Lib.hid (show (w2.alloc (.cells #[.int .i64 n] 3)).cell? ⟨w2.heap.size, 0, none⟩ = some (.int .i64 n) by simp)
      clear c0 c1 hb2
      by_cases h0 : n ≤ 0
      · have V2 := Lib.hid (show true = hasV c s gs by rw [V.out, decide_eq_true h0, Bool.or_true])
        go_wp2
        go_ret
        exact ⟨ret_b V2.out, HB2.out⟩
      · have V2 := Lib.hid (show blockV n gs = hasV c s gs by rw [V.out, decide_eq_false h0, Bool.or_false])
        go_wp2_with fail
        refine (containsFunc_any n w2.heap.size a len cap gs _ G2.out HN.out).mono ?_
        rintro e w3 ⟨rfl, hb3⟩
        go_wp2
        go_ret
        exact ⟨ret_b (by first | exact V2.out | (rw [decide_eq_false (by omega), Bool.false_or]; exact V2.out)), HB2.out.trans (hb3.mono HB2.out.size)⟩
    · have V := Lib.hid (show hasV c s gs = false by
        unfold hasV
        rw [decide_eq_false (ser_not hs), Bool.and_false, Bool.false_and])
      have HS := Lib.hid hs
      clear hk hc hs
      go_enter Try.func32, Try.ntmps32
      go_wp2_with fail
      refine (sackValid_any c a len cap gs _ G0.out).mono ?_
      rintro e w1 ⟨rfl, hb1⟩
      rw [K.out]
      have hB1 : Below w.heap.size w w1 := (below_box _ (Nat.le_refl _)).trans (hb1.mono (by simp))
      clear hb1
      go_wp2_with fail
      refine (serialValid_no s _ HS.out).mono ?_
      rintro e w2 ⟨rfl, rfl⟩
      go_wp2
      go_ret
      exact ⟨ret_b V.out.symm, hB1⟩
  · have K := Lib.hid (sackV_no hk)
    have V := Lib.hid (show hasV c s gs = false by
      unfold hasV
      rw [decide_eq_false hk, Bool.false_and, Bool.false_and])
    clear hk
    go_enter Try.func32, Try.ntmps32
    go_wp2_with fail
    refine (sackValid_any c a len cap gs _ G0.out).mono ?_
    rintro e w1 ⟨rfl, hb1⟩
    rw [K.out]
    have hB1 : Below w.heap.size w w1 := (below_box _ (Nat.le_refl _)).trans (hb1.mono (by simp))
    clear hb1
    go_wp2
    go_ret
    exact ⟨ret_b V.out.symm, hB1⟩

end Go.Proofs.Ytcjabomcndahbaa
