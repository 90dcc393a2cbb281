/- The contracts of chapter 12's model: receipts. -/
import Derived.Test.YtcjabomcndahbaaG12
import Derived.Test.YtcjabomcndahbaaK10
import Derived.Test.YtcjabomcndahbaaK13
import Derived.Test.YtcjabomcndahbaaK4b
import Derived.Handy
import Derived.Deep.QuietTactic
import Derived.BigQuiet
namespace Go.Proofs.Ytcjabomcndahbaa
open Go.RowKit Go.PlainAid

set_option maxHeartbeats 1000000 in
theorem l12Sack_any (c : Int) (a : Option Addr) (len cap : Nat) (gs : List (Int × Int)) (w : World) (h : Gaps w a len cap gs) :
    Calls Try.prog 69 #[.agg #[.int .i64 c, .slice a len cap]] w fun e w' => e = .returned (.bool (sackV c gs)) ∧ Below w.heap.size w w' := by
  have hl := h.length
  have hm : len ≤ 9223372036854775807 := by
    rcases h with ⟨_, rfl, _⟩ | ⟨_, _, h1, h2, _⟩
    · omega
    · unfold maxLen at h2
      omega
  have HG := Lib.hid h
  clear h
  go_enter Try.func69, Try.ntmps69
  go_wp2
  go_loopw [3, 4] (fun l i wr => ∃ k : Nat, k ≤ len ∧ i = .int .i64 k ∧ l = .int .i64 (lastOf 0 (gs.take k)) ∧ Hid (GapsOk 0 (gs.take k)) ∧ wr.cell? ⟨w.heap.size, 0, none⟩ = some (.int .i64 c) ∧ wr.cell? ⟨w.heap.size, 1, none⟩ = some (.slice a len cap) ∧ Hid (Below w.heap.size w wr)) (fun _ i _ => len - (intOf i).toNat)
  case atStart => exact ⟨0, Nat.zero_le _, rfl, rfl, trivial, by simp, by simp, Lib.hid (below_box _ (Nat.le_refl _))⟩
  case round =>
    obtain ⟨k, hk, rfl, rfl, hok, hc0, hc1, hbel⟩ := hrel
    by_cases hlt : k < len
    · have hG := HG.out
      rcases hG with ⟨_, h0, _, _⟩ | ⟨x, rfl, h1, h2, h3, h4⟩
      · omega
      obtain ⟨p0, p1⟩ := h4 k hlt
      obtain ⟨f, hf⟩ : ∃ f, (gs.getD k (0, 0)).1 = f := ⟨_, rfl⟩
      obtain ⟨t, ht⟩ : ∃ t, (gs.getD k (0, 0)).2 = t := ⟨_, rfl⟩
      rw [hf] at p0
      rw [ht] at p1
      have q0 : wr.cell? (x.add (k * 2)) = some (.int .i64 f) := (hbel.out.cell (World.block_lt_of_cell? w _ p0)).trans p0
      have q1 : wr.cell? ⟨(x.add (k * 2)).block, (x.add (k * 2)).off + 1, none⟩ = some (.int .i64 t) := (hbel.out.cell (World.block_lt_of_cell? w _ p1)).trans p1
      have hkl : k < gs.length := by omega
      have L := last_range hok.out (by decide) (by decide)
      have N := Lib.hid (gaps_next hkl hf ht hok.out)
      have LN := Lib.hid ((last_next hkl).trans ht)
      obtain ⟨l, hl0⟩ : ∃ l, lastOf 0 (gs.take k) = l := ⟨_, rfl⟩
      rw [hl0] at L N ⊢
      have hB := hbel.out.size
      have hlt2 : w.heap.size < wr.heap.size := lt_of_cell hc0
      clear p0 p1 h4 hf ht hl0
      by_cases c1 : l + 2 ≤ f
      · by_cases c2 : f ≤ t
        · by_cases c3 : t ≤ 16
          · go_wp2
            go_roundw
            case rel => exact ⟨k + 1, by omega, by go_num, by rw [LN.out], Lib.hid (N.out.2 ⟨c1, c2, c3⟩), by simpa [go_sem, hlt2] using hc0, by simpa [go_sem, hlt2] using hc1, Lib.hid (hbel.out.alloc hB _)⟩
            case measure => simp [intOf]; omega
          · have V := Lib.hid (sackV_no (c := c) fun h : SackOk c gs => c3 (N.out.1 (gaps_head h.2)).2.2)
            go_wp2
            go_ret
            exact ⟨ret_b V.out.symm, hbel.out.alloc hB _⟩
        · have V := Lib.hid (sackV_no (c := c) fun h : SackOk c gs => c2 (N.out.1 (gaps_head h.2)).2.1)
          go_wp2
          go_ret
          exact ⟨ret_b V.out.symm, hbel.out.alloc hB _⟩
      · have V := Lib.hid (sackV_no (c := c) fun h : SackOk c gs => c1 (N.out.1 (gaps_head h.2)).1)
        go_wp2
        go_ret
        exact ⟨ret_b V.out.symm, hbel.out.alloc hB _⟩
    · obtain rfl : k = len := by omega
      have hall : GapsOk 0 gs := by
        have := hok.out
        rw [List.take_of_length_le (by omega)] at this
        exact this
      have hf := gaps_few hall (by decide)
      have h8 : (k : Int) ≤ 8 := by omega
      clear hf
      by_cases hs : Ser c
      · have HS := Lib.hid hs
        have V := Lib.hid (sackV_yes (c := c) (gs := gs) ⟨ser_le hs, hall⟩)
        clear hs hall
        go_wp2_with fail
        refine (l3Ok_yes c _ HS.out).mono ?_
        rintro e w1 ⟨rfl, rfl⟩
        go_wp2
        go_ret
        exact ⟨ret_b V.out.symm, hbel.out⟩
      · have HS := Lib.hid hs
        have V := Lib.hid (sackV_no (c := c) fun h : SackOk c gs => ser_not hs h.1)
        clear hs hall
        go_wp2_with fail
        refine (l3Ok_no c _ HS.out).mono ?_
        rintro e w1 ⟨rfl, rfl⟩
        go_wp2
        go_ret
        exact ⟨ret_b V.out.symm, hbel.out⟩

end Go.Proofs.Ytcjabomcndahbaa
