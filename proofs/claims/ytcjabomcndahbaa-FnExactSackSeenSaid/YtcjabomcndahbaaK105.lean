/- The contracts of the program's chapter 21: whether a value is valid, whether a part has arrived, the value at the beginning. -/
import Derived.Test.YtcjabomcndahbaaK90
import Derived.Test.YtcjabomcndahbaaK11
import Derived.Test.YtcjabomcndahbaaG18
import Derived.Deep.RegionHeldLaw
import Derived.Deep.RegionLaw
import Derived.Handy
namespace Go.Proofs.Ytcjabomcndahbaa
open Go.RowKit Go.PlainAid

set_option maxHeartbeats 1000000 in
theorem extraValid_any (a : Option Addr) (len cap : Nat) (es : List Int) (w : World) (h : Ns w a len cap es) :
    Calls Try.prog 55 #[.slice a len cap] w fun e w' => e = .returned (.bool (decide (AscOk 1 es))) ∧ Below w.heap.size w w' := by
  have hl := h.length
  have hm := h.len_int
  have HG := Lib.hid h
  clear h
  go_enter Try.func55, Try.ntmps55
  go_wp2
  go_loopw [3, 8] (fun l i wr => ∃ k : Nat, k ≤ len ∧ i = .int .i64 k ∧ l = .int .i64 (lastE 1 (es.take k) + 1) ∧ Hid (AscOk 1 (es.take k)) ∧ Hid (Below w.heap.size w wr)) (fun _ i _ => len - (intOf i).toNat)
  case atStart => exact ⟨0, Nat.zero_le _, rfl, rfl, Lib.hid trivial, Lib.hid (Below.refl _ _)⟩
  case round =>
    obtain ⟨k, hk, rfl, rfl, hok, hbel⟩ := hrel
    by_cases hlt : k < len
    · obtain ⟨x, rfl⟩ := HG.out.addr hlt
      have p0 := HG.out.at hbel.out hlt
      have hkl : k < es.length := by omega
      obtain ⟨e, he⟩ : ∃ e, nAt es k = e := ⟨_, rfl⟩
      have N := Lib.hid (asc_next hkl he hok.out)
      rw [he] at p0
      have L := lastE_range hok.out (by decide)
      obtain ⟨l, hl0⟩ : ∃ l, lastE 1 (es.take k) = l := ⟨_, rfl⟩
      rw [hl0] at L N ⊢
      clear he hl0
      by_cases c1 : l + 1 ≤ e
      · by_cases c2 : e ≤ 16
        · have O := Lib.hid (N.out.1.2 ⟨c1, c2⟩)
          have w1 : IntKind.i64.wrap (e + 1) = e + 1 := IntWalk.i64_in _ ⟨by omega, by omega⟩
          go_wp2
          go_roundw
          case rel => exact ⟨k + 1, by omega, by go_num, congrArg (Value.int .i64) (by rw [N.out.2.2]), O, hbel⟩
          case measure => simp [intOf]; omega
        · have V := Lib.hid (decide_eq_false (p := AscOk 1 es) fun h => N.out.2.1 (fun h => c2 h.2) h)
          go_wp2
          go_ret
          exact ⟨ret_b V.out.symm, hbel.out⟩
      · have V := Lib.hid (decide_eq_false (p := AscOk 1 es) fun h => N.out.2.1 (fun h => c1 h.1) h)
        go_wp2
        go_ret
        exact ⟨ret_b V.out.symm, hbel.out⟩
    · obtain rfl : k = len := by omega
      have hall : AscOk 1 es := by
        have := hok.out
        rw [List.take_of_length_le (by omega)] at this
        exact this
      have V := Lib.hid (decide_eq_true hall)
      clear hall
      go_wp2
      go_ret
      exact ⟨ret_b V.out.symm, hbel.out⟩

set_option maxHeartbeats 1000000 in
theorem seenValid_any (c : Int) (a : Option Addr) (len cap : Nat) (es : List Int) (w : World) (h : Ns w a len cap es) :
    Calls Try.prog 21 #[.agg #[.int .i64 c, .slice a len cap]] w fun e w' => e = .returned (.bool (seenV c es)) ∧ Below w.heap.size w w' := by
  have G1 := Lib.hid (h.below (below_box (.cells #[.int .i64 c, .slice a len cap] 26) (Nat.le_refl _)))
  clear h
  by_cases hs : Ser c
  · have HS := Lib.hid hs
    have V := Lib.hid (show decide (AscOk 1 es) = seenV c es by
      by_cases hg : AscOk 1 es
      · rw [seenV_yes ⟨ser_le hs, hg⟩, decide_eq_true hg]
      · rw [seenV_no fun h => hg h.2, decide_eq_false hg])
    clear hs
    go_enter Try.func21, Try.ntmps21
    go_wp2_with fail
    refine (serialValid_yes c _ HS.out).mono ?_
    rintro e w1 ⟨rfl, rfl⟩
    go_wp2_with fail
    refine (extraValid_any a len cap es _ G1.out).mono ?_
    rintro e w1 ⟨rfl, hb1⟩
    rw [V.out]
    go_wp2
    go_ret
    exact ⟨rfl, (below_box _ (Nat.le_refl _)).trans (hb1.mono (by simp))⟩
  · have HS := Lib.hid hs
    have V := Lib.hid (seenV_no (c := c) (es := es) fun h => ser_not hs h.1)
    clear hs
    go_enter Try.func21, Try.ntmps21
    go_wp2_with fail
    refine (serialValid_no c _ HS.out).mono ?_
    rintro e w1 ⟨rfl, rfl⟩
    go_wp2
    go_ret
    exact ⟨ret_b V.out.symm, below_box _ (Nat.le_refl _)⟩

set_option maxHeartbeats 1000000 in
theorem index_any (a : Option Addr) (len cap : Nat) (es : List Int) (n : Int) (w : World) (h : Ns w a len cap es) :
    Calls Try.prog 91 #[.slice a len cap, .int .i64 n] w fun e w' => (∃ i : Int, e = .returned (.int .i64 i) ∧ decide (0 ≤ i) = decide (n ∈ es)) ∧ Below w.heap.size w w' := by
  have hl := h.length
  have hm := h.len_int
  have HG := Lib.hid h
  clear h
  go_enter Try.func91, Try.ntmps91
  go_wp2
  go_loopw [8] (fun i wr => ∃ k : Nat, k ≤ len ∧ i = .int .i64 k ∧ Hid (n ∉ es.take k) ∧ Hid (Below w.heap.size w wr)) (fun i _ => len - (intOf i).toNat)
  case atStart => exact ⟨0, Nat.zero_le _, rfl, Lib.hid (by simp), Lib.hid (Below.refl _ _)⟩
  case round =>
    obtain ⟨k, hk, rfl, hno, hbel⟩ := hrel
    by_cases hlt : k < len
    · obtain ⟨x, rfl⟩ := HG.out.addr hlt
      have p0 := HG.out.at hbel.out hlt
      have hkl : k < es.length := by omega
      obtain ⟨e, he⟩ : ∃ e, nAt es k = e := ⟨_, rfl⟩
      rw [he] at p0
      have HM := Lib.hid (nAt_mem hkl)
      have HE := Lib.hid he
      clear he
      by_cases hen : e = n
      · have V := Lib.hid (decide_eq_true (p := n ∈ es) (by rw [← hen, ← HE.out]; exact HM.out))
        subst hen
        go_wp2
        go_ret
        exact ⟨⟨k, rfl, by rw [V.out]; exact decide_eq_true (by omega)⟩, hbel.out⟩
      · have O := Lib.hid (show n ∉ es.take (k + 1) by
          rw [take_nAt hkl, HE.out]
          intro h
          rcases List.mem_append.1 h with h | h
          · exact hno.out h
          · exact hen (List.mem_singleton.1 h).symm)
        have hne : ¬ n = e := fun h => hen h.symm
        go_wp2
        go_roundw
        case rel => exact ⟨k + 1, by omega, by go_num, O, hbel⟩
        case measure => simp [intOf]; omega
    · obtain rfl : k = len := by omega
      have V := Lib.hid (decide_eq_false (p := n ∈ es) (by have := hno.out; rwa [List.take_of_length_le (by omega)] at this))
      go_wp2
      go_ret
      exact ⟨⟨-1, rfl, by rw [V.out]; decide⟩, hbel.out⟩

set_option maxHeartbeats 400000 in
theorem contains_any (a : Option Addr) (len cap : Nat) (es : List Int) (n : Int) (w : World) (h : Ns w a len cap es) :
    Calls Try.prog 81 #[.slice a len cap, .int .i64 n] w fun e w' => e = .returned (.bool (decide (n ∈ es))) ∧ Below w.heap.size w w' := by
  go_enter Try.func81, Try.ntmps81
  go_wp2_with fail
  refine (index_any a len cap es n _ h).mono ?_
  rintro e w1 ⟨⟨i, rfl, hi⟩, hb1⟩
  have HI := Lib.hid hi
  clear hi
  go_wp2
  go_ret
  exact ⟨ret_b HI.out, hb1⟩

set_option maxHeartbeats 1000000 in
theorem stepsSeen_any (c : Int) (a : Option Addr) (len cap : Nat) (es : List Int) (n : Int) (w : World) (h : Ns w a len cap es) :
    Calls Try.prog 54 #[.agg #[.int .i64 c, .slice a len cap], .int .i64 n] w fun e w' => e = .returned (.bool (decide (n ≤ 0 ∨ n ∈ es))) ∧ Below w.heap.size w w' := by
  have G1 := Lib.hid (h.below (below_box (.cells #[.int .i64 c, .slice a len cap] 26) (Nat.le_refl _)))
  clear h
  by_cases hz : n ≤ 0
  · have V := Lib.hid (decide_eq_true (p := n ≤ 0 ∨ n ∈ es) (.inl hz))
    go_enter Try.func54, Try.ntmps54
    go_wp2
    go_ret
    exact ⟨ret_b V.out.symm, below_box _ (Nat.le_refl _)⟩
  · have V := Lib.hid (show decide (n ∈ es) = decide (n ≤ 0 ∨ n ∈ es) from decide_eq_decide.2 ⟨fun h => .inr h, fun h => h.elim (fun h => absurd h hz) (fun h => h)⟩)
    have hz1 : decide (n ≤ 0) = false := decide_eq_false hz
    go_enter Try.func54, Try.ntmps54
    go_wp2_with fail
    refine (contains_any a len cap es n _ G1.out).mono ?_
    rintro e w1 ⟨rfl, hb1⟩
    go_wp2
    go_ret
    exact ⟨ret_b V.out, (below_box _ (Nat.le_refl _)).trans (hb1.mono (by simp))⟩

/-- What a region that asks a value needs to know of a world. -/
theorem keptS {p q : Addr} {x y : Value} {a : Option Addr} {l c : Nat} {es : List Int} {w W W' : World} (h : W.cell? p = some x ∧ W.cell? q = some y ∧ Ns W a l c es ∧ Below w.heap.size w W) (hb : Below W.heap.size W W') :
    W'.cell? p = some x ∧ W'.cell? q = some y ∧ Ns W' a l c es ∧ Below w.heap.size w W' := by
  obtain ⟨h1, h2, h3, h4⟩ := h
  exact ⟨(hb.cell (World.block_lt_of_cell? W _ h1)).trans h1, (hb.cell (World.block_lt_of_cell? W _ h2)).trans h2, h3.below hb, h4.trans (hb.mono h4.size)⟩

set_option maxHeartbeats 1000000 in
theorem seenHas_any (c : Int) (a : Option Addr) (len cap : Nat) (es : List Int) (t : Int) (w : World) (h : Ns w a len cap es) :
    Calls Try.prog 19 #[.agg #[.int .i64 c, .slice a len cap], .int .i64 t] w fun e w' => e = .returned (.bool (hasSV c es t)) ∧ Below w.heap.size w w' := by
  have HP := below_box (w := w) (.cells #[.int .i64 c, .slice a len cap] 26) (Nat.le_refl _)
  have hS := Lib.hid (keptS (W := w.alloc (.cells #[.int .i64 c, .slice a len cap] 26)) (w := w) (p := ⟨w.heap.size, 0, none⟩) (q := ⟨w.heap.size, 1, none⟩) (x := .int .i64 c) (y := .slice a len cap) ⟨by simp, by simp, h.below HP, HP⟩ (Below.drew (Below.refl _ _)))
  clear h HP
  by_cases hs : SeenOk c es
  · have S1 := Lib.hid (seenV_yes hs)
    have HS := Lib.hid (seen_ser hs)
    by_cases ht : Ser t
    · have HT := Lib.hid ht
      obtain ⟨n, hn⟩ : ∃ n, diffS c t = n := ⟨_, rfl⟩
      have HN := Lib.hid ((diffV_yes HS.out ht).trans hn)
      have V := Lib.hid (show decide (n ≤ 0 ∨ n ∈ es) = hasSV c es t by
        unfold hasSV
        rw [← hn]
        exact decide_eq_decide.2 ⟨fun h => ⟨hs, ht, h⟩, fun h => h.2.2⟩)
      clear hs ht hn
      go_enter Try.func19, Try.ntmps19
      go_wp2_with fail
      go_region_held_law (fun W => W.cell? ⟨w.heap.size, 0, none⟩ = some (.int .i64 c) ∧ W.cell? ⟨w.heap.size, 1, none⟩ = some (.slice a len cap) ∧ Ns W a len cap es ∧ Below w.heap.size w W)
        (first | with_reducible assumption | with_reducible exact hS.out | exact keptS (by assumption) (by assumption))
        (first
          | (go_simp; go_at_call 21; refine (seenValid_any c a len cap es _ (by go_split_ands; assumption)).mono ?_; rw [S1.out]; rintro e w' ⟨rfl, hbn⟩)
          | (go_simp; go_at_call 50; refine (serialValid_yes t _ HT.out).mono ?_; rintro e w' ⟨rfl, rfl⟩)
          | (go_simp; go_at_call 26; refine (serialDiff_any c t _).mono ?_; rw [HN.out]; rintro e w' ⟨rfl, hbn⟩)
          | (go_simp; go_at_call 54; refine (stepsSeen_any c a len cap es n _ (by go_split_ands; assumption)).mono ?_; rw [V.out]; rintro e w' ⟨rfl, hbn⟩))
      all_goals
        rename_i hHeld
        have HW := Lib.hid hHeld.2.2.2
        clear hHeld
        go_wp2
        go_ret
        exact ⟨rfl, HW.out⟩
    · have HT := Lib.hid ht
      have V := Lib.hid (show hasSV c es t = false from decide_eq_false fun h => ht h.2.1)
      clear hs ht
      go_enter Try.func19, Try.ntmps19
      go_wp2_with fail
      first
        | go_region_law (first
            | (go_simp; go_at_call 21; refine (seenValid_any c a len cap es _ hS.out.2.2.1).mono ?_; rw [S1.out]; rintro e w' ⟨rfl, hbn⟩; have HW := Lib.hid (hS.out.2.2.2.trans (hbn.mono hS.out.2.2.2.size)); clear hbn; dsimp only)
            | (go_simp; go_at_call 50; refine (serialValid_no t _ HT.out).mono ?_; rintro e w2 ⟨rfl, rfl⟩; dsimp only))
        | fail
      all_goals
        go_wp2
        go_ret
        exact ⟨ret_b V.out.symm, HW.out⟩
  · have S1 := Lib.hid (seenV_no hs)
    have V := Lib.hid (show hasSV c es t = false from decide_eq_false fun h => hs h.1)
    clear hs
    go_enter Try.func19, Try.ntmps19
    go_wp2_with fail
    first
      | go_region_law (first
          | (go_simp; go_at_call 21; refine (seenValid_any c a len cap es _ hS.out.2.2.1).mono ?_; rw [S1.out]; rintro e w' ⟨rfl, hbn⟩; have HW := Lib.hid (hS.out.2.2.2.trans (hbn.mono hS.out.2.2.2.size)); clear hbn; dsimp only))
      | fail
    all_goals
      go_wp2
      go_ret
      exact ⟨ret_b V.out.symm, HW.out⟩

set_option maxHeartbeats 1000000 in
theorem seenNew_yes (t : Int) (w : World) (ht : Ser t) :
    Calls Try.prog 16 #[.int .i64 t] w fun e w' => e = .returned (.tuple #[.agg #[.int .i64 (addS t (-1)), .slice none 0 0], .bool true]) ∧ Below w.heap.size w w' := by
  have HT := Lib.hid ht
  have HA := Lib.hid (addV_yes (-1) ht)
  clear ht
  go_enter Try.func16, Try.ntmps16
  go_wp2_with fail
  refine (serialValid_yes t _ HT.out).mono ?_
  rintro e w1 ⟨rfl, rfl⟩
  go_wp2_with fail
  refine (serialAdd_any t (-1) _).mono ?_
  rw [HA.out]
  rintro e w1 ⟨rfl, rfl⟩
  go_wp2
  refine bodyPost_ret (v := .tuple #[.agg #[.int .i64 (addS t (-1)), .slice none 0 0], .bool true]) ?_ rfl ?_
  · simp [results, Try.results16, go_sem]
  · exact ⟨rfl, by go_grown⟩

set_option maxHeartbeats 1000000 in
theorem seenNew_no (t : Int) (w : World) (ht : ¬ Ser t) :
    Calls Try.prog 16 #[.int .i64 t] w fun e w' => e = .returned (.tuple #[.agg #[.int .i64 0, .slice none 0 0], .bool false]) ∧ Below w.heap.size w w' := by
  have HT := Lib.hid ht
  clear ht
  go_enter Try.func16, Try.ntmps16
  go_wp2_with fail
  refine (serialValid_no t _ HT.out).mono ?_
  rintro e w1 ⟨rfl, rfl⟩
  go_wp2
  refine bodyPost_ret (v := .tuple #[.agg #[.int .i64 0, .slice none 0 0], .bool false]) ?_ rfl ?_
  · simp [results, Try.results16, go_sem]
  · exact ⟨rfl, by go_grown⟩

end Go.Proofs.Ytcjabomcndahbaa
