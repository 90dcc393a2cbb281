/- The contracts of chapter 13's model: whether a packet is valid, and alone. -/
import Derived.Test.YtcpdpamoddmpaaaG14
import Derived.Test.YtcpdpamoddmpaaaK13
import Derived.Test.YtcpdpamoddmpaaaK42
namespace Go.Proofs.Ytcpdpamoddmpaaa
open Go.RowKit Go.PlainAid

/-- The value of a packet. -/
def packetV (f t g : Int) (a : Option Addr) (len cap : Nat) : Value := .agg #[.int .i64 f, .int .i64 t, .int .i64 g, .slice a len cap]
def allChk (cs : List (Int × Int × ByteArray)) : Prop := ∀ c ∈ cs, Chk c.1 c.2.1 c.2.2
theorem allChk_take {cs : List (Int × Int × ByteArray)} {k : Nat} (hk : k < cs.length) (h : allChk (cs.take k)) (hc : Chk (chAt cs k).1 (chAt cs k).2.1 (chAt cs k).2.2) : allChk (cs.take (k + 1)) := by
  rw [take_chAt hk]
  intro c hm
  rcases List.mem_append.1 hm with hm | hm
  · exact h c hm
  · obtain rfl : c = chAt cs k := by simpa using hm
    exact hc
theorem allChk_not {cs : List (Int × Int × ByteArray)} {k : Nat} (hk : k < cs.length) (hc : ¬ Chk (chAt cs k).1 (chAt cs k).2.1 (chAt cs k).2.2) : ¬ allChk cs := fun h => hc (h _ (chAt_mem hk))
theorem packV_yes {f t g : Int} {cs : List (Int × Int × ByteArray)} (h : PackOk f t g cs) : packV f t g cs = true := decide_eq_true h
theorem packV_no {f t g : Int} {cs : List (Int × Int × ByteArray)} (h : ¬ PackOk f t g cs) : packV f t g cs = false := decide_eq_false h

/-- The cells of the chunk at a place, in another world. -/
theorem Chs.at {w wr : World} {x : Addr} {len cap : Nat} {cs : List (Int × Int × ByteArray)} (h : Chs w (some x) len cap cs) (hb : Below w.heap.size w wr) {k : Nat} (hk : k < len) :
    wr.cell? (x.add (k * 3)) = some (.int .i64 (chAt cs k).1) ∧ wr.cell? ⟨(x.add (k * 3)).block, (x.add (k * 3)).off + 1, none⟩ = some (.int .i64 (chAt cs k).2.1) ∧ wr.cell? ⟨(x.add (k * 3)).block, (x.add (k * 3)).off + 2, none⟩ = some (.string (chAt cs k).2.2) := by
  rcases h with ⟨h0, _⟩ | ⟨y, hy, h1, h2, h3, h4⟩
  · cases h0
  · obtain rfl : x = y := by simpa using hy
    obtain ⟨p, q, r⟩ := h4 k hk
    exact ⟨(hb.cell (World.block_lt_of_cell? w _ p)).trans p, (hb.cell (World.block_lt_of_cell? w _ q)).trans q, (hb.cell (World.block_lt_of_cell? w _ r)).trans r⟩
theorem Chs.some {w : World} {a : Option Addr} {len cap : Nat} {cs : List (Int × Int × ByteArray)} (h : Chs w a len cap cs) {k : Nat} (hk : k < len) : ∃ x, a = some x := by
  rcases h with ⟨_, h0, _⟩ | ⟨y, hy, _⟩
  · omega
  · exact ⟨y, hy⟩
theorem Chs.len_int {w : World} {a : Option Addr} {len cap : Nat} {cs : List (Int × Int × ByteArray)} (h : Chs w a len cap cs) : len ≤ 9223372036854775807 := by
  have := h.len_le
  unfold maxLen at this
  omega

set_option maxHeartbeats 1000000 in
theorem sPacketValid_any (f t g : Int) (a : Option Addr) (len cap : Nat) (cs : List (Int × Int × ByteArray)) (w : World) (h : Chs w a len cap cs) :
    Calls Try.prog 22 #[.agg #[.int .i64 f, .int .i64 t, .int .i64 g, .slice a len cap]] w fun e w' => e = .returned (.bool (packV f t g cs)) ∧ Below w.heap.size w w' := by
  have hl := h.length
  have hm := h.len_int
  have HG := Lib.hid h
  clear h
  go_enter Try.func22, Try.ntmps22
  go_wp2
  go_loopw [3] (fun i wr => ∃ k : Nat, k ≤ len ∧ i = .int .i64 k ∧ Hid (allChk (cs.take k)) ∧ wr.cell? ⟨w.heap.size, 0, none⟩ = some (.int .i64 f) ∧ wr.cell? ⟨w.heap.size, 1, none⟩ = some (.int .i64 t) ∧ wr.cell? ⟨w.heap.size, 2, none⟩ = some (.int .i64 g) ∧ wr.cell? ⟨w.heap.size, 3, none⟩ = some (.slice a len cap) ∧ Hid (Below w.heap.size w wr)) (fun i _ => len - (intOf i).toNat)
  case atStart => exact ⟨0, Nat.zero_le _, rfl, Lib.hid (fun c hc => by simp at hc), by simp, by simp, by simp, by simp, Lib.hid (below_box _ (Nat.le_refl _))⟩
  case round =>
    obtain ⟨k, hk, rfl, hok, hc0, hc1, hc2, hc3, hbel⟩ := hrel
    by_cases hlt : k < len
    · obtain ⟨x, rfl⟩ := HG.out.some hlt
      obtain ⟨p0, p1, p2⟩ := HG.out.at hbel.out hlt
      have hkl : k < cs.length := by omega
      have N := Lib.hid (allChk_take hkl hok.out)
      have NO := Lib.hid (allChk_not hkl)
      obtain ⟨c1, hc1'⟩ : ∃ c1, (chAt cs k).1 = c1 := ⟨_, rfl⟩
      obtain ⟨c2, hc2'⟩ : ∃ c2, (chAt cs k).2.1 = c2 := ⟨_, rfl⟩
      obtain ⟨c3, hc3'⟩ : ∃ c3, (chAt cs k).2.2 = c3 := ⟨_, rfl⟩
      rw [hc1', hc2', hc3'] at N NO
      rw [hc1'] at p0
      rw [hc2'] at p1
      rw [hc3'] at p2
      have hlt2 : w.heap.size < wr.heap.size := lt_of_cell hc0
      clear hc1' hc2' hc3'
      by_cases hc : Chk c1 c2 c3
      · have CV := Lib.hid (chkV_yes hc)
        have O := Lib.hid (N.out hc)
        clear hc N NO
        go_wp2_with fail
        refine (sChunkValid_any c1 c2 c3 _).mono ?_
        rintro e w1 ⟨rfl, hb1⟩
        rw [CV.out]
        have q0 := kept_cell hb1 hlt2 hc0
        have q1 := kept_cell hb1 hlt2 hc1
        have q2 := kept_cell hb1 hlt2 hc2
        have q3 := kept_cell hb1 hlt2 hc3
        have HB := Lib.hid (hbel.out.trans (hb1.mono hbel.out.size))
        clear hb1
        go_wp2
        go_roundw
        case rel => exact ⟨k + 1, by omega, by go_num, O, q0, q1, q2, q3, HB⟩
        case measure => simp [intOf]; omega
      · have CV := Lib.hid (chkV_no hc)
        have V := Lib.hid (packV_no (f := f) (t := t) (g := g) fun h => NO.out hc h.2.2.2)
        clear hc N NO
        go_wp2_with fail
        refine (sChunkValid_any c1 c2 c3 _).mono ?_
        rintro e w1 ⟨rfl, hb1⟩
        rw [CV.out]
        have HB := Lib.hid (hbel.out.trans (hb1.mono hbel.out.size))
        clear hb1
        go_wp2
        go_ret
        exact ⟨ret_b V.out.symm, HB.out⟩
    · obtain rfl : k = len := by omega
      have hall : allChk cs := by
        have := hok.out
        rw [List.take_of_length_le (by omega)] at this
        exact this
      have HA := Lib.hid hall
      clear hall hok
      have i1 := fun w => l6In_any f 1 65535 w
      have i2 := fun w => l6In_any t 1 65535 w
      have i3 := fun w => l6In_any g 0 4294967295 w
      have i4 := fun w => l6In_any (k : Int) 1 4 w
      have HL := Lib.hid hl
      clear hl
      by_cases h1 : 1 ≤ f ∧ f ≤ 65535
      · rw [decide_eq_true h1] at i1
        by_cases h2 : 1 ≤ t ∧ t ≤ 65535
        · rw [decide_eq_true h2] at i2
          by_cases h3 : f = t
          · have V := Lib.hid (packV_no (f := f) (t := t) (g := g) (cs := cs) fun h => h.1.2.2 h3)
            clear h1 h2
            subst h3
            go_wp2_with fail
            refine (i1 _).mono ?_
            rintro e w1 ⟨rfl, rfl⟩
            go_wp2_with fail
            refine (i2 _).mono ?_
            rintro e w1 ⟨rfl, rfl⟩
            go_wp2
            go_ret
            exact ⟨ret_b V.out.symm, hbel.out⟩
          · by_cases h4 : 0 ≤ g ∧ g ≤ 4294967295
            · rw [decide_eq_true h4] at i3
              have V := Lib.hid (show decide (1 ≤ (k : Int) ∧ (k : Int) ≤ 4) = packV f t g cs by
                have hl := HL.out
                by_cases hz : 1 ≤ k ∧ k ≤ 4
                · rw [packV_yes ⟨⟨h1, h2, h3⟩, h4, by omega, HA.out⟩]
                  exact decide_eq_true (by omega)
                · rw [packV_no fun h => hz (by have := h.2.2.1; omega)]
                  exact decide_eq_false (by omega))
              clear h1 h2 h4
              go_wp2_with fail
              refine (i1 _).mono ?_
              rintro e w1 ⟨rfl, rfl⟩
              go_wp2_with fail
              refine (i2 _).mono ?_
              rintro e w1 ⟨rfl, rfl⟩
              go_wp2_with fail
              refine (i3 _).mono ?_
              rintro e w1 ⟨rfl, rfl⟩
              go_wp2_with fail
              refine (i4 _).mono ?_
              rintro e w1 ⟨rfl, rfl⟩
              rw [V.out]
              have h5 : (f != t && packV f t g cs) = packV f t g cs := by simp [h3]
              go_wp2
              go_ret
              exact ⟨rfl, hbel.out⟩
            · rw [decide_eq_false h4] at i3
              have V := Lib.hid (packV_no (f := f) (t := t) (g := g) (cs := cs) fun h => h4 h.2.1)
              clear h1 h2 h4
              go_wp2_with fail
              refine (i1 _).mono ?_
              rintro e w1 ⟨rfl, rfl⟩
              go_wp2_with fail
              refine (i2 _).mono ?_
              rintro e w1 ⟨rfl, rfl⟩
              go_wp2_with fail
              refine (i3 _).mono ?_
              rintro e w1 ⟨rfl, rfl⟩
              go_wp2
              go_ret
              exact ⟨ret_b V.out.symm, hbel.out⟩
        · rw [decide_eq_false h2] at i2
          have V := Lib.hid (packV_no (f := f) (t := t) (g := g) (cs := cs) fun h => h2 h.1.2.1)
          clear h1 h2
          go_wp2_with fail
          refine (i1 _).mono ?_
          rintro e w1 ⟨rfl, rfl⟩
          go_wp2_with fail
          refine (i2 _).mono ?_
          rintro e w1 ⟨rfl, rfl⟩
          go_wp2
          go_ret
          exact ⟨ret_b V.out.symm, hbel.out⟩
      · rw [decide_eq_false h1] at i1
        have V := Lib.hid (packV_no (f := f) (t := t) (g := g) (cs := cs) fun h => h1 h.1.1)
        clear h1
        go_wp2_with fail
        refine (i1 _).mono ?_
        rintro e w1 ⟨rfl, rfl⟩
        go_wp2
        go_ret
        exact ⟨ret_b V.out.symm, hbel.out⟩

/-- A chunk of this kind must be alone. -/
def aloneK (k : Int) : Bool := k == 1 || k == 2 || k == 14
def someAlone (cs : List (Int × Int × ByteArray)) : Bool := decide (1 < cs.length) && cs.any fun c => aloneK c.1
def aloneV (f t g : Int) (cs : List (Int × Int × ByteArray)) : Bool := packV f t g cs && !someAlone cs
theorem sL13Alone_any (k : Int) (w : World) : Calls Try.prog 46 #[.int .i64 k] w fun e w' => e = .returned (.bool (aloneK k)) ∧ w = w' := by
  by_cases h1 : k = 1
  · subst h1
    go_enter Try.func46, Try.ntmps46
    go_wp2
    go_ret
    exact ⟨rfl, rfl⟩
  by_cases h2 : k = 2
  · subst h2
    go_enter Try.func46, Try.ntmps46
    go_wp2
    go_ret
    exact ⟨rfl, rfl⟩
  · have e1 : (k == 1) = false := by simpa using h1
    have e2 : (k == 2) = false := by simpa using h2
    have V := Lib.hid (show (k == 14) = aloneK k by unfold aloneK; rw [e1, e2]; simp)
    go_enter Try.func46, Try.ntmps46
    go_wp2
    go_ret
    exact ⟨ret_b V.out, rfl⟩
theorem any_next {cs : List (Int × Int × ByteArray)} {k : Nat} (hk : k < cs.length) : (cs.take (k + 1)).any (fun c => aloneK c.1) = ((cs.take k).any (fun c => aloneK c.1) || aloneK (chAt cs k).1) := by
  rw [take_chAt hk, List.any_append]
  simp
theorem any_yes {cs : List (Int × Int × ByteArray)} {k : Nat} (hk : k < cs.length) (h : aloneK (chAt cs k).1 = true) : (cs.any fun c => aloneK c.1) = true := List.any_eq_true.2 ⟨_, chAt_mem hk, h⟩

set_option maxHeartbeats 1000000 in
theorem sPacketAlone_any (f t g : Int) (a : Option Addr) (len cap : Nat) (cs : List (Int × Int × ByteArray)) (w : World) (h : Chs w a len cap cs) :
    Calls Try.prog 25 #[.agg #[.int .i64 f, .int .i64 t, .int .i64 g, .slice a len cap]] w fun e w' => e = .returned (.bool (aloneV f t g cs)) ∧ Below w.heap.size w w' := by
  have hl := h.length
  have hm := h.len_int
  have HG := Lib.hid h
  clear h
  go_enter Try.func25, Try.ntmps25
  go_wp2
  go_loopw [3] (fun i wr => ∃ k : Nat, k ≤ len ∧ i = .int .i64 k ∧ Hid (1 < len → (cs.take k).any (fun c => aloneK c.1) = false) ∧ wr.cell? ⟨w.heap.size, 0, none⟩ = some (.int .i64 f) ∧ wr.cell? ⟨w.heap.size, 1, none⟩ = some (.int .i64 t) ∧ wr.cell? ⟨w.heap.size, 2, none⟩ = some (.int .i64 g) ∧ wr.cell? ⟨w.heap.size, 3, none⟩ = some (.slice a len cap) ∧ Hid (Below w.heap.size w wr)) (fun i _ => len - (intOf i).toNat)
  case atStart => exact ⟨0, Nat.zero_le _, rfl, Lib.hid (fun _ => by simp), by simp, by simp, by simp, by simp, Lib.hid (below_box _ (Nat.le_refl _))⟩
  case round =>
    obtain ⟨k, hk, rfl, hok, hc0, hc1, hc2, hc3, hbel⟩ := hrel
    by_cases hlt : k < len
    · obtain ⟨x, rfl⟩ := HG.out.some hlt
      obtain ⟨p0, _, _⟩ := HG.out.at hbel.out hlt
      have hkl : k < cs.length := by omega
      have N := Lib.hid (any_next hkl)
      have Y := Lib.hid (any_yes hkl)
      obtain ⟨c1, hc1'⟩ : ∃ c1, (chAt cs k).1 = c1 := ⟨_, rfl⟩
      rw [hc1'] at p0 N Y
      clear hc1'
      cases hA : aloneK c1 with
      | false =>
        have O := Lib.hid (show 1 < len → (cs.take (k + 1)).any (fun c => aloneK c.1) = false from fun h => by rw [N.out, hok.out h, hA]; rfl)
        have HA := Lib.hid hA
        clear hA N Y
        go_wp2_with fail
        refine (sL13Alone_any c1 _).mono ?_
        rintro e w1 ⟨rfl, rfl⟩
        rw [HA.out]
        go_wp2
        go_roundw
        case rel => exact ⟨k + 1, by omega, by go_num, O, hc0, hc1, hc2, hc3, hbel⟩
        case measure => simp [intOf]; omega
      | true =>
        by_cases h1 : 1 < len
        · have V := Lib.hid (show false = aloneV f t g cs by
            unfold aloneV someAlone
            rw [Y.out hA, decide_eq_true (by omega)]
            simp)
          have HA := Lib.hid hA
          have h1' : (1 : Int) < len := by omega
          clear hA N Y
          go_wp2_with fail
          refine (sL13Alone_any c1 _).mono ?_
          rintro e w1 ⟨rfl, rfl⟩
          rw [HA.out]
          go_wp2
          go_ret
          exact ⟨ret_b V.out, hbel.out⟩
        · have O := Lib.hid (show 1 < len → (cs.take (k + 1)).any (fun c => aloneK c.1) = false from fun h => absurd h h1)
          have HA := Lib.hid hA
          have h1' : ¬ (1 : Int) < len := by omega
          clear hA N Y
          go_wp2_with fail
          refine (sL13Alone_any c1 _).mono ?_
          rintro e w1 ⟨rfl, rfl⟩
          rw [HA.out]
          go_wp2
          go_roundw
          case rel => exact ⟨k + 1, by omega, by go_num, O, hc0, hc1, hc2, hc3, hbel⟩
          case measure => simp [intOf]; omega
    · obtain rfl : k = len := by omega
      have V := Lib.hid (show packV f t g cs = aloneV f t g cs by
        have h := hok.out
        rw [List.take_of_length_le (by omega)] at h
        have e : someAlone cs = false := by
          unfold someAlone
          by_cases h1 : 1 < k
          · rw [h h1]; simp
          · rw [decide_eq_false (by omega)]; rfl
        unfold aloneV
        rw [e]
        simp)
      clear hok hl
      have HC := Lib.hid (HG.out.below hbel.out)
      go_wp2_with fail
      refine (sPacketValid_any f t g a k cap cs _ HC.out).mono ?_
      rintro e w1 ⟨rfl, hb1⟩
      rw [V.out]
      have HB := Lib.hid (hbel.out.trans (hb1.mono hbel.out.size))
      clear hb1
      go_wp2
      go_ret
      exact ⟨rfl, HB.out⟩

end Go.Proofs.Ytcpdpamoddmpaaa
