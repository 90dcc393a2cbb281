/- The contracts of the laws' helpers on packets: equality. -/
import Derived.Test.YtcpdpamoddmpaaaK43
namespace Go.Proofs.Ytcpdpamoddmpaaa
open Go.RowKit Go.PlainAid

set_option maxHeartbeats 1000000 in
theorem eqCh_same (k f : Int) (b : ByteArray) (w : World) :
    Calls Try.prog 67 #[.agg #[.int .i64 k, .int .i64 f, .string b], .agg #[.int .i64 k, .int .i64 f, .string b]] w fun e w' => e = .returned (.bool true) ∧ Below w.heap.size w w' := by
  go_enter Try.func67, Try.ntmps67
  go_wp2
  go_ret
  exact ⟨rfl, (below_box _ (Nat.le_refl _)).alloc (by simp) _⟩

theorem kept6 {p1 p2 p3 p4 p5 p6 : Addr} {v1 v2 v3 v4 v5 v6 : Value} {w W W' : World} (h : W.cell? p1 = some v1 ∧ W.cell? p2 = some v2 ∧ W.cell? p3 = some v3 ∧ W.cell? p4 = some v4 ∧ W.cell? p5 = some v5 ∧ W.cell? p6 = some v6 ∧ Below w.heap.size w W) (hb : Below W.heap.size W W') :
    W'.cell? p1 = some v1 ∧ W'.cell? p2 = some v2 ∧ W'.cell? p3 = some v3 ∧ W'.cell? p4 = some v4 ∧ W'.cell? p5 = some v5 ∧ W'.cell? p6 = some v6 ∧ Below w.heap.size w W' := by
  obtain ⟨h1, h2, h3, h4, h5, h6, h7⟩ := h
  have go : ∀ (p : Addr) (v : Value), W.cell? p = some v → W'.cell? p = some v := fun p v e => (hb.cell (World.block_lt_of_cell? W _ e)).trans e
  exact ⟨go _ _ h1, go _ _ h2, go _ _ h3, go _ _ h4, go _ _ h5, go _ _ h6, h7.trans (hb.mono h7.size)⟩

set_option maxHeartbeats 1000000 in
theorem eqChunkS_same (a b : Option Addr) (len cap cap2 : Nat) (cs : List (Int × Int × ByteArray)) (w : World) (h : Chs w a len cap cs) (k : Chs w b len cap2 cs) :
    Calls Try.prog 49 #[.slice a len cap, .slice b len cap2] w fun e w' => e = .returned (.bool true) ∧ Below w.heap.size w w' := by
  have hl := h.length
  have hm := h.len_int
  have HG := Lib.hid h
  have HK := Lib.hid k
  clear h k
  go_enter Try.func49, Try.ntmps49
  go_wp2
  go_loopw [5] (fun i wr => ∃ k : Nat, k ≤ len ∧ i = .int .i64 k ∧ Hid (Below w.heap.size w wr)) (fun i _ => len - (intOf i).toNat)
  case atStart => exact ⟨0, Nat.zero_le _, rfl, Lib.hid (Below.refl _ _)⟩
  case round =>
    obtain ⟨k, hk, rfl, hbel⟩ := hrel
    by_cases hlt : k < len
    · obtain ⟨x, rfl⟩ := HG.out.some hlt
      obtain ⟨y, rfl⟩ := HK.out.some hlt
      obtain ⟨p0, p1, p2⟩ := HG.out.at hbel.out hlt
      obtain ⟨m0, m1, m2⟩ := HK.out.at hbel.out hlt
      obtain ⟨c1, hc1⟩ : ∃ c1, (chAt cs k).1 = c1 := ⟨_, rfl⟩
      obtain ⟨c2, hc2⟩ : ∃ c2, (chAt cs k).2.1 = c2 := ⟨_, rfl⟩
      obtain ⟨c3, hc3⟩ : ∃ c3, (chAt cs k).2.2 = c3 := ⟨_, rfl⟩
      rw [hc1] at p0 m0
      rw [hc2] at p1 m1
      rw [hc3] at p2 m2
      clear hc1 hc2 hc3
      have hS := Lib.hid (kept6 (w := w) ⟨p0, p1, p2, m0, m1, m2, hbel.out⟩ (Below.drew (Below.refl _ _)))
      clear p0 p1 p2 m0 m1 m2
      go_wp2_with fail
      go_region_held_law (fun W => W.cell? (x.add (k * 3)) = some (.int .i64 c1) ∧ W.cell? ⟨(x.add (k * 3)).block, (x.add (k * 3)).off + 1, none⟩ = some (.int .i64 c2) ∧ W.cell? ⟨(x.add (k * 3)).block, (x.add (k * 3)).off + 2, none⟩ = some (.string c3) ∧ W.cell? (y.add (k * 3)) = some (.int .i64 c1) ∧ W.cell? ⟨(y.add (k * 3)).block, (y.add (k * 3)).off + 1, none⟩ = some (.int .i64 c2) ∧ W.cell? ⟨(y.add (k * 3)).block, (y.add (k * 3)).off + 2, none⟩ = some (.string c3) ∧ Below w.heap.size w W)
        (first | with_reducible assumption | with_reducible exact hS.out | exact kept6 (by assumption) (by assumption))
        (first | (go_simp; go_at_call 67; refine (eqCh_same c1 c2 c3 _).mono ?_; rintro e w' ⟨rfl, hbn⟩))
      all_goals
        go_wp2
        go_roundw
        case rel => exact ⟨k + 1, by omega, by go_num, by go_split_ands; exact Lib.hid (by assumption)⟩
        case measure => simp [intOf]; omega
    · obtain rfl : k = len := by omega
      go_wp2
      go_ret
      exact ⟨rfl, hbel.out⟩

set_option maxHeartbeats 1000000 in
theorem eqPacket_same (f t g : Int) (a b : Option Addr) (len cap cap2 : Nat) (cs : List (Int × Int × ByteArray)) (w : World) (h : Chs w a len cap cs) (k : Chs w b len cap2 cs) :
    Calls Try.prog 28 #[.agg #[.int .i64 f, .int .i64 t, .int .i64 g, .slice a len cap], .agg #[.int .i64 f, .int .i64 t, .int .i64 g, .slice b len cap2]] w fun e w' => e = .returned (.bool true) ∧ Below w.heap.size w w' := by
  have G1 := Lib.hid ((h.below (below_box (.cells #[.int .i64 f, .int .i64 t, .int .i64 g, .slice a len cap] 25) (Nat.le_refl _))).below (below_box (.cells #[.int .i64 f, .int .i64 t, .int .i64 g, .slice b len cap2] 25) (Nat.le_refl _)))
  have K1 := Lib.hid ((k.below (below_box (.cells #[.int .i64 f, .int .i64 t, .int .i64 g, .slice a len cap] 25) (Nat.le_refl _))).below (below_box (.cells #[.int .i64 f, .int .i64 t, .int .i64 g, .slice b len cap2] 25) (Nat.le_refl _)))
  clear h k
  go_enter Try.func28, Try.ntmps28
  go_wp2_with fail
  refine (eqChunkS_same a b len cap cap2 cs _ G1.out K1.out).mono ?_
  rintro e w1 ⟨rfl, hb1⟩
  go_wp2
  go_ret
  exact ⟨rfl, ((below_box _ (Nat.le_refl _)).alloc (by simp) _).trans (hb1.mono (by simp; omega))⟩

end Go.Proofs.Ytcpdpamoddmpaaa
