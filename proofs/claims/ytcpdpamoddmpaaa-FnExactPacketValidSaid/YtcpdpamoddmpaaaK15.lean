/- The contracts of the drawing functions of chapter 11. -/
import Derived.Test.YtcpdpamoddmpaaaK4c
import Derived.Test.YtcpdpamoddmpaaaK7m
import Derived.Test.YtcpdpamoddmpaaaK14
import Derived.Deep.RegionWith
namespace Go.Proofs.Ytcpdpamoddmpaaa
open Go.RowKit Go.PlainAid

/-- A chunk lies at block c, in a variable. -/
def Var3 (c : Nat) (k f : Int) (b : ByteArray) (w : World) : Prop :=
  (w.cell? ⟨c, 0, none⟩ = some (.int .i64 k) ∧ w.cell? ⟨c, 1, none⟩ = some (.int .i64 f) ∧ w.cell? ⟨c, 2, none⟩ = some (.string b)) ∧
  w.frozen? ⟨c, 0, none⟩ = false ∧ w.frozen? ⟨c, 1, none⟩ = false ∧ w.frozen? ⟨c, 2, none⟩ = false
theorem Var3.aside {c C r : Nat} {k f : Int} {b : ByteArray} {w w' : World} (h : Var3 c k f b w) (ha : Aside C r w w') (hc : c < C) (hr : c ≠ r) : Var3 c k f b w' :=
  ⟨⟨ha.cell hc hr h.1.1, ha.cell hc hr h.1.2.1, ha.cell hc hr h.1.2.2⟩, ha.frozen hc hr h.2.1, ha.frozen hc hr h.2.2.1, ha.frozen hc hr h.2.2.2⟩
theorem Var3.new (w : World) (k f : Int) (b : ByteArray) (T : TypeId) : Var3 w.heap.size k f b (w.alloc (.cells #[.int .i64 k, .int .i64 f, .string b] T)) :=
  ⟨⟨by simp, by simp, by simp⟩, by simp, by simp, by simp⟩
/-- A chunk was drawn; the reader stands. -/
def DrewC (B r m : Nat) (w : World) (e : Ending) (w' : World) : Prop :=
  ∃ (k f : Int) (b : ByteArray), e = .returned (.agg #[.int .i64 k, .int .i64 f, .string b]) ∧ ((-1 ≤ k ∧ k ≤ 256) ∧ (-1 ≤ f ∧ f ≤ 256) ∧ b.size ≤ 62) ∧ Rd B r m w' ∧ Below B w w'

set_option maxHeartbeats 1000000 in
theorem l91Chunk_fr (B r m : Nat) (w : World) (h : Rd B r m w) (hm : m ≤ 100000) :
    Calls Try.prog 50 #[.pointer (some ⟨r, 0, none⟩)] w fun e w' => DrewC B r (m + 40) w e w' ∧ Fr B r w w' := by
  have hrw := h.2.1
  have hBw : B ≤ w.heap.size := Nat.le_of_lt (Nat.lt_of_le_of_lt h.1 hrw)
  go_enter Try.func50, Try.ntmps50
  go_wp2_with fail
  refine (pick_any B r m 16 _ (h.alloc _) (by omega) (by omega) (by omega)).mono ?_
  rintro e w1 ⟨k, rfl, k0, k1, hr1, ho1⟩
  have V1 : Var3 w.heap.size 0 0 (ByteArray.mk #[]) w1 := (Var3.new w 0 0 (ByteArray.mk #[]) _).aside (ho1.aside (C := w.heap.size + 1)) (by omega) (by omega)
  have hb1 : Fr B r w w1 := ((Fr.refl B r w).alloc hBw _).only h.1 ho1
  have hz1 : w1.heap.size = w.heap.size + 1 := by rw [ho1.size]; simp
  have HZ1 := Lib.hid hz1
  clear ho1 hz1
  go_wp2_with fail
  refine (pick_any B r (m + 1) 8 _ hr1 (by omega) (by omega) (by omega)).mono ?_
  rintro e w2 ⟨f, rfl, f0, f1, hr2, ho2⟩
  have V2 : Var3 w.heap.size 0 0 (ByteArray.mk #[]) w2 := V1.aside (ho2.aside (C := w.heap.size + 1)) (by omega) (by omega)
  have hb2 := hb1.only h.1 ho2
  have HZ2 := Lib.hid (ho2.size.trans HZ1.out)
  clear ho2 V1 hb1 hr1
  go_wp2_with fail
  refine (l91Bytes_as B r (m + 2) 12 _ hr2 (by omega) (by omega)).mono ?_
  rintro e w3 ⟨⟨b, rfl, hbz, hr3, hb3⟩, ha3⟩
  have hb3' := hb2.step hb3 ha3
  have V3 : Var3 w.heap.size 0 0 (ByteArray.mk #[]) w3 := V2.aside (ha3.less (D := w.heap.size + 1) (by rw [HZ2.out]; exact Nat.le_refl _)) (by omega) (by omega)
  have hz3 : w.heap.size + 1 ≤ w3.heap.size := by have := hb3.size; have := HZ2.out; omega
  clear V2 hb2 hb3 ha3 hr2 HZ1 HZ2
  go_wp2_with fail
  have hzr : r < w3.heap.size := by omega
  refine (pick_any B r (m + 27) 20 _ ((hr3.mono (by omega)).alloc _) (by omega) (by omega) (by omega)).mono ?_
  rintro e w4 ⟨j, rfl, j0, j1, hr4, ho4⟩
  have V4 : Var3 w.heap.size 0 0 (ByteArray.mk #[]) w4 := (V3.aside (aside_alloc (r := r) w3 (.cells #[.int .i64 k, .int .i64 f, .string b] 32) hz3) (by omega) (by omega)).aside (ho4.aside (C := w.heap.size + 1)) (by omega) (by omega)
  have U4 : Var3 w3.heap.size k f b w4 := (Var3.new w3 k f b _).aside (ho4.aside (C := w3.heap.size + 1)) (by omega) (by omega)
  have hb4 : Fr B r w w4 := (hb3'.alloc hBw _).only h.1 ho4
  have hz4 : w4.heap.size = w3.heap.size + 1 := by rw [ho4.size]; simp
  have HZ4 := Lib.hid hz4
  clear ho4 V3 hb3' hr3 hz4
  have hww3 : w.heap.size ≤ w3.heap.size := by omega
  have hne : ¬ w.heap.size = w3.heap.size := by omega
  have hne' : ¬ w3.heap.size = w.heap.size := by omega
  by_cases c0 : j = 0
  · subst c0
    go_wp2_with fail
    refine (pick_any B r (m + 28) 3 _ (hr4.alloc _) (by omega) (by omega) (by omega)).mono ?_
    rintro e w5 ⟨i, rfl, i0, i1, hr5, ho5⟩
    obtain ⟨z, z0, z1, hz⟩ : ∃ z : Int, -1 ≤ z ∧ z ≤ 256 ∧ w5.cell? ⟨w4.heap.size, i.toNat, none⟩ = some (.int .i64 z) := by
      rcases (show i = 0 ∨ i = 1 ∨ i = 2 by omega) with rfl | rfl | rfl
      all_goals
        refine ⟨_, ?_, ?_, tab_at ho5 hr4.2.1 _ _ rfl⟩
        all_goals decide
    obtain ⟨⟨r0, r1, r2⟩, g0, g1, g2⟩ := (V4.aside (aside_alloc (C := w.heap.size + 1) (r := r) w4 (.cells #[.int .i64 (-1), .int .i64 255, .int .i64 256] 3) (by rw [HZ4.out]; omega)) (by omega) (by omega)).aside (ho5.aside (C := w.heap.size + 1)) (by omega) (by omega)
    obtain ⟨⟨c0, c1, c2⟩, d0, d1, d2⟩ := (U4.aside (aside_alloc (C := w3.heap.size + 1) (r := r) w4 (.cells #[.int .i64 (-1), .int .i64 255, .int .i64 256] 3) (by rw [HZ4.out]; omega)) (by omega) (by omega)).aside (ho5.aside (C := w3.heap.size + 1)) (by omega) (by omega)
    have hb5 : Fr B r w w5 := (hb4.alloc hBw _).only h.1 ho5
    clear ho5 hr4 V4 U4 hb4 HZ4
    go_wp2
    refine bodyPost_ret (v := .agg #[.int .i64 (z), .int .i64 (f), .string b]) ?_ rfl ?_
    · simp [results, Try.results50, go_sem, r0, r1, r2]
    · exact ⟨⟨_, _, _, rfl, ⟨⟨z0, z1⟩, ⟨by omega, by omega⟩, by omega⟩, (hr5.mono (by omega)).keep (((((Below.refl w.heap.size _).setCell hww3 _).setCell (Nat.le_refl _) _).setCell (Nat.le_refl _) _).setCell (Nat.le_refl _) _) hrw, ((((hb5.set hww3 hBw _).set (Nat.le_refl _) hBw _).set (Nat.le_refl _) hBw _).set (Nat.le_refl _) hBw _).below⟩, ((((hb5.set hww3 hBw _).set (Nat.le_refl _) hBw _).set (Nat.le_refl _) hBw _).set (Nat.le_refl _) hBw _)⟩
  · by_cases c1 : j = 1
    · subst c1
      go_wp2_with fail
      refine (pick_any B r (m + 28) 3 _ (hr4.alloc _) (by omega) (by omega) (by omega)).mono ?_
      rintro e w5 ⟨i, rfl, i0, i1, hr5, ho5⟩
      obtain ⟨z, z0, z1, hz⟩ : ∃ z : Int, -1 ≤ z ∧ z ≤ 256 ∧ w5.cell? ⟨w4.heap.size, i.toNat, none⟩ = some (.int .i64 z) := by
        rcases (show i = 0 ∨ i = 1 ∨ i = 2 by omega) with rfl | rfl | rfl
        all_goals
          refine ⟨_, ?_, ?_, tab_at ho5 hr4.2.1 _ _ rfl⟩
          all_goals decide
      obtain ⟨⟨r0, r1, r2⟩, g0, g1, g2⟩ := (V4.aside (aside_alloc (C := w.heap.size + 1) (r := r) w4 (.cells #[.int .i64 (-1), .int .i64 255, .int .i64 256] 3) (by rw [HZ4.out]; omega)) (by omega) (by omega)).aside (ho5.aside (C := w.heap.size + 1)) (by omega) (by omega)
      obtain ⟨⟨c0, c1, c2⟩, d0, d1, d2⟩ := (U4.aside (aside_alloc (C := w3.heap.size + 1) (r := r) w4 (.cells #[.int .i64 (-1), .int .i64 255, .int .i64 256] 3) (by rw [HZ4.out]; omega)) (by omega) (by omega)).aside (ho5.aside (C := w3.heap.size + 1)) (by omega) (by omega)
      have hb5 : Fr B r w w5 := (hb4.alloc hBw _).only h.1 ho5
      clear ho5 hr4 V4 U4 hb4 HZ4
      go_wp2
      refine bodyPost_ret (v := .agg #[.int .i64 (k), .int .i64 (z), .string b]) ?_ rfl ?_
      · simp [results, Try.results50, go_sem, r0, r1, r2]
      · exact ⟨⟨_, _, _, rfl, ⟨⟨by omega, by omega⟩, ⟨z0, z1⟩, by omega⟩, (hr5.mono (by omega)).keep (((((Below.refl w.heap.size _).setCell hww3 _).setCell (Nat.le_refl _) _).setCell (Nat.le_refl _) _).setCell (Nat.le_refl _) _) hrw, ((((hb5.set hww3 hBw _).set (Nat.le_refl _) hBw _).set (Nat.le_refl _) hBw _).set (Nat.le_refl _) hBw _).below⟩, ((((hb5.set hww3 hBw _).set (Nat.le_refl _) hBw _).set (Nat.le_refl _) hBw _).set (Nat.le_refl _) hBw _)⟩
    · by_cases c2 : j = 2
      · subst c2
        go_wp2_with fail
        refine (pick_any B r (m + 28) 5 _ hr4 (by omega) (by omega) (by omega)).mono ?_
        rintro e w5 ⟨i, rfl, i0, i1, hr5, ho5⟩
        obtain ⟨⟨r0, r1, r2⟩, g0, g1, g2⟩ := V4.aside (ho5.aside (C := w.heap.size + 1)) (by omega) (by omega)
        obtain ⟨⟨c0, c1, c2⟩, d0, d1, d2⟩ := U4.aside (ho5.aside (C := w3.heap.size + 1)) (by omega) (by omega)
        have hb5 := hb4.only h.1 ho5
        clear ho5 hr4 V4 U4 hb4 HZ4
        obtain ⟨I, rfl⟩ := Int.eq_ofNat_of_zero_le i0
        go_wp2_with fail
        rw [show (58 : Int) + (I : Int) = ((58 + I : Nat) : Int) by omega]
        refine (l6Many_any (ByteArray.mk #[98]) (58 + I) _ (by decide) (by omega)).mono ?_
        rintro e w6 ⟨t, rfl, ht, rfl⟩
        have ht1 : t.size ≤ 62 := by
          rw [ht, show (ByteArray.mk #[98]).size = 1 from rfl]
          omega
        clear ht
        go_wp2
        refine bodyPost_ret (v := .agg #[.int .i64 (k), .int .i64 (f), .string t]) ?_ rfl ?_
        · simp [results, Try.results50, go_sem, r0, r1, r2]
        · exact ⟨⟨_, _, _, rfl, ⟨⟨by omega, by omega⟩, ⟨by omega, by omega⟩, ht1⟩, (hr5.mono (by omega)).keep (((((Below.refl w.heap.size _).setCell hww3 _).setCell (Nat.le_refl _) _).setCell (Nat.le_refl _) _).setCell (Nat.le_refl _) _) hrw, ((((hb5.set hww3 hBw _).set (Nat.le_refl _) hBw _).set (Nat.le_refl _) hBw _).set (Nat.le_refl _) hBw _).below⟩, ((((hb5.set hww3 hBw _).set (Nat.le_refl _) hBw _).set (Nat.le_refl _) hBw _).set (Nat.le_refl _) hBw _)⟩
      · obtain ⟨⟨r0, r1, r2⟩, g0, g1, g2⟩ := V4
        obtain ⟨⟨c0, c1, c2⟩, d0, d1, d2⟩ := U4
        clear HZ4
        go_wp2
        refine bodyPost_ret (v := .agg #[.int .i64 (k), .int .i64 (f), .string b]) ?_ rfl ?_
        · simp [results, Try.results50, go_sem, r0, r1, r2]
        · exact ⟨⟨_, _, _, rfl, ⟨⟨by omega, by omega⟩, ⟨by omega, by omega⟩, by omega⟩, (hr4.mono (by omega)).keep ((((Below.refl w.heap.size _).setCell (Nat.le_refl _) _).setCell (Nat.le_refl _) _).setCell (Nat.le_refl _) _) hrw, (((hb4.set (Nat.le_refl _) hBw _).set (Nat.le_refl _) hBw _).set (Nat.le_refl _) hBw _).below⟩, (((hb4.set (Nat.le_refl _) hBw _).set (Nat.le_refl _) hBw _).set (Nat.le_refl _) hBw _)⟩

theorem l91Chunk_any (B r m : Nat) (w : World) (h : Rd B r m w) (hm : m ≤ 100000) :
    Calls Try.prog 50 #[.pointer (some ⟨r, 0, none⟩)] w (DrewC B r (m + 40) w) :=
  (l91Chunk_fr B r m w h hm).mono fun _ _ g => g.1

/-- A new row of one byte becomes a text. -/
theorem conv_single (w : World) (b : Nat) (x : Int) (c : Nat) (h : w.cell? ⟨b, 0, none⟩ = some (.int .u8 x)) :
    (convert 22 9 (.slice (some ⟨b, 0, none⟩) 1 c)).run Try.prog w = .ok (.string (strOfNums [x])) w :=
  run_convert_bytes_arg _ 22 5 Try.underlying22 Try.underlying5 b 0 1 c [x] rfl (fun i hi => by
    obtain rfl : i = 0 := by omega
    exact h) 9 Try.underlying9

end Go.Proofs.Ytcpdpamoddmpaaa
