/- The contracts of the drawing functions of the laws on parts: a part, and a chunk that is often that of a part. -/
import Derived.Test.YtpenkcmhmmjmeaaK16
import Derived.Test.YtpenkcmhmmjmeaaK19
import Derived.Test.YtpenkcmhmmjmeaaK21
namespace Go.Proofs.Ytpenkcmhmmjmeaa
open Go.RowKit Go.PlainAid

set_option maxHeartbeats 2000000 in
theorem l91Any_fr (B r m : Nat) (k f : Int) (b : ByteArray) (w : World) (h : Rd B r m w) (hm : m ≤ 90000) (hk : -1 ≤ k ∧ k ≤ 256) (hf : -1 ≤ f ∧ f ≤ 256) (hb : b.size ≤ 61) :
    Calls Try.prog 36 #[.pointer (some ⟨r, 0, none⟩), .agg #[.int .i64 k, .int .i64 f, .string b]] w fun e w' => DrewC B r (m + 50) w e w' ∧ Fr B r w w' := by
  have hrw := h.2.1
  have hB0 : B ≤ w.heap.size := Nat.le_of_lt (Nat.lt_of_le_of_lt h.1 hrw)
  go_enter Try.func36, Try.ntmps36
  have V0 := (VarN.new w [.int .i64 k, .int .i64 f, .string b] 27).alloc (.cells (List.toArray [.int .i64 0, .int .i64 0, .string (ByteArray.mk #[])]) 27) (by simp)
  have R0 := VarN.new (w.alloc (.cells (List.toArray [.int .i64 k, .int .i64 f, .string b]) 27)) [.int .i64 0, .int .i64 0, .string (ByteArray.mk #[])] 27
  rw [show (w.alloc (.cells (List.toArray [.int .i64 k, .int .i64 f, .string b]) 27)).heap.size = w.heap.size + 1 by simp] at R0
  have hF0 := ((Fr.refl B r w).alloc hB0 (.cells (List.toArray [.int .i64 k, .int .i64 f, .string b]) 27)).alloc hB0 (.cells (List.toArray [.int .i64 0, .int .i64 0, .string (ByteArray.mk #[])]) 27)
  go_wp2_with fail
  refine (pick_any B r m 10 _ ((h.alloc _).alloc _) (by omega) (by omega) (by omega)).mono ?_
  rintro e w1 ⟨j, rfl, j0, j1, hr1, ho1⟩
  have V1 := V0.only ho1 (by omega)
  have R1 := R0.only ho1 (by omega)
  have hF1 := hF0.only h.1 ho1
  clear V0 R0 hF0 ho1
  have hne : ¬ w.heap.size + 1 = w.heap.size := by omega
  have hne' : ¬ w.heap.size = w.heap.size + 1 := by omega
  have hz1 : w.heap.size + 1 < w1.heap.size := lt_of_cell (R1 0 _ rfl).1
  have hw1 : w.heap.size ≤ w.heap.size + 1 := by omega
  by_cases s0 : j = 0
  · subst s0
    go_wp2_with fail
    refine (l91Chunk_fr B r (m + 1) _ hr1 (by omega)).mono ?_
    rintro e w2 ⟨⟨k', f', b', rfl, ⟨hk', hf', hb'⟩, hr2, _⟩, hf2⟩
    have R2 := R1.aside hf2.aside hz1 (by omega)
    have hF2 := hF1.trans hf2
    clear V1 R1 hf2 hF1 hr1 hz1
    have r0 := (R2 0 _ rfl).1
    have r1 := (R2 1 _ rfl).1
    have r2 := (R2 2 _ rfl).1
    have g0 := (R2 0 _ rfl).2
    have g1 := (R2 1 _ rfl).2
    have g2 := (R2 2 _ rfl).2
    go_wp2
    refine bodyPost_ret (v := .agg #[.int .i64 (k'), .int .i64 (f'), .string (b')]) ?_ rfl ?_
    · simp [results, Try.results36, go_sem, r0, r1, r2]
    · refine ⟨⟨_, _, _, rfl, ⟨hk', hf', hb'⟩, ?_, ?_⟩, ?_⟩
      · repeat (first | with_reducible exact hr2.mono (by omega) | refine Rd.far ?_ (by omega) _ _)
      · refine Fr.below (r := r) ?_
        repeat (first | with_reducible exact hF2 | refine Fr.set ?_ (by first | exact Nat.le_refl _ | exact hw1) hB0 _)
      · repeat (first | with_reducible exact hF2 | refine Fr.set ?_ (by first | exact Nat.le_refl _ | exact hw1) hB0 _)
  · by_cases s1 : j = 1
    · subst s1
      go_wp2_with fail
      refine (pick_any B r (m + 1) 10 _ hr1 (by omega) (by omega) (by omega)).mono ?_
      rintro e w2 ⟨i, rfl, i0, i1, hr2, ho2⟩
      have V2 := V1.only ho2 (by omega)
      have R2 := R1.only ho2 (by omega)
      have hF2 := hF1.only h.1 ho2
      clear V1 R1 ho2 hF1 hr1 hz1
      have c0 := (V2 0 _ rfl).1
      have c1 := (V2 1 _ rfl).1
      have c2 := (V2 2 _ rfl).1
      have d1 := (V2 1 _ rfl).2
      have r0 := (R2 0 _ rfl).1
      have r1 := (R2 1 _ rfl).1
      have r2 := (R2 2 _ rfl).1
      have g0 := (R2 0 _ rfl).2
      have g1 := (R2 1 _ rfl).2
      have g2 := (R2 2 _ rfl).2
      go_wp2
      refine bodyPost_ret (v := .agg #[.int .i64 (k), .int .i64 (i), .string (b)]) ?_ rfl ?_
      · simp [results, Try.results36, go_sem, r0, r1, r2]
      · refine ⟨⟨_, _, _, rfl, ⟨hk, ⟨by omega, by omega⟩, by omega⟩, ?_, ?_⟩, ?_⟩
        · repeat (first | with_reducible exact hr2.mono (by omega) | refine Rd.far ?_ (by omega) _ _)
        · refine Fr.below (r := r) ?_
          repeat (first | with_reducible exact hF2 | refine Fr.set ?_ (by first | exact Nat.le_refl _ | exact hw1) hB0 _)
        · repeat (first | with_reducible exact hF2 | refine Fr.set ?_ (by first | exact Nat.le_refl _ | exact hw1) hB0 _)
    · by_cases s2 : j = 2
      · subst s2
        go_wp2_with fail
        refine (pick_any B r (m + 1) 5 _ hr1 (by omega) (by omega) (by omega)).mono ?_
        rintro e w2 ⟨i, rfl, i0, i1, hr2, ho2⟩
        have V2 := V1.only ho2 (by omega)
        have R2 := R1.only ho2 (by omega)
        have hF2 := hF1.only h.1 ho2
        clear V1 R1 ho2 hF1 hr1 hz1
        have c0 := (V2 0 _ rfl).1
        have c1 := (V2 1 _ rfl).1
        have c2 := (V2 2 _ rfl).1
        have d0 := (V2 0 _ rfl).2
        have r0 := (R2 0 _ rfl).1
        have r1 := (R2 1 _ rfl).1
        have r2 := (R2 2 _ rfl).1
        have g0 := (R2 0 _ rfl).2
        have g1 := (R2 1 _ rfl).2
        have g2 := (R2 2 _ rfl).2
        go_wp2
        refine bodyPost_ret (v := .agg #[.int .i64 (i), .int .i64 (f), .string (b)]) ?_ rfl ?_
        · simp [results, Try.results36, go_sem, r0, r1, r2]
        · refine ⟨⟨_, _, _, rfl, ⟨⟨by omega, by omega⟩, hf, by omega⟩, ?_, ?_⟩, ?_⟩
          · repeat (first | with_reducible exact hr2.mono (by omega) | refine Rd.far ?_ (by omega) _ _)
          · refine Fr.below (r := r) ?_
            repeat (first | with_reducible exact hF2 | refine Fr.set ?_ (by first | exact Nat.le_refl _ | exact hw1) hB0 _)
          · repeat (first | with_reducible exact hF2 | refine Fr.set ?_ (by first | exact Nat.le_refl _ | exact hw1) hB0 _)
      · by_cases s3 : j = 3
        · subst s3
          have x2 := (V1 2 _ rfl).1
          go_wp2_with fail
          refine (l91Spoil_fr B r (m + 1) b _ hr1 (by omega) (by omega)).mono ?_
          rintro e w2 ⟨⟨t, rfl, ht, hr2, _⟩, hf2⟩
          have V2 := V1.aside hf2.aside (by omega) (by omega)
          have R2 := R1.aside hf2.aside hz1 (by omega)
          have hF2 := hF1.trans hf2
          clear V1 R1 hf2 hF1 hr1 hz1 x2
          have c0 := (V2 0 _ rfl).1
          have c1 := (V2 1 _ rfl).1
          have c2 := (V2 2 _ rfl).1
          have d2 := (V2 2 _ rfl).2
          have r0 := (R2 0 _ rfl).1
          have r1 := (R2 1 _ rfl).1
          have r2 := (R2 2 _ rfl).1
          have g0 := (R2 0 _ rfl).2
          have g1 := (R2 1 _ rfl).2
          have g2 := (R2 2 _ rfl).2
          go_wp2
          refine bodyPost_ret (v := .agg #[.int .i64 (k), .int .i64 (f), .string (t)]) ?_ rfl ?_
          · simp [results, Try.results36, go_sem, r0, r1, r2]
          · refine ⟨⟨_, _, _, rfl, ⟨hk, hf, by omega⟩, ?_, ?_⟩, ?_⟩
            · repeat (first | with_reducible exact hr2.mono (by omega) | refine Rd.far ?_ (by omega) _ _)
            · refine Fr.below (r := r) ?_
              repeat (first | with_reducible exact hF2 | refine Fr.set ?_ (by first | exact Nat.le_refl _ | exact hw1) hB0 _)
            · repeat (first | with_reducible exact hF2 | refine Fr.set ?_ (by first | exact Nat.le_refl _ | exact hw1) hB0 _)
        · clear hz1
          have c0 := (V1 0 _ rfl).1
          have c1 := (V1 1 _ rfl).1
          have c2 := (V1 2 _ rfl).1
          have r0 := (R1 0 _ rfl).1
          have r1 := (R1 1 _ rfl).1
          have r2 := (R1 2 _ rfl).1
          have g0 := (R1 0 _ rfl).2
          have g1 := (R1 1 _ rfl).2
          have g2 := (R1 2 _ rfl).2
          go_wp2
          refine bodyPost_ret (v := .agg #[.int .i64 (k), .int .i64 (f), .string (b)]) ?_ rfl ?_
          · simp [results, Try.results36, go_sem, r0, r1, r2]
          · refine ⟨⟨_, _, _, rfl, ⟨hk, hf, by omega⟩, ?_, ?_⟩, ?_⟩
            · repeat (first | with_reducible exact hr1.mono (by omega) | refine Rd.far ?_ (by omega) _ _)
            · refine Fr.below (r := r) ?_
              repeat (first | with_reducible exact hF1 | refine Fr.set ?_ (by first | exact Nat.le_refl _ | exact hw1) hB0 _)
            · repeat (first | with_reducible exact hF1 | refine Fr.set ?_ (by first | exact Nat.le_refl _ | exact hw1) hB0 _)

/-- A part was drawn out of the given bytes. -/
def DrewDa (w : World) (e : Ending) (w' : World) : Prop :=
  ∃ (a b c : Int) (fi la lo : Bool) (t : ByteArray), e = .returned (.agg #[.int .i64 a, .int .i64 b, .int .i64 c, .bool fi, .bool la, .bool lo, .string t]) ∧ (Near' a ∧ Near' b ∧ Near' c ∧ t.size ≤ 30) ∧ Below w.heap.size w w'

set_option maxHeartbeats 2000000 in
theorem drawDataPut_any (a0 : Option Addr) (len cap : Nat) (zs : List Int) (w : World) (h : IsRow .u8 w a0 len cap zs) :
    Calls Try.prog 10 #[.slice a0 len cap] w (DrewDa w) := by
  have H := Lib.hid h
  clear h
  go_enter Try.func10, Try.ntmps10
  go_wp2_with fail
  refine (l6Open_any a0 len cap zs _ (H.out.keep (below_box _ (Nat.le_refl _)))).mono ?_
  rintro e w1 ⟨r, rfl, hr1, hb1⟩
  go_wp2_with fail
  refine (l91Part_fr _ r 0 _ hr1 (by omega)).mono ?_
  rintro e w2 ⟨⟨a, b, c, fi, la, lo, t, rfl, hp, _, hb2⟩, _⟩
  have hbW := hb1.trans hb2
  have R := (VarN.new w [.int .i64 0, .int .i64 0, .int .i64 0, .bool false, .bool false, .bool false, .string (ByteArray.mk #[])] 24).below hbW (by simp)
  have hb : Below w.heap.size w w2 := (below_box _ (Nat.le_refl _)).trans (hbW.mono (by simp))
  clear hb1 hb2 hbW
  have r0 := (R 0 _ rfl).1
  have r1 := (R 1 _ rfl).1
  have r2 := (R 2 _ rfl).1
  have r3 := (R 3 _ rfl).1
  have r4 := (R 4 _ rfl).1
  have r5 := (R 5 _ rfl).1
  have r6 := (R 6 _ rfl).1
  have g0 := (R 0 _ rfl).2
  have g1 := (R 1 _ rfl).2
  have g2 := (R 2 _ rfl).2
  have g3 := (R 3 _ rfl).2
  have g4 := (R 4 _ rfl).2
  have g5 := (R 5 _ rfl).2
  have g6 := (R 6 _ rfl).2
  clear R
  go_wp2
  refine bodyPost_ret (v := .agg #[.int .i64 a, .int .i64 b, .int .i64 c, .bool fi, .bool la, .bool lo, .string t]) ?_ rfl ?_
  · simp [results, Try.results10, go_sem, r0, r1, r2, r3, r4, r5, r6]
  · exact ⟨a, b, c, fi, la, lo, t, rfl, hp, by
      repeat (first | with_reducible exact hb | refine Below.setCell ?_ (by exact Nat.le_refl _) _)⟩

/-- The chunk of a part, or none: its fields. -/
def MadeC (w : World) (e : Ending) (w' : World) : Prop :=
  ∃ (k f : Int) (b : ByteArray) (ok : Bool), e = .returned (.tuple #[.agg #[.int .i64 k, .int .i64 f, .string b], .bool ok]) ∧ ((0 ≤ k ∧ k ≤ 3) ∧ (0 ≤ f ∧ f ≤ 7) ∧ b.size ≤ 40) ∧ Below w.heap.size w w'

theorem sDataPut_made (a b c : Int) (fi la lo : Bool) (t : ByteArray) (w : World) :
    Calls Try.prog 12 #[.agg #[.int .i64 a, .int .i64 b, .int .i64 c, .bool fi, .bool la, .bool lo, .string t]] w (MadeC w) := by
  by_cases h : DataOk a b c t
  · refine (sDataPut_yes a b c fi la lo t w h).mono ?_
    rintro e w' ⟨rfl, hb⟩
    have h4 := h.2.2.2.2
    exact ⟨_, _, _, _, rfl, ⟨⟨by omega, by omega⟩, flagsV_range fi la lo, by rw [dataS_size]; omega⟩, hb⟩
  · refine (sDataPut_no a b c fi la lo t w h).mono ?_
    rintro e w' ⟨rfl, hb⟩
    exact ⟨_, _, _, _, rfl, ⟨⟨by omega, by omega⟩, ⟨by omega, by omega⟩, by decide⟩, hb⟩

set_option maxHeartbeats 2000000 in
theorem drawDataGet_any (a0 : Option Addr) (len cap : Nat) (zs : List Int) (w : World) (h : IsRow .u8 w a0 len cap zs) :
    Calls Try.prog 16 #[.slice a0 len cap] w (DrewCh w) := by
  have H := Lib.hid h
  clear h
  go_enter Try.func16, Try.ntmps16
  go_wp2_with fail
  refine (l6Open_any a0 len cap zs _ (H.out.keep (below_box _ (Nat.le_refl _)))).mono ?_
  rintro e w1 ⟨r, rfl, hr1, hb1⟩
  go_wp2_with fail
  refine (l91Part_fr _ r 0 _ hr1 (by omega)).mono ?_
  rintro e w2 ⟨⟨a, b, c, fi, la, lo, t, rfl, hp, hr2, hb2⟩, _⟩
  have hb2' := hb1.trans hb2
  clear hr1 hb1 hb2
  go_wp2_with fail
  refine (sDataPut_made a b c fi la lo t _).mono ?_
  rintro e w3 ⟨k, f, s, ok, rfl, ⟨hk, hf, hs⟩, hb3⟩
  have hr3 := hr2.keep hb3 hr2.2.1
  have hb3' := hb2'.trans (hb3.mono hb2'.size)
  clear hr2 hb2' hb3
  have R := (VarN.new w [.int .i64 0, .int .i64 0, .string (ByteArray.mk #[])] 27).below hb3' (by simp)
  have HR := Lib.hid R
  clear R
  have hw3 : w.heap.size < w3.heap.size := lt_of_cell (HR.out 0 _ rfl).1
  go_wp2_with fail
  refine (l91Any_fr _ r (0 + 40) k f s _ (hr3.alloc _) (by omega) ⟨by omega, by omega⟩ ⟨by omega, by omega⟩ (by omega)).mono ?_
  rintro e w4 ⟨⟨k', f', b', rfl, hp', _, hb4⟩, _⟩
  have R4 := (HR.out.alloc (.cells #[.int .i64 k, .int .i64 f, .string s] 27) hw3).below hb4 (by simp)
  have hB3 : Below w.heap.size w w3 := (below_box _ (Nat.le_refl _)).trans (hb3'.mono (by simp))
  have hb : Below w.heap.size w w4 := (hB3.alloc hB3.size _).trans (hb4.mono (by simp))
  clear hb3' hb4 hr3 HR hB3 hw3
  have r0 := (R4 0 _ rfl).1
  have r1 := (R4 1 _ rfl).1
  have r2 := (R4 2 _ rfl).1
  have g0 := (R4 0 _ rfl).2
  have g1 := (R4 1 _ rfl).2
  have g2 := (R4 2 _ rfl).2
  clear R4
  go_wp2
  refine bodyPost_ret (v := .agg #[.int .i64 k', .int .i64 f', .string b']) ?_ rfl ?_
  · simp [results, Try.results16, go_sem, r0, r1, r2]
  · exact ⟨k', f', b', rfl, hp', by
      repeat (first | with_reducible exact hb | refine Below.setCell ?_ (by exact Nat.le_refl _) _)⟩

end Go.Proofs.Ytpenkcmhmmjmeaa
