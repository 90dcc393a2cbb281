/- The contracts of the drawing functions of the laws on parts: a part, and a chunk that is often that of a part. -/
import Derived.Test.YteglajjenihagaaK16
import Derived.Test.YteglajjenihagaaK19
import Derived.Test.YteglajjenihagaaK21
namespace Go.Proofs.Yteglajjenihagaa
open Go.RowKit Go.PlainAid

set_option maxHeartbeats 2000000 in
theorem l91Any_fr (B r m : Nat) (k f : Int) (b : ByteArray) (w : World) (h : Rd B r m w) (hm : m ≤ 90000) (hk : -1 ≤ k ∧ k ≤ 256) (hf : -1 ≤ f ∧ f ≤ 256) (hb : b.size ≤ 61) :
    Calls Try.prog 31 #[.pointer (some ⟨r, 0, none⟩), .agg #[.int .i64 k, .int .i64 f, .string b]] w fun e w' => DrewC B r (m + 50) w e w' ∧ Fr B r w w' := by
  have hrw := h.2.1
  have hB0 : B ≤ w.heap.size := Nat.le_of_lt (Nat.lt_of_le_of_lt h.1 hrw)
  go_enter Try.func31, Try.ntmps31
  have V0 := (VarN.new w [.int .i64 k, .int .i64 f, .string b] 28).alloc (.cells (List.toArray [.int .i64 0, .int .i64 0, .string (ByteArray.mk #[])]) 28) (by simp)
  have R0 := VarN.new (w.alloc (.cells (List.toArray [.int .i64 k, .int .i64 f, .string b]) 28)) [.int .i64 0, .int .i64 0, .string (ByteArray.mk #[])] 28
  rw [show (w.alloc (.cells (List.toArray [.int .i64 k, .int .i64 f, .string b]) 28)).heap.size = w.heap.size + 1 by simp] at R0
  have hF0 := ((Fr.refl B r w).alloc hB0 (.cells (List.toArray [.int .i64 k, .int .i64 f, .string b]) 28)).alloc hB0 (.cells (List.toArray [.int .i64 0, .int .i64 0, .string (ByteArray.mk #[])]) 28)
  go_wp2_with fail
  refine (pick_any B r m 10 _ ((h.alloc _).alloc _) (by omega) (by omega) (by omega)).mono ?_
  rintro e w1 ⟨j, rfl, j0, j1, hr1, ho1⟩
  have V1 := V0.only ho1 (by omega)
  have R1 := R0.only ho1 (by omega)
  have hF1 := hF0.only h.1 ho1
  clear V0 R0 hF0 ho1
  have hne : ¬ w.heap.size + 1 = w.heap.size := by omega
  have hne' : ¬ w.heap.size = w.heap.size + 1 := by omega
  have hz1 : w.heap.size + 1 < w1.heap.size := lt_of_cell (R1 0 _ rfl).1
  have hw1 : w.heap.size ≤ w.heap.size + 1 := by omega
  by_cases s0 : j = 0
  · subst s0
    go_wp2_with fail
    refine (l91Chunk_fr B r (m + 1) _ hr1 (by omega)).mono ?_
    rintro e w2 ⟨⟨k', f', b', rfl, ⟨hk', hf', hb'⟩, hr2, _⟩, hf2⟩
    have R2 := R1.aside hf2.aside hz1 (by omega)
    have hF2 := hF1.trans hf2
    clear V1 R1 hf2 hF1 hr1 hz1
    have r0 := (R2 0 _ rfl).1
    have r1 := (R2 1 _ rfl).1
    have r2 := (R2 2 _ rfl).1
    have g0 := (R2 0 _ rfl).2
    have g1 := (R2 1 _ rfl).2
    have g2 := (R2 2 _ rfl).2
    go_wp2
    refine bodyPost_ret (v := .agg #[.int .i64 (k'), .int .i64 (f'), .string (b')]) ?_ rfl ?_
    · simp [results, Try.results31, go_sem, r0, r1, r2]
    · refine ⟨⟨_, _, _, rfl, ⟨hk', hf', hb'⟩, ?_, ?_⟩, ?_⟩
      · repeat (first | with_reducible exact hr2.mono (by omega) | refine Rd.far ?_ (by omega) _ _)
      · refine Fr.below (r := r) ?_
        repeat (first | with_reducible exact hF2 | refine Fr.set ?_ (by first | exact Nat.le_refl _ | exact hw1) hB0 _)
      · repeat (first | with_reducible exact hF2 | refine Fr.set ?_ (by first | exact Nat.le_refl _ | exact hw1) hB0 _)
  · by_cases s1 : j = 1
    · subst s1
      go_wp2_with fail
      refine (pick_any B r (m + 1) 10 _ hr1 (by omega) (by omega) (by omega)).mono ?_
      rintro e w2 ⟨i, rfl, i0, i1, hr2, ho2⟩
      have V2 := V1.only ho2 (by omega)
      have R2 := R1.only ho2 (by omega)
      have hF2 := hF1.only h.1 ho2
      clear V1 R1 ho2 hF1 hr1 hz1
      have c0 := (V2 0 _ rfl).1
      have c1 := (V2 1 _ rfl).1
      have c2 := (V2 2 _ rfl).1
      have d1 := (V2 1 _ rfl).2
      have r0 := (R2 0 _ rfl).1
      have r1 := (R2 1 _ rfl).1
      have r2 := (R2 2 _ rfl).1
      have g0 := (R2 0 _ rfl).2
      have g1 := (R2 1 _ rfl).2
      have g2 := (R2 2 _ rfl).2
      go_wp2
      refine bodyPost_ret (v := .agg #[.int .i64 (k), .int .i64 (i), .string (b)]) ?_ rfl ?_
      · simp [results, Try.results31, go_sem, r0, r1, r2]
      · refine ⟨⟨_, _, _, rfl, ⟨hk, ⟨by omega, by omega⟩, by omega⟩, ?_, ?_⟩, ?_⟩
        · repeat (first | with_reducible exact hr2.mono (by omega) | refine Rd.far ?_ (by omega) _ _)
        · refine Fr.below (r := r) ?_
          repeat (first | with_reducible exact hF2 | refine Fr.set ?_ (by first | exact Nat.le_refl _ | exact hw1) hB0 _)
        · repeat (first | with_reducible exact hF2 | refine Fr.set ?_ (by first | exact Nat.le_refl _ | exact hw1) hB0 _)
    · by_cases s2 : j = 2
      · subst s2
        go_wp2_with fail
        refine (pick_any B r (m + 1) 5 _ hr1 (by omega) (by omega) (by omega)).mono ?_
        rintro e w2 ⟨i, rfl, i0, i1, hr2, ho2⟩
        have V2 := V1.only ho2 (by omega)
        have R2 := R1.only ho2 (by omega)
        have hF2 := hF1.only h.1 ho2
        clear V1 R1 ho2 hF1 hr1 hz1
        have c0 := (V2 0 _ rfl).1
        have c1 := (V2 1 _ rfl).1
        have c2 := (V2 2 _ rfl).1
        have d0 := (V2 0 _ rfl).2
        have r0 := (R2 0 _ rfl).1
        have r1 := (R2 1 _ rfl).1
        have r2 := (R2 2 _ rfl).1
        have g0 := (R2 0 _ rfl).2
        have g1 := (R2 1 _ rfl).2
        have g2 := (R2 2 _ rfl).2
        go_wp2
        refine bodyPost_ret (v := .agg #[.int .i64 (i), .int .i64 (f), .string (b)]) ?_ rfl ?_
        · simp [results, Try.results31, go_sem, r0, r1, r2]
        · refine ⟨⟨_, _, _, rfl, ⟨⟨by omega, by omega⟩, hf, by omega⟩, ?_, ?_⟩, ?_⟩
          · repeat (first | with_reducible exact hr2.mono (by omega) | refine Rd.far ?_ (by omega) _ _)
          · refine Fr.below (r := r) ?_
            repeat (first | with_reducible exact hF2 | refine Fr.set ?_ (by first | exact Nat.le_refl _ | exact hw1) hB0 _)
          · repeat (first | with_reducible exact hF2 | refine Fr.set ?_ (by first | exact Nat.le_refl _ | exact hw1) hB0 _)
      · by_cases s3 : j = 3
        · subst s3
          have x2 := (V1 2 _ rfl).1
          go_wp2_with fail
          refine (l91Spoil_fr B r (m + 1) b _ hr1 (by omega) (by omega)).mono ?_
          rintro e w2 ⟨⟨t, rfl, ht, hr2, _⟩, hf2⟩
          have V2 := V1.aside hf2.aside (by omega) (by omega)
          have R2 := R1.aside hf2.aside hz1 (by omega)
          have hF2 := hF1.trans hf2
          clear V1 R1 hf2 hF1 hr1 hz1 x2
          have c0 := (V2 0 _ rfl).1
          have c1 := (V2 1 _ rfl).1
          have c2 := (V2 2 _ rfl).1
          have d2 := (V2 2 _ rfl).2
          have r0 := (R2 0 _ rfl).1
          have r1 := (R2 1 _ rfl).1
          have r2 := (R2 2 _ rfl).1
          have g0 := (R2 0 _ rfl).2
          have g1 := (R2 1 _ rfl).2
          have g2 := (R2 2 _ rfl).2
          go_wp2
          refine bodyPost_ret (v := .agg #[.int .i64 (k), .int .i64 (f), .string (t)]) ?_ rfl ?_
          · simp [results, Try.results31, go_sem, r0, r1, r2]
          · refine ⟨⟨_, _, _, rfl, ⟨hk, hf, by omega⟩, ?_, ?_⟩, ?_⟩
            · repeat (first | with_reducible exact hr2.mono (by omega) | refine Rd.far ?_ (by omega) _ _)
            · refine Fr.below (r := r) ?_
              repeat (first | with_reducible exact hF2 | refine Fr.set ?_ (by first | exact Nat.le_refl _ | exact hw1) hB0 _)
            · repeat (first | with_reducible exact hF2 | refine Fr.set ?_ (by first | exact Nat.le_refl _ | exact hw1) hB0 _)
        · clear hz1
          have c0 := (V1 0 _ rfl).1
          have c1 := (V1 1 _ rfl).1
          have c2 := (V1 2 _ rfl).1
          have r0 := (R1 0 _ rfl).1
          have r1 := (R1 1 _ rfl).1
          have r2 := (R1 2 _ rfl).1
          have g0 := (R1 0 _ rfl).2
          have g1 := (R1 1 _ rfl).2
          have g2 := (R1 2 _ rfl).2
          go_wp2
          refine bodyPost_ret (v := .agg #[.int .i64 (k), .int .i64 (f), .string (b)]) ?_ rfl ?_
          · simp [results, Try.results31, go_sem, r0, r1, r2]
          · refine ⟨⟨_, _, _, rfl, ⟨hk, hf, by omega⟩, ?_, ?_⟩, ?_⟩
            · repeat (first | with_reducible exact hr1.mono (by omega) | refine Rd.far ?_ (by omega) _ _)
            · refine Fr.below (r := r) ?_
              repeat (first | with_reducible exact hF1 | refine Fr.set ?_ (by first | exact Nat.le_refl _ | exact hw1) hB0 _)
            · repeat (first | with_reducible exact hF1 | refine Fr.set ?_ (by first | exact Nat.le_refl _ | exact hw1) hB0 _)

/-- A part was drawn out of the given bytes. -/
def DrewDa (w : World) (e : Ending) (w' : World) : Prop :=
  ∃ (a b c : Int) (fi la lo : Bool) (t : ByteArray), e = .returned (.agg #[.int .i64 a, .int .i64 b, .int .i64 c, .bool fi, .bool la, .bool lo, .string t]) ∧ (Near' a ∧ Near' b ∧ Near' c ∧ t.size ≤ 30) ∧ Below w.heap.size w w'

/-- The chunk of a part, or none: its fields. -/
def MadeC (w : World) (e : Ending) (w' : World) : Prop :=
  ∃ (k f : Int) (b : ByteArray) (ok : Bool), e = .returned (.tuple #[.agg #[.int .i64 k, .int .i64 f, .string b], .bool ok]) ∧ ((0 ≤ k ∧ k ≤ 3) ∧ (0 ≤ f ∧ f ≤ 7) ∧ b.size ≤ 40) ∧ Below w.heap.size w w'

end Go.Proofs.Yteglajjenihagaa
