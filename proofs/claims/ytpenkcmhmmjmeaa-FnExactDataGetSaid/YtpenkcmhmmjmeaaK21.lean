/- The contracts of the drawing functions for parts. -/
import Derived.Test.YtpenkcmhmmjmeaaK4c
import Derived.Test.YtpenkcmhmmjmeaaK7m
import Derived.Test.YtpenkcmhmmjmeaaK15
namespace Go.Proofs.Ytpenkcmhmmjmeaa
open Go.RowKit Go.PlainAid

/-- About a serial number. -/
def Near' (a : Int) : Prop := -1 ≤ a ∧ a ≤ 65536
/-- A part was drawn; the reader stands. -/
def DrewD (B r m : Nat) (w : World) (e : Ending) (w' : World) : Prop :=
  ∃ (a b c : Int) (fi la lo : Bool) (t : ByteArray), e = .returned (.agg #[.int .i64 a, .int .i64 b, .int .i64 c, .bool fi, .bool la, .bool lo, .string t]) ∧ (Near' a ∧ Near' b ∧ Near' c ∧ t.size ≤ 30) ∧ Rd B r m w' ∧ Below B w w'

set_option maxHeartbeats 2000000 in
theorem l91Part_fr (B r m : Nat) (w : World) (h : Rd B r m w) (hm : m ≤ 100000) :
    Calls Try.prog 24 #[.pointer (some ⟨r, 0, none⟩)] w fun e w' => DrewD B r (m + 40) w e w' ∧ Fr B r w w' := by
  have hrw := h.2.1
  have hB0 : B ≤ w.heap.size := Nat.le_of_lt (Nat.lt_of_le_of_lt h.1 hrw)
  go_enter Try.func24, Try.ntmps24
  go_wp2_with fail
  refine (l91Good_as B r m _ (h.alloc _) (by omega)).mono ?_
  rintro e w1 ⟨⟨a, rfl, ⟨a0, a1⟩, hr1, hb1⟩, ha1⟩
  have R1 := (VarN.new w [.int .i64 0, .int .i64 0, .int .i64 0, .bool false, .bool false, .bool false, .string (ByteArray.mk #[])] 24).aside ha1 (by simp) (by omega)
  have hB1 : Fr B r w w1 := ((Fr.refl B r w).alloc hB0 _).step hb1 ha1
  have hz1 : w.heap.size < w1.heap.size := by have := hb1.size; simp at this; omega
  clear ha1 hb1
  go_wp2_with fail
  refine (pick_any B r (m + 3) 3 _ hr1 (by omega) (by omega) (by omega)).mono ?_
  rintro e w2 ⟨b, rfl, b0, b1, hr2, ho2⟩
  have R2 := R1.only ho2 (by omega)
  have hB2 := hB1.only h.1 ho2
  have hz2 : w.heap.size < w2.heap.size := by rw [ho2.size]; exact hz1
  clear R1 hB1 hr1 ho2 hz1
  go_wp2_with fail
  refine (pick_any B r (m + 4) 4 _ hr2 (by omega) (by omega) (by omega)).mono ?_
  rintro e w3 ⟨c, rfl, c0, c1, hr3, ho3⟩
  have R3 := R2.only ho3 (by omega)
  have hB3 := hB2.only h.1 ho3
  have hz3 : w.heap.size < w3.heap.size := by rw [ho3.size]; exact hz2
  clear R2 hB2 hr2 ho3 hz2
  go_wp2_with fail
  refine (l91Bytes_as B r (m + 5) 6 _ hr3 (by omega) (by omega)).mono ?_
  rintro e w4 ⟨⟨t, rfl, ht, hr4, hb4⟩, ha4⟩
  have R4 := R3.aside ha4 hz3 (by omega)
  have hB4 := hB3.step hb4 ha4
  have hz4 : w.heap.size < w4.heap.size := Nat.lt_of_lt_of_le hz3 hb4.size
  clear R3 hB3 hr3 ha4 hb4 hz3
  have htz : (t ++ ByteArray.mk #[116]).size ≤ 7 := by rw [ByteArray.size_append]; show t.size + 1 ≤ 7; omega
  have hr4z : r < w4.heap.size := by omega
  have hwz : w.heap.size ≤ w4.heap.size := Nat.le_of_lt hz4
  have hne : ¬ w4.heap.size = w.heap.size := by omega
  have hne' : ¬ w.heap.size = w4.heap.size := by omega
  go_wp2_with fail
  refine (pick_any B r (m + 18) 2 _ (hr4.alloc _) (by omega) (by omega) (by omega)).mono ?_
  rintro e w5 ⟨x, rfl, x0, x1, hr5, ho5⟩
  have V5 := (VarN.new w4 [.int .i64 (a), .int .i64 (b), .int .i64 (c), .bool (false), .bool (false), .bool (false), .string (t ++ ByteArray.mk #[116])] 24).only ho5 (by omega)
  have R5 := (R4.alloc (.cells (List.toArray [.int .i64 (a), .int .i64 (b), .int .i64 (c), .bool (false), .bool (false), .bool (false), .string (t ++ ByteArray.mk #[116])]) 24) hz4).only ho5 (by omega)
  have hB5 : Fr B r w w5 := (hB4.alloc hB0 _).only h.1 ho5
  clear R4 hB4 hr4 ho5
  have q3 := (V5 3 _ rfl).1
  have o3 := (V5 3 _ rfl).2
  have HV5 := Lib.hid (V5.set (i := 3) (.bool (x == 0)))
  have HR5 := Lib.hid (R5.far (i := 3) (.bool (x == 0)) (by omega))
  clear V5 R5
  go_wp2_with fail
  refine (pick_any B r (m + 19) 2 _ (hr5.far (by omega) _ _) (by omega) (by omega) (by omega)).mono ?_
  rintro e w6 ⟨y, rfl, y0, y1, hr6, ho6⟩
  have V6 := HV5.out.only ho6 (by omega)
  have R6 := HR5.out.only ho6 (by omega)
  have hB6 : Fr B r w w6 := (hB5.set hwz hB0 _).only h.1 ho6
  clear HV5 HR5 q3 o3 hB5 hr5 ho6
  have q4 := (V6 4 _ rfl).1
  have o4 := (V6 4 _ rfl).2
  have HV6 := Lib.hid (V6.set (i := 4) (.bool (y == 0)))
  have HR6 := Lib.hid (R6.far (i := 4) (.bool (y == 0)) (by omega))
  clear V6 R6
  go_wp2_with fail
  refine (pick_any B r (m + 20) 4 _ (hr6.far (by omega) _ _) (by omega) (by omega) (by omega)).mono ?_
  rintro e w7 ⟨u, rfl, u0, u1, hr7, ho7⟩
  have V7 := HV6.out.only ho7 (by omega)
  have R7 := HR6.out.only ho7 (by omega)
  have hB7 : Fr B r w w7 := (hB6.set hwz hB0 _).only h.1 ho7
  clear HV6 HR6 q4 o4 hB6 hr6 ho7
  have q5 := (V7 5 _ rfl).1
  have o5 := (V7 5 _ rfl).2
  have HV7 := Lib.hid (V7.set (i := 5) (.bool (u == 0)))
  have HR7 := Lib.hid (R7.far (i := 5) (.bool (u == 0)) (by omega))
  clear V7 R7
  go_wp2_with fail
  refine (pick_any B r (m + 21) 20 _ (hr7.far (by omega) _ _) (by omega) (by omega) (by omega)).mono ?_
  rintro e w8 ⟨j, rfl, j0, j1, hr8, ho8⟩
  have V8 := HV7.out.only ho8 (by omega)
  have R8 := HR7.out.only ho8 (by omega)
  have hB8 : Fr B r w w8 := (hB7.set hwz hB0 _).only h.1 ho8
  clear HV7 HR7 q5 o5 hB7 hr7 ho8
  have hz8 : w4.heap.size < w8.heap.size := lt_of_cell (V8 0 _ rfl).1
  have hz8' : w.heap.size < w8.heap.size := lt_of_cell (R8 0 _ rfl).1
  by_cases s0 : j = 0
  · subst s0
    go_wp2_with fail
    refine (pick_any B r (m + 22) 3 _ hr8 (by omega) (by omega) (by omega)).mono ?_
    rintro e w9 ⟨i, rfl, i0, i1, hr9, ho9⟩
    have V9 := V8.only ho9 (by omega)
    have R9 := R8.only ho9 (by omega)
    have hB9 := hB8.only h.1 ho9
    clear V8 R8 ho9 hB8 hr8 hz8 hz8'
    obtain ⟨I, rfl⟩ := Int.eq_ofNat_of_zero_le i0
    go_wp2_with fail
    rw [show (19 : Int) + (I : Int) = ((19 + I : Nat) : Int) by omega]
    refine (l6Many_any (ByteArray.mk #[121]) (19 + I) _ (by decide) (by omega)).mono ?_
    rintro e w10 ⟨t', rfl, ht', rfl⟩
    have ht1 : t'.size ≤ 30 := by
      rw [ht', show (ByteArray.mk #[121]).size = 1 from rfl]
      omega
    clear ht'
    have c0 := (V9 0 _ rfl).1
    have c1 := (V9 1 _ rfl).1
    have c2 := (V9 2 _ rfl).1
    have c3 := (V9 3 _ rfl).1
    have c4 := (V9 4 _ rfl).1
    have c5 := (V9 5 _ rfl).1
    have c6 := (V9 6 _ rfl).1
    have d6 := (V9 6 _ rfl).2
    have r0 := (R9 0 _ rfl).1
    have r1 := (R9 1 _ rfl).1
    have r2 := (R9 2 _ rfl).1
    have r3 := (R9 3 _ rfl).1
    have r4 := (R9 4 _ rfl).1
    have r5 := (R9 5 _ rfl).1
    have r6 := (R9 6 _ rfl).1
    have g0 := (R9 0 _ rfl).2
    have g1 := (R9 1 _ rfl).2
    have g2 := (R9 2 _ rfl).2
    have g3 := (R9 3 _ rfl).2
    have g4 := (R9 4 _ rfl).2
    have g5 := (R9 5 _ rfl).2
    have g6 := (R9 6 _ rfl).2
    go_wp2
    refine bodyPost_ret (v := .agg #[.int .i64 (a), .int .i64 (b), .int .i64 (c), .bool (x == 0), .bool (y == 0), .bool (u == 0), .string (t')]) ?_ rfl ?_
    · simp [results, Try.results24, go_sem, r0, r1, r2, r3, r4, r5, r6]
    · refine ⟨⟨_, _, _, _, _, _, _, rfl, ⟨⟨by omega, by omega⟩, ⟨by omega, by omega⟩, ⟨by omega, by omega⟩, ht1⟩, ?_, ?_⟩, ?_⟩
      · repeat (first | with_reducible exact hr9.mono (by omega) | refine Rd.far ?_ (by omega) _ _)
      · refine Fr.below (r := r) ?_
        repeat (first | with_reducible exact hB9 | refine Fr.set ?_ (by first | exact Nat.le_refl _ | exact hwz) hB0 _)
      · repeat (first | with_reducible exact hB9 | refine Fr.set ?_ (by first | exact Nat.le_refl _ | exact hwz) hB0 _)
  · by_cases s1 : j = 1
    · subst s1
      clear hz8 hz8'
      have c0 := (V8 0 _ rfl).1
      have c1 := (V8 1 _ rfl).1
      have c2 := (V8 2 _ rfl).1
      have c3 := (V8 3 _ rfl).1
      have c4 := (V8 4 _ rfl).1
      have c5 := (V8 5 _ rfl).1
      have c6 := (V8 6 _ rfl).1
      have d6 := (V8 6 _ rfl).2
      have r0 := (R8 0 _ rfl).1
      have r1 := (R8 1 _ rfl).1
      have r2 := (R8 2 _ rfl).1
      have r3 := (R8 3 _ rfl).1
      have r4 := (R8 4 _ rfl).1
      have r5 := (R8 5 _ rfl).1
      have r6 := (R8 6 _ rfl).1
      have g0 := (R8 0 _ rfl).2
      have g1 := (R8 1 _ rfl).2
      have g2 := (R8 2 _ rfl).2
      have g3 := (R8 3 _ rfl).2
      have g4 := (R8 4 _ rfl).2
      have g5 := (R8 5 _ rfl).2
      have g6 := (R8 6 _ rfl).2
      go_wp2
      refine bodyPost_ret (v := .agg #[.int .i64 (a), .int .i64 (b), .int .i64 (c), .bool (x == 0), .bool (y == 0), .bool (u == 0), .string (ByteArray.mk #[])]) ?_ rfl ?_
      · simp [results, Try.results24, go_sem, r0, r1, r2, r3, r4, r5, r6]
      · refine ⟨⟨_, _, _, _, _, _, _, rfl, ⟨⟨by omega, by omega⟩, ⟨by omega, by omega⟩, ⟨by omega, by omega⟩, by decide⟩, ?_, ?_⟩, ?_⟩
        · repeat (first | with_reducible exact hr8.mono (by omega) | refine Rd.far ?_ (by omega) _ _)
        · refine Fr.below (r := r) ?_
          repeat (first | with_reducible exact hB8 | refine Fr.set ?_ (by first | exact Nat.le_refl _ | exact hwz) hB0 _)
        · repeat (first | with_reducible exact hB8 | refine Fr.set ?_ (by first | exact Nat.le_refl _ | exact hwz) hB0 _)
    · by_cases s2 : j = 2
      · subst s2
        go_wp2_with fail
        refine (l91Word_as B r (m + 22) _ hr8 (by omega)).mono ?_
        rintro e w9 ⟨⟨g, rfl, hg, hr9, hb9⟩, ha9⟩
        have V9 := V8.aside ha9 hz8 (by omega)
        have R9 := R8.aside ha9 hz8' (by omega)
        have hB9 := hB8.step hb9 ha9
        clear V8 R8 ha9 hb9 hB8 hr8 hz8 hz8'
        have c0 := (V9 0 _ rfl).1
        have c1 := (V9 1 _ rfl).1
        have c2 := (V9 2 _ rfl).1
        have c3 := (V9 3 _ rfl).1
        have c4 := (V9 4 _ rfl).1
        have c5 := (V9 5 _ rfl).1
        have c6 := (V9 6 _ rfl).1
        have d0 := (V9 0 _ rfl).2
        have r0 := (R9 0 _ rfl).1
        have r1 := (R9 1 _ rfl).1
        have r2 := (R9 2 _ rfl).1
        have r3 := (R9 3 _ rfl).1
        have r4 := (R9 4 _ rfl).1
        have r5 := (R9 5 _ rfl).1
        have r6 := (R9 6 _ rfl).1
        have g0 := (R9 0 _ rfl).2
        have g1 := (R9 1 _ rfl).2
        have g2 := (R9 2 _ rfl).2
        have g3 := (R9 3 _ rfl).2
        have g4 := (R9 4 _ rfl).2
        have g5 := (R9 5 _ rfl).2
        have g6 := (R9 6 _ rfl).2
        go_wp2
        refine bodyPost_ret (v := .agg #[.int .i64 (g), .int .i64 (b), .int .i64 (c), .bool (x == 0), .bool (y == 0), .bool (u == 0), .string (t ++ ByteArray.mk #[116])]) ?_ rfl ?_
        · simp [results, Try.results24, go_sem, r0, r1, r2, r3, r4, r5, r6]
        · refine ⟨⟨_, _, _, _, _, _, _, rfl, ⟨hg, ⟨by omega, by omega⟩, ⟨by omega, by omega⟩, by omega⟩, ?_, ?_⟩, ?_⟩
          · repeat (first | with_reducible exact hr9.mono (by omega) | refine Rd.far ?_ (by omega) _ _)
          · refine Fr.below (r := r) ?_
            repeat (first | with_reducible exact hB9 | refine Fr.set ?_ (by first | exact Nat.le_refl _ | exact hwz) hB0 _)
          · repeat (first | with_reducible exact hB9 | refine Fr.set ?_ (by first | exact Nat.le_refl _ | exact hwz) hB0 _)
      · by_cases s3 : j = 3
        · subst s3
          go_wp2_with fail
          refine (l91Word_as B r (m + 22) _ hr8 (by omega)).mono ?_
          rintro e w9 ⟨⟨g, rfl, hg, hr9, hb9⟩, ha9⟩
          have V9 := V8.aside ha9 hz8 (by omega)
          have R9 := R8.aside ha9 hz8' (by omega)
          have hB9 := hB8.step hb9 ha9
          clear V8 R8 ha9 hb9 hB8 hr8 hz8 hz8'
          have c0 := (V9 0 _ rfl).1
          have c1 := (V9 1 _ rfl).1
          have c2 := (V9 2 _ rfl).1
          have c3 := (V9 3 _ rfl).1
          have c4 := (V9 4 _ rfl).1
          have c5 := (V9 5 _ rfl).1
          have c6 := (V9 6 _ rfl).1
          have d1 := (V9 1 _ rfl).2
          have r0 := (R9 0 _ rfl).1
          have r1 := (R9 1 _ rfl).1
          have r2 := (R9 2 _ rfl).1
          have r3 := (R9 3 _ rfl).1
          have r4 := (R9 4 _ rfl).1
          have r5 := (R9 5 _ rfl).1
          have r6 := (R9 6 _ rfl).1
          have g0 := (R9 0 _ rfl).2
          have g1 := (R9 1 _ rfl).2
          have g2 := (R9 2 _ rfl).2
          have g3 := (R9 3 _ rfl).2
          have g4 := (R9 4 _ rfl).2
          have g5 := (R9 5 _ rfl).2
          have g6 := (R9 6 _ rfl).2
          go_wp2
          refine bodyPost_ret (v := .agg #[.int .i64 (a), .int .i64 (g), .int .i64 (c), .bool (x == 0), .bool (y == 0), .bool (u == 0), .string (t ++ ByteArray.mk #[116])]) ?_ rfl ?_
          · simp [results, Try.results24, go_sem, r0, r1, r2, r3, r4, r5, r6]
          · refine ⟨⟨_, _, _, _, _, _, _, rfl, ⟨⟨by omega, by omega⟩, hg, ⟨by omega, by omega⟩, by omega⟩, ?_, ?_⟩, ?_⟩
            · repeat (first | with_reducible exact hr9.mono (by omega) | refine Rd.far ?_ (by omega) _ _)
            · refine Fr.below (r := r) ?_
              repeat (first | with_reducible exact hB9 | refine Fr.set ?_ (by first | exact Nat.le_refl _ | exact hwz) hB0 _)
            · repeat (first | with_reducible exact hB9 | refine Fr.set ?_ (by first | exact Nat.le_refl _ | exact hwz) hB0 _)
        · by_cases s4 : j = 4
          · subst s4
            go_wp2_with fail
            refine (l91Word_as B r (m + 22) _ hr8 (by omega)).mono ?_
            rintro e w9 ⟨⟨g, rfl, hg, hr9, hb9⟩, ha9⟩
            have V9 := V8.aside ha9 hz8 (by omega)
            have R9 := R8.aside ha9 hz8' (by omega)
            have hB9 := hB8.step hb9 ha9
            clear V8 R8 ha9 hb9 hB8 hr8 hz8 hz8'
            have c0 := (V9 0 _ rfl).1
            have c1 := (V9 1 _ rfl).1
            have c2 := (V9 2 _ rfl).1
            have c3 := (V9 3 _ rfl).1
            have c4 := (V9 4 _ rfl).1
            have c5 := (V9 5 _ rfl).1
            have c6 := (V9 6 _ rfl).1
            have d2 := (V9 2 _ rfl).2
            have r0 := (R9 0 _ rfl).1
            have r1 := (R9 1 _ rfl).1
            have r2 := (R9 2 _ rfl).1
            have r3 := (R9 3 _ rfl).1
            have r4 := (R9 4 _ rfl).1
            have r5 := (R9 5 _ rfl).1
            have r6 := (R9 6 _ rfl).1
            have g0 := (R9 0 _ rfl).2
            have g1 := (R9 1 _ rfl).2
            have g2 := (R9 2 _ rfl).2
            have g3 := (R9 3 _ rfl).2
            have g4 := (R9 4 _ rfl).2
            have g5 := (R9 5 _ rfl).2
            have g6 := (R9 6 _ rfl).2
            go_wp2
            refine bodyPost_ret (v := .agg #[.int .i64 (a), .int .i64 (b), .int .i64 (g), .bool (x == 0), .bool (y == 0), .bool (u == 0), .string (t ++ ByteArray.mk #[116])]) ?_ rfl ?_
            · simp [results, Try.results24, go_sem, r0, r1, r2, r3, r4, r5, r6]
            · refine ⟨⟨_, _, _, _, _, _, _, rfl, ⟨⟨by omega, by omega⟩, ⟨by omega, by omega⟩, hg, by omega⟩, ?_, ?_⟩, ?_⟩
              · repeat (first | with_reducible exact hr9.mono (by omega) | refine Rd.far ?_ (by omega) _ _)
              · refine Fr.below (r := r) ?_
                repeat (first | with_reducible exact hB9 | refine Fr.set ?_ (by first | exact Nat.le_refl _ | exact hwz) hB0 _)
              · repeat (first | with_reducible exact hB9 | refine Fr.set ?_ (by first | exact Nat.le_refl _ | exact hwz) hB0 _)
          · clear hz8 hz8'
            have c0 := (V8 0 _ rfl).1
            have c1 := (V8 1 _ rfl).1
            have c2 := (V8 2 _ rfl).1
            have c3 := (V8 3 _ rfl).1
            have c4 := (V8 4 _ rfl).1
            have c5 := (V8 5 _ rfl).1
            have c6 := (V8 6 _ rfl).1
            have r0 := (R8 0 _ rfl).1
            have r1 := (R8 1 _ rfl).1
            have r2 := (R8 2 _ rfl).1
            have r3 := (R8 3 _ rfl).1
            have r4 := (R8 4 _ rfl).1
            have r5 := (R8 5 _ rfl).1
            have r6 := (R8 6 _ rfl).1
            have g0 := (R8 0 _ rfl).2
            have g1 := (R8 1 _ rfl).2
            have g2 := (R8 2 _ rfl).2
            have g3 := (R8 3 _ rfl).2
            have g4 := (R8 4 _ rfl).2
            have g5 := (R8 5 _ rfl).2
            have g6 := (R8 6 _ rfl).2
            go_wp2
            refine bodyPost_ret (v := .agg #[.int .i64 (a), .int .i64 (b), .int .i64 (c), .bool (x == 0), .bool (y == 0), .bool (u == 0), .string (t ++ ByteArray.mk #[116])]) ?_ rfl ?_
            · simp [results, Try.results24, go_sem, r0, r1, r2, r3, r4, r5, r6]
            · refine ⟨⟨_, _, _, _, _, _, _, rfl, ⟨⟨by omega, by omega⟩, ⟨by omega, by omega⟩, ⟨by omega, by omega⟩, by omega⟩, ?_, ?_⟩, ?_⟩
              · repeat (first | with_reducible exact hr8.mono (by omega) | refine Rd.far ?_ (by omega) _ _)
              · refine Fr.below (r := r) ?_
                repeat (first | with_reducible exact hB8 | refine Fr.set ?_ (by first | exact Nat.le_refl _ | exact hwz) hB0 _)
              · repeat (first | with_reducible exact hB8 | refine Fr.set ?_ (by first | exact Nat.le_refl _ | exact hwz) hB0 _)

end Go.Proofs.Ytpenkcmhmmjmeaa
