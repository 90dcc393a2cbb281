/- The contracts of the drawing functions for inits. -/
import Derived.Test.YthanldoljildnaaK4c
import Derived.Test.YthanldoljildnaaK23
import Derived.Test.YthanldoljildnaaK22
namespace Go.Proofs.Ythanldoljildnaa
open Go.RowKit Go.PlainAid

/-- The fields of an init that was drawn. -/
def NearI (a b c d : Int) : Prop := (-1 ≤ a ∧ a ≤ 4294967296) ∧ (-1 ≤ b ∧ b ≤ 65536) ∧ (-1 ≤ c ∧ c ≤ 5) ∧ (-1 ≤ d ∧ d ≤ 65536)
/-- An init was drawn; the reader stands. -/
def DrewIn (B r m : Nat) (w : World) (e : Ending) (w' : World) : Prop :=
  ∃ (a b c d : Int), e = .returned (.agg #[.int .i64 a, .int .i64 b, .int .i64 c, .int .i64 d]) ∧ NearI a b c d ∧ Rd B r m w' ∧ Below B w w'

set_option maxHeartbeats 2000000 in
theorem l91Init_fr (B r m : Nat) (w : World) (h : Rd B r m w) (hm : m ≤ 100000) :
    Calls Try.prog 23 #[.pointer (some ⟨r, 0, none⟩)] w fun e w' => DrewIn B r (m + 20) w e w' ∧ Fr B r w w' := by
  have hrw := h.2.1
  have hB0 : B ≤ w.heap.size := Nat.le_of_lt (Nat.lt_of_le_of_lt h.1 hrw)
  go_enter Try.func23, Try.ntmps23
  go_wp2_with fail
  refine (pick_any B r m 9 _ (h.alloc _) (by omega) (by omega) (by omega)).mono ?_
  rintro e w1 ⟨a, rfl, a0, a1, hr1, ho1⟩
  have R1 := (VarN.new w [.int .i64 0, .int .i64 0, .int .i64 0, .int .i64 0] 24).only ho1 (by omega)
  have hB1 : Fr B r w w1 := ((Fr.refl B r w).alloc hB0 _).only h.1 ho1
  have hz1 : w.heap.size < w1.heap.size := lt_of_cell (R1 0 _ rfl).1
  clear ho1
  go_wp2_with fail
  refine (pick_any B r (m + 1) 4 _ hr1 (by omega) (by omega) (by omega)).mono ?_
  rintro e w2 ⟨c, rfl, c0, c1, hr2, ho2⟩
  have R2 := R1.only ho2 (by omega)
  have hB2 := hB1.only h.1 ho2
  have hz2 : w.heap.size < w2.heap.size := lt_of_cell (R2 0 _ rfl).1
  clear R1 hB1 hr1 ho2 hz1
  go_wp2_with fail
  refine (l91Good_as B r (m + 2) _ hr2 (by omega)).mono ?_
  rintro e w3 ⟨⟨d, rfl, ⟨d0, d1⟩, hr3, hb3⟩, ha3⟩
  have R3 := R2.aside ha3 hz2 (by omega)
  have hB3 := hB2.step hb3 ha3
  have hz3 : w.heap.size < w3.heap.size := lt_of_cell (R3 0 _ rfl).1
  clear R2 hB2 hr2 ha3 hb3 hz2
  have hr3z : r < w3.heap.size := by omega
  have hwz : w.heap.size ≤ w3.heap.size := Nat.le_of_lt hz3
  have hne : ¬ w3.heap.size = w.heap.size := by omega
  have hne' : ¬ w.heap.size = w3.heap.size := by omega
  go_wp2_with fail
  refine (pick_any B r (m + 5) 20 _ (hr3.alloc _) (by omega) (by omega) (by omega)).mono ?_
  rintro e w8 ⟨j, rfl, j0, j1, hr8, ho8⟩
  have V8 := (VarN.new w3 [.int .i64 (1 + a), .int .i64 (1000), .int .i64 (1 + c), .int .i64 (d)] 24).only ho8 (by omega)
  have R8 := (R3.alloc (.cells (List.toArray [.int .i64 (1 + a), .int .i64 (1000), .int .i64 (1 + c), .int .i64 (d)]) 24) hz3).only ho8 (by omega)
  have hB8 : Fr B r w w8 := (hB3.alloc hB0 _).only h.1 ho8
  clear R3 hB3 hr3 ho8
  have hz8 : w3.heap.size < w8.heap.size := lt_of_cell (V8 0 _ rfl).1
  have hz8' : w.heap.size < w8.heap.size := lt_of_cell (R8 0 _ rfl).1
  by_cases s0 : j = 0
  · subst s0
    go_wp2_with fail
    refine (l91Long_as B r (m + 6) _ hr8 (by omega)).mono ?_
    rintro e w9 ⟨⟨g, rfl, hg, hr9, hb9⟩, ha9⟩
    have V9 := V8.aside ha9 hz8 (by omega)
    have R9 := R8.aside ha9 hz8' (by omega)
    have hB9 := hB8.step hb9 ha9
    clear V8 R8 ha9 hb9 hB8 hr8 hz8 hz8'
    have c0' := (V9 0 _ rfl).1
    have c1' := (V9 1 _ rfl).1
    have c2' := (V9 2 _ rfl).1
    have c3' := (V9 3 _ rfl).1
    have d0' := (V9 0 _ rfl).2
    have r0 := (R9 0 _ rfl).1
    have r1 := (R9 1 _ rfl).1
    have r2 := (R9 2 _ rfl).1
    have r3 := (R9 3 _ rfl).1
    have g0 := (R9 0 _ rfl).2
    have g1 := (R9 1 _ rfl).2
    have g2 := (R9 2 _ rfl).2
    have g3 := (R9 3 _ rfl).2
    go_wp2
    refine bodyPost_ret (v := .agg #[.int .i64 (g), .int .i64 (1000), .int .i64 (1 + c), .int .i64 (d)]) ?_ rfl ?_
    · simp [results, Try.results23, go_sem, r0, r1, r2, r3]
    · refine ⟨⟨_, _, _, _, rfl, ⟨hg, ⟨by omega, by omega⟩, ⟨by omega, by omega⟩, ⟨by omega, by omega⟩⟩, ?_, ?_⟩, ?_⟩
      · repeat (first | with_reducible exact hr9.mono (by omega) | refine Rd.far ?_ (by omega) _ _)
      · refine Fr.below (r := r) ?_
        repeat (first | with_reducible exact hB9 | refine Fr.set ?_ (by first | exact Nat.le_refl _ | exact hwz) hB0 _)
      · repeat (first | with_reducible exact hB9 | refine Fr.set ?_ (by first | exact Nat.le_refl _ | exact hwz) hB0 _)
  · by_cases s1 : j = 1
    · subst s1
      go_wp2_with fail
      refine (l91Word_as B r (m + 6) _ hr8 (by omega)).mono ?_
      rintro e w9 ⟨⟨g, rfl, hg, hr9, hb9⟩, ha9⟩
      have V9 := V8.aside ha9 hz8 (by omega)
      have R9 := R8.aside ha9 hz8' (by omega)
      have hB9 := hB8.step hb9 ha9
      clear V8 R8 ha9 hb9 hB8 hr8 hz8 hz8'
      have c0' := (V9 0 _ rfl).1
      have c1' := (V9 1 _ rfl).1
      have c2' := (V9 2 _ rfl).1
      have c3' := (V9 3 _ rfl).1
      have d1' := (V9 1 _ rfl).2
      have r0 := (R9 0 _ rfl).1
      have r1 := (R9 1 _ rfl).1
      have r2 := (R9 2 _ rfl).1
      have r3 := (R9 3 _ rfl).1
      have g0 := (R9 0 _ rfl).2
      have g1 := (R9 1 _ rfl).2
      have g2 := (R9 2 _ rfl).2
      have g3 := (R9 3 _ rfl).2
      go_wp2
      refine bodyPost_ret (v := .agg #[.int .i64 (1 + a), .int .i64 (g), .int .i64 (1 + c), .int .i64 (d)]) ?_ rfl ?_
      · simp [results, Try.results23, go_sem, r0, r1, r2, r3]
      · refine ⟨⟨_, _, _, _, rfl, ⟨⟨by omega, by omega⟩, hg, ⟨by omega, by omega⟩, ⟨by omega, by omega⟩⟩, ?_, ?_⟩, ?_⟩
        · repeat (first | with_reducible exact hr9.mono (by omega) | refine Rd.far ?_ (by omega) _ _)
        · refine Fr.below (r := r) ?_
          repeat (first | with_reducible exact hB9 | refine Fr.set ?_ (by first | exact Nat.le_refl _ | exact hwz) hB0 _)
        · repeat (first | with_reducible exact hB9 | refine Fr.set ?_ (by first | exact Nat.le_refl _ | exact hwz) hB0 _)
    · by_cases s2 : j = 2
      · subst s2
        go_wp2_with fail
        refine (pick_any B r (m + 6) 7 _ hr8 (by omega) (by omega) (by omega)).mono ?_
        rintro e w9 ⟨g, rfl, g0', g1', hr9, ho9⟩
        have V9 := V8.only ho9 (by omega)
        have R9 := R8.only ho9 (by omega)
        have hB9 := hB8.only h.1 ho9
        clear V8 R8 ho9 hB8 hr8 hz8 hz8'
        have c0' := (V9 0 _ rfl).1
        have c1' := (V9 1 _ rfl).1
        have c2' := (V9 2 _ rfl).1
        have c3' := (V9 3 _ rfl).1
        have d2' := (V9 2 _ rfl).2
        have r0 := (R9 0 _ rfl).1
        have r1 := (R9 1 _ rfl).1
        have r2 := (R9 2 _ rfl).1
        have r3 := (R9 3 _ rfl).1
        have g0 := (R9 0 _ rfl).2
        have g1 := (R9 1 _ rfl).2
        have g2 := (R9 2 _ rfl).2
        have g3 := (R9 3 _ rfl).2
        go_wp2
        refine bodyPost_ret (v := .agg #[.int .i64 (1 + a), .int .i64 (1000), .int .i64 (g - 1), .int .i64 (d)]) ?_ rfl ?_
        · simp [results, Try.results23, go_sem, r0, r1, r2, r3]
        · refine ⟨⟨_, _, _, _, rfl, ⟨⟨by omega, by omega⟩, ⟨by omega, by omega⟩, ⟨by omega, by omega⟩, ⟨by omega, by omega⟩⟩, ?_, ?_⟩, ?_⟩
          · repeat (first | with_reducible exact hr9.mono (by omega) | refine Rd.far ?_ (by omega) _ _)
          · refine Fr.below (r := r) ?_
            repeat (first | with_reducible exact hB9 | refine Fr.set ?_ (by first | exact Nat.le_refl _ | exact hwz) hB0 _)
          · repeat (first | with_reducible exact hB9 | refine Fr.set ?_ (by first | exact Nat.le_refl _ | exact hwz) hB0 _)
      · by_cases s3 : j = 3
        · subst s3
          go_wp2_with fail
          refine (l91Word_as B r (m + 6) _ hr8 (by omega)).mono ?_
          rintro e w9 ⟨⟨g, rfl, hg, hr9, hb9⟩, ha9⟩
          have V9 := V8.aside ha9 hz8 (by omega)
          have R9 := R8.aside ha9 hz8' (by omega)
          have hB9 := hB8.step hb9 ha9
          clear V8 R8 ha9 hb9 hB8 hr8 hz8 hz8'
          have c0' := (V9 0 _ rfl).1
          have c1' := (V9 1 _ rfl).1
          have c2' := (V9 2 _ rfl).1
          have c3' := (V9 3 _ rfl).1
          have d3' := (V9 3 _ rfl).2
          have r0 := (R9 0 _ rfl).1
          have r1 := (R9 1 _ rfl).1
          have r2 := (R9 2 _ rfl).1
          have r3 := (R9 3 _ rfl).1
          have g0 := (R9 0 _ rfl).2
          have g1 := (R9 1 _ rfl).2
          have g2 := (R9 2 _ rfl).2
          have g3 := (R9 3 _ rfl).2
          go_wp2
          refine bodyPost_ret (v := .agg #[.int .i64 (1 + a), .int .i64 (1000), .int .i64 (1 + c), .int .i64 (g)]) ?_ rfl ?_
          · simp [results, Try.results23, go_sem, r0, r1, r2, r3]
          · refine ⟨⟨_, _, _, _, rfl, ⟨⟨by omega, by omega⟩, ⟨by omega, by omega⟩, ⟨by omega, by omega⟩, hg⟩, ?_, ?_⟩, ?_⟩
            · repeat (first | with_reducible exact hr9.mono (by omega) | refine Rd.far ?_ (by omega) _ _)
            · refine Fr.below (r := r) ?_
              repeat (first | with_reducible exact hB9 | refine Fr.set ?_ (by first | exact Nat.le_refl _ | exact hwz) hB0 _)
            · repeat (first | with_reducible exact hB9 | refine Fr.set ?_ (by first | exact Nat.le_refl _ | exact hwz) hB0 _)
        · clear hz8 hz8'
          have c0' := (V8 0 _ rfl).1
          have c1' := (V8 1 _ rfl).1
          have c2' := (V8 2 _ rfl).1
          have c3' := (V8 3 _ rfl).1
          have r0 := (R8 0 _ rfl).1
          have r1 := (R8 1 _ rfl).1
          have r2 := (R8 2 _ rfl).1
          have r3 := (R8 3 _ rfl).1
          have g0 := (R8 0 _ rfl).2
          have g1 := (R8 1 _ rfl).2
          have g2 := (R8 2 _ rfl).2
          have g3 := (R8 3 _ rfl).2
          go_wp2
          refine bodyPost_ret (v := .agg #[.int .i64 (1 + a), .int .i64 (1000), .int .i64 (1 + c), .int .i64 (d)]) ?_ rfl ?_
          · simp [results, Try.results23, go_sem, r0, r1, r2, r3]
          · refine ⟨⟨_, _, _, _, rfl, ⟨⟨by omega, by omega⟩, ⟨by omega, by omega⟩, ⟨by omega, by omega⟩, ⟨by omega, by omega⟩⟩, ?_, ?_⟩, ?_⟩
            · repeat (first | with_reducible exact hr8.mono (by omega) | refine Rd.far ?_ (by omega) _ _)
            · refine Fr.below (r := r) ?_
              repeat (first | with_reducible exact hB8 | refine Fr.set ?_ (by first | exact Nat.le_refl _ | exact hwz) hB0 _)
            · repeat (first | with_reducible exact hB8 | refine Fr.set ?_ (by first | exact Nat.le_refl _ | exact hwz) hB0 _)

/-- An init was drawn out of the given bytes, and whether it is an answer. -/
def DrewIp (w : World) (e : Ending) (w' : World) : Prop :=
  ∃ (a b c d : Int) (y : Bool), e = .returned (.tuple #[.agg #[.int .i64 a, .int .i64 b, .int .i64 c, .int .i64 d], .bool y]) ∧ NearI a b c d ∧ Below w.heap.size w w'

set_option maxHeartbeats 2000000 in
theorem drawInitPut_any (a0 : Option Addr) (len cap : Nat) (zs : List Int) (w : World) (h : IsRow .u8 w a0 len cap zs) :
    Calls Try.prog 10 #[.slice a0 len cap] w (DrewIp w) := by
  have H := Lib.hid h
  clear h
  go_enter Try.func10, Try.ntmps10
  go_wp2_with fail
  refine (l6Open_any a0 len cap zs _ (H.out.keep (below_box _ (Nat.le_refl _)))).mono ?_
  rintro e w1 ⟨r, rfl, hr1, hb1⟩
  go_wp2_with fail
  refine (l91Init_fr _ r 0 _ hr1 (by omega)).mono ?_
  rintro e w2 ⟨⟨a, b, c, d, rfl, hp, hr2, hb2⟩, _⟩
  have hbW := hb1.trans hb2
  have R := (VarN.new w [.int .i64 0, .int .i64 0, .int .i64 0, .int .i64 0] 24).below hbW (by simp)
  have hb : Below w.heap.size w w2 := (below_box _ (Nat.le_refl _)).trans (hbW.mono (by simp))
  have hlt : w.heap.size < w2.heap.size := lt_of_cell (R 0 _ rfl).1
  have hrr := hr2.1
  simp at hrr
  have hrl := hr2.2.1
  have V := VarN.new w2 [.int .i64 a, .int .i64 b, .int .i64 c, .int .i64 d] 24
  have R3 := R.alloc (.cells (List.toArray [.int .i64 a, .int .i64 b, .int .i64 c, .int .i64 d]) 24) hlt
  have hr3 := Lib.hid (hr2.alloc (.cells (List.toArray [.int .i64 a, .int .i64 b, .int .i64 c, .int .i64 d]) 24))
  have hB3 := Lib.hid (hb.alloc hb.size (.cells (List.toArray [.int .i64 a, .int .i64 b, .int .i64 c, .int .i64 d]) 24))
  have HV := Lib.hid V
  have HR := Lib.hid R3
  clear hb1 hb2 hbW R hb hr1 V R3 hr2
  have x0 := (HV.out 0 _ rfl).1
  have x1 := (HV.out 1 _ rfl).1
  have x2 := (HV.out 2 _ rfl).1
  have x3 := (HV.out 3 _ rfl).1
  generalize hW : w2.alloc (.cells (List.toArray [.int .i64 a, .int .i64 b, .int .i64 c, .int .i64 d]) 24) = w3 at *
  have hdd : w.heap.size ≠ w2.heap.size := by omega
  have r0 := (HR.out 0 _ rfl).1
  have r1 := (HR.out 1 _ rfl).1
  have r2 := (HR.out 2 _ rfl).1
  have r3 := (HR.out 3 _ rfl).1
  have g0 := (HR.out 0 _ rfl).2
  have g1 := (HR.out 1 _ rfl).2
  have g2 := (HR.out 2 _ rfl).2
  have g3 := (HR.out 3 _ rfl).2
  have HV3 := Lib.hid (HV.out.drew)
  have hr3' := Lib.hid (show Rd _ r (0 + 20) w3.drew from hr3.out)
  go_wp2_with fail
  go_region_held_law (fun W => W.cell? ⟨w2.heap.size, 0, none⟩ = some (.int .i64 a) ∧ W.cell? ⟨w2.heap.size, 1, none⟩ = some (.int .i64 b) ∧ W.cell? ⟨w2.heap.size, 2, none⟩ = some (.int .i64 c) ∧ W.cell? ⟨w2.heap.size, 3, none⟩ = some (.int .i64 d))
    (first | with_reducible assumption | with_reducible exact ⟨(World.cell?_drew _ _).trans x0, (World.cell?_drew _ _).trans x1, (World.cell?_drew _ _).trans x2, (World.cell?_drew _ _).trans x3⟩ | with_reducible exact ⟨y0, y1, y2, y3⟩ | (with_reducible exact ⟨cell_far hdd (cell_far hdd (cell_far hdd (cell_far hdd y0))), cell_far hdd (cell_far hdd (cell_far hdd (cell_far hdd y1))), cell_far hdd (cell_far hdd (cell_far hdd (cell_far hdd y2))), cell_far hdd (cell_far hdd (cell_far hdd (cell_far hdd y3)))⟩))
    (first | (go_simp; go_at_call 24; refine (pick_any _ r (0 + 20) 2 _ hr3'.out (by omega) (by omega) (by omega)).mono ?_; rintro e w4 ⟨x, rfl, x0', x1', hr4, ho4⟩; have R4 := Lib.hid (HR.out.drew.only ho4 (by omega)); have V4 := Lib.hid (HV3.out.only ho4 (by omega)); have y0 := (V4.out 0 _ rfl).1; have y1 := (V4.out 1 _ rfl).1; have y2 := (V4.out 2 _ rfl).1; have y3 := (V4.out 3 _ rfl).1; have g0 := (R4.out 0 _ rfl).2; have g1 := (R4.out 1 _ rfl).2; have g2 := (R4.out 2 _ rfl).2; have g3 := (R4.out 3 _ rfl).2; have r0 := (R4.out 0 _ rfl).1; have r1 := (R4.out 1 _ rfl).1; have r2 := (R4.out 2 _ rfl).1; have r3 := (R4.out 3 _ rfl).1))
  all_goals
    have hB4 := hB3.out.drew.trans (ho4.below (B := w.heap.size) (by omega))
    go_wp2
    refine bodyPost_ret (v := .tuple #[.agg #[.int .i64 a, .int .i64 b, .int .i64 c, .int .i64 d], .bool (x == 0)]) ?_ rfl ?_
    · simp [results, Try.results10, go_sem, r0, r1, r2, r3]
    · exact ⟨a, b, c, d, _, rfl, hp, by
        repeat (first | with_reducible exact hB4 | refine Below.setCell ?_ (by exact Nat.le_refl _) _)⟩

theorem sInitPut_made (a b c d : Int) (y : Bool) (w : World) :
    Calls Try.prog 12 #[.agg #[.int .i64 a, .int .i64 b, .int .i64 c, .int .i64 d], .bool y] w (MadeC w) := by
  by_cases h : InitOk a b c d
  · refine (sInitPut_yes a b c d y w h).mono ?_
    rintro e w' ⟨rfl, hb⟩
    exact ⟨_, _, _, _, rfl, ⟨by cases y <;> decide, ⟨by omega, by omega⟩, by rw [initS_size]; omega⟩, hb⟩
  · refine (sInitPut_no a b c d y w h).mono ?_
    rintro e w' ⟨rfl, hb⟩
    exact ⟨_, _, _, _, rfl, ⟨⟨by omega, by omega⟩, ⟨by omega, by omega⟩, by decide⟩, hb⟩

set_option maxHeartbeats 2000000 in
theorem drawInitGet_any (a0 : Option Addr) (len cap : Nat) (zs : List Int) (w : World) (h : IsRow .u8 w a0 len cap zs) :
    Calls Try.prog 15 #[.slice a0 len cap] w (DrewCh w) := by
  have H := Lib.hid h
  clear h
  go_enter Try.func15, Try.ntmps15
  go_wp2_with fail
  refine (l6Open_any a0 len cap zs _ (H.out.keep (below_box _ (Nat.le_refl _)))).mono ?_
  rintro e w1 ⟨r, rfl, hr1, hb1⟩
  go_wp2_with fail
  refine (l91Init_fr _ r 0 _ hr1 (by omega)).mono ?_
  rintro e w2 ⟨⟨a, b, c, d, rfl, hp, hr2, hb2⟩, _⟩
  have hb2' := hb1.trans hb2
  clear hr1 hb1 hb2
  go_wp2_with fail
  refine (pick_any _ r (0 + 20) 2 _ hr2 (by omega) (by omega) (by omega)).mono ?_
  rintro e w2' ⟨x, rfl, x0, x1, hr2', ho2⟩
  have hb2'' := hb2'.trans (ho2.below hr2.1)
  clear hr2 hb2' ho2
  go_wp2_with fail
  refine (sInitPut_made a b c d (x == 0) _).mono ?_
  rintro e w3 ⟨k, f, s, ok, rfl, ⟨hk, hf, hs⟩, hb3⟩
  have hr3 := hr2'.keep hb3 hr2'.2.1
  have hb3' := hb2''.trans (hb3.mono hb2''.size)
  clear hr2' hb2'' hb3
  have R := (VarN.new w [.int .i64 0, .int .i64 0, .string (ByteArray.mk #[])] 28).below hb3' (by simp)
  have HR := Lib.hid R
  clear R
  have hw3 : w.heap.size < w3.heap.size := lt_of_cell (HR.out 0 _ rfl).1
  go_wp2_with fail
  refine (l91Any_fr _ r (0 + 20 + 1) k f s _ (hr3.alloc _) (by omega) ⟨by omega, by omega⟩ ⟨by omega, by omega⟩ (by omega)).mono ?_
  rintro e w4 ⟨⟨k', f', b', rfl, hp', _, hb4⟩, _⟩
  have R4 := (HR.out.alloc (.cells #[.int .i64 k, .int .i64 f, .string s] 28) hw3).below hb4 (by simp)
  have hB3 : Below w.heap.size w w3 := (below_box _ (Nat.le_refl _)).trans (hb3'.mono (by simp))
  have hb : Below w.heap.size w w4 := (hB3.alloc hB3.size _).trans (hb4.mono (by simp))
  clear hb3' hb4 hr3 HR hB3 hw3
  have r0 := (R4 0 _ rfl).1
  have r1 := (R4 1 _ rfl).1
  have r2 := (R4 2 _ rfl).1
  have g0 := (R4 0 _ rfl).2
  have g1 := (R4 1 _ rfl).2
  have g2 := (R4 2 _ rfl).2
  clear R4
  go_wp2
  refine bodyPost_ret (v := .agg #[.int .i64 k', .int .i64 f', .string b']) ?_ rfl ?_
  · simp [results, Try.results15, go_sem, r0, r1, r2]
  · exact ⟨k', f', b', rfl, hp', by
      repeat (first | with_reducible exact hb | refine Below.setCell ?_ (by exact Nat.le_refl _) _)⟩

end Go.Proofs.Ythanldoljildnaa
