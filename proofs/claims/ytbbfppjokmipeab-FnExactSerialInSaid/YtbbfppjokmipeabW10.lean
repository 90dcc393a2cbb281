/- The walks of the laws on order and ranges of serial numbers: each call returns true and touches nothing that was there. -/
import Derived.Test.YtbbfppjokmipeabK11
import Derived.Test.YtbbfppjokmipeabK12
namespace Go.Proofs.Ytbbfppjokmipeab
open Go.RowKit Go.PlainAid

theorem serialDiff_from (w0 : World) (a b : Int) (w : World) (hw : Below w0.heap.size w0 w) :
    Calls Try.prog 14 #[.int .i64 a, .int .i64 b] w fun e w' => e = .returned (.int .i64 (diffV a b)) ∧ Below w0.heap.size w0 w' := by
  refine (serialDiff_any a b w).mono ?_
  rintro e w' ⟨rfl, hb⟩
  exact ⟨rfl, hw.trans (hb.mono hw.size)⟩

theorem serialLess_from (w0 : World) (a b : Int) (w : World) (hw : Below w0.heap.size w0 w) :
    Calls Try.prog 16 #[.int .i64 a, .int .i64 b] w fun e w' => e = .returned (.bool (lessV a b)) ∧ Below w0.heap.size w0 w' := by
  refine (serialLess_any a b w).mono ?_
  rintro e w' ⟨rfl, hb⟩
  exact ⟨rfl, hw.trans (hb.mono hw.size)⟩

theorem serialLast_from (w0 : World) (a b : Int) (w : World) (hw : Below w0.heap.size w0 w) :
    Calls Try.prog 21 #[.int .i64 a, .int .i64 b] w fun e w' => e = .returned (.int .i64 (lastV a b)) ∧ Below w0.heap.size w0 w' := by
  refine (serialLast_any a b w).mono ?_
  rintro e w' ⟨rfl, hb⟩
  exact ⟨rfl, hw.trans (hb.mono hw.size)⟩

theorem serialIn_from (w0 : World) (a b n : Int) (w : World) (hw : Below w0.heap.size w0 w) :
    Calls Try.prog 24 #[.int .i64 a, .int .i64 b, .int .i64 n] w fun e w' => e = .returned (.bool (inV a b n)) ∧ Below w0.heap.size w0 w' := by
  refine (serialIn_any a b n w).mono ?_
  rintro e w' ⟨rfl, hb⟩
  exact ⟨rfl, hw.trans (hb.mono hw.size)⟩

set_option maxHeartbeats 1000000 in
theorem walk_fnExactSerialDiff (a0 a1 : Int) (_w0 : (Lit.int .i64 a0).wf = true) (_w1 : (Lit.int .i64 a1).wf = true) (w : World) :
    Calls Try.prog 3 #[.int .i64 a0, .int .i64 a1] w fun e w' => e = .returned (.bool true) ∧ Below w.heap.size w w' := by
  have hb1 := Below.refl w.heap.size w
  go_enter Try.func3, Try.ntmps3
  go_wp2_with fail
  refine (sSerialDiff_any a0 a1 _).mono ?_
  rintro e w2 ⟨rfl, rfl⟩
  go_wp2_with fail
  refine (serialDiff_from w a0 a1 _ hb1).mono ?_
  rintro e w3 ⟨rfl, hb3⟩
  go_wp2
  go_ret
  exact ⟨rfl, hb3⟩

set_option maxHeartbeats 1000000 in
theorem walk_fnExactSerialLess (a0 a1 : Int) (_w0 : (Lit.int .i64 a0).wf = true) (_w1 : (Lit.int .i64 a1).wf = true) (w : World) :
    Calls Try.prog 7 #[.int .i64 a0, .int .i64 a1] w fun e w' => e = .returned (.bool true) ∧ Below w.heap.size w w' := by
  have hb1 := Below.refl w.heap.size w
  go_enter Try.func7, Try.ntmps7
  go_wp2_with fail
  refine (sSerialLess_any a0 a1 _).mono ?_
  rintro e w2 ⟨rfl, rfl⟩
  go_wp2_with fail
  refine (serialLess_from w a0 a1 _ hb1).mono ?_
  rintro e w3 ⟨rfl, hb3⟩
  go_wp2
  go_ret
  exact ⟨rfl, hb3⟩

set_option maxHeartbeats 1000000 in
theorem walk_fnExactSerialLast (a0 a1 : Int) (_w0 : (Lit.int .i64 a0).wf = true) (_w1 : (Lit.int .i64 a1).wf = true) (w : World) :
    Calls Try.prog 9 #[.int .i64 a0, .int .i64 a1] w fun e w' => e = .returned (.bool true) ∧ Below w.heap.size w w' := by
  have hb1 := Below.refl w.heap.size w
  go_enter Try.func9, Try.ntmps9
  go_wp2_with fail
  refine (sSerialLast_any a0 a1 _).mono ?_
  rintro e w2 ⟨rfl, rfl⟩
  go_wp2_with fail
  refine (serialLast_from w a0 a1 _ hb1).mono ?_
  rintro e w3 ⟨rfl, hb3⟩
  go_wp2
  go_ret
  exact ⟨rfl, hb3⟩

set_option maxHeartbeats 1000000 in
theorem walk_fnExactSerialIn (a0 a1 a2 : Int) (_w0 : (Lit.int .i64 a0).wf = true) (_w1 : (Lit.int .i64 a1).wf = true) (_w2 : (Lit.int .i64 a2).wf = true) (w : World) :
    Calls Try.prog 12 #[.int .i64 a0, .int .i64 a1, .int .i64 a2] w fun e w' => e = .returned (.bool true) ∧ Below w.heap.size w w' := by
  have hb1 := Below.refl w.heap.size w
  go_enter Try.func12, Try.ntmps12
  go_wp2_with fail
  refine (sSerialIn_any a0 a1 a2 _).mono ?_
  rintro e w2 ⟨rfl, rfl⟩
  go_wp2_with fail
  refine (serialIn_from w a0 a1 a2 _ hb1).mono ?_
  rintro e w3 ⟨rfl, hb3⟩
  go_wp2
  go_ret
  exact ⟨rfl, hb3⟩

set_option maxHeartbeats 1000000 in
theorem walk_fnSerialLess (a0 : Option Addr) (len0 cap0 : Nat) (z0 : List Int) (w : World) (w0 : IsRow .u8 w a0 len0 cap0 z0) :
    Calls Try.prog 4 #[.slice a0 len0 cap0] w fun e w' => e = .returned (.bool true) ∧ Below w.heap.size w w' := by
  have H := Lib.hid w0
  clear w0
  by_cases hl : (1048576 : Int) < len0
  · go_enter Try.func4, Try.ntmps4
    go_wp2
    go_ret
    exact ⟨rfl, Below.refl _ _⟩
  · go_enter Try.func4, Try.ntmps4
    go_wp2_with fail
    refine (drawSerialLess_any a0 len0 cap0 z0 _ H.out).mono ?_
    rintro e w1 ⟨a, b, rfl, ⟨⟨a0', a1'⟩, b0', b1'⟩, hb1⟩
    by_cases hv : lessV a b = true
    · have G := Lib.hid (lessV_ser hv)
      have E := Lib.hid (hv)
      have E1 := Lib.hid (lessV_no (lessS_other G.out.2.2))
      have x2 : (a != b) = true := by simpa using lessS_ne G.out.2.2
      clear hv
      go_wp2_with fail
      refine (serialLess_from w a b _ hb1).mono ?_
      rintro e w2 ⟨rfl, hb2⟩
      rw [E.out]
      go_wp2_with fail
      refine (sSerialLess_any a b _).mono ?_
      rintro e w3 ⟨rfl, rfl⟩
      rw [E.out]
      go_wp2_with fail
      refine (serialLess_from w b a _ hb2).mono ?_
      rintro e w4 ⟨rfl, hb4⟩
      rw [E1.out]
      go_wp2
      go_ret
      exact ⟨rfl, hb4⟩
    · have E := Lib.hid (show lessV a b = false by simpa using hv)
      clear hv
      go_wp2_with fail
      refine (serialLess_from w a b _ hb1).mono ?_
      rintro e w2 ⟨rfl, hb2⟩
      rw [E.out]
      go_wp2_with fail
      refine (sSerialLess_any a b _).mono ?_
      rintro e w3 ⟨rfl, rfl⟩
      rw [E.out]
      go_wp2
      go_ret
      exact ⟨rfl, hb2⟩

set_option maxHeartbeats 1000000 in
theorem walk_fnSerialLessHalf (a0 : Option Addr) (len0 cap0 : Nat) (z0 : List Int) (w : World) (w0 : IsRow .u8 w a0 len0 cap0 z0) :
    Calls Try.prog 5 #[.slice a0 len0 cap0] w fun e w' => e = .returned (.bool true) ∧ Below w.heap.size w w' := by
  have H := Lib.hid w0
  clear w0
  by_cases hl : (1048576 : Int) < len0
  · go_enter Try.func5, Try.ntmps5
    go_wp2
    go_ret
    exact ⟨rfl, Below.refl _ _⟩
  · go_enter Try.func5, Try.ntmps5
    go_wp2_with fail
    refine (drawSerialLess_any a0 len0 cap0 z0 _ H.out).mono ?_
    rintro e w1 ⟨a, b, rfl, ⟨⟨a0', a1'⟩, b0', b1'⟩, hb1⟩
    by_cases ha : Ser a
    · have HA := Lib.hid ha
      clear ha
      have EI := Lib.hid (inV_self HA.out)
      by_cases hb : Ser b
      · have HB := Lib.hid hb
        clear hb
        have EJ := Lib.hid (inV_self HB.out)
        have ED := Lib.hid (diffV_yes HA.out HB.out)
        by_cases hl : LessS a b
        · have HL := Lib.hid hl
          have E := Lib.hid (lessV_yes HA.out HB.out hl)
          have x0 : (diffS a b == 0) = false := by unfold LessS at hl; simp; omega
          have x1 : (diffS a b == 32768) = false := by unfold LessS at hl; simp; omega
          clear hl
          go_wp2_with fail
          refine (serialLess_from w a b _ hb1).mono ?_
          rintro e w2 ⟨rfl, hb2⟩
          rw [E.out]
          go_wp2_with fail
          refine (sSerialLess_any a b _).mono ?_
          rintro e w3 ⟨rfl, rfl⟩
          rw [E.out]
          go_wp2_with fail
          refine (sSerialIn_any a a 1 _).mono ?_
          rintro e w4 ⟨rfl, rfl⟩
          rw [EI.out]
          go_wp2_with fail
          refine (sSerialIn_any b b 1 _).mono ?_
          rintro e w5 ⟨rfl, rfl⟩
          rw [EJ.out]
          go_wp2_with fail
          refine (serialDiff_from w a b _ hb2).mono ?_
          rintro e w6 ⟨rfl, hb6⟩
          rw [ED.out]
          go_wp2
          go_ret
          exact ⟨rfl, hb6⟩
        · have E := Lib.hid (lessV_no hl)
          by_cases hr : LessS b a
          · clear hl
            have E1 := Lib.hid (lessV_yes HB.out HA.out hr)
            have HN := Lib.hid ((lessS_none a b).2)
            have x0 : (diffS a b == 0) = false := by simp; exact fun h => (HN.out (.inl h)).2 hr
            have x1 : (diffS a b == 32768) = false := by simp; exact fun h => (HN.out (.inr h)).2 hr
            clear hr HN
            go_wp2_with fail
            refine (serialLess_from w a b _ hb1).mono ?_
            rintro e w2 ⟨rfl, hb2⟩
            rw [E.out]
            go_wp2_with fail
            refine (sSerialLess_any a b _).mono ?_
            rintro e w3 ⟨rfl, rfl⟩
            rw [E.out]
            go_wp2_with fail
            refine (sSerialIn_any a a 1 _).mono ?_
            rintro e w4 ⟨rfl, rfl⟩
            rw [EI.out]
            go_wp2_with fail
            refine (sSerialIn_any b b 1 _).mono ?_
            rintro e w5 ⟨rfl, rfl⟩
            rw [EJ.out]
            go_wp2_with fail
            refine (serialDiff_from w a b _ hb2).mono ?_
            rintro e w6 ⟨rfl, hb6⟩
            rw [ED.out]
            go_wp2_with fail
            refine (serialLess_from w b a _ hb6).mono ?_
            rintro e w7 ⟨rfl, hb7⟩
            rw [E1.out]
            go_wp2
            go_ret
            exact ⟨rfl, hb7⟩
          · have E1 := Lib.hid (lessV_no hr)
            have hn := (lessS_none a b).1 ⟨hl, hr⟩
            clear hr hl
            rcases hn with hz | hz
            · have HZ := Lib.hid (show diffV a b = 0 from ED.out.trans hz)
              clear hz
              go_wp2_with fail
              refine (serialLess_from w a b _ hb1).mono ?_
              rintro e w2 ⟨rfl, hb2⟩
              rw [E.out]
              go_wp2_with fail
              refine (sSerialLess_any a b _).mono ?_
              rintro e w3 ⟨rfl, rfl⟩
              rw [E.out]
              go_wp2_with fail
              refine (sSerialIn_any a a 1 _).mono ?_
              rintro e w4 ⟨rfl, rfl⟩
              rw [EI.out]
              go_wp2_with fail
              refine (sSerialIn_any b b 1 _).mono ?_
              rintro e w5 ⟨rfl, rfl⟩
              rw [EJ.out]
              go_wp2_with fail
              refine (serialDiff_from w a b _ hb2).mono ?_
              rintro e w6 ⟨rfl, hb6⟩
              rw [HZ.out]
              go_wp2_with fail
              refine (serialLess_from w b a _ hb6).mono ?_
              rintro e w7 ⟨rfl, hb7⟩
              rw [E1.out]
              go_wp2
              go_ret
              exact ⟨rfl, hb7⟩
            · have HZ := Lib.hid (show diffV a b = 32768 from ED.out.trans hz)
              clear hz
              go_wp2_with fail
              refine (serialLess_from w a b _ hb1).mono ?_
              rintro e w2 ⟨rfl, hb2⟩
              rw [E.out]
              go_wp2_with fail
              refine (sSerialLess_any a b _).mono ?_
              rintro e w3 ⟨rfl, rfl⟩
              rw [E.out]
              go_wp2_with fail
              refine (sSerialIn_any a a 1 _).mono ?_
              rintro e w4 ⟨rfl, rfl⟩
              rw [EI.out]
              go_wp2_with fail
              refine (sSerialIn_any b b 1 _).mono ?_
              rintro e w5 ⟨rfl, rfl⟩
              rw [EJ.out]
              go_wp2_with fail
              refine (serialDiff_from w a b _ hb2).mono ?_
              rintro e w6 ⟨rfl, hb6⟩
              rw [HZ.out]
              go_wp2_with fail
              refine (serialLess_from w b a _ hb6).mono ?_
              rintro e w7 ⟨rfl, hb7⟩
              rw [E1.out]
              go_wp2
              go_ret
              exact ⟨rfl, hb7⟩
      · have HB := Lib.hid hb
        clear hb
        have EJ := Lib.hid (inV_self_no HB.out)
        go_wp2_with fail
        refine (serialLess_from w a b _ hb1).mono ?_
        rintro e w2 ⟨rfl, hb2⟩
        go_wp2_with fail
        refine (sSerialLess_any a b _).mono ?_
        rintro e w3 ⟨rfl, rfl⟩
        go_wp2_with fail
        refine (sSerialIn_any a a 1 _).mono ?_
        rintro e w4 ⟨rfl, rfl⟩
        rw [EI.out]
        go_wp2_with fail
        refine (sSerialIn_any b b 1 _).mono ?_
        rintro e w5 ⟨rfl, rfl⟩
        rw [EJ.out]
        go_wp2
        go_ret
        exact ⟨rfl, hb2⟩
    · have HA := Lib.hid ha
      clear ha
      have EI := Lib.hid (inV_self_no HA.out)
      go_wp2_with fail
      refine (serialLess_from w a b _ hb1).mono ?_
      rintro e w2 ⟨rfl, hb2⟩
      go_wp2_with fail
      refine (sSerialLess_any a b _).mono ?_
      rintro e w3 ⟨rfl, rfl⟩
      go_wp2_with fail
      refine (sSerialIn_any a a 1 _).mono ?_
      rintro e w4 ⟨rfl, rfl⟩
      rw [EI.out]
      go_wp2
      go_ret
      exact ⟨rfl, hb2⟩

set_option maxHeartbeats 1000000 in
theorem walk_fnSerialLessAdd (a0 : Option Addr) (len0 cap0 : Nat) (z0 : List Int) (a1 : Option Addr) (len1 cap1 : Nat) (z1 : List Int) (w : World) (w0 : IsRow .u8 w a0 len0 cap0 z0) (_w1 : IsRow .u8 w a1 len1 cap1 z1) :
    Calls Try.prog 6 #[.slice a0 len0 cap0, .slice a1 len1 cap1] w fun e w' => e = .returned (.bool true) ∧ Below w.heap.size w w' := by
  have H := Lib.hid w0
  clear w0 _w1
  by_cases hl : (1048576 : Int) < len0
  · go_enter Try.func6, Try.ntmps6
    go_wp2
    go_ret
    exact ⟨rfl, Below.refl _ _⟩
  by_cases hl1 : (1048576 : Int) < len1
  · go_enter Try.func6, Try.ntmps6
    go_wp2
    go_ret
    exact ⟨rfl, Below.refl _ _⟩
  · go_enter Try.func6, Try.ntmps6
    go_wp2_with fail
    refine (drawSerialLess_any a0 len0 cap0 z0 _ H.out).mono ?_
    rintro e w1 ⟨a, b, rfl, ⟨⟨a0', a1'⟩, b0', b1'⟩, hb1⟩
    by_cases ha : Ser a
    · have HA := Lib.hid ha
      clear ha
      have EI := Lib.hid (inV_self HA.out)
      go_wp2_with fail
      refine (serialLess_from w a b _ hb1).mono ?_
      rintro e w2 ⟨rfl, hb2⟩
      go_wp2_with fail
      refine (sSerialLess_any a b _).mono ?_
      rintro e w3 ⟨rfl, rfl⟩
      go_wp2_with fail
      refine (sSerialIn_any a a 1 _).mono ?_
      rintro e w4 ⟨rfl, rfl⟩
      rw [EI.out]
      have hk : ∃ K : Nat, (len1 : Int) % 32767 = K ∧ (K : Int) < 32767 := ⟨((len1 : Int) % 32767).toNat, by omega, by omega⟩
      have HM := Lib.hid hk
      clear hk
      go_wp2_with fail
      obtain ⟨K, hK, m1⟩ := HM.out
      rw [hK]
      clear hK HM
      have k0 : (0 : Int) ≤ (K : Int) := Int.natCast_nonneg K
      have E1 := Lib.hid (addV_yes (1 + (K : Int)) HA.out)
      have E2 := Lib.hid (addV_yes (-(1 + (K : Int))) HA.out)
      have E3 := Lib.hid (lessV_yes HA.out (addS_ser a (1 + (K : Int))) (lessS_add (k := 1 + (K : Int)) (by omega) (by omega)))
      have E4 := Lib.hid (lessV_no (lessS_sub (a := a) (k := 1 + (K : Int)) (by omega) (by omega)))
      go_wp2_with fail
      refine (serialAdd_any a (1 + (K : Int)) _).mono ?_
      rintro e w5 ⟨rfl, rfl⟩
      rw [E1.out]
      go_wp2_with fail
      refine (serialLess_from w a (addS a (1 + (K : Int))) _ hb2).mono ?_
      rintro e w6 ⟨rfl, hb6⟩
      rw [E3.out]
      go_wp2_with fail
      refine (serialAdd_any a (-(1 + (K : Int))) _).mono ?_
      rintro e w7 ⟨rfl, rfl⟩
      rw [E2.out]
      go_wp2_with fail
      refine (serialLess_from w a (addS a (-(1 + (K : Int)))) _ hb6).mono ?_
      rintro e w8 ⟨rfl, hb8⟩
      rw [E4.out]
      go_wp2
      go_ret
      exact ⟨rfl, hb8⟩
    · have HA := Lib.hid ha
      clear ha
      have EI := Lib.hid (inV_self_no HA.out)
      go_wp2_with fail
      refine (serialLess_from w a b _ hb1).mono ?_
      rintro e w2 ⟨rfl, hb2⟩
      go_wp2_with fail
      refine (sSerialLess_any a b _).mono ?_
      rintro e w3 ⟨rfl, rfl⟩
      go_wp2_with fail
      refine (sSerialIn_any a a 1 _).mono ?_
      rintro e w4 ⟨rfl, rfl⟩
      rw [EI.out]
      go_wp2
      go_ret
      exact ⟨rfl, hb2⟩

set_option maxHeartbeats 1000000 in
theorem walk_fnSerialLast (a0 : Option Addr) (len0 cap0 : Nat) (z0 : List Int) (w : World) (w0 : IsRow .u8 w a0 len0 cap0 z0) :
    Calls Try.prog 8 #[.slice a0 len0 cap0] w fun e w' => e = .returned (.bool true) ∧ Below w.heap.size w w' := by
  have H := Lib.hid w0
  clear w0
  by_cases hl : (1048576 : Int) < len0
  · go_enter Try.func8, Try.ntmps8
    go_wp2
    go_ret
    exact ⟨rfl, Below.refl _ _⟩
  · go_enter Try.func8, Try.ntmps8
    go_wp2_with fail
    refine (drawSerialLast_any a0 len0 cap0 z0 _ H.out).mono ?_
    rintro e w1 ⟨a, b, rfl, ⟨⟨a0', a1'⟩, b0', b1'⟩, hb1⟩
    by_cases ha : Ser a
    · by_cases hb : Ser b
      · have y0 := ha.1
        have z0 := hb.1
        have HA := Lib.hid ha
        clear ha
        have HB := Lib.hid hb
        clear hb
        by_cases hl : LessS a b
        · have HL := Lib.hid hl
          clear hl
          have E := Lib.hid (lastV_less HA.out HB.out HL.out)
          have E1 := Lib.hid (lessV_yes HA.out HB.out HL.out)
          go_wp2_with fail
          refine (serialLast_from w a b _ hb1).mono ?_
          rintro e w2 ⟨rfl, hb2⟩
          rw [E.out]
          go_wp2_with fail
          refine (sSerialLast_any a b _).mono ?_
          rintro e w3 ⟨rfl, rfl⟩
          rw [E.out]
          go_wp2_with fail
          refine (serialLess_from w a b _ hb2).mono ?_
          rintro e w4 ⟨rfl, hb4⟩
          rw [E1.out]
          go_wp2
          go_ret
          exact ⟨rfl, hb4⟩
        · have HL := Lib.hid hl
          clear hl
          have E := Lib.hid (lastV_other HA.out HB.out HL.out)
          have E1 := Lib.hid (lessV_no HL.out)
          go_wp2_with fail
          refine (serialLast_from w a b _ hb1).mono ?_
          rintro e w2 ⟨rfl, hb2⟩
          rw [E.out]
          go_wp2_with fail
          refine (sSerialLast_any a b _).mono ?_
          rintro e w3 ⟨rfl, rfl⟩
          rw [E.out]
          go_wp2_with fail
          refine (serialLess_from w a b _ hb2).mono ?_
          rintro e w4 ⟨rfl, hb4⟩
          rw [E1.out]
          go_wp2
          go_ret
          exact ⟨rfl, hb4⟩
      · clear ha
        have E := Lib.hid (lastV_right a hb)
        clear hb
        go_wp2_with fail
        refine (serialLast_from w a b _ hb1).mono ?_
        rintro e w2 ⟨rfl, hb2⟩
        rw [E.out]
        go_wp2_with fail
        refine (sSerialLast_any a b _).mono ?_
        rintro e w3 ⟨rfl, rfl⟩
        rw [E.out]
        go_wp2
        go_ret
        exact ⟨rfl, hb2⟩
    · have E := Lib.hid (lastV_left b ha)
      clear ha
      go_wp2_with fail
      refine (serialLast_from w a b _ hb1).mono ?_
      rintro e w2 ⟨rfl, hb2⟩
      rw [E.out]
      go_wp2_with fail
      refine (sSerialLast_any a b _).mono ?_
      rintro e w3 ⟨rfl, rfl⟩
      rw [E.out]
      go_wp2
      go_ret
      exact ⟨rfl, hb2⟩

set_option maxHeartbeats 1000000 in
theorem walk_fnSerialIn (a0 : Option Addr) (len0 cap0 : Nat) (z0 : List Int) (w : World) (w0 : IsRow .u8 w a0 len0 cap0 z0) :
    Calls Try.prog 10 #[.slice a0 len0 cap0] w fun e w' => e = .returned (.bool true) ∧ Below w.heap.size w w' := by
  have H := Lib.hid w0
  clear w0
  by_cases hl : (1048576 : Int) < len0
  · go_enter Try.func10, Try.ntmps10
    go_wp2
    go_ret
    exact ⟨rfl, Below.refl _ _⟩
  · go_enter Try.func10, Try.ntmps10
    go_wp2_with fail
    refine (drawSerialIn_any a0 len0 cap0 z0 _ H.out).mono ?_
    rintro e w1 ⟨x, y, m, rfl, ⟨⟨x0', x1'⟩, ⟨y0', y1'⟩, m0', m1'⟩, hb1⟩
    by_cases hx : Ser x
    · have HX := Lib.hid hx
      clear hx
      have EI := Lib.hid (inV_self HX.out)
      by_cases hy : Ser y
      · have HY := Lib.hid hy
        clear hy
        have EJ := Lib.hid (inV_self HY.out)
        by_cases hm0 : m < 0
        · go_wp2_with fail
          refine (serialIn_from w x y m _ hb1).mono ?_
          rintro e w2 ⟨rfl, hb2⟩
          go_wp2_with fail
          refine (sSerialIn_any x y m _).mono ?_
          rintro e w3 ⟨rfl, rfl⟩
          go_wp2_with fail
          refine (sSerialIn_any x x 1 _).mono ?_
          rintro e w4 ⟨rfl, rfl⟩
          rw [EI.out]
          go_wp2_with fail
          refine (sSerialIn_any y y 1 _).mono ?_
          rintro e w5 ⟨rfl, rfl⟩
          rw [EJ.out]
          go_wp2
          go_ret
          exact ⟨rfl, hb2⟩
        · by_cases hm1 : 32768 < m
          · go_wp2_with fail
            refine (serialIn_from w x y m _ hb1).mono ?_
            rintro e w2 ⟨rfl, hb2⟩
            go_wp2_with fail
            refine (sSerialIn_any x y m _).mono ?_
            rintro e w3 ⟨rfl, rfl⟩
            go_wp2_with fail
            refine (sSerialIn_any x x 1 _).mono ?_
            rintro e w4 ⟨rfl, rfl⟩
            rw [EI.out]
            go_wp2_with fail
            refine (sSerialIn_any y y 1 _).mono ?_
            rintro e w5 ⟨rfl, rfl⟩
            rw [EJ.out]
            go_wp2
            go_ret
            exact ⟨rfl, hb2⟩
          · have EV := Lib.hid (inV_diff (n := x) (a := y) (m := m) ⟨by omega, by omega⟩)
            by_cases hd : 0 ≤ diffV y x
            · have E := Lib.hid (show inV x y m = decide (diffV y x < m) by rw [EV.out, decide_eq_true hd, Bool.true_and])
              clear EV
              go_wp2_with fail
              refine (serialIn_from w x y m _ hb1).mono ?_
              rintro e w2 ⟨rfl, hb2⟩
              rw [E.out]
              go_wp2_with fail
              refine (sSerialIn_any x y m _).mono ?_
              rintro e w3 ⟨rfl, rfl⟩
              rw [E.out]
              go_wp2_with fail
              refine (sSerialIn_any x x 1 _).mono ?_
              rintro e w4 ⟨rfl, rfl⟩
              rw [EI.out]
              go_wp2_with fail
              refine (sSerialIn_any y y 1 _).mono ?_
              rintro e w5 ⟨rfl, rfl⟩
              rw [EJ.out]
              go_wp2_with fail
              refine (serialDiff_from w y x _ hb2).mono ?_
              rintro e w6 ⟨rfl, hb6⟩
              go_wp2
              go_ret
              exact ⟨rfl, hb6⟩
            · have E := Lib.hid (show inV x y m = false by rw [EV.out, decide_eq_false hd, Bool.false_and])
              clear EV
              go_wp2_with fail
              refine (serialIn_from w x y m _ hb1).mono ?_
              rintro e w2 ⟨rfl, hb2⟩
              rw [E.out]
              go_wp2_with fail
              refine (sSerialIn_any x y m _).mono ?_
              rintro e w3 ⟨rfl, rfl⟩
              rw [E.out]
              go_wp2_with fail
              refine (sSerialIn_any x x 1 _).mono ?_
              rintro e w4 ⟨rfl, rfl⟩
              rw [EI.out]
              go_wp2_with fail
              refine (sSerialIn_any y y 1 _).mono ?_
              rintro e w5 ⟨rfl, rfl⟩
              rw [EJ.out]
              go_wp2_with fail
              refine (serialDiff_from w y x _ hb2).mono ?_
              rintro e w6 ⟨rfl, hb6⟩
              go_wp2
              go_ret
              exact ⟨rfl, hb6⟩
      · have HY := Lib.hid hy
        clear hy
        have EJ := Lib.hid (inV_self_no HY.out)
        go_wp2_with fail
        refine (serialIn_from w x y m _ hb1).mono ?_
        rintro e w2 ⟨rfl, hb2⟩
        go_wp2_with fail
        refine (sSerialIn_any x y m _).mono ?_
        rintro e w3 ⟨rfl, rfl⟩
        go_wp2_with fail
        refine (sSerialIn_any x x 1 _).mono ?_
        rintro e w4 ⟨rfl, rfl⟩
        rw [EI.out]
        go_wp2_with fail
        refine (sSerialIn_any y y 1 _).mono ?_
        rintro e w5 ⟨rfl, rfl⟩
        rw [EJ.out]
        go_wp2
        go_ret
        exact ⟨rfl, hb2⟩
    · have HX := Lib.hid hx
      clear hx
      have EI := Lib.hid (inV_self_no HX.out)
      go_wp2_with fail
      refine (serialIn_from w x y m _ hb1).mono ?_
      rintro e w2 ⟨rfl, hb2⟩
      go_wp2_with fail
      refine (sSerialIn_any x y m _).mono ?_
      rintro e w3 ⟨rfl, rfl⟩
      go_wp2_with fail
      refine (sSerialIn_any x x 1 _).mono ?_
      rintro e w4 ⟨rfl, rfl⟩
      rw [EI.out]
      go_wp2
      go_ret
      exact ⟨rfl, hb2⟩

set_option maxHeartbeats 1000000 in
theorem walk_fnSerialInEnds (a0 : Option Addr) (len0 cap0 : Nat) (z0 : List Int) (w : World) (w0 : IsRow .u8 w a0 len0 cap0 z0) :
    Calls Try.prog 11 #[.slice a0 len0 cap0] w fun e w' => e = .returned (.bool true) ∧ Below w.heap.size w w' := by
  have H := Lib.hid w0
  clear w0
  by_cases hl : (1048576 : Int) < len0
  · go_enter Try.func11, Try.ntmps11
    go_wp2
    go_ret
    exact ⟨rfl, Below.refl _ _⟩
  · go_enter Try.func11, Try.ntmps11
    go_wp2_with fail
    refine (drawSerialIn_any a0 len0 cap0 z0 _ H.out).mono ?_
    rintro e w1 ⟨x, y, m, rfl, ⟨⟨x0', x1'⟩, ⟨y0', y1'⟩, m0', m1'⟩, hb1⟩
    by_cases hv : inV x y m = true
    · have G := Lib.hid (show InS x y m from of_decide_eq_true hv)
      have E := Lib.hid (hv)
      have E1 := Lib.hid (inV_yes (inS_first G.out))
      have E2 := Lib.hid (inV_no (inS_end G.out))
      have E3 := Lib.hid (inV_yes (inS_last G.out))
      have A1 := Lib.hid (addV_yes m G.out.2.1)
      have A2 := Lib.hid (addV_yes (m - 1) G.out.2.1)
      clear hv
      go_wp2_with fail
      refine (serialIn_from w x y m _ hb1).mono ?_
      rintro e w2 ⟨rfl, hb2⟩
      rw [E.out]
      go_wp2_with fail
      refine (sSerialIn_any x y m _).mono ?_
      rintro e w3 ⟨rfl, rfl⟩
      rw [E.out]
      go_wp2_with fail
      refine (serialIn_from w y y m _ hb2).mono ?_
      rintro e w4 ⟨rfl, hb4⟩
      rw [E1.out]
      go_wp2_with fail
      refine (serialAdd_any y m _).mono ?_
      rintro e w5 ⟨rfl, rfl⟩
      rw [A1.out]
      go_wp2_with fail
      refine (serialIn_from w (addS y m) y m _ hb4).mono ?_
      rintro e w6 ⟨rfl, hb6⟩
      rw [E2.out]
      go_wp2_with fail
      refine (serialAdd_any y (m - 1) _).mono ?_
      rintro e w7 ⟨rfl, rfl⟩
      rw [A2.out]
      go_wp2_with fail
      refine (serialIn_from w (addS y (m - 1)) y m _ hb6).mono ?_
      rintro e w8 ⟨rfl, hb8⟩
      rw [E3.out]
      go_wp2
      go_ret
      exact ⟨rfl, hb8⟩
    · have E := Lib.hid (show inV x y m = false by simpa using hv)
      clear hv
      go_wp2_with fail
      refine (serialIn_from w x y m _ hb1).mono ?_
      rintro e w2 ⟨rfl, hb2⟩
      rw [E.out]
      go_wp2_with fail
      refine (sSerialIn_any x y m _).mono ?_
      rintro e w3 ⟨rfl, rfl⟩
      rw [E.out]
      go_wp2
      go_ret
      exact ⟨rfl, hb2⟩

end Go.Proofs.Ytbbfppjokmipeab
