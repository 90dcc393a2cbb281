/- The walks of the laws on steps and differences: each call returns true and touches nothing that was there. -/
import Derived.Test.YtbbfppjokmipeaaK11
import Derived.Test.YtbbfppjokmipeaaK12
namespace Go.Proofs.Ytbbfppjokmipeaa
open Go.RowKit Go.PlainAid

theorem serialDiff_from (w0 : World) (a b : Int) (w : World) (hw : Below w0.heap.size w0 w) :
    Calls Try.prog 17 #[.int .i64 a, .int .i64 b] w fun e w' => e = .returned (.int .i64 (diffV a b)) ∧ Below w0.heap.size w0 w' := by
  refine (serialDiff_any a b w).mono ?_
  rintro e w' ⟨rfl, hb⟩
  exact ⟨rfl, hw.trans (hb.mono hw.size)⟩

theorem addV_more (a n : Int) : addV a (n + 65536) = addV a n := by
  unfold addV
  rw [addS_more]
theorem addV_fewer (a n : Int) : addV a (n - 65536) = addV a n := by
  unfold addV
  rw [addS_fewer]

set_option maxHeartbeats 1000000 in
theorem walk_fnSerialAdd (a0 : Option Addr) (len0 cap0 : Nat) (z0 : List Int) (w : World) (w0 : IsRow .u8 w a0 len0 cap0 z0) :
    Calls Try.prog 3 #[.slice a0 len0 cap0] w fun e w' => e = .returned (.bool true) ∧ Below w.heap.size w w' := by
  have H := Lib.hid w0
  clear w0
  by_cases hl : (1048576 : Int) < len0
  · go_enter Try.func3, Try.ntmps3
    go_wp2
    go_ret
    exact ⟨rfl, Below.refl _ _⟩
  · go_enter Try.func3, Try.ntmps3
    go_wp2_with fail
    refine (drawSerialAdd_any a0 len0 cap0 z0 _ H.out).mono ?_
    rintro e w1 ⟨a, n, rfl, ⟨⟨a0', a1'⟩, n0, n1⟩, hb1⟩
    by_cases h : Ser a
    · have HA := Lib.hid h
      clear h
      obtain ⟨x0, x1⟩ := addS_ser a n
      have E := Lib.hid (addV_yes n HA.out)
      have E2 := Lib.hid ((addV_yes (-n) (addS_ser a n)).trans (addS_back n HA.out))
      go_wp2_with fail
      refine (serialAdd_any a n _).mono ?_
      rintro e w2 ⟨rfl, rfl⟩
      rw [E.out]
      go_wp2_with fail
      refine (sSerialAdd_any a n _).mono ?_
      rintro e w3 ⟨rfl, rfl⟩
      rw [E.out]
      go_wp2_with fail
      refine (serialAdd_any (addS a n) (-n) _).mono ?_
      rintro e w4 ⟨rfl, rfl⟩
      rw [E2.out]
      go_wp2
      go_ret
      exact ⟨rfl, hb1⟩
    · have HA := Lib.hid h
      clear h
      have E := Lib.hid (addV_no n HA.out)
      go_wp2_with fail
      refine (serialAdd_any a n _).mono ?_
      rintro e w2 ⟨rfl, rfl⟩
      rw [E.out]
      go_wp2_with fail
      refine (sSerialAdd_any a n _).mono ?_
      rintro e w3 ⟨rfl, rfl⟩
      rw [E.out]
      go_wp2
      go_ret
      exact ⟨rfl, hb1⟩

set_option maxHeartbeats 1000000 in
theorem walk_fnSerialAddSize (a0 : Option Addr) (len0 cap0 : Nat) (z0 : List Int) (w : World) (w0 : IsRow .u8 w a0 len0 cap0 z0) :
    Calls Try.prog 4 #[.slice a0 len0 cap0] w fun e w' => e = .returned (.bool true) ∧ Below w.heap.size w w' := by
  have H := Lib.hid w0
  clear w0
  by_cases hl : (1048576 : Int) < len0
  · go_enter Try.func4, Try.ntmps4
    go_wp2
    go_ret
    exact ⟨rfl, Below.refl _ _⟩
  · go_enter Try.func4, Try.ntmps4
    go_wp2_with fail
    refine (drawSerialAdd_any a0 len0 cap0 z0 _ H.out).mono ?_
    rintro e w1 ⟨a, n, rfl, ⟨⟨a0', a1'⟩, n0, n1⟩, hb1⟩
    have E1 := Lib.hid (addV_more a n)
    have E2 := Lib.hid (addV_fewer a n)
    go_wp2_with fail
    refine (serialAdd_any a n _).mono ?_
    rintro e w2 ⟨rfl, rfl⟩
    go_wp2_with fail
    refine (sSerialAdd_any a n _).mono ?_
    rintro e w3 ⟨rfl, rfl⟩
    go_wp2_with fail
    refine (serialAdd_any a (n + 65536) _).mono ?_
    rintro e w4 ⟨rfl, rfl⟩
    rw [E1.out]
    go_wp2_with fail
    refine (serialAdd_any a (n - 65536) _).mono ?_
    rintro e w5 ⟨rfl, rfl⟩
    rw [E2.out]
    go_wp2
    go_ret
    exact ⟨rfl, hb1⟩

set_option maxHeartbeats 1000000 in
theorem walk_fnSerialAddSum (a0 : Option Addr) (len0 cap0 : Nat) (z0 : List Int) (a1 : Option Addr) (len1 cap1 : Nat) (z1 : List Int) (w : World) (w0 : IsRow .u8 w a0 len0 cap0 z0) (_w1 : IsRow .u8 w a1 len1 cap1 z1) :
    Calls Try.prog 5 #[.slice a0 len0 cap0, .slice a1 len1 cap1] w fun e w' => e = .returned (.bool true) ∧ Below w.heap.size w w' := by
  have H := Lib.hid w0
  clear w0 _w1
  by_cases hl : (1048576 : Int) < len0
  · go_enter Try.func5, Try.ntmps5
    go_wp2
    go_ret
    exact ⟨rfl, Below.refl _ _⟩
  by_cases hl1 : (1048576 : Int) < len1
  · go_enter Try.func5, Try.ntmps5
    go_wp2
    go_ret
    exact ⟨rfl, Below.refl _ _⟩
  · go_enter Try.func5, Try.ntmps5
    go_wp2_with fail
    refine (drawSerialAdd_any a0 len0 cap0 z0 _ H.out).mono ?_
    rintro e w1 ⟨a, n, rfl, ⟨⟨a0', a1'⟩, n0, n1⟩, hb1⟩
    by_cases h : Ser a
    · have HA := Lib.hid h
      clear h
      obtain ⟨x0, x1⟩ := addS_ser a n
      have E := Lib.hid (addV_yes n HA.out)
      go_wp2_with fail
      refine (serialAdd_any a n _).mono ?_
      rintro e w2 ⟨rfl, rfl⟩
      rw [E.out]
      go_wp2_with fail
      refine (sSerialAdd_any a n _).mono ?_
      rintro e w3 ⟨rfl, rfl⟩
      rw [E.out]
      have hk : ∃ K : Nat, (len1 : Int) % 1000 = K ∧ (K : Int) < 1000 := ⟨((len1 : Int) % 1000).toNat, by omega, by omega⟩
      have HM := Lib.hid hk
      clear hk
      go_wp2_with fail
      obtain ⟨K, hK, m1⟩ := HM.out
      rw [hK]
      clear hK HM
      have k0 : (0 : Int) ≤ (K : Int) := Int.natCast_nonneg K
      have E1 := Lib.hid ((addV_yes (K : Int) (addS_ser a n)).trans (addS_sum a n K))
      have E2 := Lib.hid (addV_yes (n + (K : Int)) HA.out)
      go_wp2_with fail
      refine (serialAdd_any (addS a n) (K : Int) _).mono ?_
      rintro e w4 ⟨rfl, rfl⟩
      rw [E1.out]
      go_wp2_with fail
      refine (serialAdd_any a (n + (K : Int)) _).mono ?_
      rintro e w5 ⟨rfl, rfl⟩
      rw [E2.out]
      go_wp2
      go_ret
      exact ⟨rfl, hb1⟩
    · have HA := Lib.hid h
      clear h
      have E := Lib.hid (addV_no n HA.out)
      go_wp2_with fail
      refine (serialAdd_any a n _).mono ?_
      rintro e w2 ⟨rfl, rfl⟩
      rw [E.out]
      go_wp2_with fail
      refine (sSerialAdd_any a n _).mono ?_
      rintro e w3 ⟨rfl, rfl⟩
      rw [E.out]
      go_wp2
      go_ret
      exact ⟨rfl, hb1⟩

set_option maxHeartbeats 1000000 in
theorem walk_fnSerialAddBad (a0 : Option Addr) (len0 cap0 : Nat) (z0 : List Int) (w : World) (w0 : IsRow .u8 w a0 len0 cap0 z0) :
    Calls Try.prog 6 #[.slice a0 len0 cap0] w fun e w' => e = .returned (.bool true) ∧ Below w.heap.size w w' := by
  have H := Lib.hid w0
  clear w0
  by_cases hl : (1048576 : Int) < len0
  · go_enter Try.func6, Try.ntmps6
    go_wp2
    go_ret
    exact ⟨rfl, Below.refl _ _⟩
  · go_enter Try.func6, Try.ntmps6
    go_wp2_with fail
    refine (drawSerialAdd_any a0 len0 cap0 z0 _ H.out).mono ?_
    rintro e w1 ⟨a, n, rfl, ⟨⟨a0', a1'⟩, n0, n1⟩, hb1⟩
    by_cases h : Ser a
    · obtain ⟨g0, g1⟩ := h
      have HA := Lib.hid (show Ser a from ⟨g0, g1⟩)
      obtain ⟨x0, x1⟩ := addS_ser a n
      have E := Lib.hid (addV_yes n HA.out)
      have x2 : (addS a n == -1) = false := by simp; omega
      have d0 : decide (a < 0) = false := decide_eq_false (by omega)
      have d1 : decide (65536 ≤ a) = false := decide_eq_false (by omega)
      go_wp2_with fail
      refine (serialAdd_any a n _).mono ?_
      rintro e w2 ⟨rfl, rfl⟩
      rw [E.out]
      go_wp2_with fail
      refine (sSerialAdd_any a n _).mono ?_
      rintro e w3 ⟨rfl, rfl⟩
      rw [E.out]
      go_wp2
      go_ret
      exact ⟨rfl, hb1⟩
    · have E := Lib.hid (addV_no n h)
      unfold Ser at h
      by_cases h0 : a < 0
      · clear h
        go_wp2_with fail
        refine (serialAdd_any a n _).mono ?_
        rintro e w2 ⟨rfl, rfl⟩
        rw [E.out]
        go_wp2_with fail
        refine (sSerialAdd_any a n _).mono ?_
        rintro e w3 ⟨rfl, rfl⟩
        rw [E.out]
        go_wp2
        go_ret
        exact ⟨rfl, hb1⟩
      · have h1 : 65536 ≤ a := by omega
        clear h
        go_wp2_with fail
        refine (serialAdd_any a n _).mono ?_
        rintro e w2 ⟨rfl, rfl⟩
        rw [E.out]
        go_wp2_with fail
        refine (sSerialAdd_any a n _).mono ?_
        rintro e w3 ⟨rfl, rfl⟩
        rw [E.out]
        go_wp2
        go_ret
        exact ⟨rfl, hb1⟩

set_option maxHeartbeats 1000000 in
theorem walk_fnSerialDiff (a0 : Option Addr) (len0 cap0 : Nat) (z0 : List Int) (w : World) (w0 : IsRow .u8 w a0 len0 cap0 z0) :
    Calls Try.prog 8 #[.slice a0 len0 cap0] w fun e w' => e = .returned (.bool true) ∧ Below w.heap.size w w' := by
  have H := Lib.hid w0
  clear w0
  by_cases hl : (1048576 : Int) < len0
  · go_enter Try.func8, Try.ntmps8
    go_wp2
    go_ret
    exact ⟨rfl, Below.refl _ _⟩
  · go_enter Try.func8, Try.ntmps8
    go_wp2_with fail
    refine (drawSerialDiff_any a0 len0 cap0 z0 _ H.out).mono ?_
    rintro e w1 ⟨a, b, rfl, ⟨⟨a0', a1'⟩, b0', b1'⟩, hb1⟩
    by_cases ha : Ser a
    · have HA := Lib.hid ha
      clear ha
      have EI := Lib.hid (inV_self HA.out)
      by_cases hb : Ser b
      · have HB := Lib.hid hb
        clear hb
        have EJ := Lib.hid (inV_self HB.out)
        have E := Lib.hid (diffV_yes HA.out HB.out)
        obtain ⟨x0, x1⟩ := diffS_range a b
        have E2 := Lib.hid ((addV_yes (diffS a b) HA.out).trans (diffS_leads a HB.out))
        go_wp2_with fail
        refine (serialDiff_from w a b _ hb1).mono ?_
        rintro e w2 ⟨rfl, hb2⟩
        rw [E.out]
        go_wp2_with fail
        refine (sSerialDiff_any a b _).mono ?_
        rintro e w3 ⟨rfl, rfl⟩
        rw [E.out]
        go_wp2_with fail
        refine (sSerialIn_any a a 1 _).mono ?_
        rintro e w4 ⟨rfl, rfl⟩
        rw [EI.out]
        go_wp2_with fail
        refine (sSerialIn_any b b 1 _).mono ?_
        rintro e w5 ⟨rfl, rfl⟩
        rw [EJ.out]
        go_wp2_with fail
        refine (serialAdd_any a (diffS a b) _).mono ?_
        rintro e w6 ⟨rfl, rfl⟩
        rw [E2.out]
        go_wp2
        go_ret
        exact ⟨rfl, hb2⟩
      · have HB := Lib.hid hb
        clear hb
        have EJ := Lib.hid (inV_self_no HB.out)
        go_wp2_with fail
        refine (serialDiff_from w a b _ hb1).mono ?_
        rintro e w2 ⟨rfl, hb2⟩
        go_wp2_with fail
        refine (sSerialDiff_any a b _).mono ?_
        rintro e w3 ⟨rfl, rfl⟩
        go_wp2_with fail
        refine (sSerialIn_any a a 1 _).mono ?_
        rintro e w4 ⟨rfl, rfl⟩
        rw [EI.out]
        go_wp2_with fail
        refine (sSerialIn_any b b 1 _).mono ?_
        rintro e w5 ⟨rfl, rfl⟩
        rw [EJ.out]
        go_wp2
        go_ret
        exact ⟨rfl, hb2⟩
    · have HA := Lib.hid ha
      clear ha
      have EI := Lib.hid (inV_self_no HA.out)
      go_wp2_with fail
      refine (serialDiff_from w a b _ hb1).mono ?_
      rintro e w2 ⟨rfl, hb2⟩
      go_wp2_with fail
      refine (sSerialDiff_any a b _).mono ?_
      rintro e w3 ⟨rfl, rfl⟩
      go_wp2_with fail
      refine (sSerialIn_any a a 1 _).mono ?_
      rintro e w4 ⟨rfl, rfl⟩
      rw [EI.out]
      go_wp2
      go_ret
      exact ⟨rfl, hb2⟩

set_option maxHeartbeats 1000000 in
theorem walk_fnSerialDiffBack (a0 : Option Addr) (len0 cap0 : Nat) (z0 : List Int) (w : World) (w0 : IsRow .u8 w a0 len0 cap0 z0) :
    Calls Try.prog 9 #[.slice a0 len0 cap0] w fun e w' => e = .returned (.bool true) ∧ Below w.heap.size w w' := by
  have H := Lib.hid w0
  clear w0
  by_cases hl : (1048576 : Int) < len0
  · go_enter Try.func9, Try.ntmps9
    go_wp2
    go_ret
    exact ⟨rfl, Below.refl _ _⟩
  · go_enter Try.func9, Try.ntmps9
    go_wp2_with fail
    refine (drawSerialDiff_any a0 len0 cap0 z0 _ H.out).mono ?_
    rintro e w1 ⟨a, b, rfl, ⟨⟨a0', a1'⟩, b0', b1'⟩, hb1⟩
    by_cases ha : Ser a
    · have HA := Lib.hid ha
      clear ha
      have EI := Lib.hid (inV_self HA.out)
      by_cases hb : Ser b
      · have HB := Lib.hid hb
        clear hb
        have EJ := Lib.hid (inV_self HB.out)
        have E := Lib.hid (diffV_yes HA.out HB.out)
        by_cases hc : diffS a b = 32768
        · have HC := Lib.hid hc
          have E1 := Lib.hid ((diffV_yes HB.out HA.out).trans (diffS_half HC.out))
          have E3 := Lib.hid (E.out.trans HC.out)
          clear hc
          go_wp2_with fail
          refine (serialDiff_from w a b _ hb1).mono ?_
          rintro e w2 ⟨rfl, hb2⟩
          rw [E3.out]
          go_wp2_with fail
          refine (sSerialDiff_any a b _).mono ?_
          rintro e w3 ⟨rfl, rfl⟩
          rw [E3.out]
          go_wp2_with fail
          refine (sSerialIn_any a a 1 _).mono ?_
          rintro e w4 ⟨rfl, rfl⟩
          rw [EI.out]
          go_wp2_with fail
          refine (sSerialIn_any b b 1 _).mono ?_
          rintro e w5 ⟨rfl, rfl⟩
          rw [EJ.out]
          go_wp2_with fail
          refine (serialDiff_from w b a _ hb2).mono ?_
          rintro e w6 ⟨rfl, hb6⟩
          rw [E1.out]
          go_wp2
          go_ret
          exact ⟨rfl, hb6⟩
        · have x2 : (diffS a b == 32768) = false := by simp; omega
          obtain ⟨x0, x1⟩ := diffS_range a b
          have E1 := Lib.hid ((diffV_yes HB.out HA.out).trans (diffS_back hc))
          clear hc
          go_wp2_with fail
          refine (serialDiff_from w a b _ hb1).mono ?_
          rintro e w2 ⟨rfl, hb2⟩
          rw [E.out]
          go_wp2_with fail
          refine (sSerialDiff_any a b _).mono ?_
          rintro e w3 ⟨rfl, rfl⟩
          rw [E.out]
          go_wp2_with fail
          refine (sSerialIn_any a a 1 _).mono ?_
          rintro e w4 ⟨rfl, rfl⟩
          rw [EI.out]
          go_wp2_with fail
          refine (sSerialIn_any b b 1 _).mono ?_
          rintro e w5 ⟨rfl, rfl⟩
          rw [EJ.out]
          go_wp2_with fail
          refine (serialDiff_from w b a _ hb2).mono ?_
          rintro e w6 ⟨rfl, hb6⟩
          rw [E1.out]
          go_wp2
          go_ret
          exact ⟨rfl, hb6⟩
      · have HB := Lib.hid hb
        clear hb
        have EJ := Lib.hid (inV_self_no HB.out)
        go_wp2_with fail
        refine (serialDiff_from w a b _ hb1).mono ?_
        rintro e w2 ⟨rfl, hb2⟩
        go_wp2_with fail
        refine (sSerialDiff_any a b _).mono ?_
        rintro e w3 ⟨rfl, rfl⟩
        go_wp2_with fail
        refine (sSerialIn_any a a 1 _).mono ?_
        rintro e w4 ⟨rfl, rfl⟩
        rw [EI.out]
        go_wp2_with fail
        refine (sSerialIn_any b b 1 _).mono ?_
        rintro e w5 ⟨rfl, rfl⟩
        rw [EJ.out]
        go_wp2
        go_ret
        exact ⟨rfl, hb2⟩
    · have HA := Lib.hid ha
      clear ha
      have EI := Lib.hid (inV_self_no HA.out)
      go_wp2_with fail
      refine (serialDiff_from w a b _ hb1).mono ?_
      rintro e w2 ⟨rfl, hb2⟩
      go_wp2_with fail
      refine (sSerialDiff_any a b _).mono ?_
      rintro e w3 ⟨rfl, rfl⟩
      go_wp2_with fail
      refine (sSerialIn_any a a 1 _).mono ?_
      rintro e w4 ⟨rfl, rfl⟩
      rw [EI.out]
      go_wp2
      go_ret
      exact ⟨rfl, hb2⟩

set_option maxHeartbeats 1000000 in
theorem walk_fnSerialDiffAdd (a0 : Option Addr) (len0 cap0 : Nat) (z0 : List Int) (a1 : Option Addr) (len1 cap1 : Nat) (z1 : List Int) (w : World) (w0 : IsRow .u8 w a0 len0 cap0 z0) (_w1 : IsRow .u8 w a1 len1 cap1 z1) :
    Calls Try.prog 10 #[.slice a0 len0 cap0, .slice a1 len1 cap1] w fun e w' => e = .returned (.bool true) ∧ Below w.heap.size w w' := by
  have H := Lib.hid w0
  clear w0 _w1
  by_cases hl : (1048576 : Int) < len0
  · go_enter Try.func10, Try.ntmps10
    go_wp2
    go_ret
    exact ⟨rfl, Below.refl _ _⟩
  by_cases hl1 : (1048576 : Int) < len1
  · go_enter Try.func10, Try.ntmps10
    go_wp2
    go_ret
    exact ⟨rfl, Below.refl _ _⟩
  · go_enter Try.func10, Try.ntmps10
    go_wp2_with fail
    refine (drawSerialDiff_any a0 len0 cap0 z0 _ H.out).mono ?_
    rintro e w1 ⟨a, b, rfl, ⟨⟨a0', a1'⟩, b0', b1'⟩, hb1⟩
    by_cases ha : Ser a
    · have HA := Lib.hid ha
      clear ha
      have EI := Lib.hid (inV_self HA.out)
      go_wp2_with fail
      refine (serialDiff_from w a b _ hb1).mono ?_
      rintro e w2 ⟨rfl, hb2⟩
      go_wp2_with fail
      refine (sSerialDiff_any a b _).mono ?_
      rintro e w3 ⟨rfl, rfl⟩
      go_wp2_with fail
      refine (sSerialIn_any a a 1 _).mono ?_
      rintro e w4 ⟨rfl, rfl⟩
      rw [EI.out]
      have hk : ∃ K : Nat, (len1 : Int) % 32768 = K ∧ (K : Int) < 32768 := ⟨((len1 : Int) % 32768).toNat, by omega, by omega⟩
      have HM := Lib.hid hk
      clear hk
      go_wp2_with fail
      obtain ⟨K, hK, m1⟩ := HM.out
      rw [hK]
      clear hK HM
      have k0 : (0 : Int) ≤ (K : Int) := Int.natCast_nonneg K
      have E1 := Lib.hid (addV_yes (K : Int) HA.out)
      have E2 := Lib.hid (addV_yes (-(K : Int)) HA.out)
      have E3 := Lib.hid ((diffV_yes HA.out (addS_ser a K)).trans (diffS_add k0 m1))
      have E4 := Lib.hid ((diffV_yes HA.out (addS_ser a (-(K : Int)))).trans (diffS_sub k0 m1))
      go_wp2_with fail
      refine (serialAdd_any a (K : Int) _).mono ?_
      rintro e w5 ⟨rfl, rfl⟩
      rw [E1.out]
      go_wp2_with fail
      refine (serialDiff_from w a (addS a K) _ hb2).mono ?_
      rintro e w6 ⟨rfl, hb6⟩
      rw [E3.out]
      go_wp2_with fail
      refine (serialAdd_any a (-(K : Int)) _).mono ?_
      rintro e w7 ⟨rfl, rfl⟩
      rw [E2.out]
      go_wp2_with fail
      refine (serialDiff_from w a (addS a (-(K : Int))) _ hb6).mono ?_
      rintro e w8 ⟨rfl, hb8⟩
      rw [E4.out]
      go_wp2
      go_ret
      exact ⟨rfl, hb8⟩
    · have HA := Lib.hid ha
      clear ha
      have EI := Lib.hid (inV_self_no HA.out)
      go_wp2_with fail
      refine (serialDiff_from w a b _ hb1).mono ?_
      rintro e w2 ⟨rfl, hb2⟩
      go_wp2_with fail
      refine (sSerialDiff_any a b _).mono ?_
      rintro e w3 ⟨rfl, rfl⟩
      go_wp2_with fail
      refine (sSerialIn_any a a 1 _).mono ?_
      rintro e w4 ⟨rfl, rfl⟩
      rw [EI.out]
      go_wp2
      go_ret
      exact ⟨rfl, hb2⟩

set_option maxHeartbeats 1000000 in
theorem walk_fnSerialDiffMove (a0 : Option Addr) (len0 cap0 : Nat) (z0 : List Int) (a1 : Option Addr) (len1 cap1 : Nat) (z1 : List Int) (w : World) (w0 : IsRow .u8 w a0 len0 cap0 z0) (_w1 : IsRow .u8 w a1 len1 cap1 z1) :
    Calls Try.prog 11 #[.slice a0 len0 cap0, .slice a1 len1 cap1] w fun e w' => e = .returned (.bool true) ∧ Below w.heap.size w w' := by
  have H := Lib.hid w0
  clear w0 _w1
  by_cases hl : (1048576 : Int) < len0
  · go_enter Try.func11, Try.ntmps11
    go_wp2
    go_ret
    exact ⟨rfl, Below.refl _ _⟩
  by_cases hl1 : (1048576 : Int) < len1
  · go_enter Try.func11, Try.ntmps11
    go_wp2
    go_ret
    exact ⟨rfl, Below.refl _ _⟩
  · go_enter Try.func11, Try.ntmps11
    go_wp2_with fail
    refine (drawSerialDiff_any a0 len0 cap0 z0 _ H.out).mono ?_
    rintro e w1 ⟨a, b, rfl, ⟨⟨a0', a1'⟩, b0', b1'⟩, hb1⟩
    by_cases ha : Ser a
    · have HA := Lib.hid ha
      clear ha
      have EI := Lib.hid (inV_self HA.out)
      by_cases hb : Ser b
      · have HB := Lib.hid hb
        clear hb
        have EJ := Lib.hid (inV_self HB.out)
        have E := Lib.hid (diffV_yes HA.out HB.out)
        have E1 := Lib.hid (addV_yes ((len1 : Int) * 37 + 1) HA.out)
        have E2 := Lib.hid (addV_yes ((len1 : Int) * 37 + 1) HB.out)
        have E3 := Lib.hid ((diffV_yes (addS_ser a ((len1 : Int) * 37 + 1)) (addS_ser b ((len1 : Int) * 37 + 1))).trans (diffS_move a b ((len1 : Int) * 37 + 1)))
        have l0 : (0 : Int) ≤ (len1 : Int) := Int.natCast_nonneg len1
        go_wp2_with fail
        refine (serialDiff_from w a b _ hb1).mono ?_
        rintro e w2 ⟨rfl, hb2⟩
        rw [E.out]
        go_wp2_with fail
        refine (sSerialDiff_any a b _).mono ?_
        rintro e w3 ⟨rfl, rfl⟩
        rw [E.out]
        go_wp2_with fail
        refine (sSerialIn_any a a 1 _).mono ?_
        rintro e w4 ⟨rfl, rfl⟩
        rw [EI.out]
        go_wp2_with fail
        refine (sSerialIn_any b b 1 _).mono ?_
        rintro e w5 ⟨rfl, rfl⟩
        rw [EJ.out]
        go_wp2_with fail
        refine (serialAdd_any a ((len1 : Int) * 37 + 1) _).mono ?_
        rintro e w6 ⟨rfl, rfl⟩
        rw [E1.out]
        go_wp2_with fail
        refine (serialAdd_any b ((len1 : Int) * 37 + 1) _).mono ?_
        rintro e w7 ⟨rfl, rfl⟩
        rw [E2.out]
        go_wp2_with fail
        refine (serialDiff_from w (addS a ((len1 : Int) * 37 + 1)) (addS b ((len1 : Int) * 37 + 1)) _ hb2).mono ?_
        rintro e w8 ⟨rfl, hb8⟩
        rw [E3.out]
        go_wp2
        go_ret
        exact ⟨rfl, hb8⟩
      · have HB := Lib.hid hb
        clear hb
        have EJ := Lib.hid (inV_self_no HB.out)
        go_wp2_with fail
        refine (serialDiff_from w a b _ hb1).mono ?_
        rintro e w2 ⟨rfl, hb2⟩
        go_wp2_with fail
        refine (sSerialDiff_any a b _).mono ?_
        rintro e w3 ⟨rfl, rfl⟩
        go_wp2_with fail
        refine (sSerialIn_any a a 1 _).mono ?_
        rintro e w4 ⟨rfl, rfl⟩
        rw [EI.out]
        go_wp2_with fail
        refine (sSerialIn_any b b 1 _).mono ?_
        rintro e w5 ⟨rfl, rfl⟩
        rw [EJ.out]
        go_wp2
        go_ret
        exact ⟨rfl, hb2⟩
    · have HA := Lib.hid ha
      clear ha
      have EI := Lib.hid (inV_self_no HA.out)
      go_wp2_with fail
      refine (serialDiff_from w a b _ hb1).mono ?_
      rintro e w2 ⟨rfl, hb2⟩
      go_wp2_with fail
      refine (sSerialDiff_any a b _).mono ?_
      rintro e w3 ⟨rfl, rfl⟩
      go_wp2_with fail
      refine (sSerialIn_any a a 1 _).mono ?_
      rintro e w4 ⟨rfl, rfl⟩
      rw [EI.out]
      go_wp2
      go_ret
      exact ⟨rfl, hb2⟩

set_option maxHeartbeats 1000000 in
theorem walk_fnSerialDiffBad (a0 : Option Addr) (len0 cap0 : Nat) (z0 : List Int) (w : World) (w0 : IsRow .u8 w a0 len0 cap0 z0) :
    Calls Try.prog 12 #[.slice a0 len0 cap0] w fun e w' => e = .returned (.bool true) ∧ Below w.heap.size w w' := by
  have H := Lib.hid w0
  clear w0
  by_cases hl : (1048576 : Int) < len0
  · go_enter Try.func12, Try.ntmps12
    go_wp2
    go_ret
    exact ⟨rfl, Below.refl _ _⟩
  · go_enter Try.func12, Try.ntmps12
    go_wp2_with fail
    refine (drawSerialDiff_any a0 len0 cap0 z0 _ H.out).mono ?_
    rintro e w1 ⟨a, b, rfl, ⟨⟨a0', a1'⟩, b0', b1'⟩, hb1⟩
    by_cases ha : Ser a
    · by_cases hb : Ser b
      · obtain ⟨g0, g1⟩ := ha
        obtain ⟨i0, i1⟩ := hb
        have HA := Lib.hid (show Ser a from ⟨g0, g1⟩)
        have HB := Lib.hid (show Ser b from ⟨i0, i1⟩)
        obtain ⟨x0, x1⟩ := diffS_range a b
        have x2 : (diffS a b == -65536) = false := by simp; omega
        have d0 : decide (a < 0) = false := decide_eq_false (by omega)
        have d1 : decide (b < 0) = false := decide_eq_false (by omega)
        have E := Lib.hid (diffV_yes HA.out HB.out)
        have E1 := Lib.hid ((addV_yes 0 HA.out).trans (addS_none HA.out))
        have E2 := Lib.hid ((addV_yes 0 HB.out).trans (addS_none HB.out))
        go_wp2_with fail
        refine (serialDiff_from w a b _ hb1).mono ?_
        rintro e w2 ⟨rfl, hb2⟩
        rw [E.out]
        go_wp2_with fail
        refine (sSerialDiff_any a b _).mono ?_
        rintro e w3 ⟨rfl, rfl⟩
        rw [E.out]
        go_wp2_with fail
        refine (serialAdd_any a 0 _).mono ?_
        rintro e w4 ⟨rfl, rfl⟩
        rw [E1.out]
        go_wp2_with fail
        refine (serialAdd_any b 0 _).mono ?_
        rintro e w5 ⟨rfl, rfl⟩
        rw [E2.out]
        go_wp2
        go_ret
        exact ⟨rfl, hb2⟩
      · obtain ⟨g0, g1⟩ := ha
        have HA := Lib.hid (show Ser a from ⟨g0, g1⟩)
        have HB := Lib.hid hb
        clear hb
        have E := Lib.hid (diffV_right a HB.out)
        have E1 := Lib.hid ((addV_yes 0 HA.out).trans (addS_none HA.out))
        have E2 := Lib.hid (addV_no 0 HB.out)
        go_wp2_with fail
        refine (serialDiff_from w a b _ hb1).mono ?_
        rintro e w2 ⟨rfl, hb2⟩
        rw [E.out]
        go_wp2_with fail
        refine (sSerialDiff_any a b _).mono ?_
        rintro e w3 ⟨rfl, rfl⟩
        rw [E.out]
        go_wp2_with fail
        refine (serialAdd_any a 0 _).mono ?_
        rintro e w4 ⟨rfl, rfl⟩
        rw [E1.out]
        go_wp2_with fail
        refine (serialAdd_any b 0 _).mono ?_
        rintro e w5 ⟨rfl, rfl⟩
        rw [E2.out]
        go_wp2
        go_ret
        exact ⟨rfl, hb2⟩
    · have HA := Lib.hid ha
      clear ha
      have E := Lib.hid (diffV_left b HA.out)
      have E1 := Lib.hid (addV_no 0 HA.out)
      go_wp2_with fail
      refine (serialDiff_from w a b _ hb1).mono ?_
      rintro e w2 ⟨rfl, hb2⟩
      rw [E.out]
      go_wp2_with fail
      refine (sSerialDiff_any a b _).mono ?_
      rintro e w3 ⟨rfl, rfl⟩
      rw [E.out]
      go_wp2_with fail
      refine (serialAdd_any a 0 _).mono ?_
      rintro e w4 ⟨rfl, rfl⟩
      rw [E1.out]
      go_wp2
      go_ret
      exact ⟨rfl, hb2⟩

set_option maxHeartbeats 1000000 in
theorem walk_fnExactSerialAdd (a0 a1 : Int) (_w0 : (Lit.int .i64 a0).wf = true) (_w1 : (Lit.int .i64 a1).wf = true) (w : World) :
    Calls Try.prog 7 #[.int .i64 a0, .int .i64 a1] w fun e w' => e = .returned (.bool true) ∧ Below w.heap.size w w' := by
  have hb1 := Below.refl w.heap.size w
  go_enter Try.func7, Try.ntmps7
  go_wp2_with fail
  refine (sSerialAdd_any a0 a1 _).mono ?_
  rintro e w2 ⟨rfl, rfl⟩
  go_wp2_with fail
  refine (serialAdd_any a0 a1 _).mono ?_
  rintro e w3 ⟨rfl, rfl⟩
  go_wp2
  go_ret
  exact ⟨rfl, hb1⟩

end Go.Proofs.Ytbbfppjokmipeaa
