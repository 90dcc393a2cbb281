/- The walks of the laws on the names of chunks. -/
import Derived.Test.YthogaffeeadnhabDoorK16
import Derived.Test.YthogaffeeadnhabDoorK18n
import Derived.Deep.QuietTactic
import Derived.BigQuiet
namespace Go.Proofs.YthogaffeeadnhabDoor
open Go.RowKit Go.PlainAid

set_option maxHeartbeats 1000000 in
theorem walk_fnChunkName (a0 : Option Addr) (len0 cap0 : Nat) (z0 : List Int) (w : World) (w0 : IsRow .u8 w a0 len0 cap0 z0) (hT : Tab w) :
    Calls Tryd.prog 3 #[.slice a0 len0 cap0] w fun e w' => e = .returned (.bool true) ∧ Below w.heap.size w w' := by
  have H := Lib.hid w0
  clear w0
  by_cases hl : (1048576 : Int) < len0
  · go_enter Tryd.func3, Tryd.ntmps3
    go_wp2
    go_ret
    exact ⟨rfl, Below.refl _ _⟩
  · go_enter Tryd.func3, Tryd.ntmps3
    go_wp2_with fail
    refine (drawChunkName_any a0 len0 cap0 z0 _ H.out).mono ?_
    rintro e w1 ⟨k, rfl, ⟨k0, k1⟩, hb1⟩
    by_cases hn : k < 0
    · have c0 : ¬ 0 ≤ k := by omega
      have c14 : (k == 14) = false := by simp; omega
      have ne1 : (nameV k).toList = [] := by rw [nameV_out (by omega)]; exact no_text
      have ne2 : (nameV k).toList.isEmpty = true := by rw [ne1]; rfl
      go_wp2_with fail
      refine (chunkName_any k _ (hT.below (Nat.le_refl _) hb1)).mono ?_
      rintro e w2 ⟨rfl, hb2⟩
      go_wp2_with fail
      refine (sChunkName_any k _).mono ?_
      rintro e w3 ⟨rfl, hb3⟩
      have hB3 : Below w.heap.size w w3 := hb1.trans ((hb2.trans (hb3.mono hb2.size)).mono hb1.size)
      clear hb1 hb2 hb3
      go_wp2
      go_ret
      exact ⟨rfl, hB3⟩
    · by_cases h11 : k ≤ 11
      · have ne1 : (nameV k).toList ≠ [] := by
          have g := nameV_some ⟨k.toNat, by omega⟩
          rw [show ((⟨k.toNat, by omega⟩ : Fin 15).val : Int) = k by show ((k.toNat : Nat) : Int) = k; omega] at g
          intro h
          have := g.1 h
          simp only at this
          omega
        have ne2 : (nameV k).toList.isEmpty = false := by simpa using ne1
        go_wp2_with fail
        refine (chunkName_any k _ (hT.below (Nat.le_refl _) hb1)).mono ?_
        rintro e w2 ⟨rfl, hb2⟩
        go_wp2_with fail
        refine (sChunkName_any k _).mono ?_
        rintro e w3 ⟨rfl, hb3⟩
        have hB3 : Below w.heap.size w w3 := hb1.trans ((hb2.trans (hb3.mono hb2.size)).mono hb1.size)
        clear hb1 hb2 hb3
        go_wp2
        go_ret
        exact ⟨rfl, hB3⟩
      · by_cases h14 : k = 14
        · have c11 : ¬ k ≤ 11 := by omega
          have c14 : (k == 14) = true := by simp; omega
          have ne1 : (nameV k).toList ≠ [] := by
            have g := nameV_some ⟨k.toNat, by omega⟩
            rw [show ((⟨k.toNat, by omega⟩ : Fin 15).val : Int) = k by show ((k.toNat : Nat) : Int) = k; omega] at g
            intro h
            have := g.1 h
            simp only at this
            omega
          have ne2 : (nameV k).toList.isEmpty = false := by simpa using ne1
          clear h14
          go_wp2_with fail
          refine (chunkName_any k _ (hT.below (Nat.le_refl _) hb1)).mono ?_
          rintro e w2 ⟨rfl, hb2⟩
          go_wp2_with fail
          refine (sChunkName_any k _).mono ?_
          rintro e w3 ⟨rfl, hb3⟩
          have hB3 : Below w.heap.size w w3 := hb1.trans ((hb2.trans (hb3.mono hb2.size)).mono hb1.size)
          clear hb1 hb2 hb3
          go_wp2
          go_ret
          exact ⟨rfl, hB3⟩
        · by_cases h13 : k ≤ 13
          · have c11 : decide (k ≤ 11) = false := decide_eq_false (by omega)
            have c14 : (k == 14) = false := by simp; omega
            have ne1 : (nameV k).toList = [] := by
              have g := nameV_some ⟨k.toNat, by omega⟩
              rw [show ((⟨k.toNat, by omega⟩ : Fin 15).val : Int) = k by show ((k.toNat : Nat) : Int) = k; omega] at g
              exact g.2 (by simp only; omega)
            have ne2 : (nameV k).toList.isEmpty = true := by rw [ne1]; rfl
            go_wp2_with fail
            refine (chunkName_any k _ (hT.below (Nat.le_refl _) hb1)).mono ?_
            rintro e w2 ⟨rfl, hb2⟩
            go_wp2_with fail
            refine (sChunkName_any k _).mono ?_
            rintro e w3 ⟨rfl, hb3⟩
            have hB3 : Below w.heap.size w w3 := hb1.trans ((hb2.trans (hb3.mono hb2.size)).mono hb1.size)
            clear hb1 hb2 hb3
            go_wp2
            go_ret
            exact ⟨rfl, hB3⟩
          · have c11 : decide (k ≤ 11) = false := decide_eq_false (by omega)
            have c14 : (k == 14) = false := by simp; omega
            have ne1 : (nameV k).toList = [] := by rw [nameV_out (by omega)]; exact no_text
            have ne2 : (nameV k).toList.isEmpty = true := by rw [ne1]; rfl
            go_wp2_with fail
            refine (chunkName_any k _ (hT.below (Nat.le_refl _) hb1)).mono ?_
            rintro e w2 ⟨rfl, hb2⟩
            go_wp2_with fail
            refine (sChunkName_any k _).mono ?_
            rintro e w3 ⟨rfl, hb3⟩
            have hB3 : Below w.heap.size w w3 := hb1.trans ((hb2.trans (hb3.mono hb2.size)).mono hb1.size)
            clear hb1 hb2 hb3
            go_wp2
            go_ret
            exact ⟨rfl, hB3⟩

set_option maxHeartbeats 1000000 in
theorem walk_fnChunkNameOther (a0 : Option Addr) (len0 cap0 : Nat) (z0 : List Int) (w : World) (w0 : IsRow .u8 w a0 len0 cap0 z0) (hT : Tab w) :
    Calls Tryd.prog 4 #[.slice a0 len0 cap0] w fun e w' => e = .returned (.bool true) ∧ Below w.heap.size w w' := by
  have H := Lib.hid w0
  clear w0
  by_cases hl : (1048576 : Int) < len0
  · go_enter Tryd.func4, Tryd.ntmps4
    go_wp2
    go_ret
    exact ⟨rfl, Below.refl _ _⟩
  · go_enter Tryd.func4, Tryd.ntmps4
    go_wp2_with fail
    refine (drawChunkName_any a0 len0 cap0 z0 _ H.out).mono ?_
    rintro e w1 ⟨k, rfl, ⟨k0, k1⟩, hb1⟩
    by_cases hne : (nameV k).toList = []
    · have ne2 : (nameV k).toList.isEmpty = true := by rw [hne]; rfl
      go_wp2_with fail
      refine (chunkName_any k _ (hT.below (Nat.le_refl _) hb1)).mono ?_
      rintro e w2 ⟨rfl, hb2⟩
      go_wp2_with fail
      refine (sChunkName_any k _).mono ?_
      rintro e w3 ⟨rfl, hb3⟩
      have hB3 : Below w.heap.size w w3 := hb1.trans ((hb2.trans (hb3.mono hb2.size)).mono hb1.size)
      clear hb1 hb2 hb3
      go_wp2
      go_ret
      exact ⟨rfl, hB3⟩
    · have ne2 : (nameV k).toList.isEmpty = false := by simpa using hne
      have HN := Lib.hid hne
      go_wp2_with fail
      refine (chunkName_any k _ (hT.below (Nat.le_refl _) hb1)).mono ?_
      rintro e w2 ⟨rfl, hb2⟩
      go_wp2_with fail
      refine (sChunkName_any k _).mono ?_
      rintro e w3 ⟨rfl, hb3⟩
      have hB3 : Below w.heap.size w w3 := hb1.trans ((hb2.trans (hb3.mono hb2.size)).mono hb1.size)
      clear hb1 hb2 hb3
      go_wp2
      go_loopw [6] (fun i wr => ∃ j : Int, i = .int .i64 j ∧ (-2 ≤ j ∧ j ≤ 300) ∧ Below w.heap.size w wr) (fun i _ => (300 - intOf i).toNat)
      case atStart => exact ⟨-2, rfl, ⟨by omega, by omega⟩, hB3⟩
      case round =>
        obtain ⟨j, rfl, ⟨j0, j1⟩, hbr⟩ := hrel
        by_cases hlt : j < 300
        · by_cases hjk : j = k
          · have d0 : (j != k) = false := by simp [hjk]
            clear hjk
            go_wp2
            go_roundw
            case rel => exact ⟨j + 1, rfl, ⟨by omega, by omega⟩, hbr⟩
            case measure => simp [intOf]; omega
          · have d0 : (j != k) = true := by simpa using hjk
            have d1 := nameV_other HN.out hjk
            clear hjk
            go_wp2_with fail
            refine (chunkName_any j _ (hT.below (Nat.le_refl _) hbr)).mono ?_
            rintro e w4 ⟨rfl, hb4⟩
            have hb5 := hbr.trans (hb4.mono hbr.size)
            clear hbr hb4
            go_wp2
            go_roundw
            case rel => exact ⟨j + 1, rfl, ⟨by omega, by omega⟩, hb5⟩
            case measure => simp [intOf]; omega
        · go_wp2
          go_ret
          exact ⟨rfl, hbr⟩

set_option maxHeartbeats 400000 in
theorem walk_fnExactChunkName (a0 : Int) (_w0 : (Lit.int .i64 a0).wf = true) (w : World) (hT : Tab w) :
    Calls Tryd.prog 5 #[.int .i64 a0] w fun e w' => e = .returned (.bool true) ∧ Below w.heap.size w w' := by
  go_enter Tryd.func5, Tryd.ntmps5
  go_wp2_with fail
  refine (sChunkName_any a0 _).mono ?_
  rintro e w1 ⟨rfl, hb1⟩
  go_wp2_with fail
  refine (chunkName_any a0 _ (hT.below (Nat.le_refl _) hb1)).mono ?_
  rintro e w2 ⟨rfl, hb2⟩
  go_wp2
  go_ret
  exact ⟨rfl, hb1.trans (hb2.mono hb1.size)⟩

end Go.Proofs.YthogaffeeadnhabDoor
