/- The contracts of the program's chapter 12: whether a part, an init is valid; the flags of a part. -/
import Derived.Test.YtncbgejggfkdmabK11
import Derived.Test.YtncbgejggfkdmabK19
namespace Go.Proofs.Ytncbgejggfkdmab
open Go.RowKit Go.PlainAid

set_option maxHeartbeats 400000 in
theorem dataValid_any (a b c : Int) (fi la lo : Bool) (t : ByteArray) (w : World) :
    Calls Try.prog 77 #[.agg #[.int .i64 a, .int .i64 b, .int .i64 c, .bool fi, .bool la, .bool lo, .string t]] w fun e w' => e = .returned (.bool (dataOkV a b c t)) ∧ Below w.heap.size w w' := by
  by_cases h1 : Ser a
  · have H1 := Lib.hid h1
    clear h1
    by_cases h2 : Ser b
    · have H2 := Lib.hid h2
      clear h2
      by_cases h3 : Ser c
      · have H3 := Lib.hid h3
        clear h3
        have E : dataOkV a b c t = (decide ((0 : Int) < t.size) && decide ((t.size : Int) ≤ 20)) := by
          by_cases g : 1 ≤ t.size ∧ t.size ≤ 20
          · rw [dataOkV_yes ⟨ser_le H1.out, ser_le H2.out, ser_le H3.out, g.1, g.2⟩, decide_eq_true (show (0 : Int) < t.size by omega), decide_eq_true (show (t.size : Int) ≤ 20 by omega)]; rfl
          · rw [dataOkV_no fun h => g h.2.2.2]
            by_cases g0 : (0 : Int) < t.size
            · rw [decide_eq_true g0, decide_eq_false (show ¬ (t.size : Int) ≤ 20 by omega)]; rfl
            · rw [decide_eq_false g0]; rfl
        rw [E]
        clear E
        by_cases g0 : (0 : Int) < t.size
        · have t0 := g0
          rw [decide_eq_true g0, Bool.true_and]
          go_enter Try.func77, Try.ntmps77
          go_wp2_with fail
          refine (serialValid_yes a _ H1.out).mono ?_
          rintro e w1 ⟨rfl, rfl⟩
          go_wp2_with fail
          refine (serialValid_yes b _ H2.out).mono ?_
          rintro e w1 ⟨rfl, rfl⟩
          go_wp2_with fail
          refine (serialValid_yes c _ H3.out).mono ?_
          rintro e w1 ⟨rfl, rfl⟩
          go_wp2
          go_ret
          exact ⟨rfl, below_box _ (Nat.le_refl _)⟩
        · rw [decide_eq_false g0, Bool.false_and]
          go_enter Try.func77, Try.ntmps77
          go_wp2_with fail
          refine (serialValid_yes a _ H1.out).mono ?_
          rintro e w1 ⟨rfl, rfl⟩
          go_wp2_with fail
          refine (serialValid_yes b _ H2.out).mono ?_
          rintro e w1 ⟨rfl, rfl⟩
          go_wp2_with fail
          refine (serialValid_yes c _ H3.out).mono ?_
          rintro e w1 ⟨rfl, rfl⟩
          go_wp2
          go_ret
          exact ⟨rfl, below_box _ (Nat.le_refl _)⟩
      · have H3 := Lib.hid h3
        clear h3
        rw [dataOkV_no fun h => ser_not H3.out h.2.2.1]
        go_enter Try.func77, Try.ntmps77
        go_wp2_with fail
        refine (serialValid_yes a _ H1.out).mono ?_
        rintro e w1 ⟨rfl, rfl⟩
        go_wp2_with fail
        refine (serialValid_yes b _ H2.out).mono ?_
        rintro e w1 ⟨rfl, rfl⟩
        go_wp2_with fail
        refine (serialValid_no c _ H3.out).mono ?_
        rintro e w1 ⟨rfl, rfl⟩
        go_wp2
        go_ret
        exact ⟨rfl, below_box _ (Nat.le_refl _)⟩
    · have H2 := Lib.hid h2
      clear h2
      rw [dataOkV_no fun h => ser_not H2.out h.2.1]
      go_enter Try.func77, Try.ntmps77
      go_wp2_with fail
      refine (serialValid_yes a _ H1.out).mono ?_
      rintro e w1 ⟨rfl, rfl⟩
      go_wp2_with fail
      refine (serialValid_no b _ H2.out).mono ?_
      rintro e w1 ⟨rfl, rfl⟩
      go_wp2
      go_ret
      exact ⟨rfl, below_box _ (Nat.le_refl _)⟩
  · have H1 := Lib.hid h1
    clear h1
    rw [dataOkV_no fun h => ser_not H1.out h.1]
    go_enter Try.func77, Try.ntmps77
    go_wp2_with fail
    refine (serialValid_no a _ H1.out).mono ?_
    rintro e w1 ⟨rfl, rfl⟩
    go_wp2
    go_ret
    exact ⟨rfl, below_box _ (Nat.le_refl _)⟩

end Go.Proofs.Ytncbgejggfkdmab
