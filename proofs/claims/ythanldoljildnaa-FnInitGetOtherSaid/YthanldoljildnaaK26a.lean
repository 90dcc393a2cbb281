/- The contracts of the program's chapter 12: whether a part, an init is valid; the flags of a part. -/
import Derived.Test.YthanldoljildnaaK11
import Derived.Test.YthanldoljildnaaK19
namespace Go.Proofs.Ythanldoljildnaa
open Go.RowKit Go.PlainAid

set_option maxHeartbeats 400000 in
theorem initValid_any (a b c d : Int) (w : World) :
    Calls Try.prog 25 #[.agg #[.int .i64 a, .int .i64 b, .int .i64 c, .int .i64 d]] w fun e w' => e = .returned (.bool (initOkV a b c d)) ∧ Below w.heap.size w w' := by
  by_cases a0 : 1 ≤ a
  · by_cases a1 : a ≤ 4294967295
    · by_cases h1 : Ser b
      · have H1 := Lib.hid h1
        clear h1
        by_cases c0 : 1 ≤ c
        · by_cases c1 : c ≤ 4
          · by_cases h2 : Ser d
            · have H2 := Lib.hid h2
              clear h2
              rw [initOkV_yes ⟨⟨a0, a1⟩, ser_le H1.out, ⟨c0, c1⟩, ser_le H2.out⟩]
              go_enter Try.func25, Try.ntmps25
              go_wp2_with fail
              refine (serialValid_yes b _ H1.out).mono ?_
              rintro e w1 ⟨rfl, rfl⟩
              go_wp2_with fail
              refine (serialValid_yes d _ H2.out).mono ?_
              rintro e w1 ⟨rfl, rfl⟩
              go_wp2
              go_ret
              exact ⟨rfl, below_box _ (Nat.le_refl _)⟩
            · have H2 := Lib.hid h2
              clear h2
              rw [initOkV_no fun h => ser_not H2.out h.2.2.2]
              go_enter Try.func25, Try.ntmps25
              go_wp2_with fail
              refine (serialValid_yes b _ H1.out).mono ?_
              rintro e w1 ⟨rfl, rfl⟩
              go_wp2_with fail
              refine (serialValid_no d _ H2.out).mono ?_
              rintro e w1 ⟨rfl, rfl⟩
              go_wp2
              go_ret
              exact ⟨rfl, below_box _ (Nat.le_refl _)⟩
          · rw [initOkV_no fun h => c1 h.2.2.1.2]
            go_enter Try.func25, Try.ntmps25
            go_wp2_with fail
            refine (serialValid_yes b _ H1.out).mono ?_
            rintro e w1 ⟨rfl, rfl⟩
            go_wp2
            go_ret
            exact ⟨rfl, below_box _ (Nat.le_refl _)⟩
        · rw [initOkV_no fun h => c0 h.2.2.1.1]
          go_enter Try.func25, Try.ntmps25
          go_wp2_with fail
          refine (serialValid_yes b _ H1.out).mono ?_
          rintro e w1 ⟨rfl, rfl⟩
          go_wp2
          go_ret
          exact ⟨rfl, below_box _ (Nat.le_refl _)⟩
      · have H1 := Lib.hid h1
        clear h1
        rw [initOkV_no fun h => ser_not H1.out h.2.1]
        go_enter Try.func25, Try.ntmps25
        go_wp2_with fail
        refine (serialValid_no b _ H1.out).mono ?_
        rintro e w1 ⟨rfl, rfl⟩
        go_wp2
        go_ret
        exact ⟨rfl, below_box _ (Nat.le_refl _)⟩
    · rw [initOkV_no fun h => a1 h.1.2]
      go_enter Try.func25, Try.ntmps25
      go_wp2
      go_ret
      exact ⟨rfl, below_box _ (Nat.le_refl _)⟩
  · rw [initOkV_no fun h => a0 h.1.1]
    go_enter Try.func25, Try.ntmps25
    go_wp2
    go_ret
    exact ⟨rfl, below_box _ (Nat.le_refl _)⟩

end Go.Proofs.Ythanldoljildnaa
