/- The contracts of the drawing functions of chapter 11. -/
import Derived.Test.YtodpbjomiplphabK4c
import Derived.Test.YtodpbjomiplphabK7m
import Derived.Test.YtodpbjomiplphabK14
import Derived.Deep.RegionWith
namespace Go.Proofs.Ytodpbjomiplphab
open Go.RowKit Go.PlainAid

/-- A chunk lies at block c, in a variable. -/
def Var3 (c : Nat) (k f : Int) (b : ByteArray) (w : World) : Prop :=
  (w.cell? ⟨c, 0, none⟩ = some (.int .i64 k) ∧ w.cell? ⟨c, 1, none⟩ = some (.int .i64 f) ∧ w.cell? ⟨c, 2, none⟩ = some (.string b)) ∧
  w.frozen? ⟨c, 0, none⟩ = false ∧ w.frozen? ⟨c, 1, none⟩ = false ∧ w.frozen? ⟨c, 2, none⟩ = false
theorem Var3.aside {c C r : Nat} {k f : Int} {b : ByteArray} {w w' : World} (h : Var3 c k f b w) (ha : Aside C r w w') (hc : c < C) (hr : c ≠ r) : Var3 c k f b w' :=
  ⟨⟨ha.cell hc hr h.1.1, ha.cell hc hr h.1.2.1, ha.cell hc hr h.1.2.2⟩, ha.frozen hc hr h.2.1, ha.frozen hc hr h.2.2.1, ha.frozen hc hr h.2.2.2⟩
theorem Var3.new (w : World) (k f : Int) (b : ByteArray) (T : TypeId) : Var3 w.heap.size k f b (w.alloc (.cells #[.int .i64 k, .int .i64 f, .string b] T)) :=
  ⟨⟨by simp, by simp, by simp⟩, by simp, by simp, by simp⟩
/-- A chunk was drawn; the reader stands. -/
def DrewC (B r m : Nat) (w : World) (e : Ending) (w' : World) : Prop :=
  ∃ (k f : Int) (b : ByteArray), e = .returned (.agg #[.int .i64 k, .int .i64 f, .string b]) ∧ ((-1 ≤ k ∧ k ≤ 256) ∧ (-1 ≤ f ∧ f ≤ 256) ∧ b.size ≤ 62) ∧ Rd B r m w' ∧ Below B w w'

/-- A new row of one byte becomes a text. -/
theorem conv_single (w : World) (b : Nat) (x : Int) (c : Nat) (h : w.cell? ⟨b, 0, none⟩ = some (.int .u8 x)) :
    (convert 22 9 (.slice (some ⟨b, 0, none⟩) 1 c)).run Try.prog w = .ok (.string (strOfNums [x])) w :=
  run_convert_bytes_arg _ 22 5 Try.underlying22 Try.underlying5 b 0 1 c [x] rfl (fun i hi => by
    obtain rfl : i = 0 := by omega
    exact h) 9 Try.underlying9

set_option maxHeartbeats 1000000 in
theorem l91Spoil_fr (B r m : Nat) (s : ByteArray) (w : World) (h : Rd B r m w) (hm : m ≤ 100000) (hs : s.size ≤ 100000) :
    Calls Try.prog 42 #[.pointer (some ⟨r, 0, none⟩), .string s] w fun e w' => DrewStr B r (m + 4) (s.size + 1) w e w' ∧ Fr B r w w' := by
  have hBw : B ≤ w.heap.size := Nat.le_of_lt (Nat.lt_of_le_of_lt h.1 h.2.1)
  by_cases h0 : s.size = 0
  · have e : s = ByteArray.mk #[] := by
      apply ByteArray.ext
      exact Array.eq_empty_of_size_eq_zero h0
    subst e
    go_enter Try.func42, Try.ntmps42
    go_wp2
    go_ret
    exact ⟨⟨_, rfl, by decide, h.mono (by omega), Below.refl _ _⟩, Fr.refl _ _ _⟩
  · have hne : ¬ s.toList = [] := text_some h0
    have hne2 : s.toList.isEmpty = false := by simpa using hne
    go_enter Try.func42, Try.ntmps42
    go_wp2_with fail
    refine (pick_any B r m 3 _ h (by omega) (by omega) (by omega)).mono ?_
    rintro e w1 ⟨j, rfl, j0, j1, hr1, ho1⟩
    have hb1 : Fr B r w w1 := (Fr.refl B r w).only h.1 ho1
    by_cases c0 : 0 < j
    · go_wp2
      go_ret
      exact ⟨⟨_, rfl, by omega, hr1.mono (by omega), hb1.below⟩, hb1⟩
    · go_wp2_with fail
      refine (pick_any B r (m + 1) s.size _ hr1 (by omega) (by omega) (by omega)).mono ?_
      rintro e w2 ⟨kk, rfl, k0, k1, hr2, ho2⟩
      obtain ⟨K, rfl⟩ := Int.eq_ofNat_of_zero_le k0
      have hb2 := hb1.only h.1 ho2
      clear hb1 ho1 ho2 hr1
      go_wp2_with fail
      refine (pick_any B r (m + 2) 4 _ hr2 (by omega) (by omega) (by omega)).mono ?_
      rintro e w3 ⟨i, rfl, i0, i1, hr3, ho3⟩
      have hb3 := hb2.only h.1 ho3
      clear hb2 ho3 hr2
      have v0 : (0 : Int) ≤ (K : Int) + 1 := by omega
      have v2 : (K : Int) + 1 ≤ s.size := by omega
      have v3 : IntKind.i64.wrap ((K : Int) + 1) = (K : Int) + 1 := IntWalk.i64_in _ ⟨by omega, by omega⟩
      have v4 : ((K : Int) + 1).toNat = K + 1 := by omega
      rcases (show i = 0 ∨ i = 1 ∨ i = 2 ∨ i = 3 by omega) with rfl | rfl | rfl | rfl
      · go_wp2
        go_ret
        exact ⟨⟨_, rfl, by rw [ByteArray.size_extract]; omega, hr3.mono (by omega), hb3.below⟩, hb3⟩
      · go_wp2
        go_ret
        exact ⟨⟨_, rfl, by rw [ByteArray.size_append]; exact Nat.le_refl _, hr3.mono (by omega), hb3.below⟩, hb3⟩
      · go_wp2
        go_quiet (fail)
        have hbn := hb3.drewN nq
        have hrn : Rd B r (m + 3) (w3.drewN nq) := hr3.keep (below_drewN (Below.refl w3.heap.size w3) nq) hr3.2.1
        generalize World.drewN w3 nq = w4 at *
        go_wp2
        go_ret
        exact ⟨⟨_, rfl, by rw [ByteArray.size_append, ByteArray.size_extract, ByteArray.size_extract]; omega, hrn.mono (by omega), hbn.below⟩, hbn⟩
      · have hcv := conv_single
        have y1 : ∀ z : Int, ¬ 9223372036854775807 < K + (strOfNums [z]).size := fun z => by rw [strOfNums_size]; simp; omega
        have y2 : ∀ z : Int, ¬ 9223372036854775807 < K + (strOfNums [z]).size + (s.size - (K + 1)) := fun z => by rw [strOfNums_size]; simp; omega
        go_wp2_with fail
        go_region_with (go_at_call 49; refine (pick_any B r (m + 3) 256 _ (by first | exact hr3 | exact hr3.keep (Below.refl w3.heap.size w3).drew hr3.2.1) (by omega) (by omega) (by omega)).mono ?_; rintro e w4 ⟨x, rfl, x0, x1, hr4, ho4⟩; have hb4 := (Fr.drewN hb3 1).only h.1 ho4)
        all_goals (go_wp2; go_ret; exact ⟨⟨_, rfl, by rw [ByteArray.size_append, ByteArray.size_append, ByteArray.size_extract, ByteArray.size_extract, strOfNums_size]; simp only [List.length_cons, List.length_nil]; omega, hr4.alloc _, (hb4.alloc hBw _).below⟩, hb4.alloc hBw _⟩)

theorem l91Spoil_any (B r m : Nat) (s : ByteArray) (w : World) (h : Rd B r m w) (hm : m ≤ 100000) (hs : s.size ≤ 100000) :
    Calls Try.prog 42 #[.pointer (some ⟨r, 0, none⟩), .string s] w (DrewStr B r (m + 4) (s.size + 1) w) :=
  (l91Spoil_fr B r m s w h hm hs).mono fun _ _ g => g.1

end Go.Proofs.Ytodpbjomiplphab
