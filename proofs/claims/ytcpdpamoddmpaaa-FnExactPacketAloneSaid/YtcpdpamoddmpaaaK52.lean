/- The contracts of the program's chapter 13: whether chunks of a packet are alone. -/
import Derived.Test.YtcpdpamoddmpaaaK50
namespace Go.Proofs.Ytcpdpamoddmpaaa
open Go.RowKit Go.PlainAid

set_option maxHeartbeats 400000 in
theorem loneKind_any (k f : Int) (b : ByteArray) (w : World) :
    Calls Try.prog 45 #[.agg #[.int .i64 k, .int .i64 f, .string b]] w fun e w' => e = .returned (.bool (aloneK k)) ∧ Below w.heap.size w w' := by
  by_cases h1 : k = 1
  · subst h1
    go_enter Try.func45, Try.ntmps45
    go_wp2
    go_ret
    exact ⟨rfl, below_box _ (Nat.le_refl _)⟩
  by_cases h2 : k = 2
  · subst h2
    go_enter Try.func45, Try.ntmps45
    go_wp2
    go_ret
    exact ⟨rfl, below_box _ (Nat.le_refl _)⟩
  · have e1 : (k == 1) = false := by simpa using h1
    have e2 : (k == 2) = false := by simpa using h2
    have V := Lib.hid (show (k == 14) = aloneK k by unfold aloneK; rw [e1, e2]; simp)
    go_enter Try.func45, Try.ntmps45
    go_wp2
    go_ret
    exact ⟨ret_b V.out, below_box _ (Nat.le_refl _)⟩

set_option maxHeartbeats 1000000 in
theorem indexLone_any (a : Option Addr) (len cap : Nat) (cs : List (Int × Int × ByteArray)) (w : World) (h : Chs w a len cap cs) :
    Calls Try.prog 64 #[.slice a len cap, .func (.func 45) #[] #[]] w fun e w' => (∃ i : Int, e = .returned (.int .i64 i) ∧ decide (0 ≤ i) = cs.any fun c => aloneK c.1) ∧ Below w.heap.size w w' := by
  have hl := h.length
  have hm := h.len_int
  have HG := Lib.hid h
  clear h
  go_enter Try.func64, Try.ntmps64
  go_wp2
  go_loopw [8] (fun i wr => ∃ k : Nat, k ≤ len ∧ i = .int .i64 k ∧ Hid ((cs.take k).any (fun c => aloneK c.1) = false) ∧ Hid (Below w.heap.size w wr)) (fun i _ => len - (intOf i).toNat)
  case atStart => exact ⟨0, Nat.zero_le _, rfl, Lib.hid (by simp), Lib.hid (Below.refl _ _)⟩
  case round =>
    obtain ⟨k, hk, rfl, hok, hbel⟩ := hrel
    by_cases hlt : k < len
    · obtain ⟨x, rfl⟩ := HG.out.some hlt
      obtain ⟨p0, p1, p2⟩ := HG.out.at hbel.out hlt
      have hkl : k < cs.length := by omega
      have N := Lib.hid (any_next hkl)
      have Y := Lib.hid (any_yes hkl)
      obtain ⟨c1, hc1'⟩ : ∃ c1, (chAt cs k).1 = c1 := ⟨_, rfl⟩
      obtain ⟨c2, hc2'⟩ : ∃ c2, (chAt cs k).2.1 = c2 := ⟨_, rfl⟩
      obtain ⟨c3, hc3'⟩ : ∃ c3, (chAt cs k).2.2 = c3 := ⟨_, rfl⟩
      rw [hc1'] at p0 N Y
      rw [hc2'] at p1
      rw [hc3'] at p2
      clear hc1' hc2' hc3'
      cases hA : aloneK c1 with
      | true =>
        have V := Lib.hid (Y.out hA)
        have HA := Lib.hid hA
        clear hA N Y
        go_wp2_with fail
        refine (loneKind_any c1 c2 c3 _).mono ?_
        rw [HA.out]
        rintro e w2 ⟨rfl, hb2⟩
        go_wp2
        go_ret
        exact ⟨⟨k, rfl, by rw [V.out]; exact decide_eq_true (by omega)⟩, hbel.out.trans (hb2.mono hbel.out.size)⟩
      | false =>
        have O := Lib.hid (show (cs.take (k + 1)).any (fun c => aloneK c.1) = false by rw [N.out, hA, Bool.or_false]; exact hok.out)
        have HA := Lib.hid hA
        clear hA N Y
        go_wp2_with fail
        refine (loneKind_any c1 c2 c3 _).mono ?_
        rw [HA.out]
        rintro e w2 ⟨rfl, hb2⟩
        go_wp2
        go_roundw
        case rel => exact ⟨k + 1, by omega, by go_num, O, Lib.hid (hbel.out.trans (hb2.mono hbel.out.size))⟩
        case measure => simp [intOf]; omega
    · obtain rfl : k = len := by omega
      have V := Lib.hid (show (cs.any fun c => aloneK c.1) = false by
        have := hok.out
        rw [List.take_of_length_le (by omega)] at this
        exact this)
      go_wp2
      go_ret
      exact ⟨⟨-1, rfl, by rw [V.out]; decide⟩, hbel.out⟩

set_option maxHeartbeats 400000 in
theorem containsLone_any (a : Option Addr) (len cap : Nat) (cs : List (Int × Int × ByteArray)) (w : World) (h : Chs w a len cap cs) :
    Calls Try.prog 44 #[.slice a len cap, .func (.func 45) #[] #[]] w fun e w' => e = .returned (.bool (cs.any fun c => aloneK c.1)) ∧ Below w.heap.size w w' := by
  go_enter Try.func44, Try.ntmps44
  go_wp2_with fail
  refine (indexLone_any a len cap cs _ h).mono ?_
  rintro e w1 ⟨⟨i, rfl, hi⟩, hb1⟩
  have HI := Lib.hid hi
  clear hi
  go_wp2
  go_ret
  exact ⟨ret_b HI.out, hb1⟩

set_option maxHeartbeats 1000000 in
theorem packetAlone_any (f t g : Int) (a : Option Addr) (len cap : Nat) (cs : List (Int × Int × ByteArray)) (w : World) (h : Chs w a len cap cs) :
    Calls Try.prog 24 #[.agg #[.int .i64 f, .int .i64 t, .int .i64 g, .slice a len cap]] w fun e w' => e = .returned (.bool (aloneV f t g cs)) ∧ Below w.heap.size w w' := by
  have hl := h.length
  have hm := h.len_int
  have HG := Lib.hid (h.below (below_box (.cells #[.int .i64 f, .int .i64 t, .int .i64 g, .slice a len cap] 25) (Nat.le_refl _)))
  clear h
  cases hV : packV f t g cs with
  | false =>
    have V := Lib.hid (show false = aloneV f t g cs by unfold aloneV; rw [hV]; rfl)
    have HV := Lib.hid hV
    clear hV
    go_enter Try.func24, Try.ntmps24
    go_wp2_with fail
    refine (packetValid_any f t g a len cap cs _ HG.out).mono ?_
    rintro e w1 ⟨rfl, hb1⟩
    rw [HV.out]
    have HB := Lib.hid ((below_box (w := w) (.cells (List.toArray [.int .i64 f, .int .i64 t, .int .i64 g, .slice a len cap]) 25) (Nat.le_refl _)).trans (hb1.mono (by simp)))
    clear hb1
    go_wp2
    go_ret
    exact ⟨ret_b V.out, HB.out⟩
  | true =>
    have HV := Lib.hid hV
    have A := Lib.hid (show aloneV f t g cs = !someAlone cs by unfold aloneV; rw [hV]; rfl)
    clear hV
    go_enter Try.func24, Try.ntmps24
    go_wp2_with fail
    refine (packetValid_any f t g a len cap cs _ HG.out).mono ?_
    rintro e w1 ⟨rfl, hb1⟩
    rw [HV.out]
    have c3 : w1.cell? ⟨w.heap.size, 3, none⟩ = some (.slice a len cap) := kept_cell hb1 (by simp) (by simp)
    have HG1 := Lib.hid (HG.out.below hb1)
    have HB := Lib.hid ((below_box (w := w) (.cells (List.toArray [.int .i64 f, .int .i64 t, .int .i64 g, .slice a len cap]) 25) (Nat.le_refl _)).trans (hb1.mono (by simp)))
    clear hb1
    by_cases h1 : len = 1
    · have V := Lib.hid (show true = aloneV f t g cs by
        rw [A.out]
        unfold someAlone
        rw [decide_eq_false (by omega)]
        rfl)
      subst h1
      go_wp2
      go_ret
      exact ⟨ret_b V.out, HB.out⟩
    · have h1' : ¬ (len : Int) = 1 := by omega
      have e1 : ((len : Int) == 1) = false := by simpa using h1'
      have HS := Lib.hid (show 1 < cs.length → (!(cs.any fun c => aloneK c.1)) = aloneV f t g cs from fun h => by
        rw [A.out]
        unfold someAlone
        rw [decide_eq_true h]
        rfl)
      have HP := Lib.hid (show 1 < cs.length by
        have := of_decide_eq_true (show decide (PackOk f t g cs) = true from HV.out)
        have := this.2.2.1
        omega)
      go_wp2_with fail
      refine (containsLone_any a len cap cs _ HG1.out).mono ?_
      rintro e w2 ⟨rfl, hb2⟩
      have HB2 := Lib.hid (HB.out.trans (hb2.mono HB.out.size))
      clear hb2
      obtain ⟨z, hz⟩ : ∃ z, (cs.any fun c => aloneK c.1) = z := ⟨_, rfl⟩
      have V := Lib.hid (HS.out HP.out)
      rw [hz] at V ⊢
      clear hz
      go_wp2
      go_ret
      exact ⟨ret_b V.out, HB2.out⟩

end Go.Proofs.Ytcpdpamoddmpaaa
