/- The contracts of chapter 14's model: whether records are valid, their bytes. -/
import Derived.Test.YtodpbjomiplphabG16
import Derived.Test.YtodpbjomiplphabK70
import Derived.Test.YtodpbjomiplphabK1
import Derived.Test.YtodpbjomiplphabK20v
import Derived.Deep.RegionHeldLaw
import Derived.Handy
namespace Go.Proofs.Ytodpbjomiplphab
open Go.RowKit Go.PlainAid

theorem capV_yes {rs : List (Int × ByteArray)} (h : CapOk rs) : capV rs = true := decide_eq_true h
theorem capV_no {rs : List (Int × ByteArray)} (h : ¬ CapOk rs) : capV rs = false := decide_eq_false h
theorem recsOk_next {rs : List (Int × ByteArray)} {k : Nat} (hk : k < rs.length) {t : Int} {b : ByteArray} (e1 : (rcAt rs k).1 = t) (e2 : (rcAt rs k).2 = b) (h : RecsOk 0 (rs.take k)) :
    (RecOk (lastT 0 (rs.take k)) (t, b) → RecsOk 0 (rs.take (k + 1))) ∧ (¬ RecOk (lastT 0 (rs.take k)) (t, b) → ¬ RecsOk 0 rs) ∧ lastT 0 (rs.take (k + 1)) = t := by
  have er : rcAt rs k = (t, b) := Prod.ext e1 e2
  rw [take_rcAt hk, er]
  refine ⟨fun hr => recsOk_snoc.2 ⟨h, hr⟩, fun hr hall => hr ?_, lastT_snoc _ _ _⟩
  have := hall
  rw [← List.take_append_drop (k + 1) rs] at this
  have := recsOk_left this
  rw [take_rcAt hk, er] at this
  exact (recsOk_snoc.1 this).2
theorem recsOk_at {rs : List (Int × ByteArray)} {k : Nat} (hk : k < rs.length) {t : Int} {b : ByteArray} (e1 : (rcAt rs k).1 = t) (e2 : (rcAt rs k).2 = b) (h : RecsOk 0 rs) : RecOk (lastT 0 (rs.take k)) (t, b) := by
  have er : rcAt rs k = (t, b) := Prod.ext e1 e2
  have := h
  rw [← List.take_append_drop (k + 1) rs] at this
  have := recsOk_left this
  rw [take_rcAt hk, er] at this
  exact (recsOk_snoc.1 this).2
theorem recs_small {l : Int} {rs : List (Int × ByteArray)} (h : RecsOk l rs) : ∀ r ∈ rs, r.2.size ≤ maxLen := by
  induction rs generalizing l with
  | nil => intro r hr; simp at hr
  | cons s rs ih =>
    intro r hr
    rcases List.mem_cons.1 hr with rfl | hr
    · exact Nat.le_trans h.1.2 (by decide)
    · exact ih h.2 r hr
theorem kept2R {p q : Addr} {u v : Value} {w W W' : World} (h : W.cell? p = some u ∧ W.cell? q = some v ∧ Below w.heap.size w W) (hb : Below W.heap.size W W') : W'.cell? p = some u ∧ W'.cell? q = some v ∧ Below w.heap.size w W' :=
  ⟨(hb.cell (World.block_lt_of_cell? W _ h.1)).trans h.1, (hb.cell (World.block_lt_of_cell? W _ h.2.1)).trans h.2.1, h.2.2.trans (hb.mono h.2.2.size)⟩
theorem lastT_low {rs : List (Int × ByteArray)} : ∀ {l : Int}, 0 ≤ l → RecsOk l rs → 0 ≤ lastT l rs := by
  induction rs with
  | nil => exact fun h _ => h
  | cons r rs ih => exact fun h hr => ih (by have := hr.1.1.1; omega) hr.2

set_option maxHeartbeats 400000 in
theorem sRecord_any (t l : Int) (b : ByteArray) (w : World) (hb : b.size ≤ 9223372036854775807) :
    Calls Try.prog 32 #[.agg #[.int .i64 t, .string b], .int .i64 l] w fun e w' => e = .returned (.bool (decide (RecOk l (t, b)))) ∧ Below w.heap.size w w' := by
  have i1 := fun w => l6In_any t l 4294967295 w
  by_cases h1 : l ≤ t ∧ t ≤ 4294967295
  · rw [decide_eq_true h1] at i1
    have V := Lib.hid (show decide ((b.size : Int) ≤ 120) = decide (RecOk l (t, b)) by
      by_cases h2 : b.size ≤ 120
      · rw [decide_eq_true (by omega), decide_eq_true (p := RecOk l (t, b)) ⟨h1, h2⟩]
      · rw [decide_eq_false (by omega), decide_eq_false (fun h : RecOk l (t, b) => h2 h.2)])
    clear h1
    go_enter Try.func32, Try.ntmps32
    go_wp2_with fail
    refine (i1 _).mono ?_
    rintro e w1 ⟨rfl, rfl⟩
    go_wp2
    go_ret
    exact ⟨ret_b V.out, below_box _ (Nat.le_refl _)⟩
  · rw [decide_eq_false h1] at i1
    have V := Lib.hid (decide_eq_false (fun h : RecOk l (t, b) => h1 h.1))
    clear h1
    go_enter Try.func32, Try.ntmps32
    go_wp2_with fail
    refine (i1 _).mono ?_
    rintro e w1 ⟨rfl, rfl⟩
    go_wp2
    go_ret
    exact ⟨ret_b V.out.symm, below_box _ (Nat.le_refl _)⟩

set_option maxHeartbeats 1000000 in
theorem sCaptureValid_any (a : Option Addr) (len cap : Nat) (rs : List (Int × ByteArray)) (w : World) (h : Rcs w a len cap rs) (hz : ∀ r ∈ rs, r.2.size ≤ maxLen) :
    Calls Try.prog 16 #[.slice a len cap] w fun e w' => e = .returned (.bool (capV rs)) ∧ Below w.heap.size w w' := by
  have hl := h.length
  have hm := h.len_int
  have HG := Lib.hid h
  have HZ := Lib.hid hz
  clear h hz
  go_enter Try.func16, Try.ntmps16
  go_wp2
  go_loopw [3, 4] (fun l i wr => ∃ k : Nat, k ≤ len ∧ i = .int .i64 k ∧ l = .int .i64 (lastT 0 (rs.take k)) ∧ Hid (RecsOk 0 (rs.take k)) ∧ Hid (Below w.heap.size w wr)) (fun _ i _ => len - (intOf i).toNat)
  case atStart => exact ⟨0, Nat.zero_le _, rfl, rfl, Lib.hid trivial, Lib.hid (Below.refl _ _)⟩
  case round =>
    obtain ⟨k, hk, rfl, rfl, hok, hbel⟩ := hrel
    by_cases hlt : k < len
    · obtain ⟨x, rfl⟩ := HG.out.addr hlt
      obtain ⟨p0, p1⟩ := HG.out.at hbel.out hlt
      have hkl : k < rs.length := by omega
      have hzk := HZ.out _ (rcAt_mem hkl)
      obtain ⟨t, ht⟩ : ∃ t, (rcAt rs k).1 = t := ⟨_, rfl⟩
      obtain ⟨b, hb⟩ : ∃ b, (rcAt rs k).2 = b := ⟨_, rfl⟩
      have N := Lib.hid (recsOk_next hkl ht hb hok.out)
      rw [ht] at p0
      rw [hb] at p1 hzk
      unfold maxLen at hzk
      obtain ⟨l, hl0⟩ : ∃ l, lastT 0 (rs.take k) = l := ⟨_, rfl⟩
      rw [hl0] at N ⊢
      clear ht hb hl0
      by_cases hc : RecOk l (t, b)
      · have D := Lib.hid (decide_eq_true hc)
        have O := Lib.hid (N.out.1 hc)
        clear hc
        go_wp2_with fail
        refine (sRecord_any t l b _ (by omega)).mono ?_
        rw [D.out]
        rintro e w1 ⟨rfl, hb1⟩
        have HB := Lib.hid (hbel.out.trans (hb1.mono hbel.out.size))
        have q0 := (hb1.cell (World.block_lt_of_cell? wr _ p0)).trans p0
        clear hb1 p0 p1
        go_wp2
        go_roundw
        case rel => exact ⟨k + 1, by omega, by go_num, congrArg (Value.int .i64) N.out.2.2.symm, O, HB⟩
        case measure => simp [intOf]; omega
      · have D := Lib.hid (decide_eq_false hc)
        have V := Lib.hid (capV_no fun h => N.out.2.1 hc h.1)
        clear hc
        go_wp2_with fail
        refine (sRecord_any t l b _ (by omega)).mono ?_
        rw [D.out]
        rintro e w1 ⟨rfl, hb1⟩
        have HB := Lib.hid (hbel.out.trans (hb1.mono hbel.out.size))
        clear hb1
        go_wp2
        go_ret
        exact ⟨ret_b V.out.symm, HB.out⟩
    · obtain rfl : k = len := by omega
      have hall : RecsOk 0 rs := by
        have := hok.out
        rw [List.take_of_length_le (by omega)] at this
        exact this
      have V := Lib.hid (show decide ((k : Int) ≤ 60) = capV rs by
        by_cases h6 : k ≤ 60
        · rw [decide_eq_true (by omega), capV_yes ⟨hall, by omega⟩]
        · rw [decide_eq_false (by omega), capV_no fun h => h6 (by have := h.2; omega)])
      clear hall hok
      go_wp2
      go_ret
      exact ⟨ret_b V.out, hbel.out⟩

set_option maxHeartbeats 1000000 in
theorem l14Put_any (t : Int) (b : ByteArray) (w : World) (h0 : 0 ≤ t) (h1 : t ≤ 4294967295) (hb : b.size ≤ 120) :
    Calls Try.prog 39 #[.agg #[.int .i64 t, .string b]] w fun e w' => e = .returned (.string (recS (t, b))) ∧ Below w.heap.size w w' := by
  have z1 := longS_size t
  have z2 := wordS_size (b.size : Int)
  have hz1 : ¬ 9223372036854775807 < (longS t).size + (wordS (b.size : Int)).size := by omega
  have hz2 : ¬ 9223372036854775807 < (longS t).size + (wordS (b.size : Int)).size + b.size := by omega
  have E := Lib.hid (show longS t ++ wordS (b.size : Int) ++ b = recS (t, b) from rfl)
  clear z1 z2
  have V0 := VarN.new w [.int .i64 t, .string b] 33
  have hS := Lib.hid (kept2R (W := w.alloc (.cells #[.int .i64 t, .string b] 33)) (w := w) ⟨(V0 0 _ rfl).1, (V0 1 _ rfl).1, below_box _ (Nat.le_refl _)⟩ (Below.drew (Below.refl _ _)))
  clear V0
  go_enter Try.func39, Try.ntmps39
  go_wp2_with fail
  go_region_held_law (fun W => W.cell? ⟨w.heap.size, 0, none⟩ = some (.int .i64 t) ∧ W.cell? ⟨w.heap.size, 1, none⟩ = some (.string b) ∧ Below w.heap.size w W)
    (first | with_reducible assumption | with_reducible exact hS.out | exact kept2R (by assumption) (by assumption))
    (first
      | (go_simp; go_at_call 53; refine (l1Long_any t h0 h1 _).mono ?_; rintro e w1 ⟨rfl, hb1⟩)
      | (go_simp; go_at_call 54; refine (l1Word_any (b.size : Int) (by omega) (by omega) _).mono ?_; rintro e w1 ⟨rfl, hb1⟩))
  all_goals
    rename_i hHeld
    have HW := Lib.hid hHeld.2.2
    clear hHeld
    go_wp2
    go_ret
    exact ⟨ret_s E.out, HW.out⟩

set_option maxHeartbeats 1000000 in
theorem sCapturePut_yes (a : Option Addr) (len cap : Nat) (rs : List (Int × ByteArray)) (w : World) (h : Rcs w a len cap rs) (hok : CapOk rs) :
    Calls Try.prog 20 #[.slice a len cap] w fun e w' => e = .returned (.string (capS rs)) ∧ Below w.heap.size w w' := by
  have hl := h.length
  have hm := h.len_int
  have h60 := hok.2
  have HG := Lib.hid h
  have HK := Lib.hid hok
  have V := Lib.hid (capV_yes hok)
  have HZ := Lib.hid (recs_small hok.1)
  clear h hok
  go_enter Try.func20, Try.ntmps20
  go_wp2_with fail
  refine (sCaptureValid_any a len cap rs _ HG.out HZ.out).mono ?_
  rw [V.out]
  rintro e w1 ⟨rfl, hb1⟩
  have HB1 := Lib.hid hb1
  clear hb1
  go_wp2
  go_loopw [3, 4] (fun o i wr => ∃ (k : Nat) (X : ByteArray), k ≤ len ∧ o = .string X ∧ i = .int .i64 k ∧ Hid (capS (rs.take k) = X) ∧ X.size ≤ 4 + 126 * k ∧ Hid (Below w.heap.size w wr)) (fun _ i _ => len - (intOf i).toNat)
  case atStart => exact ⟨0, _, Nat.zero_le _, rfl, rfl, Lib.hid ByteArray.append_empty, by decide, HB1⟩
  case round =>
    obtain ⟨k, X, hk, rfl, rfl, hX, hs1, hbel⟩ := hrel
    by_cases hlt : k < len
    · obtain ⟨x, rfl⟩ := HG.out.addr hlt
      obtain ⟨p0, p1⟩ := HG.out.at hbel.out hlt
      have hkl : k < rs.length := by omega
      obtain ⟨t, ht⟩ : ∃ t, (rcAt rs k).1 = t := ⟨_, rfl⟩
      obtain ⟨b, hb⟩ : ∃ b, (rcAt rs k).2 = b := ⟨_, rfl⟩
      have hr := recsOk_at hkl ht hb HK.out.1
      have hlow := lastT_low (l := 0) (by omega) (recsOk_left (rs := rs.take k) (ds := rs.drop k) (by rw [List.take_append_drop]; exact HK.out.1))
      have t0 : 0 ≤ t := by have := hr.1.1; omega
      have t1 : t ≤ 4294967295 := hr.1.2
      have b1 : b.size ≤ 120 := hr.2
      have N := Lib.hid (show capS (rs.take (k + 1)) = X ++ recS (t, b) by
        rw [take_rcAt hkl, show rcAt rs k = (t, b) from Prod.ext ht hb, ← hX.out]
        unfold capS
        rw [recsS_snoc, ByteArray.append_assoc])
      rw [ht] at p0
      rw [hb] at p1
      have hcz := recS_size (t, b)
      have hz9 : ¬ 9223372036854775807 < X.size + (recS (t, b)).size := by first | omega | (simp only at hcz; omega)
      clear ht hb hr hlow
      go_wp2_with fail
      refine (l14Put_any t b _ t0 t1 b1).mono ?_
      rintro e w2 ⟨rfl, hb2⟩
      have HP := Lib.hid (hbel.out.trans (hb2.mono hbel.out.size))
      clear hb2
      go_wp2
      go_roundw
      case rel => exact ⟨k + 1, _, by omega, rfl, by go_num, N, by rw [ByteArray.size_append]; first | omega | (simp only at hcz; omega), HP⟩
      case measure => simp [intOf]; omega
    · obtain rfl : k = len := by omega
      have E := Lib.hid (show X = capS rs by rw [← hX.out, List.take_of_length_le (by omega)])
      go_wp2
      go_ret
      exact ⟨ret_s E.out, hbel.out⟩

set_option maxHeartbeats 400000 in
theorem sCapturePut_no (a : Option Addr) (len cap : Nat) (rs : List (Int × ByteArray)) (w : World) (h : Rcs w a len cap rs) (hz : ∀ r ∈ rs, r.2.size ≤ maxLen) (hok : ¬ CapOk rs) :
    Calls Try.prog 20 #[.slice a len cap] w fun e w' => e = .returned (.string (ByteArray.mk #[])) ∧ Below w.heap.size w w' := by
  have V := Lib.hid (capV_no hok)
  go_enter Try.func20, Try.ntmps20
  go_wp2_with fail
  refine (sCaptureValid_any a len cap rs _ h hz).mono ?_
  rw [V.out]
  rintro e w1 ⟨rfl, hb1⟩
  go_wp2
  go_ret
  exact ⟨rfl, hb1⟩

end Go.Proofs.Ytodpbjomiplphab
