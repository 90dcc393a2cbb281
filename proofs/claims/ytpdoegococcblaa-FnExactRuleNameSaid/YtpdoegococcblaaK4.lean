/- The contracts of the drawing functions of chapter 1: each draws a number or a text in its range and touches nothing that was there. -/
import Derived.Test.YtpdoegococcblaaK3
namespace Go.Proofs.Ytpdoegococcblaa
open Go.RowKit

/-- A number with the property P was drawn; the reader stands; nothing below B has turned. -/
def DrewInt (B r m : Nat) (P : Int → Prop) (w : World) (e : Ending) (w' : World) : Prop :=
  ∃ n : Int, e = .returned (.int .i64 n) ∧ P n ∧ Rd B r m w' ∧ Below B w w'
/-- A text of at most n bytes was drawn. -/
def DrewStr (B r m n : Nat) (w : World) (e : Ending) (w' : World) : Prop :=
  ∃ s : ByteArray, e = .returned (.string s) ∧ s.size ≤ n ∧ Rd B r m w' ∧ Below B w w'
theorem tab_at {w w2 : World} {r T : Nat} {cs : Array Value} (ho : Only r (w.alloc (.cells cs T)) w2) (hr : r < w.heap.size) (j : Nat) (v : Value) (hj : cs[j]? = some v) : w2.cell? ⟨w.heap.size, j, none⟩ = some v := by
  obtain ⟨u, q, rfl⟩ := ho
  rw [World.cell?_drewN]
  exact cell_far (by omega) (by rw [World.cell?_alloc_at _ _ _ _ rfl]; exact hj)
theorem Rd.alloc {B r m : Nat} {w : World} (h : Rd B r m w) (o : Obj) : Rd B r m (w.alloc o) :=
  h.keep ((Below.refl _ _).alloc (Nat.le_refl _) o) h.2.1
theorem Rd.below_alloc {B r m : Nat} {w : World} (h : Rd B r m w) (o : Obj) : Below B w (w.alloc o) :=
  (Below.refl _ _).alloc (Nat.le_of_lt (Nat.lt_of_le_of_lt h.1 h.2.1)) o

set_option maxHeartbeats 1000000 in
theorem l91Word_any (B r m : Nat) (w : World) (h : Rd B r m w) (hm : m ≤ 100000000) :
    Calls Try.prog 63 #[.pointer (some ⟨r, 0, none⟩)] w (DrewInt B r (m + 3) (fun n => -1 ≤ n ∧ n ≤ 65536) w) := by
  go_enter Try.func63, Try.ntmps63
  go_wp2_with fail
  refine (pick_any B r m 12 _ h (by omega) (by omega) (by omega)).mono ?_
  rintro e w1 ⟨k, rfl, k0, k1, hr1, ho1⟩
  have hb1 := ho1.below h.1
  by_cases c0 : k = 0
  · subst c0
    go_wp2_with fail
    refine (pick_any B r (m + 1) 6 _ (hr1.alloc _) (by omega) (by omega) (by omega)).mono ?_
    rintro e w2 ⟨j, rfl, j0, j1, hr2, ho2⟩
    obtain ⟨z, z0, z1, hz⟩ : ∃ z : Int, -1 ≤ z ∧ z ≤ 65536 ∧ w2.cell? ⟨w1.heap.size, j.toNat, none⟩ = some (.int .i64 z) := by
      rcases (show j = 0 ∨ j = 1 ∨ j = 2 ∨ j = 3 ∨ j = 4 ∨ j = 5 by omega) with rfl | rfl | rfl | rfl | rfl | rfl
      all_goals
        refine ⟨_, ?_, ?_, tab_at ho2 hr1.2.1 _ _ rfl⟩
        all_goals decide
    go_wp2
    go_ret
    exact ⟨z, rfl, ⟨z0, z1⟩, hr2.mono (by omega), hb1.trans ((hr1.below_alloc _).trans (ho2.below h.1))⟩
  · by_cases c1 : k = 1 ∨ k = 2
    · rcases c1 with rfl | rfl
      all_goals
        go_wp2_with fail
        refine (pick_any B r (m + 1) 6 _ hr1 (by omega) (by omega) (by omega)).mono ?_
        rintro e w2 ⟨j, rfl, j0, j1, hr2, ho2⟩
        go_wp2
        go_ret
        exact ⟨_, rfl, ⟨by omega, by omega⟩, hr2.mono (by omega), hb1.trans (ho2.below h.1)⟩
    · have c2 : ¬ k = 1 := by omega
      have c3 : ¬ k = 2 := by omega
      clear c1
      by_cases c4 : k = 3
      · subst c4
        go_wp2_with fail
        refine (pick_any B r (m + 1) 256 _ hr1 (by omega) (by omega) (by omega)).mono ?_
        rintro e w2 ⟨j, rfl, j0, j1, hr2, ho2⟩
        go_wp2_with fail
        refine (pick_any B r (m + 2) 256 _ hr2 (by omega) (by omega) (by omega)).mono ?_
        rintro e w3 ⟨i, rfl, i0, i1, hr3, ho3⟩
        go_wp2
        go_ret
        exact ⟨_, rfl, ⟨by omega, by omega⟩, hr3.mono (by omega), hb1.trans ((ho2.below h.1).trans (ho3.below h.1))⟩
      · go_wp2_with fail
        refine (pick_any B r (m + 1) 20 _ hr1 (by omega) (by omega) (by omega)).mono ?_
        rintro e w2 ⟨j, rfl, j0, j1, hr2, ho2⟩
        go_wp2
        go_ret
        exact ⟨_, rfl, ⟨by omega, by omega⟩, hr2.mono (by omega), hb1.trans (ho2.below h.1)⟩

set_option maxHeartbeats 1000000 in
theorem l91Good_any (B r m : Nat) (w : World) (h : Rd B r m w) (hm : m ≤ 100000000) :
    Calls Try.prog 79 #[.pointer (some ⟨r, 0, none⟩)] w (DrewInt B r (m + 3) (fun n => 0 ≤ n ∧ n ≤ 65535) w) := by
  go_enter Try.func79, Try.ntmps79
  go_wp2_with fail
  refine (l91Word_any B r m _ h hm).mono ?_
  rintro e w1 ⟨k, rfl, ⟨k0, k1⟩, hr1, hb1⟩
  go_wp2
  all_goals
    go_ret
    exact ⟨_, rfl, ⟨by omega, by omega⟩, hr1, hb1⟩

theorem own_only {w w' : World} {r C e size n : Nat} {v : Value} {xs : List Value} (ho : Only r w w') (hr : r < C) (h : w.ownsRow C e size v n xs) : w'.ownsRow C e size v n xs := by
  obtain ⟨u, q, rfl⟩ := ho
  exact ownsRow_setCell_below h (a := ⟨r, 1, none⟩) hr u
theorem own_ge {w : World} {C e size n k : Nat} {v : Value} {xs : List Value} (h : w.ownsRow C e size v n xs) (hk : v.ownBlock = some k) : C ≤ k := by
  rcases h.2 with ⟨rfl, _⟩ | ⟨g, cap, cur, rfl, hg, _⟩
  · simp [Value.ownBlock] at hk
  · simp [Value.ownBlock] at hk
    omega
theorem info_u8 : (Try.prog.info? 5).map (fun i => (i.zero, i.size, i.bytes)) = some (some (.int .u8 0), 1, 1) := by kernel_rfl
theorem conv_own {w : World} {C n : Nat} {v : Value} {l : List Int} (h : w.ownsRow C 5 1 v n (l.map (Value.int .u8))) :
    (convert 22 9 v).run Try.prog w = .ok (.string (strOfNums l)) w := by
  have hl : l.length = n := by have := h.1; simpa using this
  rcases h.2 with ⟨rfl, h0⟩ | ⟨g, cap, cur, rfl, hg, _⟩
  · have : l = [] := List.eq_nil_of_length_eq_zero (by omega)
    subst this
    exact run_convert_bytes_nil w 22 5 Try.underlying22 Try.underlying5 0 0 9 Try.underlying9
  · refine run_convert_bytes_arg w 22 5 Try.underlying22 Try.underlying5 g 0 n cap l hl (fun i hi => ?_) 9 Try.underlying9
    have := h.cellAt i (by omega)
    rw [Nat.zero_add, this]
    simp [List.getD, List.getElem?_eq_getElem (show i < l.length by omega)]

set_option maxHeartbeats 1000000 in
theorem l91Bytes_any (B r m n : Nat) (w : World) (h : Rd B r m w) (hm : m ≤ 1000000) (hn : n ≤ 1000) :
    Calls Try.prog 83 #[.pointer (some ⟨r, 0, none⟩), .int .i64 n] w (DrewStr B r (m + 1 + 2 * n) n w) := by
  obtain ⟨i0, hi, hz0, hz1, hz2⟩ := info_parts info_u8
  go_enter Try.func83, Try.ntmps83
  go_wp2_with fail
  refine (pick_any B r m (n + 1) _ (h.alloc _) (by omega) (by omega) (by omega)).mono ?_
  rintro e w1 ⟨kk, rfl, k0, k1, hr1, ho1⟩
  obtain ⟨K, rfl⟩ := Int.eq_ofNat_of_zero_le k0
  have hb1 : Below B w w1 := (h.below_alloc _).trans (ho1.below h.1)
  have hown1 : w1.ownsRow w.heap.size 5 1 (.slice (some ⟨w.heap.size, 0, none⟩) 0 0) 0 (([] : List Int).map (Value.int .u8)) := own_only ho1 h.2.1 (World.ownsRow_lit w #[] 0 (Nat.le_refl _) (by simp) rfl)
  clear ho1
  go_wp2
  go_loopw [5, 7] (fun v i wr => ∃ (j : Nat) (l : List Int), j ≤ K ∧ i = .int .i64 j ∧ l.length = j ∧ wr.ownsRow w.heap.size 5 1 v j (l.map (Value.int .u8)) ∧ Rd B r (m + 1 + 2 * j) wr ∧ Below B w wr) (fun _ i _ => K - (intOf i).toNat)
  case atStart => exact ⟨0, [], Nat.zero_le _, rfl, rfl, hown1, hr1, hb1⟩
  case round =>
    obtain ⟨j, l, hj, rfl, hjl, hown, hrd, hbel⟩ := hrel
    have HL := Lib.hid hjl
    clear hjl hown1 hr1 hb1
    by_cases hlt : j < K
    · go_wp2_with fail
      refine (pick_any B r (m + 1 + 2 * j) 16 _ hrd (by omega) (by omega) (by omega)).mono ?_
      rintro e w2 ⟨x, rfl, x0, x1, hr2, ho2⟩
      have hown2 := own_only ho2 h.2.1 hown
      have hb2 := hbel.trans (ho2.below h.1)
      clear hown hbel ho2 hrd
      go_wp2_with fail
      refine (pick_any B r (m + 1 + 2 * j + 1) 18 _ hr2 (by omega) (by omega) (by omega)).mono ?_
      rintro e w3 ⟨y, rfl, y0, y1, hr3, ho3⟩
      have hown3 := own_only ho3 h.2.1 hown2
      have hb3 := hb2.trans (ho3.below h.1)
      clear hown2 hb2 ho3 hr2
      have p0 := Int.mul_nonneg x0 y0
      have p1 : x * y ≤ 255 := by
        have := Int.mul_le_mul (show x ≤ 15 by omega) (show y ≤ 17 by omega) y0 (by omega)
        omega
      go_wp2_with (at_builtin; refine wpList_append_own _ rfl _ _ 22 rfl w.heap.size 5 i0 (.int .u8 0) 1 1 Try.underlying22 hi hz0 hz1 hz2 rfl (by decide) _ _ _ rfl (hown3.alloc _) ⟨w3.heap.size, 0, none⟩ 1 1 [.int .u8 (x * y)] rfl rfl ?c1 ?c2 ?c3 ?c4 ?c5 ?_)
      case c1 =>
        intro i u hi'
        match i, hi' with
        | 0, hi' => simp at hi'; subst hi'; simp [Addr.add]
      case c2 => intro u hu; simp at hu; subst hu; rfl
      case c3 => unfold maxLen; omega
      case c4 => omega
      case c5 => have := hb3.size; simp; omega
      · intro v' w4 hown4 hgrow _
        have hC : w.heap.size ≤ (w3.alloc (.cells #[.int .u8 (x * y)] 5)).heap.size := by have := hb3.size; simp; omega
        have hbb : Below w.heap.size (w3.alloc (.cells #[.int .u8 (x * y)] 5)) w4 := (Below.refl _ _).grown hgrow hC (fun k hk => own_ge hown3 hk)
        have hr4 := (hr3.alloc (.cells #[.int .u8 (x * y)] 5)).keep hbb h.2.1
        have hb4 : Below B w w4 := (hb3.trans (hr3.below_alloc _)).trans (hbb.mono (Nat.le_of_lt (Nat.lt_of_le_of_lt h.1 h.2.1)))
        clear hgrow hown3 hbb hr3 hb3
        go_wp2
        go_roundw
        case rel => exact ⟨j + 1, l ++ [x * y], by omega, by go_num, by simp [HL.out], by simpa using hown4, hr4.mono (by omega), hb4⟩
        case measure => simp [intOf]; omega
    · obtain rfl : j = K := by omega
      have kc := conv_own hown
      go_wp2
      go_ret
      exact ⟨_, rfl, by rw [strOfNums_size, HL.out]; omega, hrd.mono (by omega), hbel⟩

/-- A number was drawn out of the given bytes. -/
def DrewN (P : Int → Prop) (w : World) (e : Ending) (w' : World) : Prop := ∃ n : Int, e = .returned (.int .i64 n) ∧ P n ∧ Below w.heap.size w w'
/-- A text and a place were drawn. -/
def DrewSI (P : ByteArray → Int → Prop) (w : World) (e : Ending) (w' : World) : Prop := ∃ s n, e = .returned (.tuple #[.string s, .int .i64 n]) ∧ P s n ∧ Below w.heap.size w w'

end Go.Proofs.Ytpdoegococcblaa
