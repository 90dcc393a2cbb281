/- Texts that a proof needs, merged: K4, K4a, K130, K10, K4b, K19, G12, G17, K20v, K40, K90, K129, K131. -/
import Derived.Test.YtncbgejggfkdmabM1
import Derived.Laws.OwnMore
import Derived.Deep.RegionHeldLaw
import Derived.Deep.QuietTactic
import Derived.BigQuiet
import Derived.IntWalk
import Derived.Laws.AppendOwn
import Derived.Deep.AppendLies
import Derived.Handy

/- The contracts of the drawing functions of chapter 1: each draws a number or a text in its range and touches nothing that was there. -/
namespace Go.Proofs.Ytncbgejggfkdmab
open Go.RowKit

/-- A number with the property P was drawn; the reader stands; nothing below B has turned. -/
def DrewInt (B r m : Nat) (P : Int → Prop) (w : World) (e : Ending) (w' : World) : Prop :=
  ∃ n : Int, e = .returned (.int .i64 n) ∧ P n ∧ Rd B r m w' ∧ Below B w w'
/-- A text of at most n bytes was drawn. -/
def DrewStr (B r m n : Nat) (w : World) (e : Ending) (w' : World) : Prop :=
  ∃ s : ByteArray, e = .returned (.string s) ∧ s.size ≤ n ∧ Rd B r m w' ∧ Below B w w'
theorem tab_at {w w2 : World} {r T : Nat} {cs : Array Value} (ho : Only r (w.alloc (.cells cs T)) w2) (hr : r < w.heap.size) (j : Nat) (v : Value) (hj : cs[j]? = some v) : w2.cell? ⟨w.heap.size, j, none⟩ = some v := by
  obtain ⟨u, q, rfl⟩ := ho
  rw [World.cell?_drewN]
  exact cell_far (by omega) (by rw [World.cell?_alloc_at _ _ _ _ rfl]; exact hj)
theorem Rd.alloc {B r m : Nat} {w : World} (h : Rd B r m w) (o : Obj) : Rd B r m (w.alloc o) :=
  h.keep ((Below.refl _ _).alloc (Nat.le_refl _) o) h.2.1
theorem Rd.below_alloc {B r m : Nat} {w : World} (h : Rd B r m w) (o : Obj) : Below B w (w.alloc o) :=
  (Below.refl _ _).alloc (Nat.le_of_lt (Nat.lt_of_le_of_lt h.1 h.2.1)) o

set_option maxHeartbeats 1000000 in
theorem l91Word_any (B r m : Nat) (w : World) (h : Rd B r m w) (hm : m ≤ 100000000) :
    Calls Try.prog 70 #[.pointer (some ⟨r, 0, none⟩)] w (DrewInt B r (m + 3) (fun n => -1 ≤ n ∧ n ≤ 65536) w) := by
  go_enter Try.func70, Try.ntmps70
  go_wp2_with fail
  refine (pick_any B r m 12 _ h (by omega) (by omega) (by omega)).mono ?_
  rintro e w1 ⟨k, rfl, k0, k1, hr1, ho1⟩
  have hb1 := ho1.below h.1
  by_cases c0 : k = 0
  · subst c0
    go_wp2_with fail
    refine (pick_any B r (m + 1) 6 _ (hr1.alloc _) (by omega) (by omega) (by omega)).mono ?_
    rintro e w2 ⟨j, rfl, j0, j1, hr2, ho2⟩
    obtain ⟨z, z0, z1, hz⟩ : ∃ z : Int, -1 ≤ z ∧ z ≤ 65536 ∧ w2.cell? ⟨w1.heap.size, j.toNat, none⟩ = some (.int .i64 z) := by
      rcases (show j = 0 ∨ j = 1 ∨ j = 2 ∨ j = 3 ∨ j = 4 ∨ j = 5 by omega) with rfl | rfl | rfl | rfl | rfl | rfl
      all_goals
        refine ⟨_, ?_, ?_, tab_at ho2 hr1.2.1 _ _ rfl⟩
        all_goals decide
    go_wp2
    go_ret
    exact ⟨z, rfl, ⟨z0, z1⟩, hr2.mono (by omega), hb1.trans ((hr1.below_alloc _).trans (ho2.below h.1))⟩
  · by_cases c1 : k = 1 ∨ k = 2
    · rcases c1 with rfl | rfl
      all_goals
        go_wp2_with fail
        refine (pick_any B r (m + 1) 6 _ hr1 (by omega) (by omega) (by omega)).mono ?_
        rintro e w2 ⟨j, rfl, j0, j1, hr2, ho2⟩
        go_wp2
        go_ret
        exact ⟨_, rfl, ⟨by omega, by omega⟩, hr2.mono (by omega), hb1.trans (ho2.below h.1)⟩
    · have c2 : ¬ k = 1 := by omega
      have c3 : ¬ k = 2 := by omega
      clear c1
      by_cases c4 : k = 3
      · subst c4
        go_wp2_with fail
        refine (pick_any B r (m + 1) 256 _ hr1 (by omega) (by omega) (by omega)).mono ?_
        rintro e w2 ⟨j, rfl, j0, j1, hr2, ho2⟩
        go_wp2_with fail
        refine (pick_any B r (m + 2) 256 _ hr2 (by omega) (by omega) (by omega)).mono ?_
        rintro e w3 ⟨i, rfl, i0, i1, hr3, ho3⟩
        go_wp2
        go_ret
        exact ⟨_, rfl, ⟨by omega, by omega⟩, hr3.mono (by omega), hb1.trans ((ho2.below h.1).trans (ho3.below h.1))⟩
      · go_wp2_with fail
        refine (pick_any B r (m + 1) 20 _ hr1 (by omega) (by omega) (by omega)).mono ?_
        rintro e w2 ⟨j, rfl, j0, j1, hr2, ho2⟩
        go_wp2
        go_ret
        exact ⟨_, rfl, ⟨by omega, by omega⟩, hr2.mono (by omega), hb1.trans (ho2.below h.1)⟩

set_option maxHeartbeats 1000000 in
theorem l91Good_any (B r m : Nat) (w : World) (h : Rd B r m w) (hm : m ≤ 100000000) :
    Calls Try.prog 71 #[.pointer (some ⟨r, 0, none⟩)] w (DrewInt B r (m + 3) (fun n => 0 ≤ n ∧ n ≤ 65535) w) := by
  go_enter Try.func71, Try.ntmps71
  go_wp2_with fail
  refine (l91Word_any B r m _ h hm).mono ?_
  rintro e w1 ⟨k, rfl, ⟨k0, k1⟩, hr1, hb1⟩
  go_wp2
  all_goals
    go_ret
    exact ⟨_, rfl, ⟨by omega, by omega⟩, hr1, hb1⟩

theorem own_only {w w' : World} {r C e size n : Nat} {v : Value} {xs : List Value} (ho : Only r w w') (hr : r < C) (h : w.ownsRow C e size v n xs) : w'.ownsRow C e size v n xs := by
  obtain ⟨u, q, rfl⟩ := ho
  exact ownsRow_setCell_below h (a := ⟨r, 1, none⟩) hr u
theorem own_ge {w : World} {C e size n k : Nat} {v : Value} {xs : List Value} (h : w.ownsRow C e size v n xs) (hk : v.ownBlock = some k) : C ≤ k := by
  rcases h.2 with ⟨rfl, _⟩ | ⟨g, cap, cur, rfl, hg, _⟩
  · simp [Value.ownBlock] at hk
  · simp [Value.ownBlock] at hk
    omega
theorem info_u8 : (Try.prog.info? 5).map (fun i => (i.zero, i.size, i.bytes)) = some (some (.int .u8 0), 1, 1) := by kernel_rfl
theorem conv_own {w : World} {C n : Nat} {v : Value} {l : List Int} (h : w.ownsRow C 5 1 v n (l.map (Value.int .u8))) :
    (convert 22 9 v).run Try.prog w = .ok (.string (strOfNums l)) w := by
  have hl : l.length = n := by have := h.1; simpa using this
  rcases h.2 with ⟨rfl, h0⟩ | ⟨g, cap, cur, rfl, hg, _⟩
  · have : l = [] := List.eq_nil_of_length_eq_zero (by omega)
    subst this
    exact run_convert_bytes_nil w 22 5 Try.underlying22 Try.underlying5 0 0 9 Try.underlying9
  · refine run_convert_bytes_arg w 22 5 Try.underlying22 Try.underlying5 g 0 n cap l hl (fun i hi => ?_) 9 Try.underlying9
    have := h.cellAt i (by omega)
    rw [Nat.zero_add, this]
    simp [List.getD, List.getElem?_eq_getElem (show i < l.length by omega)]

set_option maxHeartbeats 1000000 in
theorem l91Bytes_any (B r m n : Nat) (w : World) (h : Rd B r m w) (hm : m ≤ 1000000) (hn : n ≤ 1000) :
    Calls Try.prog 82 #[.pointer (some ⟨r, 0, none⟩), .int .i64 n] w (DrewStr B r (m + 1 + 2 * n) n w) := by
  obtain ⟨i0, hi, hz0, hz1, hz2⟩ := info_parts info_u8
  go_enter Try.func82, Try.ntmps82
  go_wp2_with fail
  refine (pick_any B r m (n + 1) _ (h.alloc _) (by omega) (by omega) (by omega)).mono ?_
  rintro e w1 ⟨kk, rfl, k0, k1, hr1, ho1⟩
  obtain ⟨K, rfl⟩ := Int.eq_ofNat_of_zero_le k0
  have hb1 : Below B w w1 := (h.below_alloc _).trans (ho1.below h.1)
  have hown1 : w1.ownsRow w.heap.size 5 1 (.slice (some ⟨w.heap.size, 0, none⟩) 0 0) 0 (([] : List Int).map (Value.int .u8)) := own_only ho1 h.2.1 (World.ownsRow_lit w #[] 0 (Nat.le_refl _) (by simp) rfl)
  clear ho1
  go_wp2
  go_loopw [5, 7] (fun v i wr => ∃ (j : Nat) (l : List Int), j ≤ K ∧ i = .int .i64 j ∧ l.length = j ∧ wr.ownsRow w.heap.size 5 1 v j (l.map (Value.int .u8)) ∧ Rd B r (m + 1 + 2 * j) wr ∧ Below B w wr) (fun _ i _ => K - (intOf i).toNat)
  case atStart => exact ⟨0, [], Nat.zero_le _, rfl, rfl, hown1, hr1, hb1⟩
  case round =>
    obtain ⟨j, l, hj, rfl, hjl, hown, hrd, hbel⟩ := hrel
    have HL := Lib.hid hjl
    clear hjl hown1 hr1 hb1
    by_cases hlt : j < K
    · go_wp2_with fail
      refine (pick_any B r (m + 1 + 2 * j) 16 _ hrd (by omega) (by omega) (by omega)).mono ?_
      rintro e w2 ⟨x, rfl, x0, x1, hr2, ho2⟩
      have hown2 := own_only ho2 h.2.1 hown
      have hb2 := hbel.trans (ho2.below h.1)
      clear hown hbel ho2 hrd
      go_wp2_with fail
      refine (pick_any B r (m + 1 + 2 * j + 1) 18 _ hr2 (by omega) (by omega) (by omega)).mono ?_
      rintro e w3 ⟨y, rfl, y0, y1, hr3, ho3⟩
      have hown3 := own_only ho3 h.2.1 hown2
      have hb3 := hb2.trans (ho3.below h.1)
      clear hown2 hb2 ho3 hr2
      have p0 := Int.mul_nonneg x0 y0
      have p1 : x * y ≤ 255 := by
        have := Int.mul_le_mul (show x ≤ 15 by omega) (show y ≤ 17 by omega) y0 (by omega)
        omega
      go_wp2_with (at_builtin; refine wpList_append_own _ rfl _ _ 22 rfl w.heap.size 5 i0 (.int .u8 0) 1 1 Try.underlying22 hi hz0 hz1 hz2 rfl (by decide) _ _ _ rfl (hown3.alloc _) ⟨w3.heap.size, 0, none⟩ 1 1 [.int .u8 (x * y)] rfl rfl ?c1 ?c2 ?c3 ?c4 ?c5 ?_)
      case c1 =>
        intro i u hi'
        match i, hi' with
        | 0, hi' => simp at hi'; subst hi'; simp [Addr.add]
      case c2 => intro u hu; simp at hu; subst hu; rfl
      case c3 => unfold maxLen; omega
      case c4 => omega
      case c5 => have := hb3.size; simp; omega
      · intro v' w4 hown4 hgrow _
        have hC : w.heap.size ≤ (w3.alloc (.cells #[.int .u8 (x * y)] 5)).heap.size := by have := hb3.size; simp; omega
        have hbb : Below w.heap.size (w3.alloc (.cells #[.int .u8 (x * y)] 5)) w4 := (Below.refl _ _).grown hgrow hC (fun k hk => own_ge hown3 hk)
        have hr4 := (hr3.alloc (.cells #[.int .u8 (x * y)] 5)).keep hbb h.2.1
        have hb4 : Below B w w4 := (hb3.trans (hr3.below_alloc _)).trans (hbb.mono (Nat.le_of_lt (Nat.lt_of_le_of_lt h.1 h.2.1)))
        clear hgrow hown3 hbb hr3 hb3
        go_wp2
        go_roundw
        case rel => exact ⟨j + 1, l ++ [x * y], by omega, by go_num, by simp [HL.out], by simpa using hown4, hr4.mono (by omega), hb4⟩
        case measure => simp [intOf]; omega
    · obtain rfl : j = K := by omega
      have kc := conv_own hown
      go_wp2
      go_ret
      exact ⟨_, rfl, by rw [strOfNums_size, HL.out]; omega, hrd.mono (by omega), hbel⟩

/-- A number was drawn out of the given bytes. -/
def DrewN (P : Int → Prop) (w : World) (e : Ending) (w' : World) : Prop := ∃ n : Int, e = .returned (.int .i64 n) ∧ P n ∧ Below w.heap.size w w'
/-- A text and a place were drawn. -/
def DrewSI (P : ByteArray → Int → Prop) (w : World) (e : Ending) (w' : World) : Prop := ∃ s n, e = .returned (.tuple #[.string s, .int .i64 n]) ∧ P s n ∧ Below w.heap.size w w'

end Go.Proofs.Ytncbgejggfkdmab

/- The drawing functions once more: besides the reader they touch no block that was there. -/
namespace Go.Proofs.Ytncbgejggfkdmab
open Go.RowKit

/-- Of the blocks below C none but block r has turned. -/
def Aside (C r : Nat) (w w' : World) : Prop := ∀ b, b < C → b ≠ r → w'.heap[b]? = w.heap[b]?
theorem Aside.refl (C r : Nat) (w : World) : Aside C r w w := fun _ _ _ => rfl
theorem Aside.trans {C r : Nat} {a b c : World} (h : Aside C r a b) (k : Aside C r b c) : Aside C r a c := fun i hi hr => (k i hi hr).trans (h i hi hr)
theorem Aside.less {C D r : Nat} {a b : World} (h : Aside C r a b) (hD : D ≤ C) : Aside D r a b := fun i hi hr => h i (by omega) hr
theorem Aside.cell {C r b i : Nat} {w w' : World} {v : Value} (h : Aside C r w w') (hb : b < C) (hr : b ≠ r) (hc : w.cell? ⟨b, i, none⟩ = some v) : w'.cell? ⟨b, i, none⟩ = some v :=
  (World.cell?_of_block (w := w) (h b hb hr)).trans hc
theorem Aside.frozen {C r b i : Nat} {w w' : World} (h : Aside C r w w') (hb : b < C) (hr : b ≠ r) (hf : w.frozen? ⟨b, i, none⟩ = false) : w'.frozen? ⟨b, i, none⟩ = false :=
  (World.frozen?_of_block (w := w) (h b hb hr)).trans hf
theorem below_aside {C D r : Nat} {w w' : World} (h : Below D w w') (hD : C ≤ D) : Aside C r w w' := fun b hb _ => h.block b (by omega)
theorem Only.aside {r C : Nat} {w w' : World} (h : Only r w w') : Aside C r w w' := by
  obtain ⟨u, q, rfl⟩ := h
  intro b _ hr
  rw [World.heap_drewN]
  exact Below.heap_setCell _ _ _ _ (by simpa using hr)
theorem aside_alloc {C r : Nat} (w : World) (o : Obj) (h : C ≤ w.heap.size) : Aside C r w (w.alloc o) := below_aside ((Below.refl C w).alloc h o) (Nat.le_refl _)

set_option maxHeartbeats 1000000 in
theorem l91Word_as (B r m : Nat) (w : World) (h : Rd B r m w) (hm : m ≤ 100000000) :
    Calls Try.prog 70 #[.pointer (some ⟨r, 0, none⟩)] w fun e w' => DrewInt B r (m + 3) (fun n => -1 ≤ n ∧ n ≤ 65536) w e w' ∧ Aside w.heap.size r w w' := by
  go_enter Try.func70, Try.ntmps70
  go_wp2_with fail
  refine (pick_any B r m 12 _ h (by omega) (by omega) (by omega)).mono ?_
  rintro e w1 ⟨k, rfl, k0, k1, hr1, ho1⟩
  have hb1 := ho1.below h.1
  have ha1 : Aside w.heap.size r w w1 := ho1.aside
  have HZ1 := Lib.hid ho1.size
  by_cases c0 : k = 0
  · subst c0
    go_wp2_with fail
    refine (pick_any B r (m + 1) 6 _ (hr1.alloc _) (by omega) (by omega) (by omega)).mono ?_
    rintro e w2 ⟨j, rfl, j0, j1, hr2, ho2⟩
    obtain ⟨z, z0, z1, hz⟩ : ∃ z : Int, -1 ≤ z ∧ z ≤ 65536 ∧ w2.cell? ⟨w1.heap.size, j.toNat, none⟩ = some (.int .i64 z) := by
      rcases (show j = 0 ∨ j = 1 ∨ j = 2 ∨ j = 3 ∨ j = 4 ∨ j = 5 by omega) with rfl | rfl | rfl | rfl | rfl | rfl
      all_goals
        refine ⟨_, ?_, ?_, tab_at ho2 hr1.2.1 _ _ rfl⟩
        all_goals decide
    have HA := Lib.hid (ha1.trans ((aside_alloc w1 _ (by rw [HZ1.out]; exact Nat.le_refl _)).trans ho2.aside))
    go_wp2
    go_ret
    exact ⟨⟨z, rfl, ⟨z0, z1⟩, hr2.mono (by omega), hb1.trans ((hr1.below_alloc _).trans (ho2.below h.1))⟩, HA.out⟩
  · by_cases c1 : k = 1 ∨ k = 2
    · rcases c1 with rfl | rfl
      all_goals
        go_wp2_with fail
        refine (pick_any B r (m + 1) 6 _ hr1 (by omega) (by omega) (by omega)).mono ?_
        rintro e w2 ⟨j, rfl, j0, j1, hr2, ho2⟩
        go_wp2
        go_ret
        exact ⟨⟨_, rfl, ⟨by omega, by omega⟩, hr2.mono (by omega), hb1.trans (ho2.below h.1)⟩, ha1.trans ho2.aside⟩
    · have c2 : ¬ k = 1 := by omega
      have c3 : ¬ k = 2 := by omega
      clear c1
      by_cases c4 : k = 3
      · subst c4
        go_wp2_with fail
        refine (pick_any B r (m + 1) 256 _ hr1 (by omega) (by omega) (by omega)).mono ?_
        rintro e w2 ⟨j, rfl, j0, j1, hr2, ho2⟩
        go_wp2_with fail
        refine (pick_any B r (m + 2) 256 _ hr2 (by omega) (by omega) (by omega)).mono ?_
        rintro e w3 ⟨i, rfl, i0, i1, hr3, ho3⟩
        go_wp2
        go_ret
        exact ⟨⟨_, rfl, ⟨by omega, by omega⟩, hr3.mono (by omega), hb1.trans ((ho2.below h.1).trans (ho3.below h.1))⟩, ha1.trans (ho2.aside.trans ho3.aside)⟩
      · go_wp2_with fail
        refine (pick_any B r (m + 1) 20 _ hr1 (by omega) (by omega) (by omega)).mono ?_
        rintro e w2 ⟨j, rfl, j0, j1, hr2, ho2⟩
        go_wp2
        go_ret
        exact ⟨⟨_, rfl, ⟨by omega, by omega⟩, hr2.mono (by omega), hb1.trans (ho2.below h.1)⟩, ha1.trans ho2.aside⟩

set_option maxHeartbeats 1000000 in
theorem l91Bytes_as (B r m n : Nat) (w : World) (h : Rd B r m w) (hm : m ≤ 1000000) (hn : n ≤ 1000) :
    Calls Try.prog 82 #[.pointer (some ⟨r, 0, none⟩), .int .i64 n] w fun e w' => DrewStr B r (m + 1 + 2 * n) n w e w' ∧ Aside w.heap.size r w w' := by
  obtain ⟨i0, hi, hz0, hz1, hz2⟩ := info_parts info_u8
  go_enter Try.func82, Try.ntmps82
  go_wp2_with fail
  refine (pick_any B r m (n + 1) _ (h.alloc _) (by omega) (by omega) (by omega)).mono ?_
  rintro e w1 ⟨kk, rfl, k0, k1, hr1, ho1⟩
  obtain ⟨K, rfl⟩ := Int.eq_ofNat_of_zero_le k0
  have hb1 : Below B w w1 := (h.below_alloc _).trans (ho1.below h.1)
  have ha1 : Aside w.heap.size r w w1 := (aside_alloc w _ (Nat.le_refl _)).trans ho1.aside
  have hown1 : w1.ownsRow w.heap.size 5 1 (.slice (some ⟨w.heap.size, 0, none⟩) 0 0) 0 (([] : List Int).map (Value.int .u8)) := own_only ho1 h.2.1 (World.ownsRow_lit w #[] 0 (Nat.le_refl _) (by simp) rfl)
  clear ho1
  go_wp2
  go_loopw [5, 7] (fun v i wr => ∃ (j : Nat) (l : List Int), j ≤ K ∧ i = .int .i64 j ∧ l.length = j ∧ wr.ownsRow w.heap.size 5 1 v j (l.map (Value.int .u8)) ∧ Rd B r (m + 1 + 2 * j) wr ∧ Below B w wr ∧ Aside w.heap.size r w wr ∧ w.heap.size ≤ wr.heap.size) (fun _ i _ => K - (intOf i).toNat)
  case atStart => exact ⟨0, [], Nat.zero_le _, rfl, rfl, hown1, hr1, hb1, ha1, hb1.size⟩
  case round =>
    obtain ⟨j, l, hj, rfl, hjl, hown, hrd, hbel, hasi, hsz⟩ := hrel
    have HL := Lib.hid hjl
    clear hjl hown1 hr1 hb1 ha1
    by_cases hlt : j < K
    · go_wp2_with fail
      refine (pick_any B r (m + 1 + 2 * j) 16 _ hrd (by omega) (by omega) (by omega)).mono ?_
      rintro e w2 ⟨x, rfl, x0, x1, hr2, ho2⟩
      have hown2 := own_only ho2 h.2.1 hown
      have hb2 := hbel.trans (ho2.below h.1)
      have ha2 := hasi.trans ho2.aside
      have HZ2 := Lib.hid (show w.heap.size ≤ w2.heap.size by rw [ho2.size]; exact hsz)
      clear hown hbel ho2 hrd hasi hsz
      go_wp2_with fail
      refine (pick_any B r (m + 1 + 2 * j + 1) 18 _ hr2 (by omega) (by omega) (by omega)).mono ?_
      rintro e w3 ⟨y, rfl, y0, y1, hr3, ho3⟩
      have hown3 := own_only ho3 h.2.1 hown2
      have hb3 := hb2.trans (ho3.below h.1)
      have ha3 := ha2.trans ho3.aside
      have hz3 : w.heap.size ≤ w3.heap.size := by rw [ho3.size]; exact HZ2.out
      clear hown2 hb2 ho3 hr2 ha2 HZ2
      have p0 := Int.mul_nonneg x0 y0
      have p1 : x * y ≤ 255 := by
        have := Int.mul_le_mul (show x ≤ 15 by omega) (show y ≤ 17 by omega) y0 (by omega)
        omega
      go_wp2_with (at_builtin; refine wpList_append_own _ rfl _ _ 22 rfl w.heap.size 5 i0 (.int .u8 0) 1 1 Try.underlying22 hi hz0 hz1 hz2 rfl (by decide) _ _ _ rfl (hown3.alloc _) ⟨w3.heap.size, 0, none⟩ 1 1 [.int .u8 (x * y)] rfl rfl ?c1 ?c2 ?c3 ?c4 ?c5 ?_)
      case c1 =>
        intro i u hi'
        match i, hi' with
        | 0, hi' => simp at hi'; subst hi'; simp [Addr.add]
      case c2 => intro u hu; simp at hu; subst hu; rfl
      case c3 => unfold maxLen; omega
      case c4 => omega
      case c5 => simp; omega
      · intro v' w4 hown4 hgrow _
        have hC : w.heap.size ≤ (w3.alloc (.cells #[.int .u8 (x * y)] 5)).heap.size := by simp; omega
        have hbb : Below w.heap.size (w3.alloc (.cells #[.int .u8 (x * y)] 5)) w4 := (Below.refl _ _).grown hgrow hC (fun k hk => own_ge hown3 hk)
        have hr4 := (hr3.alloc (.cells #[.int .u8 (x * y)] 5)).keep hbb h.2.1
        have hb4 : Below B w w4 := (hb3.trans (hr3.below_alloc _)).trans (hbb.mono (Nat.le_of_lt (Nat.lt_of_le_of_lt h.1 h.2.1)))
        have ha4 : Aside w.heap.size r w w4 := ha3.trans ((aside_alloc w3 _ hz3).trans (below_aside hbb (Nat.le_refl _)))
        have hz4 : w.heap.size ≤ w4.heap.size := Nat.le_trans hC hbb.size
        have HZ := Lib.hid hz4
        clear hgrow hown3 hbb hr3 hb3 ha3 hz3 hC hz4
        go_wp2
        go_roundw
        case rel => exact ⟨j + 1, l ++ [x * y], by omega, by go_num, by simp [HL.out], by simpa using hown4, hr4.mono (by omega), hb4, ha4, HZ.out⟩
        case measure => simp [intOf]; omega
    · obtain rfl : j = K := by omega
      have kc := conv_own hown
      go_wp2
      go_ret
      exact ⟨⟨_, rfl, by rw [strOfNums_size, HL.out]; omega, hrd.mono (by omega), hbel⟩, hasi⟩

end Go.Proofs.Ytncbgejggfkdmab

/- Parts in memory, one after the other: slices of parts. -/
namespace Go.Proofs.Ytncbgejggfkdmab
open Go.RowKit Go.PlainAid

/-- The cells of a part. -/
def cellsP (p : Part) : List Value := [.int .i64 p.tsn, .int .i64 p.stream, .int .i64 p.ssn, .bool p.first, .bool p.last, .bool p.loose, .string p.text]
/-- The value of a part. -/
def partV (p : Part) : Value := .agg #[.int .i64 p.tsn, .int .i64 p.stream, .int .i64 p.ssn, .bool p.first, .bool p.last, .bool p.loose, .string p.text]
def flatP : List Part → List Value
  | [] => []
  | p :: ps => cellsP p ++ flatP ps
theorem flatP_append (ps qs : List Part) : flatP (ps ++ qs) = flatP ps ++ flatP qs := by
  induction ps with
  | nil => rfl
  | cons p ps ih => simp [flatP, ih]
theorem cellsP_length (p : Part) : (cellsP p).length = 7 := rfl
theorem flatP_length (ps : List Part) : (flatP ps).length = ps.length * 7 := by
  induction ps with
  | nil => rfl
  | cons p ps ih =>
    show (cellsP p ++ flatP ps).length = _
    rw [List.length_append, cellsP_length, ih, List.length_cons]
    omega
theorem cellsP_one (p : Part) : ∀ u ∈ cellsP p, u.oneCell' = true := by
  intro u hu
  simp only [cellsP, List.mem_cons, List.not_mem_nil, or_false] at hu
  rcases hu with rfl | rfl | rfl | rfl | rfl | rfl | rfl <;> rfl
theorem flatP_one (ps : List Part) : ∀ u ∈ flatP ps, u.oneCell' = true := by
  induction ps with
  | nil => intro u hu; simp [flatP] at hu
  | cons p ps ih =>
    intro u hu
    rcases List.mem_append.1 hu with h | h
    · exact cellsP_one p u h
    · exact ih u h
theorem take_pAt {ps : List Part} {k : Nat} (h : k < ps.length) : ps.take (k + 1) = ps.take k ++ [pAt ps k] := by
  unfold pAt
  rw [List.take_add_one, List.getD_eq_getElem?_getD, List.getElem?_eq_getElem h]
  rfl
theorem flatP_get (ps : List Part) (i j : Nat) (h : i < ps.length) (hj : j < 7) : (flatP ps)[i * 7 + j]? = (cellsP (pAt ps i))[j]? := by
  induction ps generalizing i with
  | nil => simp at h
  | cons p ps ih =>
    show (cellsP p ++ flatP ps)[i * 7 + j]? = _
    cases i with
    | zero =>
      rw [Nat.zero_mul, Nat.zero_add, List.getElem?_append_left (by rw [cellsP_length]; exact hj)]
      rfl
    | succ i =>
      rw [List.getElem?_append_right (by rw [cellsP_length]; omega), cellsP_length, show (i + 1) * 7 + j - 7 = i * 7 + j from by omega, ih i (by simpa using h)]
      rfl
/-- The cell j of the part i. -/
def atP (x : Addr) (i : Nat) : Nat → Addr
  | 0 => x.add (i * 7)
  | j + 1 => ⟨(x.add (i * 7)).block, (x.add (i * 7)).off + (j + 1), none⟩
/-- A slice of parts: nil, or the cells of 'len' parts, seven each, from an address on. -/
def Pts (w : World) (a : Option Addr) (len cap : Nat) (ps : List Part) : Prop :=
  (a = none ∧ len = 0 ∧ cap = 0 ∧ ps = []) ∨
  ∃ x : Addr, a = some x ∧ len ≤ cap ∧ cap ≤ maxLen ∧ ps.length = len ∧ ∀ i, i < len → ∀ j v, (cellsP (pAt ps i))[j]? = some v → w.cell? (atP x i j) = some v
theorem Pts.length {w : World} {a : Option Addr} {len cap : Nat} {ps : List Part} (h : Pts w a len cap ps) : ps.length = len := by
  rcases h with ⟨_, rfl, _, rfl⟩ | ⟨_, _, _, _, h, _⟩
  · rfl
  · exact h
theorem Pts.len_le {w : World} {a : Option Addr} {len cap : Nat} {ps : List Part} (h : Pts w a len cap ps) : len ≤ cap ∧ cap ≤ maxLen := by
  rcases h with ⟨_, rfl, rfl, rfl⟩ | ⟨_, _, h1, h2, _, _⟩
  · exact ⟨Nat.le_refl _, Nat.zero_le _⟩
  · exact ⟨h1, h2⟩
theorem Pts.len_int {w : World} {a : Option Addr} {len cap : Nat} {ps : List Part} (h : Pts w a len cap ps) : len ≤ 9223372036854775807 := by
  have := h.len_le
  unfold maxLen at this
  omega
theorem Pts.nil (w : World) : Pts w none 0 0 [] := .inl ⟨rfl, rfl, rfl, rfl⟩
theorem Pts.moved {w w' : World} {a : Option Addr} {len cap : Nat} {ps : List Part} (h : Pts w a len cap ps) (hk : ∀ x, a = some x → ∀ i j v, i < len → w.cell? (atP x i j) = some v → w'.cell? (atP x i j) = some v) : Pts w' a len cap ps := by
  rcases h with h | ⟨x, h1, h2, h3, h4, h5⟩
  · exact .inl h
  · exact .inr ⟨x, h1, h2, h3, h4, fun i hi j v hv => hk x h1 i j v hi (h5 i hi j v hv)⟩
theorem Pts.below {w w' : World} {a : Option Addr} {len cap : Nat} {ps : List Part} (h : Pts w a len cap ps) (hb : Below w.heap.size w w') : Pts w' a len cap ps :=
  h.moved fun _ _ _ _ _ _ hc => (hb.cell (World.block_lt_of_cell? w _ hc)).trans hc
theorem Pts.addr {w : World} {a : Option Addr} {len cap : Nat} {ps : List Part} (h : Pts w a len cap ps) {k : Nat} (hk : k < len) : ∃ x, a = some x := by
  rcases h with ⟨_, h0, _⟩ | ⟨y, hy, _⟩
  · omega
  · exact ⟨y, hy⟩
/-- The cells of the part at a place, in another world. -/
theorem Pts.cells {w wr : World} {x : Addr} {len cap : Nat} {ps : List Part} (h : Pts w (some x) len cap ps) (hb : Below w.heap.size w wr) {k : Nat} (hk : k < len) (j : Nat) (v : Value) (hv : (cellsP (pAt ps k))[j]? = some v) : wr.cell? (atP x k j) = some v := by
  rcases h with ⟨h0, _⟩ | ⟨y, hy, _, _, _, h5⟩
  · cases h0
  · obtain rfl : x = y := by simpa using hy
    have := h5 k hk j v hv
    exact (hb.cell (World.block_lt_of_cell? w _ this)).trans this
theorem Pts.at {w wr : World} {x : Addr} {len cap : Nat} {ps : List Part} (h : Pts w (some x) len cap ps) (hb : Below w.heap.size w wr) {k : Nat} (hk : k < len) :
    wr.cell? (x.add (k * 7)) = some (.int .i64 (pAt ps k).tsn) ∧ wr.cell? ⟨(x.add (k * 7)).block, (x.add (k * 7)).off + 1, none⟩ = some (.int .i64 (pAt ps k).stream) ∧ wr.cell? ⟨(x.add (k * 7)).block, (x.add (k * 7)).off + 2, none⟩ = some (.int .i64 (pAt ps k).ssn) ∧
      wr.cell? ⟨(x.add (k * 7)).block, (x.add (k * 7)).off + 3, none⟩ = some (.bool (pAt ps k).first) ∧ wr.cell? ⟨(x.add (k * 7)).block, (x.add (k * 7)).off + 4, none⟩ = some (.bool (pAt ps k).last) ∧ wr.cell? ⟨(x.add (k * 7)).block, (x.add (k * 7)).off + 5, none⟩ = some (.bool (pAt ps k).loose) ∧
      wr.cell? ⟨(x.add (k * 7)).block, (x.add (k * 7)).off + 6, none⟩ = some (.string (pAt ps k).text) :=
  ⟨h.cells hb hk 0 _ rfl, h.cells hb hk 1 _ rfl, h.cells hb hk 2 _ rfl, h.cells hb hk 3 _ rfl, h.cells hb hk 4 _ rfl, h.cells hb hk 5 _ rfl, h.cells hb hk 6 _ rfl⟩
theorem pt_add (g j : Nat) : (⟨g, 0, none⟩ : Addr).add j = ⟨g, j, none⟩ := by unfold Addr.add; split <;> simp_all
theorem atP_zero (g i j : Nat) : atP ⟨g, 0, none⟩ i j = ⟨g, i * 7 + j, none⟩ := by
  cases j with
  | zero => exact pt_add g (i * 7)
  | succ j =>
    show (⟨((⟨g, 0, none⟩ : Addr).add (i * 7)).block, ((⟨g, 0, none⟩ : Addr).add (i * 7)).off + (j + 1), none⟩ : Addr) = _
    rw [pt_add]
theorem Pts.far {w : World} {g k cap d i : Nat} {ps : List Part} (h : Pts w (some ⟨g, 0, none⟩) k cap ps) (hd : d ≠ g) (v : Value) : Pts (w.setCell ⟨d, i, none⟩ v) (some ⟨g, 0, none⟩) k cap ps :=
  h.moved fun x hx i j u _ hc => by
    obtain rfl : ⟨g, 0, none⟩ = x := by simpa using hx
    rw [atP_zero] at hc ⊢
    exact cell_far hd hc
theorem Pts.aside {w w' : World} {g k cap r : Nat} {ps : List Part} (h : Pts w (some ⟨g, 0, none⟩) k cap ps) (ha : Aside w.heap.size r w w') (hr : g ≠ r) : Pts w' (some ⟨g, 0, none⟩) k cap ps :=
  h.moved fun x hx i j u _ hc => by
    obtain rfl : ⟨g, 0, none⟩ = x := by simpa using hx
    rw [atP_zero] at hc ⊢
    exact ha.cell (lt_of_cell hc) hr hc
theorem Pts.under {W W' : World} {g n cap C : Nat} {ps : List Part} (h : Pts W (some ⟨g, 0, none⟩) n cap ps) (hb : Below C W W') (hg : g < C ∨ n = 0) : Pts W' (some ⟨g, 0, none⟩) n cap ps :=
  h.moved fun x hx i j u hi hc => by
    obtain rfl : ⟨g, 0, none⟩ = x := by simpa using hx
    rw [atP_zero] at hc ⊢
    rcases hg with hg | h0
    · exact kept_cell hb hg hc
    · omega
theorem pts_lt {W : World} {g n cap : Nat} {ps : List Part} (h : Pts W (some ⟨g, 0, none⟩) n cap ps) : g < W.heap.size ∨ n = 0 := by
  by_cases hk0 : 0 < n
  · have := (h.at (Below.refl _ _) hk0).1
    rw [pt_add] at this
    exact .inl (lt_of_cell this)
  · exact .inr (by omega)
/-- The first parts of a slice. -/
theorem pts_take {w : World} {x : Addr} {len cap j : Nat} {ps : List Part} (h : Pts w (some x) len cap ps) (hj : j ≤ len) : Pts w (some x) j cap (ps.take j) := by
  rcases h with ⟨h0, _⟩ | ⟨y, hy, h1, h2, h3, h4⟩
  · cases h0
  · refine .inr ⟨y, hy, by omega, h2, by rw [List.length_take]; omega, fun i hi => ?_⟩
    have e : pAt (ps.take j) i = pAt ps i := by
      unfold pAt
      rw [List.getD_eq_getElem?_getD, List.getD_eq_getElem?_getD, List.getElem?_take_of_lt hi]
    rw [e]
    exact h4 i (by omega)
/-- The cells of a slice of parts, as a source of an append. -/
theorem pts_flat {W : World} {g k cap : Nat} {ps : List Part} (h : Pts W (some ⟨g, 0, none⟩) k cap ps) : ∀ j u, (flatP ps)[j]? = some u → W.cell? ((⟨g, 0, none⟩ : Addr).add j) = some u := by
  intro j u hu
  have hl := h.length
  have hj : j < k * 7 := by have := (List.getElem?_eq_some_iff.1 hu).1; rw [flatP_length, hl] at this; exact this
  have e : j = j / 7 * 7 + j % 7 := by omega
  have hm : j % 7 < 7 := by omega
  generalize hq : j / 7 = q at e
  generalize j % 7 = r at e hm
  subst e
  rw [flatP_get ps q r (by omega) hm] at hu
  have := h.cells (Below.refl _ _) (k := q) (by omega) r u hu
  rw [atP_zero] at this
  rw [pt_add]
  exact this

theorem own_pts {W : World} {base cap k : Nat} {a : Option Addr} {ps : List Part} (h : W.ownsRow base 43 7 (.slice a k cap) k (flatP ps)) : Pts W a k cap ps := by
  have hl := h.1
  rw [flatP_length] at hl
  rcases h.2 with ⟨h1, h2⟩ | ⟨g, cap', cur, h1, _, _, h4, h5, _⟩
  · obtain ⟨rfl, rfl, rfl⟩ : a = none ∧ k = 0 ∧ cap = 0 := by simpa using h1
    exact .inl ⟨rfl, rfl, rfl, by cases ps with | nil => rfl | cons c l => simp at hl⟩
  · obtain ⟨rfl, rfl⟩ : a = some ⟨g, 0, none⟩ ∧ cap = cap' := by simpa using h1
    refine .inr ⟨_, rfl, h4, h5, by omega, fun i hi j v hv => ?_⟩
    have hj : j < 7 := by have := (List.getElem?_eq_some_iff.1 hv).1; rwa [cellsP_length] at this
    rw [atP_zero]
    exact (h.cellAt (i * 7 + j) (by omega)).trans ((flatP_get ps i j (by omega) hj).trans hv)
theorem info_pt : (Try.prog.info? 43).map (fun i => (i.zero, i.size, i.bytes)) = some (some (partV ⟨0, 0, 0, false, false, false, ByteArray.mk #[]⟩), 7, 48) := by kernel_rfl

end Go.Proofs.Ytncbgejggfkdmab

/- The contracts of chapter 3's model and of the drawing functions for serial numbers. -/
namespace Go.Proofs.Ytncbgejggfkdmab
open Go.RowKit

theorem ser_true {n : Int} (h : Ser n) : decide (0 ≤ n ∧ n ≤ 65535) = true := by unfold Ser at h; simp; omega
theorem ser_false {n : Int} (h : ¬ Ser n) : decide (0 ≤ n ∧ n ≤ 65535) = false := by unfold Ser at h; simp; omega

set_option maxHeartbeats 400000 in
theorem l3Ok_yes (n : Int) (w : World) (h : Ser n) :
    Calls Try.prog 44 #[.int .i64 n] w fun e w' => e = .returned (.bool true) ∧ w = w' := by
  have H := Lib.hid (ser_true h)
  clear h
  go_enter Try.func44, Try.ntmps44
  go_wp2_with fail
  refine (l6In_any n 0 65535 _).mono ?_
  rintro e w1 ⟨rfl, rfl⟩
  rw [H.out]
  go_wp2
  go_ret
  exact ⟨rfl, rfl⟩

set_option maxHeartbeats 400000 in
theorem l3Ok_no (n : Int) (w : World) (h : ¬ Ser n) :
    Calls Try.prog 44 #[.int .i64 n] w fun e w' => e = .returned (.bool false) ∧ w = w' := by
  have H := Lib.hid (ser_false h)
  clear h
  go_enter Try.func44, Try.ntmps44
  go_wp2_with fail
  refine (l6In_any n 0 65535 _).mono ?_
  rintro e w1 ⟨rfl, rfl⟩
  rw [H.out]
  go_wp2
  go_ret
  exact ⟨rfl, rfl⟩

set_option maxHeartbeats 400000 in
theorem l3Add_any (a n : Int) (w : World) (h : Ser a) :
    Calls Try.prog 89 #[.int .i64 a, .int .i64 n] w fun e w' => e = .returned (.int .i64 (addS a n)) ∧ w = w' := by
  have E := Lib.hid (rem_mod a n)
  obtain ⟨t0, t1⟩ := rem_range n
  obtain ⟨a0, a1⟩ := h
  go_enter Try.func89, Try.ntmps89
  go_wp2
  go_ret
  exact ⟨ret_i E.out, rfl⟩

end Go.Proofs.Ytncbgejggfkdmab

/- A variable of several cells, at a block of its own. -/
namespace Go.Proofs.Ytncbgejggfkdmab
open Go.RowKit

/-- The values vs lie at block c, from its first cell on, and may be written. -/
def VarN (c : Nat) (vs : List Value) (w : World) : Prop := ∀ i v, vs[i]? = some v → w.cell? ⟨c, i, none⟩ = some v ∧ w.frozen? ⟨c, i, none⟩ = false
theorem VarN.new (w : World) (vs : List Value) (T : TypeId) : VarN w.heap.size vs (w.alloc (.cells vs.toArray T)) := fun i v h =>
  ⟨by rw [World.cell?_alloc_at _ _ _ _ rfl]; simpa using h, by simp⟩
theorem VarN.aside {c C r : Nat} {vs : List Value} {w w' : World} (h : VarN c vs w) (ha : Aside C r w w') (hc : c < C) (hr : c ≠ r) : VarN c vs w' := fun i v hi =>
  ⟨ha.cell hc hr (h i v hi).1, ha.frozen hc hr (h i v hi).2⟩
theorem VarN.below {c C : Nat} {vs : List Value} {w w' : World} (h : VarN c vs w) (hb : Below C w w') (hc : c < C) : VarN c vs w' :=
  h.aside (below_aside (r := C) hb (Nat.le_refl _)) hc (by omega)
theorem VarN.only {c r : Nat} {vs : List Value} {w w' : World} (h : VarN c vs w) (ho : Only r w w') (hr : c ≠ r) : VarN c vs w' :=
  h.aside (ho.aside (C := c + 1)) (by omega) hr
theorem VarN.alloc {c : Nat} {vs : List Value} {w : World} (h : VarN c vs w) (o : Obj) (hc : c < w.heap.size) : VarN c vs (w.alloc o) :=
  h.below ((Below.refl w.heap.size w).alloc (Nat.le_refl _) o) hc
theorem VarN.set {c i : Nat} {vs : List Value} {w : World} (h : VarN c vs w) (v : Value) : VarN c (vs.set i v) (w.setCell ⟨c, i, none⟩ v) := fun j u hj => by
  by_cases e : i = j
  · subst e
    rw [List.getElem?_set_self' ] at hj
    cases hg : vs[i]? with
    | none => simp [hg] at hj
    | some u' =>
      simp [hg] at hj
      subst hj
      exact ⟨World.cell?_setCell_same _ _ _ (h i u' hg).1, by rw [World.frozen?_setCell]; exact (h i u' hg).2⟩
  · rw [List.getElem?_set_ne e] at hj
    exact ⟨cell_other e (h j u hj).1, by rw [World.frozen?_setCell]; exact (h j u hj).2⟩
theorem VarN.far {c d i : Nat} {vs : List Value} {w : World} (h : VarN c vs w) (v : Value) (hd : d ≠ c) : VarN c vs (w.setCell ⟨d, i, none⟩ v) := fun j u hj =>
  ⟨cell_far hd (h j u hj).1, by rw [World.frozen?_setCell]; exact (h j u hj).2⟩

set_option maxHeartbeats 1000000 in
theorem l91Good_as (B r m : Nat) (w : World) (h : Rd B r m w) (hm : m ≤ 100000000) :
    Calls Try.prog 71 #[.pointer (some ⟨r, 0, none⟩)] w fun e w' => DrewInt B r (m + 3) (fun n => 0 ≤ n ∧ n ≤ 65535) w e w' ∧ Aside w.heap.size r w w' := by
  go_enter Try.func71, Try.ntmps71
  go_wp2_with fail
  refine (l91Word_as B r m _ h hm).mono ?_
  rintro e w1 ⟨⟨k, rfl, ⟨k0, k1⟩, hr1, hb1⟩, ha1⟩
  go_wp2
  all_goals
    go_ret
    exact ⟨⟨_, rfl, ⟨by omega, by omega⟩, hr1, hb1⟩, ha1⟩

end Go.Proofs.Ytncbgejggfkdmab

/- The contracts of chapter 12's model on parts and inits. -/
namespace Go.Proofs.Ytncbgejggfkdmab
open Go.RowKit Go.PlainAid

/-- A number for a condition. -/
def bitV (x : Bool) (n : Int) : Int := if x then n else 0
theorem past_cell {w : World} {b i : Nat} {v : Value} (h : w.cell? ⟨b, i, none⟩ = some v) (o : Obj) : (w.alloc o).cell? ⟨b, i, none⟩ = some v := by
  rw [World.cell?_alloc_lt _ _ _ (World.block_lt_of_cell? w _ h)]
  exact h
theorem past3 {w : World} {b i : Nat} {v : Value} {o p q : Obj} (h : w.cell? ⟨b, i, none⟩ = some v) : (((w.alloc o).alloc p).alloc q).drew.cell? ⟨b, i, none⟩ = some v :=
  (World.cell?_drew _ _).trans (past_cell (past_cell (past_cell h o) p) q)
theorem stored3 {w : World} {b d i : Nat} {v x y z : Value} {o p q : Obj} (hd : d ≠ b) (h : w.cell? ⟨b, i, none⟩ = some v) :
    ((((((w.alloc o).alloc p).alloc q).setCell ⟨d, 0, none⟩ x).setCell ⟨d, 1, none⟩ y).setCell ⟨d, 2, none⟩ z).drew.cell? ⟨b, i, none⟩ = some v :=
  (World.cell?_drew _ _).trans (cell_far hd (cell_far hd (cell_far hd (past_cell (past_cell (past_cell h o) p) q))))
theorem pastN {w : World} {c : Nat} {vs : List Value} (h : VarN c vs w) (hc : c < w.heap.size) (i : Nat) (v : Value) (hi : vs[i]? = some v) (o p q : Obj) :
    (((w.alloc o).alloc p).alloc q).cell? ⟨c, i, none⟩ = some v ∧ (((w.alloc o).alloc p).alloc q).frozen? ⟨c, i, none⟩ = false :=
  (((h.alloc o hc).alloc p (by simp; omega)).alloc q (by simp; omega)) i v hi
theorem bits_flags (fi la lo : Bool) : bitV la 1 + bitV fi 2 + bitV lo 4 = flagsV fi la lo := rfl
theorem bits_range (fi la : Bool) : 0 ≤ bitV la 1 + bitV fi 2 ∧ bitV la 1 + bitV fi 2 ≤ 3 := by cases fi <;> cases la <;> decide
instance (a b c : Int) (t : ByteArray) : Decidable (DataOk a b c t) := by
  unfold DataOk
  infer_instance
/-- Whether a part is valid. -/
def dataOkV (a b c : Int) (t : ByteArray) : Bool := decide (DataOk a b c t)
theorem dataOkV_yes {a b c : Int} {t : ByteArray} (h : DataOk a b c t) : dataOkV a b c t = true := decide_eq_true h
theorem dataOkV_no {a b c : Int} {t : ByteArray} (h : ¬ DataOk a b c t) : dataOkV a b c t = false := decide_eq_false h
instance (a b c d : Int) : Decidable (InitOk a b c d) := by
  unfold InitOk
  infer_instance
/-- Whether an init is valid. -/
def initOkV (a b c d : Int) : Bool := decide (InitOk a b c d)
theorem initOkV_yes {a b c d : Int} (h : InitOk a b c d) : initOkV a b c d = true := decide_eq_true h
theorem initOkV_no {a b c d : Int} (h : ¬ InitOk a b c d) : initOkV a b c d = false := decide_eq_false h

set_option maxHeartbeats 400000 in
theorem l12Data_any (a b c : Int) (fi la lo : Bool) (t : ByteArray) (w : World) :
    Calls Try.prog 45 #[.agg #[.int .i64 a, .int .i64 b, .int .i64 c, .bool fi, .bool la, .bool lo, .string t]] w fun e w' => e = .returned (.bool (dataOkV a b c t)) ∧ Below w.heap.size w w' := by
  by_cases h1 : Ser a
  · have H1 := Lib.hid h1
    clear h1
    by_cases h2 : Ser b
    · have H2 := Lib.hid h2
      clear h2
      by_cases h3 : Ser c
      · have H3 := Lib.hid h3
        clear h3
        have E := Lib.hid (show decide ((1 : Int) ≤ t.size ∧ (t.size : Int) ≤ 20) = dataOkV a b c t by
          by_cases g : 1 ≤ t.size ∧ t.size ≤ 20
          · rw [dataOkV_yes ⟨ser_le H1.out, ser_le H2.out, ser_le H3.out, g.1, g.2⟩]; exact decide_eq_true (by omega)
          · rw [dataOkV_no fun h => g h.2.2.2]; exact decide_eq_false (by omega))
        go_enter Try.func45, Try.ntmps45
        go_wp2_with fail
        refine (l3Ok_yes a _ H1.out).mono ?_
        rintro e w1 ⟨rfl, rfl⟩
        go_wp2_with fail
        refine (l3Ok_yes b _ H2.out).mono ?_
        rintro e w1 ⟨rfl, rfl⟩
        go_wp2_with fail
        refine (l3Ok_yes c _ H3.out).mono ?_
        rintro e w1 ⟨rfl, rfl⟩
        go_wp2_with fail
        refine (l6In_any (t.size : Int) 1 20 _).mono ?_
        rintro e w1 ⟨rfl, rfl⟩
        rw [E.out]
        go_wp2
        go_ret
        exact ⟨rfl, below_box _ (Nat.le_refl _)⟩
      · have H3 := Lib.hid h3
        clear h3
        rw [dataOkV_no fun h => ser_not H3.out h.2.2.1]
        go_enter Try.func45, Try.ntmps45
        go_wp2_with fail
        refine (l3Ok_yes a _ H1.out).mono ?_
        rintro e w1 ⟨rfl, rfl⟩
        go_wp2_with fail
        refine (l3Ok_yes b _ H2.out).mono ?_
        rintro e w1 ⟨rfl, rfl⟩
        go_wp2_with fail
        refine (l3Ok_no c _ H3.out).mono ?_
        rintro e w1 ⟨rfl, rfl⟩
        go_wp2
        go_ret
        exact ⟨rfl, below_box _ (Nat.le_refl _)⟩
    · have H2 := Lib.hid h2
      clear h2
      rw [dataOkV_no fun h => ser_not H2.out h.2.1]
      go_enter Try.func45, Try.ntmps45
      go_wp2_with fail
      refine (l3Ok_yes a _ H1.out).mono ?_
      rintro e w1 ⟨rfl, rfl⟩
      go_wp2_with fail
      refine (l3Ok_no b _ H2.out).mono ?_
      rintro e w1 ⟨rfl, rfl⟩
      go_wp2
      go_ret
      exact ⟨rfl, below_box _ (Nat.le_refl _)⟩
  · have H1 := Lib.hid h1
    clear h1
    rw [dataOkV_no fun h => ser_not H1.out h.1]
    go_enter Try.func45, Try.ntmps45
    go_wp2_with fail
    refine (l3Ok_no a _ H1.out).mono ?_
    rintro e w1 ⟨rfl, rfl⟩
    go_wp2
    go_ret
    exact ⟨rfl, below_box _ (Nat.le_refl _)⟩

/-- A chunk was made, or none. -/
def madeV (k f : Int) (b : ByteArray) : Value := .tuple #[.agg #[.int .i64 k, .int .i64 f, .string b], .bool true]
def notMadeV : Value := .tuple #[.agg #[.int .i64 0, .int .i64 0, .string (ByteArray.mk #[])], .bool false]

end Go.Proofs.Ytncbgejggfkdmab

/- Plain lemmas on receipts: valid blocks, their bytes; blocks that lie in memory. -/
namespace Go.Proofs.Ytncbgejggfkdmab
open Go.RowKit Go.PlainAid

theorem ser_of {a : Int} (h : 0 ≤ a ∧ a ≤ 65535) : Ser a := ⟨h.1, by omega⟩
/-- Blocks are in order and do not touch; all of them are behind 'l'. -/
def GapsOk : Int → List (Int × Int) → Prop
  | _, [] => True
  | l, g :: gs => l + 2 ≤ g.1 ∧ g.1 ≤ g.2 ∧ g.2 ≤ 16 ∧ GapsOk g.2 gs

instance gapsOkDec : (l : Int) → (gs : List (Int × Int)) → Decidable (GapsOk l gs)
  | _, [] => isTrue trivial
  | l, g :: gs => by
    have := gapsOkDec g.2 gs
    unfold GapsOk
    infer_instance

/-- A receipt is valid. -/
def SackOk (c : Int) (gs : List (Int × Int)) : Prop := (0 ≤ c ∧ c ≤ 65535) ∧ GapsOk 0 gs

instance (c : Int) (gs : List (Int × Int)) : Decidable (SackOk c gs) := by
  unfold SackOk
  infer_instance

/-- Whether a receipt is valid. -/
def sackV (c : Int) (gs : List (Int × Int)) : Bool := decide (SackOk c gs)
theorem sackV_yes {c : Int} {gs : List (Int × Int)} (h : SackOk c gs) : sackV c gs = true := decide_eq_true h
theorem sackV_no {c : Int} {gs : List (Int × Int)} (h : ¬ SackOk c gs) : sackV c gs = false := decide_eq_false h
theorem gaps_few : ∀ {l : Int} {gs : List (Int × Int)}, GapsOk l gs → l ≤ 16 → l + 2 * gs.length ≤ 16
  | _, [], _, h => by simpa using h
  | l, g :: gs, ⟨h1, h2, h3, h4⟩, _ => by
    have := gaps_few h4 h3
    simp only [List.length_cons]
    omega
theorem sack_few {c : Int} {gs : List (Int × Int)} (h : SackOk c gs) : gs.length ≤ 8 := by
  have := gaps_few h.2 (by decide)
  omega
/-- The number behind which the next block must lie. -/
def lastOf (l : Int) : List (Int × Int) → Int
  | [] => l
  | g :: gs => lastOf g.2 gs
theorem gaps_append : ∀ {l : Int} {gs hs : List (Int × Int)}, GapsOk l (gs ++ hs) ↔ GapsOk l gs ∧ GapsOk (lastOf l gs) hs
  | _, [], _ => by simp [GapsOk, lastOf]
  | l, g :: gs, hs => by
    simp only [List.cons_append, GapsOk, lastOf]
    rw [gaps_append (l := g.2) (gs := gs) (hs := hs)]
    constructor
    · rintro ⟨a, b, c, d, e⟩
      exact ⟨⟨a, b, c, d⟩, e⟩
    · rintro ⟨⟨a, b, c, d⟩, e⟩
      exact ⟨a, b, c, d, e⟩
theorem lastOf_append (l : Int) (gs : List (Int × Int)) (g : Int × Int) : lastOf l (gs ++ [g]) = g.2 := by
  induction gs generalizing l with
  | nil => rfl
  | cons x xs ih => exact ih x.2
theorem last_range {l : Int} {gs : List (Int × Int)} (h : GapsOk l gs) (h0 : 0 ≤ l) (h1 : l ≤ 16) : 0 ≤ lastOf l gs ∧ lastOf l gs ≤ 16 := by
  induction gs generalizing l with
  | nil => exact ⟨h0, h1⟩
  | cons g gs ih =>
    obtain ⟨k1, k2, k3, k4⟩ := h
    exact ih k4 (by omega) k3
theorem gaps_next {gs : List (Int × Int)} {k : Nat} {f t : Int} (hk : k < gs.length) (hf : (gs.getD k (0, 0)).1 = f) (ht : (gs.getD k (0, 0)).2 = t) (h : GapsOk 0 (gs.take k)) :
    GapsOk 0 (gs.take (k + 1)) ↔ lastOf 0 (gs.take k) + 2 ≤ f ∧ f ≤ t ∧ t ≤ 16 := by
  have e : gs.take (k + 1) = gs.take k ++ [gs.getD k (0, 0)] := by
    rw [List.take_add_one, List.getD_eq_getElem?_getD, List.getElem?_eq_getElem hk]
    rfl
  rw [e, gaps_append]
  simp only [GapsOk, hf, ht, and_true]
  exact ⟨fun h => h.2, fun k => ⟨h, k⟩⟩
theorem gaps_head {l : Int} {gs : List (Int × Int)} {k : Nat} (h : GapsOk l gs) : GapsOk l (gs.take k) := by
  rw [← List.take_append_drop k gs, gaps_append] at h
  exact h.1
theorem last_next {gs : List (Int × Int)} {k : Nat} (hk : k < gs.length) : lastOf 0 (gs.take (k + 1)) = (gs.getD k (0, 0)).2 := by
  have e : gs.take (k + 1) = gs.take k ++ [gs.getD k (0, 0)] := by
    rw [List.take_add_one, List.getD_eq_getElem?_getD, List.getElem?_eq_getElem hk]
    rfl
  rw [e, lastOf_append]
/-- The bytes of blocks. -/
def gapsS : List (Int × Int) → ByteArray
  | [] => ByteArray.mk #[]
  | g :: gs => wordS g.1 ++ wordS g.2 ++ gapsS gs
def sackS (c : Int) (gs : List (Int × Int)) : ByteArray := wordS c ++ gapsS gs
theorem gapsS_size : ∀ gs : List (Int × Int), (gapsS gs).size = 4 * gs.length
  | [] => rfl
  | g :: gs => by
    unfold gapsS
    rw [ByteArray.size_append, ByteArray.size_append, wordS_size, wordS_size, gapsS_size gs, List.length_cons]
    omega
theorem sackS_size (c : Int) (gs : List (Int × Int)) : (sackS c gs).size = 2 + 4 * gs.length := by
  unfold sackS
  rw [ByteArray.size_append, wordS_size, gapsS_size]
theorem gapsS_append (gs : List (Int × Int)) (g : Int × Int) : gapsS (gs ++ [g]) = gapsS gs ++ (wordS g.1 ++ wordS g.2) := by
  induction gs with
  | nil =>
    show wordS g.1 ++ wordS g.2 ++ ByteArray.mk #[] = ByteArray.mk #[] ++ (wordS g.1 ++ wordS g.2)
    exact (ByteArray.append_empty).trans (ByteArray.empty_append).symm
  | cons x xs ih =>
    show wordS x.1 ++ wordS x.2 ++ gapsS (xs ++ [g]) = wordS x.1 ++ wordS x.2 ++ gapsS xs ++ (wordS g.1 ++ wordS g.2)
    rw [ih]
    simp only [ByteArray.append_assoc]
theorem sackS_append (c : Int) (gs : List (Int × Int)) (g : Int × Int) : sackS c (gs ++ [g]) = sackS c gs ++ wordS g.1 ++ wordS g.2 := by
  unfold sackS
  rw [gapsS_append]
  simp only [ByteArray.append_assoc]
theorem take_next {gs : List (Int × Int)} {k : Nat} (h : k < gs.length) : gs.take (k + 1) = gs.take k ++ [gs.getD k (0, 0)] := by
  rw [List.take_add_one, List.getD_eq_getElem?_getD, List.getElem?_eq_getElem h]
  rfl

/-- The blocks that bytes hold. -/
def gapsAt (b : ByteArray) : Nat → List (Int × Int)
  | 0 => []
  | k + 1 => gapsAt b k ++ [(be b (2 + 4 * k) 2, be b (4 + 4 * k) 2)]
theorem gapsAt_length (b : ByteArray) (k : Nat) : (gapsAt b k).length = k := by
  induction k with
  | zero => rfl
  | succ k ih => rw [gapsAt, List.length_append, ih, List.length_singleton]
/-- The cells of blocks. -/
def flat : List (Int × Int) → List Value
  | [] => []
  | g :: gs => .int .i64 g.1 :: .int .i64 g.2 :: flat gs
theorem flat_append (gs hs : List (Int × Int)) : flat (gs ++ hs) = flat gs ++ flat hs := by
  induction gs with
  | nil => rfl
  | cons g gs ih => simp [flat, ih]
theorem flat_length (gs : List (Int × Int)) : (flat gs).length = 2 * gs.length := by
  induction gs with
  | nil => rfl
  | cons g gs ih => simp [flat, ih]; omega
theorem flat_get (gs : List (Int × Int)) (i : Nat) (h : i < gs.length) : (flat gs)[i * 2]? = some (.int .i64 (gs.getD i (0, 0)).1) ∧ (flat gs)[i * 2 + 1]? = some (.int .i64 (gs.getD i (0, 0)).2) := by
  induction gs generalizing i with
  | nil => simp at h
  | cons g gs ih =>
    cases i with
    | zero => exact ⟨rfl, rfl⟩
    | succ i =>
      have := ih i (by simpa using h)
      have e : (i + 1) * 2 = i * 2 + 1 + 1 := by omega
      rw [e]
      simpa [flat] using this
/-- A number of steps lies in a block. -/
def blockV (n : Int) (gs : List (Int × Int)) : Bool := gs.any fun g => decide (g.1 ≤ n ∧ n ≤ g.2)
theorem blockV_none (n : Int) : blockV n [] = false := rfl
theorem blockV_next {n f t : Int} {gs : List (Int × Int)} {k : Nat} (hk : k < gs.length) (hf : (gs.getD k (0, 0)).1 = f) (ht : (gs.getD k (0, 0)).2 = t) : blockV n (gs.take (k + 1)) = (blockV n (gs.take k) || decide (f ≤ n ∧ n ≤ t)) := by
  rw [take_next hk]
  unfold blockV
  rw [List.any_append, List.any_cons, List.any_nil, Bool.or_false, hf, ht]
theorem blockV_head {n : Int} {gs : List (Int × Int)} {k : Nat} (h : blockV n (gs.take k) = true) : blockV n gs = true := by
  unfold blockV at h ⊢
  rw [List.any_eq_true] at h ⊢
  obtain ⟨g, h1, h2⟩ := h
  exact ⟨g, List.mem_of_mem_take h1, h2⟩
/-- A slice of blocks: nil, or the cells of 'len' blocks, two each, from an address on. -/
def Gaps (w : World) (a : Option Addr) (len cap : Nat) (gs : List (Int × Int)) : Prop :=
  (a = none ∧ len = 0 ∧ cap = 0 ∧ gs = []) ∨
  ∃ x : Addr, a = some x ∧ len ≤ cap ∧ cap ≤ maxLen ∧ gs.length = len ∧ ∀ i, i < len → w.cell? (x.add (i * 2)) = some (.int .i64 (gs.getD i (0, 0)).1) ∧ w.cell? ⟨(x.add (i * 2)).block, (x.add (i * 2)).off + 1, none⟩ = some (.int .i64 (gs.getD i (0, 0)).2)
theorem Gaps.length {w : World} {a : Option Addr} {len cap : Nat} {gs : List (Int × Int)} (h : Gaps w a len cap gs) : gs.length = len := by
  rcases h with ⟨_, rfl, _, rfl⟩ | ⟨_, _, _, _, h, _⟩
  · rfl
  · exact h
theorem Gaps.below {w w' : World} {a : Option Addr} {len cap : Nat} {gs : List (Int × Int)} (h : Gaps w a len cap gs) (hb : Below w.heap.size w w') : Gaps w' a len cap gs := by
  rcases h with h | ⟨x, h1, h2, h3, h4, h5⟩
  · exact .inl h
  · refine .inr ⟨x, h1, h2, h3, h4, fun i hi => ?_⟩
    obtain ⟨p, q⟩ := h5 i hi
    exact ⟨(hb.cell (World.block_lt_of_cell? w _ p)).trans p, (hb.cell (World.block_lt_of_cell? w _ q)).trans q⟩

end Go.Proofs.Ytncbgejggfkdmab

/- What has arrived, plain: parts ahead, moving on, receipts of it. -/
namespace Go.Proofs.Ytncbgejggfkdmab
open Go.RowKit Go.PlainAid

/-- Numbers ascend, from behind l up to 16. -/
def AscOk : Int → List Int → Prop
  | _, [] => True
  | l, e :: es => (l + 1 ≤ e ∧ e ≤ 16) ∧ AscOk e es
instance ascDec : (l : Int) → (es : List Int) → Decidable (AscOk l es)
  | _, [] => .isTrue trivial
  | l, e :: es => by
    unfold AscOk
    have := ascDec e es
    infer_instance
/-- The last number. -/
def lastE : Int → List Int → Int
  | l, [] => l
  | _, e :: es => lastE e es
theorem lastE_snoc (l : Int) (es : List Int) (e : Int) : lastE l (es ++ [e]) = e := by
  induction es generalizing l with
  | nil => rfl
  | cons x xs ih => exact ih x
theorem asc_snoc {l : Int} {es : List Int} {e : Int} : AscOk l (es ++ [e]) ↔ AscOk l es ∧ lastE l es + 1 ≤ e ∧ e ≤ 16 := by
  induction es generalizing l with
  | nil => exact ⟨fun h => ⟨trivial, h.1⟩, fun h => ⟨h.2, trivial⟩⟩
  | cons x xs ih =>
    show (l + 1 ≤ x ∧ x ≤ 16) ∧ AscOk x (xs ++ [e]) ↔ ((l + 1 ≤ x ∧ x ≤ 16) ∧ AscOk x xs) ∧ lastE x xs + 1 ≤ e ∧ e ≤ 16
    rw [ih]
    simp only [and_assoc]
theorem asc_left {l : Int} {es ds : List Int} (h : AscOk l (es ++ ds)) : AscOk l es := by
  induction es generalizing l with
  | nil => trivial
  | cons x xs ih => exact ⟨h.1, ih h.2⟩
theorem asc_low {l : Int} {es : List Int} (h : AscOk l es) : ∀ e ∈ es, l + 1 ≤ e ∧ e ≤ 16 := by
  induction es generalizing l with
  | nil => exact fun e he => by simp at he
  | cons x xs ih =>
    intro e he
    rcases List.mem_cons.1 he with rfl | he
    · exact h.1
    · have := ih h.2 e he
      have := h.1.1
      omega
theorem asc_few {l : Int} {es : List Int} (h : AscOk l es) (hl : l ≤ 16) : l + es.length ≤ 16 := by
  induction es generalizing l with
  | nil => simpa using hl
  | cons x xs ih =>
    have := ih h.2 h.1.2
    have := h.1.1
    rw [List.length_cons]
    omega
theorem asc_weak {l l' : Int} {es : List Int} (h : AscOk l es) (hl : l' ≤ l) : AscOk l' es := by
  cases es with
  | nil => trivial
  | cons e es => exact ⟨⟨by have := h.1.1; omega, h.1.2⟩, h.2⟩
theorem lastE_range {l : Int} {es : List Int} (h : AscOk l es) (hl : l ≤ 16) : l ≤ lastE l es ∧ lastE l es ≤ 16 := by
  induction es generalizing l with
  | nil => exact ⟨Int.le_refl _, hl⟩
  | cons x xs ih =>
    have := ih h.2 h.1.2
    have := h.1.1
    show l ≤ lastE x xs ∧ lastE x xs ≤ 16
    omega
/-- Ascending numbers are told by which they are. -/
theorem asc_ext : ∀ {l m : Int} {es ds : List Int}, AscOk l es → AscOk m ds → (∀ j, j ∈ es ↔ j ∈ ds) → es = ds
  | _, _, [], [], _, _, _ => rfl
  | _, _, [], d :: ds, _, _, h => absurd ((h d).2 List.mem_cons_self) (by simp)
  | _, _, e :: es, [], _, _, h => absurd ((h e).1 List.mem_cons_self) (by simp)
  | l, m, e :: es, d :: ds, h1, h2, h => by
    have le := asc_low h1.2
    have ld := asc_low h2.2
    have e1 : e = d := by
      rcases List.mem_cons.1 ((h e).1 List.mem_cons_self) with h3 | h3
      · exact h3
      · rcases List.mem_cons.1 ((h d).2 List.mem_cons_self) with h4 | h4
        · exact h4.symm
        · have := ld e h3
          have := le d h4
          omega
    subst e1
    rw [asc_ext h1.2 h2.2 fun j => ?_]
    constructor
    · intro hj
      rcases List.mem_cons.1 ((h j).1 (List.mem_cons_of_mem _ hj)) with h3 | h3
      · have := le j hj
        omega
      · exact h3
    · intro hj
      rcases List.mem_cons.1 ((h j).2 (List.mem_cons_of_mem _ hj)) with h3 | h3
      · have := ld j hj
        omega
      · exact h3
/-- A value is valid. -/
def SeenOk (c : Int) (es : List Int) : Prop := (0 ≤ c ∧ c ≤ 65535) ∧ AscOk 1 es
instance (c : Int) (es : List Int) : Decidable (SeenOk c es) := by
  unfold SeenOk
  infer_instance
def seenV (c : Int) (es : List Int) : Bool := decide (SeenOk c es)
theorem seenV_yes {c : Int} {es : List Int} (h : SeenOk c es) : seenV c es = true := decide_eq_true h
theorem seenV_no {c : Int} {es : List Int} (h : ¬ SeenOk c es) : seenV c es = false := decide_eq_false h
theorem seen_ser {c : Int} {es : List Int} (h : SeenOk c es) : Ser c := ser_of h.1
instance (a : Int) : Decidable (Ser a) := by
  unfold Ser
  infer_instance
/-- A part has arrived. -/
def HasS (c : Int) (es : List Int) (t : Int) : Prop := diffS c t ≤ 0 ∨ diffS c t ∈ es
instance (c : Int) (es : List Int) (t : Int) : Decidable (HasS c es t) := by
  unfold HasS
  infer_instance
/-- What SeenHas answers. -/
def hasSV (c : Int) (es : List Int) (t : Int) : Bool := decide (SeenOk c es ∧ Ser t ∧ HasS c es t)
/-- The value moves on by n steps, as far as those that P tells have arrived; those left are es. -/
structure Moved (P : Int → Prop) (n : Int) (es : List Int) : Prop where
  n0 : 0 ≤ n
  run : ∀ j, 1 ≤ j → j ≤ n → P j
  stop : ¬ P (n + 1)
  asc : AscOk 1 es
  mem : ∀ j, j ∈ es ↔ 1 ≤ j ∧ P (j + n)
theorem moved_one {P : Int → Prop} {n m : Int} {es ds : List Int} (h : Moved P n es) (k : Moved P m ds) : n = m ∧ es = ds := by
  have e : n = m := by
    rcases Int.lt_trichotomy n m with hl | hl | hl
    · exact absurd (k.run (n + 1) (by have := h.n0; omega) (by omega)) h.stop
    · exact hl
    · exact absurd (h.run (m + 1) (by have := k.n0; omega) (by omega)) k.stop
  subst e
  exact ⟨rfl, asc_ext h.asc k.asc fun j => (h.mem j).trans (k.mem j).symm⟩
theorem moved_congr {P Q : Int → Prop} {n : Int} {es : List Int} (h : Moved P n es) (e : ∀ j, P j ↔ Q j) : Moved Q n es :=
  ⟨h.n0, fun j h1 h2 => (e j).1 (h.run j h1 h2), fun k => h.stop ((e _).2 k), h.asc, fun j => (h.mem j).trans (by rw [e (j + n)])⟩
/-- Moving on twice. -/
theorem moved_two {P : Int → Prop} {n m e : Int} {es ds : List Int} (h : Moved P n es) (k : Moved (fun j => j ∈ es ∨ j = e - n) m ds) : Moved (fun j => P j ∨ j = e) (n + m) ds := by
  have hn := h.n0
  have hm := k.n0
  refine ⟨by omega, fun j h1 h2 => ?_, fun hs => k.stop ?_, k.asc, fun j => (k.mem j).trans ?_⟩
  · by_cases hj : j ≤ n
    · exact .inl (h.run j h1 hj)
    · rcases k.run (j - n) (by omega) (by omega) with h3 | h3
      · have := ((h.mem _).1 h3).2
        rw [show j - n + n = j by omega] at this
        exact .inl this
      · exact .inr (by omega)
  · rcases hs with hs | hs
    · refine .inl ((h.mem _).2 ⟨by omega, ?_⟩)
      rw [show m + 1 + n = n + m + 1 by omega]
      exact hs
    · exact .inr (by omega)
  · constructor
    · rintro ⟨h1, h2 | h2⟩
      · refine ⟨h1, .inl ?_⟩
        have := ((h.mem _).1 h2).2
        rwa [show j + m + n = j + (n + m) by omega] at this
      · exact ⟨h1, .inr (by omega)⟩
    · rintro ⟨h1, h2 | h2⟩
      · refine ⟨h1, .inl ((h.mem _).2 ⟨by omega, ?_⟩)⟩
        rwa [show j + m + n = j + (n + m) by omega]
      · exact ⟨h1, .inr (by omega)⟩
theorem moved_range {P : Int → Prop} {n : Int} {es : List Int} (h : Moved P n es) (hP : ∀ j, P j → 1 ≤ j ∧ j ≤ 16) : n ≤ 16 := by
  by_cases h0 : n = 0
  · omega
  · exact (hP n (h.run n (by have := h.n0; omega) (Int.le_refl _))).2
/-- What arrives ahead: those that had arrived, and the one d steps ahead. -/
def With (es : List Int) (d : Int) : Int → Prop := fun j => j ∈ es ∨ j = d
theorem with_range {es : List Int} {d : Int} (h : AscOk 1 es) (h1 : 1 ≤ d) (h2 : d ≤ 16) : ∀ j, With es d j → 1 ≤ j ∧ j ≤ 16 := by
  rintro j (hj | rfl)
  · have := asc_low h j hj
    omega
  · exact ⟨h1, h2⟩
/-- A part is fresh: d steps ahead, at most 16, and not there. -/
def Fresh (es : List Int) (d : Int) : Prop := 1 ≤ d ∧ d ≤ 16 ∧ d ∉ es
/-- What SeenAdd answers to valid arguments: a value and a code. -/
def AddIs (c : Int) (es : List Int) (t : Int) (c2 : Int) (es2 : List Int) (code : Int) : Prop :=
  (HasS c es t ∧ c2 = c ∧ es2 = es ∧ code = 1)
  ∨ (¬ HasS c es t ∧ 16 < diffS c t ∧ c2 = c ∧ es2 = es ∧ code = 2)
  ∨ (Fresh es (diffS c t) ∧ code = 0 ∧ ∃ n, Moved (With es (diffS c t)) n es2 ∧ c2 = addS c n)
theorem fresh_not {c t : Int} {es : List Int} (h : Fresh es (diffS c t)) : ¬ HasS c es t := by
  rintro (h1 | h1)
  · have := h.1
    omega
  · exact h.2.2 h1
theorem add_one {c t c2 c3 : Int} {es e2 e3 : List Int} {k2 k3 : Int} (h : AddIs c es t c2 e2 k2) (k : AddIs c es t c3 e3 k3) : c2 = c3 ∧ e2 = e3 ∧ k2 = k3 := by
  rcases h with ⟨h1, rfl, rfl, rfl⟩ | ⟨h1, h2, rfl, rfl, rfl⟩ | ⟨h1, rfl, n, h2, rfl⟩ <;> rcases k with ⟨k1, rfl, rfl, rfl⟩ | ⟨k1, k2, rfl, rfl, rfl⟩ | ⟨k1, rfl, m, k2, rfl⟩
  · exact ⟨rfl, rfl, rfl⟩
  · exact absurd h1 k1
  · exact absurd h1 (fresh_not k1)
  · exact absurd k1 h1
  · exact ⟨rfl, rfl, rfl⟩
  · have := k1.2.1
    omega
  · exact absurd k1 (fresh_not h1)
  · have := h1.2.1
    omega
  · obtain ⟨rfl, rfl⟩ := moved_one h2 k2
    exact ⟨rfl, rfl, rfl⟩
theorem diff_two {c d n : Int} (h1 : -100 ≤ d ∧ d ≤ 100) (h2 : -100 ≤ n ∧ n ≤ 100) : diffS (addS c n) (addS c d) = d - n := by
  unfold diffS addS
  split <;> omega
theorem diff_near {c d : Int} (h1 : -100 ≤ d ∧ d ≤ 100) : diffS c (addS c d) = d := by
  unfold diffS addS
  split <;> omega
section
variable {c t c2 : Int} {es es2 : List Int} {n : Int}
/-- What a fresh part leads to. -/
theorem fresh_ok (hs : SeenOk c es) (hf : Fresh es (diffS c t)) (hm : Moved (With es (diffS c t)) n es2) : SeenOk (addS c n) es2 ∧ 0 ≤ n ∧ n ≤ 16 :=
  ⟨⟨ser_le (addS_ser c n), hm.asc⟩, hm.n0, moved_range hm (with_range hs.2 hf.1 hf.2.1)⟩
theorem fresh_has (hs : SeenOk c es) (ht : Ser t) (hf : Fresh es (diffS c t)) (hm : Moved (With es (diffS c t)) n es2) : HasS (addS c n) es2 t := by
  obtain ⟨_, h1, h2⟩ := fresh_ok hs hf hm
  have e : diffS (addS c n) t = diffS c t - n := by
    have h3 := diffS_leads c ht
    have := diff_two (c := c) (d := diffS c t) (n := n) (by have := hf.1; have := hf.2.1; omega) (by omega)
    rwa [h3] at this
  unfold HasS
  rw [e]
  by_cases h3 : diffS c t ≤ n
  · exact .inl (by omega)
  · exact .inr ((hm.mem _).2 ⟨by omega, .inr (by omega)⟩)
theorem fresh_others (hs : SeenOk c es) (hf : Fresh es (diffS c t)) (hm : Moved (With es (diffS c t)) n es2) {k : Int} (hk : -3 ≤ k ∧ k ≤ 17) (hne : k ≠ diffS c t) : HasS (addS c n) es2 (addS c k) ↔ HasS c es (addS c k) := by
  obtain ⟨_, h1, h2⟩ := fresh_ok hs hf hm
  unfold HasS
  rw [diff_two (by omega) (by omega), diff_near (by omega)]
  constructor
  · rintro (h3 | h3)
    · by_cases h4 : k ≤ 0
      · exact .inl h4
      · rcases hm.run k (by omega) (by omega) with h5 | h5
        · exact .inr h5
        · exact absurd h5 hne
    · have h4 := (hm.mem _).1 h3
      rw [show k - n + n = k by omega] at h4
      rcases h4.2 with h5 | h5
      · exact .inr h5
      · exact absurd h5 hne
  · rintro (h3 | h3)
    · exact .inl (by omega)
    · by_cases h4 : k ≤ n
      · exact .inl (by omega)
      · refine .inr ((hm.mem _).2 ⟨by omega, .inl ?_⟩)
        rw [show k - n + n = k by omega]
        exact h3
end
/-- Two fresh parts lead to the same in either order. -/
theorem add_order {c t : Int} {es e1 e2 e3 e4 : List Int} {n1 n2 m1 m2 e : Int} (h1 : Moved (With es (diffS c t)) n1 e1) (h2 : Moved (With e1 (e - n1)) m1 e3) (k1 : Moved (With es e) n2 e2) (k2 : Moved (With e2 (diffS c t - n2)) m2 e4) : addS (addS c n1) m1 = addS (addS c n2) m2 ∧ e3 = e4 := by
  have a := moved_two h1 h2
  have b := moved_two k1 k2
  have := moved_one a (moved_congr b fun j => by unfold With; constructor <;> rintro ((h | h) | h) <;> first | exact .inl (.inl h) | exact .inl (.inr h) | exact .inr h)
  rw [addS_sum, addS_sum, this.1]
  exact ⟨rfl, this.2⟩
theorem next_fresh {c : Int} {es : List Int} (h : SeenOk c es) : Fresh es (diffS c (addS c 1)) := by
  rw [diff_near (by omega)]
  refine ⟨by omega, by omega, fun hj => ?_⟩
  have := asc_low h.2 1 hj
  omega
theorem next_moves {P : Int → Prop} {n : Int} {es : List Int} (h : Moved P n es) (h1 : P 1) : 1 ≤ n := by
  have h0 := h.n0
  by_cases hn : n = 0
  · have := h.stop
    rw [hn] at this
    exact absurd h1 this
  · omega
/-- A number of steps lies in a block. -/
def Blk (gs : List (Int × Int)) (j : Int) : Prop := ∃ g ∈ gs, g.1 ≤ j ∧ j ≤ g.2
theorem blk_nil (j : Int) : ¬ Blk [] j := by rintro ⟨g, hg, _⟩; simp at hg
theorem blk_cons {g : Int × Int} {gs : List (Int × Int)} {j : Int} : Blk (g :: gs) j ↔ (g.1 ≤ j ∧ j ≤ g.2) ∨ Blk gs j := by
  constructor
  · rintro ⟨x, hx, h⟩
    rcases List.mem_cons.1 hx with rfl | hx
    · exact .inl h
    · exact .inr ⟨x, hx, h⟩
  · rintro (h | ⟨x, hx, h⟩)
    · exact ⟨g, List.mem_cons_self, h⟩
    · exact ⟨x, List.mem_cons_of_mem _ hx, h⟩
theorem blk_snoc {g : Int × Int} {gs : List (Int × Int)} {j : Int} : Blk (gs ++ [g]) j ↔ Blk gs j ∨ (g.1 ≤ j ∧ j ≤ g.2) := by
  induction gs with
  | nil => rw [List.nil_append, blk_cons]; exact or_comm
  | cons x xs ih => rw [List.cons_append, blk_cons, blk_cons, ih, or_assoc]
theorem blk_low {l : Int} {gs : List (Int × Int)} (h : GapsOk l gs) : ∀ j, Blk gs j → l + 2 ≤ j ∧ j ≤ 16 := by
  induction gs generalizing l with
  | nil => exact fun j hj => absurd hj (blk_nil j)
  | cons g gs ih =>
    intro j hj
    obtain ⟨h1, h2, h3, h4⟩ := h
    rcases blk_cons.1 hj with h5 | h5
    · omega
    · have := ih h4 j h5
      omega
/-- Blocks are told by which numbers lie in them. -/
theorem gaps_ext : ∀ {l m : Int} {gs hs : List (Int × Int)}, GapsOk l gs → GapsOk m hs → (∀ j, Blk gs j ↔ Blk hs j) → gs = hs
  | _, _, [], [], _, _, _ => rfl
  | _, _, [], g :: gs, _, h2, h => absurd ((h g.1).2 (blk_cons.2 (.inl ⟨Int.le_refl _, h2.2.1⟩))) (blk_nil _)
  | _, _, g :: gs, [], h1, _, h => absurd ((h g.1).1 (blk_cons.2 (.inl ⟨Int.le_refl _, h1.2.1⟩))) (blk_nil _)
  | l, m, (a, b) :: gs, (p, q) :: hs, h1, h2, h => by
    obtain ⟨_, ab, _, h1t⟩ := h1
    obtain ⟨_, pq, _, h2t⟩ := h2
    have lg := blk_low h1t
    have lh := blk_low h2t
    have ea : a = p := by
      have x1 : Blk ((p, q) :: hs) a := (h a).1 (blk_cons.2 (.inl ⟨Int.le_refl _, ab⟩))
      have x2 : Blk ((a, b) :: gs) p := (h p).2 (blk_cons.2 (.inl ⟨Int.le_refl _, pq⟩))
      rcases blk_cons.1 x1 with x1 | x1 <;> rcases blk_cons.1 x2 with x2 | x2
      · simp only at x1 x2; omega
      · have := lg _ x2; simp only at x1 this pq ab; omega
      · have := lh _ x1; simp only at x2 this pq ab; omega
      · have := lg _ x2
        have := lh _ x1
        simp only at *
        omega
    subst ea
    have eb : b = q := by
      rcases Int.lt_trichotomy b q with hl | hl | hl
      · exfalso
        have x := (h (b + 1)).2 (blk_cons.2 (.inl ⟨by simp only at *; omega, by simp only at *; omega⟩))
        rcases blk_cons.1 x with x | x
        · simp only at x; omega
        · have := lg _ x; simp only at this; omega
      · exact hl
      · exfalso
        have x := (h (q + 1)).1 (blk_cons.2 (.inl ⟨by simp only at *; omega, by simp only at *; omega⟩))
        rcases blk_cons.1 x with x | x
        · simp only at x; omega
        · have := lh _ x; simp only at this; omega
    subst eb
    rw [gaps_ext h1t h2t fun j => ?_]
    constructor
    · intro hj
      rcases blk_cons.1 ((h j).1 (blk_cons.2 (.inr hj))) with x | x
      · have := lg _ hj; simp only at this x; omega
      · exact x
    · intro hj
      rcases blk_cons.1 ((h j).2 (blk_cons.2 (.inr hj))) with x | x
      · have := lh _ hj; simp only at this x; omega
      · exact x
/-- The blocks of a receipt tell which parts have arrived ahead. -/
structure Told (es : List Int) (gs : List (Int × Int)) : Prop where
  asc : AscOk 1 es
  gaps : GapsOk 0 gs
  mem : ∀ j, j ∈ es ↔ Blk gs j
theorem told_gaps {es : List Int} {gs hs : List (Int × Int)} (h : Told es gs) (k : Told es hs) : gs = hs := gaps_ext h.gaps k.gaps fun j => (h.mem j).symm.trans (k.mem j)
theorem told_seen {es ds : List Int} {gs : List (Int × Int)} (h : Told es gs) (k : Told ds gs) : es = ds := asc_ext h.asc k.asc fun j => (h.mem j).trans (k.mem j).symm

/-- A part ahead may be missing. -/
theorem asc_drop : ∀ {l : Int} {es : List Int} (k : Nat), AscOk l es → k < es.length → AscOk l (es.take k ++ es.drop (k + 1))
  | l, [], _, _, h => absurd h (by simp)
  | l, e :: es, 0, ⟨h1, h2⟩, _ => asc_weak h2 (by omega)
  | l, e :: es, k + 1, ⟨h1, h2⟩, h => ⟨h1, asc_drop k h2 (by simpa using h)⟩
/-- None may stand twice. -/
theorem asc_twice : ∀ {l : Int} {es : List Int} (k : Nat), k < es.length → ¬ AscOk l (es.take (k + 1) ++ es.drop k)
  | l, [], _, h => absurd h (by simp)
  | l, e :: es, 0, _ => fun h => by
    have := h.2.1.1
    omega
  | l, e :: es, k + 1, h => fun hk => asc_twice k (by simpa using h) hk.2

end Go.Proofs.Ytncbgejggfkdmab

/- Variables of several cells, further. -/
namespace Go.Proofs.Ytncbgejggfkdmab
open Go.RowKit Go.PlainAid

theorem VarN.drewN {c : Nat} {vs : List Value} {w : World} (h : VarN c vs w) (q : Nat) : VarN c vs (w.drewN q) := fun i v hi => ⟨by simpa using (h i v hi).1, by simpa using (h i v hi).2⟩
theorem VarN.new_at {d : Nat} {w : World} (e : w.heap.size = d) (vs : List Value) (T : TypeId) : VarN d vs (w.alloc (.cells vs.toArray T)) := e ▸ VarN.new w vs T
/-- Seven values are stored over a variable's. -/
theorem VarN.put7 {c : Nat} {z0 z1 z2 z3 z4 z5 z6 : Value} {w : World} (h : VarN c [z0, z1, z2, z3, z4, z5, z6] w) (a0 a1 a2 a3 a4 a5 a6 : Value) :
    VarN c [a0, a1, a2, a3, a4, a5, a6] (((((((w.setCell ⟨c, 0, none⟩ a0).setCell ⟨c, 1, none⟩ a1).setCell ⟨c, 2, none⟩ a2).setCell ⟨c, 3, none⟩ a3).setCell ⟨c, 4, none⟩ a4).setCell ⟨c, 5, none⟩ a5).setCell ⟨c, 6, none⟩ a6) :=
  (((((((h.set (i := 0) a0).set (i := 1) a1).set (i := 2) a2).set (i := 3) a3).set (i := 4) a4).set (i := 5) a5).set (i := 6) a6)
/-- Four values, three values are stored over a variable's. -/
theorem VarN.put4 {c : Nat} {z0 z1 z2 z3 : Value} {w : World} (h : VarN c [z0, z1, z2, z3] w) (a0 a1 a2 a3 : Value) :
    VarN c [a0, a1, a2, a3] ((((w.setCell ⟨c, 0, none⟩ a0).setCell ⟨c, 1, none⟩ a1).setCell ⟨c, 2, none⟩ a2).setCell ⟨c, 3, none⟩ a3) :=
  ((((h.set (i := 0) a0).set (i := 1) a1).set (i := 2) a2).set (i := 3) a3)
theorem VarN.put3 {c : Nat} {z0 z1 z2 : Value} {w : World} (h : VarN c [z0, z1, z2] w) (a0 a1 a2 : Value) :
    VarN c [a0, a1, a2] (((w.setCell ⟨c, 0, none⟩ a0).setCell ⟨c, 1, none⟩ a1).setCell ⟨c, 2, none⟩ a2) :=
  (((h.set (i := 0) a0).set (i := 1) a1).set (i := 2) a2)

end Go.Proofs.Ytncbgejggfkdmab

/- Rows of one's own: what leaves them be. -/
namespace Go.Proofs.Ytncbgejggfkdmab
open Go.RowKit Go.PlainAid

theorem rowBelow {w w' : World} {base C : Nat} {e : TypeId} {size n m g cap : Nat} {xs : List Value} (h : w.ownsRow base e size (.slice (some ⟨g, 0, none⟩) m cap) n xs) (hb : Below C w w') (hg : g < C) :
    w'.ownsRow base e size (.slice (some ⟨g, 0, none⟩) m cap) n xs := by
  refine ⟨h.1, ?_⟩
  rcases h.2 with ⟨h1, _⟩ | ⟨g', cap', cur, h1, h2, h3, h4⟩
  · exact absurd h1 (by intro e; cases e)
  · obtain ⟨rfl, rfl, rfl⟩ : g = g' ∧ m = n ∧ cap = cap' := by simpa using h1
    exact .inr ⟨g, cap, cur, rfl, h2, by rw [hb.block g hg]; exact h3, h4⟩
theorem rowFar {w : World} {base d i : Nat} {e : TypeId} {size n m g cap : Nat} {xs : List Value} (h : w.ownsRow base e size (.slice (some ⟨g, 0, none⟩) m cap) n xs) (hd : g ≠ d) (v : Value) :
    (w.setCell ⟨d, i, none⟩ v).ownsRow base e size (.slice (some ⟨g, 0, none⟩) m cap) n xs := by
  refine ⟨h.1, ?_⟩
  rcases h.2 with ⟨h1, _⟩ | ⟨g', cap', cur, h1, h2, h3, h4⟩
  · exact absurd h1 (by intro e; cases e)
  · obtain ⟨rfl, rfl, rfl⟩ : g = g' ∧ m = n ∧ cap = cap' := by simpa using h1
    exact .inr ⟨g, cap, cur, rfl, h2, by rw [Below.heap_setCell _ _ _ _ (by simpa using hd)]; exact h3, h4⟩
theorem rowLt {w : World} {base : Nat} {e : TypeId} {size n m g cap : Nat} {xs : List Value} (h : w.ownsRow base e size (.slice (some ⟨g, 0, none⟩) m cap) n xs) : g < w.heap.size := by
  rcases h.2 with ⟨h1, _⟩ | ⟨g', cap', cur, h1, h2, h3, h4⟩
  · exact absurd h1 (by intro e; cases e)
  · obtain ⟨rfl, rfl, rfl⟩ : g = g' ∧ m = n ∧ cap = cap' := by simpa using h1
    exact (Array.getElem?_eq_some_iff.1 h3).1
theorem rowDrewN {w : World} {base : Nat} {e : TypeId} {size : Nat} {v : Value} {n : Nat} {xs : List Value} (h : w.ownsRow base e size v n xs) (q : Nat) : (w.drewN q).ownsRow base e size v n xs := by
  unfold World.ownsRow at h ⊢
  rw [World.heap_drewN]
  exact h
theorem VarN.plus {d g : Nat} {vs : List Value} {w w' : World} (h : VarN d vs w) (hg : w.grownBy w' (some g)) (hd : d < w.heap.size) (hne : d ≠ g) : VarN d vs w' := fun i v hi =>
  ⟨(hg.cell_far ⟨d, i, none⟩ hd (by simpa using hne)).trans (h i v hi).1, (hg.frozen_far ⟨d, i, none⟩ hd (by simpa using hne)).trans (h i v hi).2⟩
theorem news_box {w : World} {vs : List Value} {T : TypeId} {H : Nat} (e : w.heap.size = H) : ∀ j u, vs[j]? = some u → (w.alloc (.cells vs.toArray T)).cell? ((⟨H, 0, none⟩ : Addr).add j) = some u := by
  subst e
  exact World.news_of_block (heap_alloc_new w _)

end Go.Proofs.Ytncbgejggfkdmab

/- Numbers in memory; the contracts of chapter 21's model: whether a value is valid, the one at the beginning, what has arrived. -/
namespace Go.Proofs.Ytncbgejggfkdmab
open Go.RowKit Go.PlainAid

/-- The number at a place of a list. -/
def nAt (es : List Int) (i : Nat) : Int := es.getD i 0
theorem nAt_mem {es : List Int} {i : Nat} (h : i < es.length) : nAt es i ∈ es := by
  unfold nAt
  rw [List.getD_eq_getElem?_getD, List.getElem?_eq_getElem h]
  exact List.getElem_mem _
theorem take_nAt {es : List Int} {k : Nat} (h : k < es.length) : es.take (k + 1) = es.take k ++ [nAt es k] := by
  unfold nAt
  rw [List.take_add_one, List.getD_eq_getElem?_getD, List.getElem?_eq_getElem h]
  rfl
/-- A slice of numbers: nil, or their cells from an address on. -/
def Ns (w : World) (a : Option Addr) (len cap : Nat) (es : List Int) : Prop :=
  (a = none ∧ len = 0 ∧ cap = 0 ∧ es = []) ∨
  ∃ x : Addr, a = some x ∧ len ≤ cap ∧ cap ≤ maxLen ∧ es.length = len ∧ ∀ i, i < len → w.cell? (x.add i) = some (.int .i64 (nAt es i))
section
variable {w w' W W' : World} {a : Option Addr} {len cap : Nat} {es : List Int}
theorem Ns.length (h : Ns w a len cap es) : es.length = len := by
  rcases h with ⟨_, rfl, _, rfl⟩ | ⟨_, _, _, _, h, _⟩
  · rfl
  · exact h
theorem Ns.len_le (h : Ns w a len cap es) : len ≤ cap ∧ cap ≤ maxLen := by
  rcases h with ⟨_, rfl, rfl, rfl⟩ | ⟨_, _, h1, h2, _, _⟩
  · exact ⟨Nat.le_refl _, Nat.zero_le _⟩
  · exact ⟨h1, h2⟩
theorem Ns.len_int (h : Ns w a len cap es) : len ≤ 9223372036854775807 := by
  have := h.len_le
  unfold maxLen at this
  omega
theorem Ns.below (h : Ns w a len cap es) (hb : Below w.heap.size w w') : Ns w' a len cap es := by
  rcases h with h | ⟨x, h1, h2, h3, h4, h5⟩
  · exact .inl h
  · exact .inr ⟨x, h1, h2, h3, h4, fun i hi => (hb.cell (World.block_lt_of_cell? w _ (h5 i hi))).trans (h5 i hi)⟩
theorem Ns.nil (w : World) : Ns w none 0 0 [] := .inl ⟨rfl, rfl, rfl, rfl⟩
theorem Ns.addr (h : Ns w a len cap es) {k : Nat} (hk : k < len) : ∃ x, a = some x := by
  rcases h with ⟨_, h0, _⟩ | ⟨y, hy, _⟩
  · omega
  · exact ⟨y, hy⟩
theorem Ns.at {x : Addr} (h : Ns w (some x) len cap es) (hb : Below w.heap.size w w') {k : Nat} (hk : k < len) : w'.cell? (x.add k) = some (.int .i64 (nAt es k)) := by
  rcases h with ⟨h0, _⟩ | ⟨y, hy, _, _, _, h4⟩
  · cases h0
  · obtain rfl : x = y := by simpa using hy
    exact (hb.cell (World.block_lt_of_cell? w _ (h4 k hk))).trans (h4 k hk)
theorem n_add (g j : Nat) : (⟨g, 0, none⟩ : Addr).add j = ⟨g, j, none⟩ := by unfold Addr.add; split <;> simp_all
theorem Ns.far {g d i : Nat} (h : Ns w (some ⟨g, 0, none⟩) len cap es) (hd : d ≠ g) (v : Value) : Ns (w.setCell ⟨d, i, none⟩ v) (some ⟨g, 0, none⟩) len cap es := by
  rcases h with ⟨e, _⟩ | ⟨a, e, h7, h8, h9, h10⟩
  · cases e
  · obtain rfl : ⟨g, 0, none⟩ = a := by simpa using e
    refine .inr ⟨_, rfl, h7, h8, h9, fun i hi => ?_⟩
    have := h10 i hi
    rw [n_add] at this ⊢
    exact cell_far hd this
theorem Ns.under {g C : Nat} (h : Ns w (some ⟨g, 0, none⟩) len cap es) (hb : Below C w w') (hg : g < C ∨ len = 0) : Ns w' (some ⟨g, 0, none⟩) len cap es := by
  rcases h with ⟨e, _⟩ | ⟨a, e, h7, h8, h9, h10⟩
  · cases e
  · obtain rfl : ⟨g, 0, none⟩ = a := by simpa using e
    refine .inr ⟨_, rfl, h7, h8, h9, fun i hi => ?_⟩
    have := h10 i hi
    rw [n_add] at this ⊢
    rcases hg with hg | h0
    · exact kept_cell hb hg this
    · omega
theorem ns_lt {g : Nat} (h : Ns w (some ⟨g, 0, none⟩) len cap es) : g < w.heap.size ∨ len = 0 := by
  rcases h with ⟨e, _⟩ | ⟨a, e, _, _, _, h10⟩
  · cases e
  · obtain rfl : ⟨g, 0, none⟩ = a := by simpa using e
    by_cases hk0 : 0 < len
    · have := h10 0 hk0
      rw [n_add] at this
      exact .inl (lt_of_cell this)
    · exact .inr (by omega)
/-- The cells of numbers. -/
def flatN (es : List Int) : List Value := es.map (Value.int .i64)
theorem flatN_length (es : List Int) : (flatN es).length = es.length := List.length_map _
theorem flatN_append (es ds : List Int) : flatN (es ++ ds) = flatN es ++ flatN ds := List.map_append
theorem flatN_one (es : List Int) : ∀ u ∈ flatN es, u.oneCell' = true := by
  intro u hu
  obtain ⟨e, _, rfl⟩ := List.mem_map.1 hu
  rfl
theorem flatN_get (es : List Int) (i : Nat) (h : i < es.length) : (flatN es)[i]? = some (.int .i64 (nAt es i)) := by
  unfold flatN nAt
  rw [List.getElem?_map, List.getD_eq_getElem?_getD, List.getElem?_eq_getElem h]
  rfl
theorem own_ns {base k : Nat} (h : W.ownsRow base 3 1 (.slice a k cap) k (flatN es)) : Ns W a k cap es := by
  have hl := h.1
  rw [flatN_length] at hl
  rcases h.2 with ⟨h1, h2⟩ | ⟨g, cap', cur, h1, _, _, h4, h5, _⟩
  · obtain ⟨rfl, rfl, rfl⟩ : a = none ∧ k = 0 ∧ cap = 0 := by simpa using h1
    exact .inl ⟨rfl, rfl, rfl, List.length_eq_zero_iff.1 (by omega)⟩
  · obtain ⟨rfl, rfl⟩ : a = some ⟨g, 0, none⟩ ∧ cap = cap' := by simpa using h1
    refine .inr ⟨_, rfl, h4, h5, by omega, fun i hi => ?_⟩
    have f1 := flatN_get es i (by omega)
    have c1 := h.cellAt i (by omega)
    rw [n_add]
    exact c1.trans f1
/-- The cells of a slice of numbers, as a source of an append. -/
theorem ns_flat {x : Addr} (h : Ns W (some x) len cap es) : ∀ j u, (flatN es)[j]? = some u → W.cell? (x.add j) = some u := by
  intro j u hu
  rcases h with ⟨e, _⟩ | ⟨a, e, h7, h8, h9, h10⟩
  · cases e
  · obtain rfl : x = a := by simpa using e
    have hj : j < len := by have := (List.getElem?_eq_some_iff.1 hu).1; rw [flatN_length, h9] at this; exact this
    rw [flatN_get es j (by omega)] at hu
    cases hu
    exact h10 j hj
end
theorem info_n : (Try.prog.info? 3).map (fun i => (i.zero, i.size, i.bytes)) = some (some (.int .i64 0), 1, 8) := by kernel_rfl
/-- A slice of numbers of one's own. -/
structure OwnN (k : Nat) (v : Value) (es : List Int) (w W : World) : Prop where
  own : W.ownsRow w.heap.size 3 1 v k (flatN es)
  b : Below w.heap.size w W
section
variable {k : Nat} {v : Value} {es : List Int} {w W W' : World}
theorem OwnN.below (h : OwnN k v es w W) (hb : Below W.heap.size W W') : OwnN k v es w W' := by
  refine ⟨⟨h.own.1, ?_⟩, h.b.trans (hb.mono h.b.size)⟩
  rcases h.own.2 with h1 | ⟨g, cap, cur, h1, h2, h3, h4⟩
  · exact .inl h1
  · have hg : g < W.heap.size := (Array.getElem?_eq_some_iff.1 h3).1
    exact .inr ⟨g, cap, cur, h1, h2, by rw [hb.block g hg]; exact h3, h4⟩
theorem OwnN.base {g : Nat} (h : OwnN k v es w W) (hv : v.ownBlock = some g) : w.heap.size ≤ g := by
  rcases h.own.2 with ⟨h1, _⟩ | ⟨g', cap', cur, h1, h2, _⟩
  · rw [h1] at hv
    cases hv
  · rw [h1] at hv
    obtain rfl : g' = g := by simpa [Value.ownBlock] using hv
    exact h2
theorem OwnN.low (h : OwnN k v es W W') (hb : Below w.heap.size w W) : OwnN k v es w W' := by
  refine ⟨⟨h.own.1, ?_⟩, hb.trans (h.b.mono hb.size)⟩
  rcases h.own.2 with h1 | ⟨g, cap, cur, h1, h2, h3⟩
  · exact .inl h1
  · exact .inr ⟨g, cap, cur, h1, Nat.le_trans hb.size h2, h3⟩
theorem OwnN.ns {a : Option Addr} {cap : Nat} (h : OwnN k (.slice a k cap) es w W) : Ns W a k cap es := own_ns h.own
theorem OwnN.nil (hb : Below w.heap.size w W) : OwnN 0 (.slice none 0 0) [] w W := ⟨⟨rfl, .inl ⟨rfl, rfl⟩⟩, hb⟩
theorem OwnN.start (hb : Below w.heap.size w W) : OwnN 0 (.slice (some ⟨W.heap.size, 0, none⟩) 0 0) [] w (W.alloc (.cells #[] 3)) :=
  ⟨World.ownsRow_lit (base := w.heap.size) (e := 3) (size := 1) W #[] 0 hb.size (by decide) rfl, hb.alloc hb.size _⟩
end
theorem asc_next {es : List Int} {k : Nat} {e : Int} (hk : k < es.length) (he : nAt es k = e) (h : AscOk 1 (es.take k)) :
    (AscOk 1 (es.take (k + 1)) ↔ lastE 1 (es.take k) + 1 ≤ e ∧ e ≤ 16) ∧ (¬ (lastE 1 (es.take k) + 1 ≤ e ∧ e ≤ 16) → ¬ AscOk 1 es) ∧ lastE 1 (es.take (k + 1)) = e := by
  rw [take_nAt hk, he, asc_snoc]
  refine ⟨⟨fun h => h.2, fun k => ⟨h, k⟩⟩, fun hn ha => hn ?_, lastE_snoc _ _ _⟩
  rw [← List.take_append_drop (k + 1) es, take_nAt hk, he] at ha
  exact (asc_snoc.1 (asc_left ha)).2

set_option maxHeartbeats 1000000 in
theorem l21Has_any (a : Option Addr) (len cap : Nat) (es : List Int) (n : Int) (w : World) (h : Ns w a len cap es) :
    Calls Try.prog 88 #[.slice a len cap, .int .i64 n] w fun e w' => e = .returned (.bool (decide (n ∈ es))) ∧ Below w.heap.size w w' := by
  have hl := h.length
  have hm := h.len_int
  have HG := Lib.hid h
  clear h
  go_enter Try.func88, Try.ntmps88
  go_wp2
  go_loopw [5] (fun i wr => ∃ k : Nat, k ≤ len ∧ i = .int .i64 k ∧ Hid (n ∉ es.take k) ∧ Hid (Below w.heap.size w wr)) (fun i _ => len - (intOf i).toNat)
  case atStart => exact ⟨0, Nat.zero_le _, rfl, Lib.hid (by simp), Lib.hid (Below.refl _ _)⟩
  case round =>
    obtain ⟨k, hk, rfl, hno, hbel⟩ := hrel
    by_cases hlt : k < len
    · obtain ⟨x, rfl⟩ := HG.out.addr hlt
      have p0 := HG.out.at hbel.out hlt
      have hkl : k < es.length := by omega
      obtain ⟨e, he⟩ : ∃ e, nAt es k = e := ⟨_, rfl⟩
      rw [he] at p0
      have HM := Lib.hid (nAt_mem hkl)
      have HE := Lib.hid he
      clear he
      by_cases hen : e = n
      · have V := Lib.hid (decide_eq_true (p := n ∈ es) (by rw [← hen, ← HE.out]; exact HM.out))
        subst hen
        go_wp2
        go_ret
        exact ⟨ret_b V.out.symm, hbel.out⟩
      · have O := Lib.hid (show n ∉ es.take (k + 1) by
          rw [take_nAt hkl, HE.out]
          intro h
          rcases List.mem_append.1 h with h | h
          · exact hno.out h
          · exact hen (List.mem_singleton.1 h).symm)
        go_wp2
        go_roundw
        case rel => exact ⟨k + 1, by omega, by go_num, O, hbel⟩
        case measure => simp [intOf]; omega
    · obtain rfl : k = len := by omega
      have V := Lib.hid (decide_eq_false (p := n ∈ es) (by have := hno.out; rwa [List.take_of_length_le (by omega)] at this))
      go_wp2
      go_ret
      exact ⟨ret_b V.out.symm, hbel.out⟩

end Go.Proofs.Ytncbgejggfkdmab

/- Regions that draw their order, whose operations only read and whose calls keep a class of worlds: walked once, in the order of the text. -/
namespace Go.Proofs.Ytncbgejggfkdmab
open Go.RowKit Go.PlainAid

theorem region_class {P : Program} {id : Nat} {Q : Exit → Act → World → Prop} {a : Act} {w : World} {l : List Oper} {C : World → Prop} (hm : P.follows .mixedOrders = true) (hB : Region.lexB .any l.toArray = true)
    (hC : C w.drew) (h : wpQuiet P l.toArray C (fun a' => ∀ w', C w' → Q .normal a' w') l a) : (Code.region id l.toArray true).wp P Q a w :=
  wp_region_quiet hm hB hC (by simpa using h)

end Go.Proofs.Ytncbgejggfkdmab

/- The contracts of chapter 22's model: where a part lies, whether an assembly is valid. -/
namespace Go.Proofs.Ytncbgejggfkdmab
open Go.RowKit Go.PlainAid

theorem idx_no {ps : List Part} {t : Int} (h : ∀ i, i < ps.length → (pAt ps i).tsn ≠ t) : idxP ps t = none := by
  unfold idxP
  rw [List.findIdx?_eq_none_iff]
  intro p hp
  obtain ⟨k, hk, rfl⟩ := mem_at hp
  simpa using h k hk
/-- The place of a part with a number, as the model says it. -/
def idxV (ps : List Part) (t : Int) : Int := match idxP ps t with | some j => (j : Int) | none => -1
theorem idxV_some {ps : List Part} {t : Int} {j : Nat} (hj : j < ps.length) (ht : (pAt ps j).tsn = t) (hb : ∀ i, i < j → (pAt ps i).tsn ≠ t) : idxV ps t = (j : Int) := by
  unfold idxV
  rw [idx_is hj ht hb]
theorem idxV_none {ps : List Part} {t : Int} (h : ∀ i, i < ps.length → (pAt ps i).tsn ≠ t) : idxV ps t = -1 := by
  unfold idxV
  rw [idx_no h]
theorem idxV_hit {ps : List Part} {k : Nat} (hk : k < ps.length) : ∃ j, j ≤ k ∧ idxV ps (pAt ps k).tsn = (j : Int) ∧ (pAt ps j).tsn = (pAt ps k).tsn ∧ ∀ i, i < j → (pAt ps i).tsn ≠ (pAt ps k).tsn := by
  cases hx : idxP ps (pAt ps k).tsn with
  | none => exact absurd rfl (idx_none hx _ (pAt_mem hk))
  | some j =>
    obtain ⟨h1, h2, h3⟩ := idx_some hx
    refine ⟨j, Nat.le_of_not_lt fun h => h3 k h rfl, by unfold idxV; rw [hx], h2, h3⟩
/-- The parts before a place are well. -/
def PreOk (n : Nat) (ps : List Part) (k : Nat) : Prop := (∀ i, i < k → PartOk n (pAt ps i)) ∧ ∀ i j, i < j → j < k → (pAt ps i).tsn ≠ (pAt ps j).tsn
theorem pre_all {next : List Int} {ps : List Part} (hn : ∀ n ∈ next, Ser n) (h : PreOk next.length ps ps.length) (h1 : 1 ≤ next.length) (h4 : next.length ≤ 4) (h12 : ps.length ≤ 12) : AsmOk next ps where
  n1 := h1
  n4 := h4
  nums := hn
  few := h12
  ok := fun p hp => by
    obtain ⟨k, hk, rfl⟩ := mem_at hp
    exact h.1 k hk
  diff := by
    rw [List.nodup_iff_pairwise_ne, List.pairwise_iff_getElem]
    intro i j hi hj hij
    rw [List.length_map] at hi hj
    rw [List.getElem_map, List.getElem_map, pAt_get hi, pAt_get hj]
    exact h.2 i j hij hj
theorem AsmOk.pre {next : List Int} {ps : List Part} (ha : AsmOk next ps) : PreOk next.length ps ps.length := by
  refine ⟨fun i hi => ha.ok _ (pAt_mem hi), fun i j hij hj => ?_⟩
  have := ha.diff
  rw [List.nodup_iff_pairwise_ne, List.pairwise_iff_getElem] at this
  have := this i j (by rw [List.length_map]; omega) (by rw [List.length_map]; omega) hij
  rw [List.getElem_map, List.getElem_map, pAt_get (by omega), pAt_get hj] at this
  exact this
theorem PreOk.more {n : Nat} {ps : List Part} {k : Nat} (h : PreOk n ps k) (h1 : PartOk n (pAt ps k)) (h2 : ∀ i, i < k → (pAt ps i).tsn ≠ (pAt ps k).tsn) : PreOk n ps (k + 1) := by
  refine ⟨fun i hi => ?_, fun i j hij hj => ?_⟩
  · by_cases e : i = k
    · subst e; exact h1
    · exact h.1 i (by omega)
  · by_cases e : j = k
    · subst e; exact h2 i hij
    · exact h.2 i j hij (by omega)
theorem asmOk_iff (next : List Int) (ps : List Part) : ((1 ≤ next.length ∧ next.length ≤ 4 ∧ ps.length ≤ 12) ∧ (∀ n ∈ next, 0 ≤ n ∧ n ≤ 65535) ∧ (∀ p ∈ ps, PartOk next.length p) ∧ (ps.map fun p => p.tsn).Nodup) ↔ AsmOk next ps :=
  ⟨fun h => ⟨h.1.1, h.1.2.1, fun n hn => by have := h.2.1 n hn; exact ⟨this.1, by omega⟩, h.1.2.2, h.2.2.1, h.2.2.2⟩,
   fun h => ⟨⟨h.n1, h.n4, h.few⟩, fun n hn => by have := h.nums n hn; exact ⟨this.1, by have := this.2; omega⟩, h.ok, h.diff⟩⟩
instance (next : List Int) (ps : List Part) : Decidable (AsmOk next ps) := decidable_of_iff _ (asmOk_iff next ps)
/-- Whether an assembly is valid. -/
def asmV (next : List Int) (ps : List Part) : Bool := decide (AsmOk next ps)
theorem asmV_yes {next : List Int} {ps : List Part} (h : AsmOk next ps) : asmV next ps = true := decide_eq_true h
theorem asmV_no {next : List Int} {ps : List Part} (h : ¬ AsmOk next ps) : asmV next ps = false := decide_eq_false h
theorem kept9 {a0 a1 a2 a3 a4 a5 a6 a7 a8 : Addr} {v0 v1 v2 v3 v4 v5 v6 v7 v8 : Value} {w W W' : World} (h : W.cell? a0 = some v0 ∧ W.cell? a1 = some v1 ∧ W.cell? a2 = some v2 ∧ W.cell? a3 = some v3 ∧ W.cell? a4 = some v4 ∧ W.cell? a5 = some v5 ∧ W.cell? a6 = some v6 ∧ W.cell? a7 = some v7 ∧ W.cell? a8 = some v8 ∧ Below w.heap.size w W) (hb : Below W.heap.size W W') : W'.cell? a0 = some v0 ∧ W'.cell? a1 = some v1 ∧ W'.cell? a2 = some v2 ∧ W'.cell? a3 = some v3 ∧ W'.cell? a4 = some v4 ∧ W'.cell? a5 = some v5 ∧ W'.cell? a6 = some v6 ∧ W'.cell? a7 = some v7 ∧ W'.cell? a8 = some v8 ∧ Below w.heap.size w W' :=
  ⟨(hb.cell (World.block_lt_of_cell? W _ h.1)).trans h.1, (hb.cell (World.block_lt_of_cell? W _ h.2.1)).trans h.2.1, (hb.cell (World.block_lt_of_cell? W _ h.2.2.1)).trans h.2.2.1, (hb.cell (World.block_lt_of_cell? W _ h.2.2.2.1)).trans h.2.2.2.1, (hb.cell (World.block_lt_of_cell? W _ h.2.2.2.2.1)).trans h.2.2.2.2.1, (hb.cell (World.block_lt_of_cell? W _ h.2.2.2.2.2.1)).trans h.2.2.2.2.2.1, (hb.cell (World.block_lt_of_cell? W _ h.2.2.2.2.2.2.1)).trans h.2.2.2.2.2.2.1, (hb.cell (World.block_lt_of_cell? W _ h.2.2.2.2.2.2.2.1)).trans h.2.2.2.2.2.2.2.1, (hb.cell (World.block_lt_of_cell? W _ h.2.2.2.2.2.2.2.2.1)).trans h.2.2.2.2.2.2.2.2.1, h.2.2.2.2.2.2.2.2.2.trans (hb.mono h.2.2.2.2.2.2.2.2.2.size)⟩

set_option maxHeartbeats 1000000 in
theorem l22At_any (a : Option Addr) (len cap : Nat) (ps : List Part) (t : Int) (w : World) (h : Pts w a len cap ps) :
    Calls Try.prog 46 #[.slice a len cap, .int .i64 t] w fun e w' => e = .returned (.int .i64 (idxV ps t)) ∧ Below w.heap.size w w' := by
  have hl := h.length
  have hm := h.len_int
  have HG := Lib.hid h
  clear h
  go_enter Try.func46, Try.ntmps46
  go_wp2
  go_loopw [5] (fun i wr => ∃ k : Nat, k ≤ len ∧ i = .int .i64 k ∧ Hid (∀ i, i < k → (pAt ps i).tsn ≠ t) ∧ Hid (Below w.heap.size w wr)) (fun i _ => len - (intOf i).toNat)
  case atStart => exact ⟨0, Nat.zero_le _, rfl, Lib.hid (fun i hi => absurd hi (Nat.not_lt_zero _)), Lib.hid (Below.refl _ _)⟩
  case round =>
    obtain ⟨k, hk, rfl, hno, hbel⟩ := hrel
    by_cases hlt : k < len
    · obtain ⟨x, rfl⟩ := HG.out.addr hlt
      have p0 := (HG.out.at hbel.out hlt).1
      have hkl : k < ps.length := by omega
      obtain ⟨e, he⟩ : ∃ e, (pAt ps k).tsn = e := ⟨_, rfl⟩
      rw [he] at p0
      have HE := Lib.hid he
      clear he
      by_cases hen : e = t
      · have V := Lib.hid (idxV_some hkl (HE.out.trans hen) hno.out)
        subst hen
        go_wp2
        go_ret
        exact ⟨congrArg (fun z => Ending.returned (Value.int IntKind.i64 z)) V.out.symm, hbel.out⟩
      · have O := Lib.hid (show ∀ i, i < k + 1 → (pAt ps i).tsn ≠ t by
          intro i hi
          by_cases e1 : i = k
          · subst e1; rw [HE.out]; exact hen
          · exact hno.out i (by omega))
        go_wp2
        go_roundw
        case rel => exact ⟨k + 1, by omega, by go_num, O, hbel⟩
        case measure => simp [intOf]; omega
    · obtain rfl : k = len := by omega
      have V := Lib.hid (idxV_none (ps := ps) (t := t) (by have := hno.out; rw [hl]; exact this))
      go_wp2
      go_ret
      exact ⟨congrArg (fun z => Ending.returned (Value.int IntKind.i64 z)) V.out.symm, hbel.out⟩

set_option maxRecDepth 8000 in
set_option maxHeartbeats 4000000 in
theorem sAsmValid_any (an : Option Addr) (ln cn : Nat) (next : List Int) (ap : Option Addr) (lp cp : Nat) (ps : List Part) (w : World) (h : Ns w an ln cn next) (hp : Pts w ap lp cp ps) :
    Calls Try.prog 18 #[.agg #[.slice an ln cn, .slice ap lp cp]] w fun e w' => e = .returned (.bool (asmV next ps)) ∧ Below w.heap.size w w' := by
  have hl := h.length
  have hm := h.len_int
  have HG := Lib.hid h
  have hlp := hp.length
  have hmp := hp.len_int
  have HP := Lib.hid hp
  clear h hp
  go_enter Try.func18, Try.ntmps18
  go_wp2
  go_loopw [3] (fun i wr => ∃ k : Nat, k ≤ ln ∧ i = .int .i64 k ∧ Hid (∀ n ∈ next.take k, Ser n) ∧ wr.cell? ⟨w.heap.size, 0, none⟩ = some (.slice an ln cn) ∧ wr.cell? ⟨w.heap.size, 1, none⟩ = some (.slice ap lp cp) ∧ Hid (Below w.heap.size w wr)) (fun i _ => ln - (intOf i).toNat)
  case atStart => exact ⟨0, Nat.zero_le _, rfl, Lib.hid (by simp), by simp, by simp, Lib.hid (below_box _ (Nat.le_refl _))⟩
  case round =>
    obtain ⟨k, hk, rfl, hok, hc0, hc1, hbel⟩ := hrel
    by_cases hlt : k < ln
    · obtain ⟨x, rfl⟩ := HG.out.addr hlt
      have p0 := HG.out.at hbel.out hlt
      have hkl : k < next.length := by omega
      obtain ⟨e, he⟩ : ∃ e, nAt next k = e := ⟨_, rfl⟩
      have HM := Lib.hid (nAt_mem hkl)
      rw [he] at p0 HM
      have HE := Lib.hid he
      clear he
      by_cases hs : Ser e
      · have HS := Lib.hid hs
        have O := Lib.hid (show ∀ n ∈ next.take (k + 1), Ser n by
          rw [take_nAt hkl, HE.out]
          intro n hn
          rcases List.mem_append.1 hn with hn | hn
          · exact hok.out n hn
          · rw [List.mem_singleton.1 hn]; exact hs)
        clear hs
        go_wp2_with fail
        refine (l3Ok_yes e _ HS.out).mono ?_
        rintro e w1 ⟨rfl, rfl⟩
        go_wp2
        go_roundw
        case rel => exact ⟨k + 1, by omega, by go_num, O, by simpa using hc0, by simpa using hc1, hbel⟩
        case measure => simp [intOf]; omega
      · have HS := Lib.hid hs
        have V := Lib.hid (asmV_no (next := next) (ps := ps) fun h => hs (h.nums e HM.out))
        clear hs
        go_wp2_with fail
        refine (l3Ok_no e _ HS.out).mono ?_
        rintro e w1 ⟨rfl, rfl⟩
        go_wp2
        go_ret
        exact ⟨ret_b V.out.symm, hbel.out⟩
    · obtain rfl : k = ln := by omega
      have HN := Lib.hid (show ∀ n ∈ next, Ser n by
        have := hok.out
        rw [List.take_of_length_le (by omega)] at this
        exact this)
      clear hok hlt hk
      go_wp2
      go_loopw [4] (fun i wr => ∃ j : Nat, j ≤ lp ∧ i = .int .i64 j ∧ Hid (PreOk k ps j) ∧ wr.cell? ⟨w.heap.size, 0, none⟩ = some (.slice an k cn) ∧ wr.cell? ⟨w.heap.size, 1, none⟩ = some (.slice ap lp cp) ∧ Hid (Below w.heap.size w wr)) (fun i _ => lp - (intOf i).toNat)
      case atStart => exact ⟨0, Nat.zero_le _, rfl, Lib.hid ⟨fun i hi => absurd hi (Nat.not_lt_zero _), fun i j _ hj => absurd hj (Nat.not_lt_zero _)⟩, by simpa using hc0, by simpa using hc1, hbel⟩
      case round =>
        obtain ⟨j, hj, rfl, hpre, hd0, hd1, hbel2⟩ := hrel
        by_cases hlt : j < lp
        · obtain ⟨x, rfl⟩ := HP.out.addr hlt
          obtain ⟨p0, p1, p2, p3, p4, p5, p6⟩ := HP.out.at hbel2.out hlt
          have hjl : j < ps.length := by omega
          obtain ⟨⟨t, s, q, fi, la, lo, tx⟩, he⟩ : ∃ e, pAt ps j = e := ⟨_, rfl⟩
          have HE := Lib.hid he
          have HM := Lib.hid (pAt_mem hjl)
          have HX := Lib.hid (idxV_hit hjl)
          rw [he] at p0 p1 p2 p3 p4 p5 p6 HM HX
          clear he
          by_cases hd : DataOk t s q tx
          · have D := Lib.hid (dataOkV_yes hd)
            have HD := Lib.hid hd
            clear hd
            by_cases hst : s < (k : Int)
            · have hst2 : decide ((k : Int) ≤ s) = false := decide_eq_false (by omega)
              obtain ⟨i0, hi0, hi1, hi2, hi3⟩ := HX.out
              have hi1 := Lib.hid hi1
              have hi2 := Lib.hid hi2
              have hi3 := Lib.hid hi3
              by_cases hij : i0 < j
              · have V := Lib.hid (asmV_no (next := next) (ps := ps) fun h => h.pre.2 i0 j hij hjl (hi2.out.trans (by rw [HE.out])))
                have hij2 : decide ((i0 : Int) < (j : Int)) = true := decide_eq_true (by omega)
                have hS := Lib.hid (kept9 ⟨hd0, hd1, p0, p1, p2, p3, p4, p5, p6, hbel2.out⟩ (Below.drew (Below.refl _ _)))
                clear hc0 hc1
                go_wp2_with fail
                clear hd0 hd1 p0 p1 p2 p3 p4 p5 p6
                refine region_class (C := fun W => W.cell? ⟨w.heap.size, 0, none⟩ = some (.slice an k cn) ∧ W.cell? ⟨w.heap.size, 1, none⟩ = some (.slice (some x) lp cp) ∧ W.cell? (x.add (j * 7)) = some (.int .i64 t) ∧ W.cell? ⟨(x.add (j * 7)).block, (x.add (j * 7)).off + 1, none⟩ = some (.int .i64 s) ∧ W.cell? ⟨(x.add (j * 7)).block, (x.add (j * 7)).off + 2, none⟩ = some (.int .i64 q) ∧ W.cell? ⟨(x.add (j * 7)).block, (x.add (j * 7)).off + 3, none⟩ = some (.bool fi) ∧ W.cell? ⟨(x.add (j * 7)).block, (x.add (j * 7)).off + 4, none⟩ = some (.bool la) ∧ W.cell? ⟨(x.add (j * 7)).block, (x.add (j * 7)).off + 5, none⟩ = some (.bool lo) ∧ W.cell? ⟨(x.add (j * 7)).block, (x.add (j * 7)).off + 6, none⟩ = some (.string tx) ∧ Below w.heap.size w W) (by kernel_rfl) (by kernel_rfl) hS.out ?_
                clear hS
                repeat (first
                  | go_big_quiet_skip
                  | (refine BigFrame.wpQuiet_want (by rfl) (fun K hK => ?_)
                     apply Exists.intro
                     refine ⟨fun W hW => ?_, hK _ ?_⟩
                     next =>
                       try dsimp only at hW
                       obtain ⟨c0, c1, c2, c3, c4, c5, c6, c7, c8, cb⟩ := hW
                       go_simp
                       first
                         | exact rfl
                         | (refine (l12Data_any t s q fi la lo tx _).mono ?_; rw [D.out]; rintro e w1 ⟨rfl, hb1⟩; exact ⟨rfl, kept9 ⟨c0, c1, c2, c3, c4, c5, c6, c7, c8, cb⟩ hb1⟩)
                         | (refine (l22At_any _ lp cp ps t _ (HP.out.below cb)).mono ?_; rw [hi1.out]; rintro e w2 ⟨rfl, hb2⟩; exact ⟨rfl, kept9 ⟨c0, c1, c2, c3, c4, c5, c6, c7, c8, cb⟩ hb2⟩)
                     simp only [Act.put, List.setIfInBounds_toArray, List.set_cons_zero, List.set_cons_succ]
                     clear hK K))
                refine wpQuiet_nil ?_
                intro W hW
                obtain ⟨g0, g1, _, _, _, _, _, _, _, hbx⟩ := hW
                go_wp2
                go_ret
                exact ⟨ret_b V.out.symm, hbx⟩
              · have hjj : i0 = j := by omega
                have O := Lib.hid (hpre.out.more (by rw [HE.out]; exact ⟨HD.out, hst⟩) (by rw [HE.out]; exact hjj ▸ hi3.out))
                have hij2 : decide ((i0 : Int) < (j : Int)) = false := decide_eq_false (by omega)
                have hS := Lib.hid (kept9 ⟨hd0, hd1, p0, p1, p2, p3, p4, p5, p6, hbel2.out⟩ (Below.drew (Below.refl _ _)))
                clear hc0 hc1
                go_wp2_with fail
                clear hd0 hd1 p0 p1 p2 p3 p4 p5 p6
                refine region_class (C := fun W => W.cell? ⟨w.heap.size, 0, none⟩ = some (.slice an k cn) ∧ W.cell? ⟨w.heap.size, 1, none⟩ = some (.slice (some x) lp cp) ∧ W.cell? (x.add (j * 7)) = some (.int .i64 t) ∧ W.cell? ⟨(x.add (j * 7)).block, (x.add (j * 7)).off + 1, none⟩ = some (.int .i64 s) ∧ W.cell? ⟨(x.add (j * 7)).block, (x.add (j * 7)).off + 2, none⟩ = some (.int .i64 q) ∧ W.cell? ⟨(x.add (j * 7)).block, (x.add (j * 7)).off + 3, none⟩ = some (.bool fi) ∧ W.cell? ⟨(x.add (j * 7)).block, (x.add (j * 7)).off + 4, none⟩ = some (.bool la) ∧ W.cell? ⟨(x.add (j * 7)).block, (x.add (j * 7)).off + 5, none⟩ = some (.bool lo) ∧ W.cell? ⟨(x.add (j * 7)).block, (x.add (j * 7)).off + 6, none⟩ = some (.string tx) ∧ Below w.heap.size w W) (by kernel_rfl) (by kernel_rfl) hS.out ?_
                clear hS
                repeat (first
                  | go_big_quiet_skip
                  | (refine BigFrame.wpQuiet_want (by rfl) (fun K hK => ?_)
                     apply Exists.intro
                     refine ⟨fun W hW => ?_, hK _ ?_⟩
                     next =>
                       try dsimp only at hW
                       obtain ⟨c0, c1, c2, c3, c4, c5, c6, c7, c8, cb⟩ := hW
                       go_simp
                       first
                         | exact rfl
                         | (refine (l12Data_any t s q fi la lo tx _).mono ?_; rw [D.out]; rintro e w1 ⟨rfl, hb1⟩; exact ⟨rfl, kept9 ⟨c0, c1, c2, c3, c4, c5, c6, c7, c8, cb⟩ hb1⟩)
                         | (refine (l22At_any _ lp cp ps t _ (HP.out.below cb)).mono ?_; rw [hi1.out]; rintro e w2 ⟨rfl, hb2⟩; exact ⟨rfl, kept9 ⟨c0, c1, c2, c3, c4, c5, c6, c7, c8, cb⟩ hb2⟩)
                     simp only [Act.put, List.setIfInBounds_toArray, List.set_cons_zero, List.set_cons_succ]
                     clear hK K))
                refine wpQuiet_nil ?_
                intro W hW
                obtain ⟨g0, g1, _, _, _, _, _, _, _, hbx⟩ := hW
                go_wp2
                go_roundw
                case rel => exact ⟨j + 1, by omega, by go_num, O, g0, g1, Lib.hid hbx⟩
                case measure => simp [intOf]; omega
            · have V := Lib.hid (asmV_no (next := next) (ps := ps) fun h => hst (by have := (h.ok _ HM.out).2; rwa [hl] at this))
              have hst2 : decide ((k : Int) ≤ s) = true := decide_eq_true (by omega)
              have hS := Lib.hid (kept9 ⟨hd0, hd1, p0, p1, p2, p3, p4, p5, p6, hbel2.out⟩ (Below.drew (Below.refl _ _)))
              clear hc0 hc1
              go_wp2_with fail
              clear hd0 hd1 p0 p1 p2 p3 p4 p5 p6
              refine region_class (C := fun W => W.cell? ⟨w.heap.size, 0, none⟩ = some (.slice an k cn) ∧ W.cell? ⟨w.heap.size, 1, none⟩ = some (.slice (some x) lp cp) ∧ W.cell? (x.add (j * 7)) = some (.int .i64 t) ∧ W.cell? ⟨(x.add (j * 7)).block, (x.add (j * 7)).off + 1, none⟩ = some (.int .i64 s) ∧ W.cell? ⟨(x.add (j * 7)).block, (x.add (j * 7)).off + 2, none⟩ = some (.int .i64 q) ∧ W.cell? ⟨(x.add (j * 7)).block, (x.add (j * 7)).off + 3, none⟩ = some (.bool fi) ∧ W.cell? ⟨(x.add (j * 7)).block, (x.add (j * 7)).off + 4, none⟩ = some (.bool la) ∧ W.cell? ⟨(x.add (j * 7)).block, (x.add (j * 7)).off + 5, none⟩ = some (.bool lo) ∧ W.cell? ⟨(x.add (j * 7)).block, (x.add (j * 7)).off + 6, none⟩ = some (.string tx) ∧ Below w.heap.size w W) (by kernel_rfl) (by kernel_rfl) hS.out ?_
              clear hS
              repeat (first
                | go_big_quiet_skip
                | (refine BigFrame.wpQuiet_want (by rfl) (fun K hK => ?_)
                   apply Exists.intro
                   refine ⟨fun W hW => ?_, hK _ ?_⟩
                   next =>
                     try dsimp only at hW
                     obtain ⟨c0, c1, c2, c3, c4, c5, c6, c7, c8, cb⟩ := hW
                     go_simp
                     first
                       | exact rfl
                       | (refine (l12Data_any t s q fi la lo tx _).mono ?_; rw [D.out]; rintro e w1 ⟨rfl, hb1⟩; exact ⟨rfl, kept9 ⟨c0, c1, c2, c3, c4, c5, c6, c7, c8, cb⟩ hb1⟩)
                   simp only [Act.put, List.setIfInBounds_toArray, List.set_cons_zero, List.set_cons_succ]
                   clear hK K))
              refine wpQuiet_nil ?_
              intro W hW
              obtain ⟨g0, g1, _, _, _, _, _, _, _, hbx⟩ := hW
              go_wp2
              go_ret
              exact ⟨ret_b V.out.symm, hbx⟩
          · have D := Lib.hid (dataOkV_no hd)
            have V := Lib.hid (asmV_no (next := next) (ps := ps) fun h => hd (h.ok _ HM.out).1)
            clear hd
            have hS := Lib.hid (kept9 ⟨hd0, hd1, p0, p1, p2, p3, p4, p5, p6, hbel2.out⟩ (Below.drew (Below.refl _ _)))
            clear hc0 hc1
            go_wp2_with fail
            clear hd0 hd1 p0 p1 p2 p3 p4 p5 p6
            refine region_class (C := fun W => W.cell? ⟨w.heap.size, 0, none⟩ = some (.slice an k cn) ∧ W.cell? ⟨w.heap.size, 1, none⟩ = some (.slice (some x) lp cp) ∧ W.cell? (x.add (j * 7)) = some (.int .i64 t) ∧ W.cell? ⟨(x.add (j * 7)).block, (x.add (j * 7)).off + 1, none⟩ = some (.int .i64 s) ∧ W.cell? ⟨(x.add (j * 7)).block, (x.add (j * 7)).off + 2, none⟩ = some (.int .i64 q) ∧ W.cell? ⟨(x.add (j * 7)).block, (x.add (j * 7)).off + 3, none⟩ = some (.bool fi) ∧ W.cell? ⟨(x.add (j * 7)).block, (x.add (j * 7)).off + 4, none⟩ = some (.bool la) ∧ W.cell? ⟨(x.add (j * 7)).block, (x.add (j * 7)).off + 5, none⟩ = some (.bool lo) ∧ W.cell? ⟨(x.add (j * 7)).block, (x.add (j * 7)).off + 6, none⟩ = some (.string tx) ∧ Below w.heap.size w W) (by kernel_rfl) (by kernel_rfl) hS.out ?_
            clear hS
            repeat (first
              | go_big_quiet_skip
              | (refine BigFrame.wpQuiet_want (by rfl) (fun K hK => ?_)
                 apply Exists.intro
                 refine ⟨fun W hW => ?_, hK _ ?_⟩
                 next =>
                   try dsimp only at hW
                   obtain ⟨c0, c1, c2, c3, c4, c5, c6, c7, c8, cb⟩ := hW
                   go_simp
                   first
                     | exact rfl
                     | (refine (l12Data_any t s q fi la lo tx _).mono ?_; rw [D.out]; rintro e w1 ⟨rfl, hb1⟩; exact ⟨rfl, kept9 ⟨c0, c1, c2, c3, c4, c5, c6, c7, c8, cb⟩ hb1⟩)
                 simp only [Act.put, List.setIfInBounds_toArray, List.set_cons_zero, List.set_cons_succ]
                 clear hK K))
            refine wpQuiet_nil ?_
            intro W hW
            obtain ⟨g0, g1, _, _, _, _, _, _, _, hbx⟩ := hW
            go_wp2
            go_ret
            exact ⟨ret_b V.out.symm, hbx⟩
        · obtain rfl : j = lp := by omega
          have hall := hpre.out
          clear hc0 hc1
          by_cases hn : 1 ≤ (k : Int) ∧ (k : Int) ≤ 4
          · have V := Lib.hid (show decide ((j : Int) ≤ 12) = asmV next ps by
              by_cases h6 : j ≤ 12
              · rw [decide_eq_true (by omega), asmV_yes (pre_all HN.out (by rw [hl, hlp]; exact hall) (by omega) (by omega) (by omega))]
              · rw [decide_eq_false (by omega), asmV_no fun h => h6 (by have := h.few; omega)])
            have i1 := fun w => l6In_any (k : Int) 1 4 w
            rw [decide_eq_true hn] at i1
            clear hall hn
            go_wp2_with fail
            refine (i1 _).mono ?_
            rintro e w1 ⟨rfl, rfl⟩
            go_wp2
            go_ret
            exact ⟨ret_b V.out, hbel2.out⟩
          · have V := Lib.hid (asmV_no (next := next) (ps := ps) fun h => hn (by have := h.n1; have := h.n4; omega))
            have i1 := fun w => l6In_any (k : Int) 1 4 w
            rw [decide_eq_false hn] at i1
            clear hall hn
            go_wp2_with fail
            refine (i1 _).mono ?_
            rintro e w1 ⟨rfl, rfl⟩
            go_wp2
            go_ret
            exact ⟨ret_b V.out.symm, hbel2.out⟩

set_option maxHeartbeats 400000 in
theorem l22Same_any (p q : Part) (w : World) :
    Calls Try.prog 95 #[partV p, partV q] w fun e w' => e = .returned (.bool (sameM p q)) ∧ Below w.heap.size w w' := by
  obtain ⟨t, s, n, fi, la, lo, tx⟩ := p
  obtain ⟨t2, s2, n2, fi2, la2, lo2, tx2⟩ := q
  unfold partV sameM
  by_cases h1 : s = s2
  · by_cases h2 : n = n2
    · go_enter Try.func95, Try.ntmps95
      go_wp2
      go_ret
      exact ⟨ret_b (by simp [h1, h2]), (below_box _ (Nat.le_refl _)).trans ((below_box _ (Nat.le_refl _)).mono (by simp))⟩
    · go_enter Try.func95, Try.ntmps95
      go_wp2
      go_ret
      exact ⟨ret_b (by simp [h1, h2]), (below_box _ (Nat.le_refl _)).trans ((below_box _ (Nat.le_refl _)).mono (by simp))⟩
  · go_enter Try.func95, Try.ntmps95
    go_wp2
    go_ret
    exact ⟨ret_b (by simp [h1]), (below_box _ (Nat.le_refl _)).trans ((below_box _ (Nat.le_refl _)).mono (by simp))⟩

end Go.Proofs.Ytncbgejggfkdmab
