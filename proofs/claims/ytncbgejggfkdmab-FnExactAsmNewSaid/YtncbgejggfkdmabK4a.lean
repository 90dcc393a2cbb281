/- The drawing functions once more: besides the reader they touch no block that was there. -/
import Derived.Test.YtncbgejggfkdmabK4
namespace Go.Proofs.Ytncbgejggfkdmab
open Go.RowKit

/-- Of the blocks below C none but block r has turned. -/
def Aside (C r : Nat) (w w' : World) : Prop := ∀ b, b < C → b ≠ r → w'.heap[b]? = w.heap[b]?
theorem Aside.refl (C r : Nat) (w : World) : Aside C r w w := fun _ _ _ => rfl
theorem Aside.trans {C r : Nat} {a b c : World} (h : Aside C r a b) (k : Aside C r b c) : Aside C r a c := fun i hi hr => (k i hi hr).trans (h i hi hr)
theorem Aside.less {C D r : Nat} {a b : World} (h : Aside C r a b) (hD : D ≤ C) : Aside D r a b := fun i hi hr => h i (by omega) hr
theorem Aside.cell {C r b i : Nat} {w w' : World} {v : Value} (h : Aside C r w w') (hb : b < C) (hr : b ≠ r) (hc : w.cell? ⟨b, i, none⟩ = some v) : w'.cell? ⟨b, i, none⟩ = some v :=
  (World.cell?_of_block (w := w) (h b hb hr)).trans hc
theorem Aside.frozen {C r b i : Nat} {w w' : World} (h : Aside C r w w') (hb : b < C) (hr : b ≠ r) (hf : w.frozen? ⟨b, i, none⟩ = false) : w'.frozen? ⟨b, i, none⟩ = false :=
  (World.frozen?_of_block (w := w) (h b hb hr)).trans hf
theorem below_aside {C D r : Nat} {w w' : World} (h : Below D w w') (hD : C ≤ D) : Aside C r w w' := fun b hb _ => h.block b (by omega)
theorem Only.aside {r C : Nat} {w w' : World} (h : Only r w w') : Aside C r w w' := by
  obtain ⟨u, q, rfl⟩ := h
  intro b _ hr
  rw [World.heap_drewN]
  exact Below.heap_setCell _ _ _ _ (by simpa using hr)
theorem aside_alloc {C r : Nat} (w : World) (o : Obj) (h : C ≤ w.heap.size) : Aside C r w (w.alloc o) := below_aside ((Below.refl C w).alloc h o) (Nat.le_refl _)

set_option maxHeartbeats 1000000 in
theorem l91Word_as (B r m : Nat) (w : World) (h : Rd B r m w) (hm : m ≤ 100000000) :
    Calls Try.prog 70 #[.pointer (some ⟨r, 0, none⟩)] w fun e w' => DrewInt B r (m + 3) (fun n => -1 ≤ n ∧ n ≤ 65536) w e w' ∧ Aside w.heap.size r w w' := by
  go_enter Try.func70, Try.ntmps70
  go_wp2_with fail
  refine (pick_any B r m 12 _ h (by omega) (by omega) (by omega)).mono ?_
  rintro e w1 ⟨k, rfl, k0, k1, hr1, ho1⟩
  have hb1 := ho1.below h.1
  have ha1 : Aside w.heap.size r w w1 := ho1.aside
  have HZ1 := Lib.hid ho1.size
  by_cases c0 : k = 0
  · subst c0
    go_wp2_with fail
    refine (pick_any B r (m + 1) 6 _ (hr1.alloc _) (by omega) (by omega) (by omega)).mono ?_
    rintro e w2 ⟨j, rfl, j0, j1, hr2, ho2⟩
    obtain ⟨z, z0, z1, hz⟩ : ∃ z : Int, -1 ≤ z ∧ z ≤ 65536 ∧ w2.cell? ⟨w1.heap.size, j.toNat, none⟩ = some (.int .i64 z) := by
      rcases (show j = 0 ∨ j = 1 ∨ j = 2 ∨ j = 3 ∨ j = 4 ∨ j = 5 by omega) with rfl | rfl | rfl | rfl | rfl | rfl
      all_goals
        refine ⟨_, ?_, ?_, tab_at ho2 hr1.2.1 _ _ rfl⟩
        all_goals decide
    have HA := Lib.hid (ha1.trans ((aside_alloc w1 _ (by rw [HZ1.out]; exact Nat.le_refl _)).trans ho2.aside))
    go_wp2
    go_ret
    exact ⟨⟨z, rfl, ⟨z0, z1⟩, hr2.mono (by omega), hb1.trans ((hr1.below_alloc _).trans (ho2.below h.1))⟩, HA.out⟩
  · by_cases c1 : k = 1 ∨ k = 2
    · rcases c1 with rfl | rfl
      all_goals
        go_wp2_with fail
        refine (pick_any B r (m + 1) 6 _ hr1 (by omega) (by omega) (by omega)).mono ?_
        rintro e w2 ⟨j, rfl, j0, j1, hr2, ho2⟩
        go_wp2
        go_ret
        exact ⟨⟨_, rfl, ⟨by omega, by omega⟩, hr2.mono (by omega), hb1.trans (ho2.below h.1)⟩, ha1.trans ho2.aside⟩
    · have c2 : ¬ k = 1 := by omega
      have c3 : ¬ k = 2 := by omega
      clear c1
      by_cases c4 : k = 3
      · subst c4
        go_wp2_with fail
        refine (pick_any B r (m + 1) 256 _ hr1 (by omega) (by omega) (by omega)).mono ?_
        rintro e w2 ⟨j, rfl, j0, j1, hr2, ho2⟩
        go_wp2_with fail
        refine (pick_any B r (m + 2) 256 _ hr2 (by omega) (by omega) (by omega)).mono ?_
        rintro e w3 ⟨i, rfl, i0, i1, hr3, ho3⟩
        go_wp2
        go_ret
        exact ⟨⟨_, rfl, ⟨by omega, by omega⟩, hr3.mono (by omega), hb1.trans ((ho2.below h.1).trans (ho3.below h.1))⟩, ha1.trans (ho2.aside.trans ho3.aside)⟩
      · go_wp2_with fail
        refine (pick_any B r (m + 1) 20 _ hr1 (by omega) (by omega) (by omega)).mono ?_
        rintro e w2 ⟨j, rfl, j0, j1, hr2, ho2⟩
        go_wp2
        go_ret
        exact ⟨⟨_, rfl, ⟨by omega, by omega⟩, hr2.mono (by omega), hb1.trans (ho2.below h.1)⟩, ha1.trans ho2.aside⟩

set_option maxHeartbeats 1000000 in
theorem l91Bytes_as (B r m n : Nat) (w : World) (h : Rd B r m w) (hm : m ≤ 1000000) (hn : n ≤ 1000) :
    Calls Try.prog 82 #[.pointer (some ⟨r, 0, none⟩), .int .i64 n] w fun e w' => DrewStr B r (m + 1 + 2 * n) n w e w' ∧ Aside w.heap.size r w w' := by
  obtain ⟨i0, hi, hz0, hz1, hz2⟩ := info_parts info_u8
  go_enter Try.func82, Try.ntmps82
  go_wp2_with fail
  refine (pick_any B r m (n + 1) _ (h.alloc _) (by omega) (by omega) (by omega)).mono ?_
  rintro e w1 ⟨kk, rfl, k0, k1, hr1, ho1⟩
  obtain ⟨K, rfl⟩ := Int.eq_ofNat_of_zero_le k0
  have hb1 : Below B w w1 := (h.below_alloc _).trans (ho1.below h.1)
  have ha1 : Aside w.heap.size r w w1 := (aside_alloc w _ (Nat.le_refl _)).trans ho1.aside
  have hown1 : w1.ownsRow w.heap.size 5 1 (.slice (some ⟨w.heap.size, 0, none⟩) 0 0) 0 (([] : List Int).map (Value.int .u8)) := own_only ho1 h.2.1 (World.ownsRow_lit w #[] 0 (Nat.le_refl _) (by simp) rfl)
  clear ho1
  go_wp2
  go_loopw [5, 7] (fun v i wr => ∃ (j : Nat) (l : List Int), j ≤ K ∧ i = .int .i64 j ∧ l.length = j ∧ wr.ownsRow w.heap.size 5 1 v j (l.map (Value.int .u8)) ∧ Rd B r (m + 1 + 2 * j) wr ∧ Below B w wr ∧ Aside w.heap.size r w wr ∧ w.heap.size ≤ wr.heap.size) (fun _ i _ => K - (intOf i).toNat)
  case atStart => exact ⟨0, [], Nat.zero_le _, rfl, rfl, hown1, hr1, hb1, ha1, hb1.size⟩
  case round =>
    obtain ⟨j, l, hj, rfl, hjl, hown, hrd, hbel, hasi, hsz⟩ := hrel
    have HL := Lib.hid hjl
    clear hjl hown1 hr1 hb1 ha1
    by_cases hlt : j < K
    · go_wp2_with fail
      refine (pick_any B r (m + 1 + 2 * j) 16 _ hrd (by omega) (by omega) (by omega)).mono ?_
      rintro e w2 ⟨x, rfl, x0, x1, hr2, ho2⟩
      have hown2 := own_only ho2 h.2.1 hown
      have hb2 := hbel.trans (ho2.below h.1)
      have ha2 := hasi.trans ho2.aside
      have HZ2 := Lib.hid (show w.heap.size ≤ w2.heap.size by rw [ho2.size]; exact hsz)
      clear hown hbel ho2 hrd hasi hsz
      go_wp2_with fail
      refine (pick_any B r (m + 1 + 2 * j + 1) 18 _ hr2 (by omega) (by omega) (by omega)).mono ?_
      rintro e w3 ⟨y, rfl, y0, y1, hr3, ho3⟩
      have hown3 := own_only ho3 h.2.1 hown2
      have hb3 := hb2.trans (ho3.below h.1)
      have ha3 := ha2.trans ho3.aside
      have hz3 : w.heap.size ≤ w3.heap.size := by rw [ho3.size]; exact HZ2.out
      clear hown2 hb2 ho3 hr2 ha2 HZ2
      have p0 := Int.mul_nonneg x0 y0
      have p1 : x * y ≤ 255 := by
        have := Int.mul_le_mul (show x ≤ 15 by omega) (show y ≤ 17 by omega) y0 (by omega)
        omega
      go_wp2_with (at_builtin; refine wpList_append_own _ rfl _ _ 22 rfl w.heap.size 5 i0 (.int .u8 0) 1 1 Try.underlying22 hi hz0 hz1 hz2 rfl (by decide) _ _ _ rfl (hown3.alloc _) ⟨w3.heap.size, 0, none⟩ 1 1 [.int .u8 (x * y)] rfl rfl ?c1 ?c2 ?c3 ?c4 ?c5 ?_)
      case c1 =>
        intro i u hi'
        match i, hi' with
        | 0, hi' => simp at hi'; subst hi'; simp [Addr.add]
      case c2 => intro u hu; simp at hu; subst hu; rfl
      case c3 => unfold maxLen; omega
      case c4 => omega
      case c5 => simp; omega
      · intro v' w4 hown4 hgrow _
        have hC : w.heap.size ≤ (w3.alloc (.cells #[.int .u8 (x * y)] 5)).heap.size := by simp; omega
        have hbb : Below w.heap.size (w3.alloc (.cells #[.int .u8 (x * y)] 5)) w4 := (Below.refl _ _).grown hgrow hC (fun k hk => own_ge hown3 hk)
        have hr4 := (hr3.alloc (.cells #[.int .u8 (x * y)] 5)).keep hbb h.2.1
        have hb4 : Below B w w4 := (hb3.trans (hr3.below_alloc _)).trans (hbb.mono (Nat.le_of_lt (Nat.lt_of_le_of_lt h.1 h.2.1)))
        have ha4 : Aside w.heap.size r w w4 := ha3.trans ((aside_alloc w3 _ hz3).trans (below_aside hbb (Nat.le_refl _)))
        have hz4 : w.heap.size ≤ w4.heap.size := Nat.le_trans hC hbb.size
        have HZ := Lib.hid hz4
        clear hgrow hown3 hbb hr3 hb3 ha3 hz3 hC hz4
        go_wp2
        go_roundw
        case rel => exact ⟨j + 1, l ++ [x * y], by omega, by go_num, by simp [HL.out], by simpa using hown4, hr4.mono (by omega), hb4, ha4, HZ.out⟩
        case measure => simp [intOf]; omega
    · obtain rfl : j = K := by omega
      have kc := conv_own hown
      go_wp2
      go_ret
      exact ⟨⟨_, rfl, by rw [strOfNums_size, HL.out]; omega, hrd.mono (by omega), hbel⟩, hasi⟩

end Go.Proofs.Ytncbgejggfkdmab
