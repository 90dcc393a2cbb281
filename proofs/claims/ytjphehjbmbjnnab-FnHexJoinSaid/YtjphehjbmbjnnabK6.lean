/- The contracts of the functions that read hexadecimal digits. -/
import Derived.Test.YtjphehjbmbjnnabK5
import Derived.Test.YtjphehjbmbjnnabG4
import Derived.Deep.LoopGhost
namespace Go.Proofs.Ytjphehjbmbjnnab
open Go.RowKit Go.PlainAid

set_option maxHeartbeats 1000000 in
theorem l1Digit_any (z : Int) (w : World) :
    Calls Try.prog 31 #[.int .u8 z] w fun e w' => e = .returned (.int .i64 (dig z)) ∧ w = w' := by
  go_enter Try.func31, Try.ntmps31
  go_wp2
  go_loop [3] (fun i => ∃ k : Nat, k ≤ 16 ∧ i = .int .i64 k ∧ ∀ j : Nat, j < k → hx j ≠ z) (fun i => 16 - (intOf i).toNat)
  case atStart => exact ⟨0, by omega, rfl, fun j hj => by omega⟩
  case round =>
    obtain ⟨k, hk, rfl, hne⟩ := hrel
    have HN := Lib.hid hne
    clear hne
    by_cases hlt : k < 16
    · have hI := index_hex (P := Try.prog) 9 Try.underlying9 .i64 (k : Int) (by omega) (by omega)
      by_cases he : hx k = z
      · have hd : dig z = k := by rw [← he]; exact dig_hx _ (by omega) (by omega)
        have HD := Lib.hid hd
        have ht : (hx (k : Int) == z) = true := by rw [he]; simp
        clear hd he
        go_wp2
        go_ret
        exact ⟨ret_i HD.out.symm, rfl⟩
      · have ht : (hx (k : Int) == z) = false := by simpa using he
        have HE := Lib.hid he
        clear he
        go_wp2
        go_round
        case rel =>
          exact ⟨k + 1, by omega, by go_num, fun j hj => by
            rcases (show j < k ∨ j = k by omega) with h2 | rfl
            · exact HN.out j h2
            · exact HE.out⟩
        case measure => simp [intOf]; omega
    · obtain rfl : k = 16 := by omega
      have HD := Lib.hid (dig_none z HN.out)
      go_wp2
      go_ret
      exact ⟨ret_i HD.out.symm, rfl⟩

/-- What reading digits leaves. -/
def HexGot (s : ByteArray) (w : World) (e : Ending) (w' : World) : Prop :=
  ((Good s ∧ e = .returned (.tuple #[.string (unhex s), .bool true])) ∨ (¬ Good s ∧ e = .returned (.tuple #[.string ⟨#[]⟩, .bool false]))) ∧ Below w.heap.size w w'
theorem hexGot_yes {s : ByteArray} {w w' : World} (h : Good s) (hb : Below w.heap.size w w') : HexGot s w (.returned (.tuple #[.string (unhex s), .bool true])) w' := ⟨.inl ⟨h, rfl⟩, hb⟩
theorem hexGot_no {s : ByteArray} {w w' : World} (h : ¬ Good s) (hb : Below w.heap.size w w') : HexGot s w (.returned (.tuple #[.string ⟨#[]⟩, .bool false])) w' := ⟨.inr ⟨h, rfl⟩, hb⟩

set_option maxHeartbeats 2000000 in
theorem sHexGet_any (s : ByteArray) (w : World) (hs : s.size ≤ 2000000) :
    Calls Try.prog 18 #[.string s] w (HexGot s w) := by
  by_cases ho : s.size % 2 = 0
  · by_cases h80 : s.size ≤ 80
    · have c1 : (((s.size : Int) % 2) != 0) = false := by simp; omega
      have c2 : (s.size : Int) ≤ 80 := by omega
      obtain ⟨i0, hi, hz0, hz1, hz2⟩ := info_parts info_u8
      have hown0 : (w.alloc (.cells #[] 5)).ownsRow w.heap.size 5 1 (.slice (some ⟨w.heap.size, 0, none⟩) 0 0) 0 ((outL s 0).map (Value.int .u8)) := World.ownsRow_lit w #[] 0 (Nat.le_refl _) (by simp) rfl
      have hb0 : Below w.heap.size w (w.alloc (.cells #[] 5)) := (Below.refl _ _).alloc (Nat.le_refl _) _
      have HO := Lib.hid ho
      clear ho
      go_enter Try.func18, Try.ntmps18
      go_wp2
      go_loopw [4, 5] (fun v i wr => ∃ j : Nat, 2 * j ≤ s.size ∧ i = .int .i64 (2 * j) ∧ AllDig s (2 * j) ∧ wr.ownsRow w.heap.size 5 1 v j ((outL s j).map (Value.int .u8)) ∧ Below w.heap.size w wr) (fun _ i _ => s.size - (intOf i).toNat)
      case atStart => exact ⟨0, Nat.zero_le _, rfl, fun i hi => by omega, hown0, hb0⟩
      case round =>
        obtain ⟨j, hj, rfl, had, hown, hbel⟩ := hrel
        clear hown0 hb0
        have hsz := hbel.size
        by_cases hlt : 2 * j < s.size
        · have hlt1 : 2 * j + 1 < s.size := by have := HO.out; omega
          have i0' : (0 : Int) ≤ 2 * (j : Int) := by omega
          have i1' : 2 * (j : Int) < s.size := by omega
          have i2' : 2 * (j : Int) + 1 < s.size := by omega
          have hbt := get_bt s
          have b0 := bt_nonneg s (2 * j)
          have b1 := bt_le s (2 * j)
          have b2 := bt_nonneg s (2 * j + 1)
          have b3 := bt_le s (2 * j + 1)
          have l0 := dig_lo (bt s (2 * j))
          have l1 := dig_hi (bt s (2 * j))
          have l2 := dig_lo (bt s (2 * j + 1))
          have l3 := dig_hi (bt s (2 * j + 1))
          go_wp2_with fail
          refine (l1Digit_any (bt s (2 * j)) _).mono ?_
          rintro e w1 ⟨rfl, rfl⟩
          go_wp2_with fail
          refine (l1Digit_any (bt s (2 * j + 1)) _).mono ?_
          rintro e w1 ⟨rfl, rfl⟩
          by_cases ha : dig (bt s (2 * j)) < 0
          · have hng := Lib.hid (show ¬ Good s from fun h => by have := h.2.2 (2 * j) hlt; omega)
            clear hown had
            go_wp2
            go_ret2
            exact hexGot_no hng.out hbel
          · by_cases hb : dig (bt s (2 * j + 1)) < 0
            · have hng := Lib.hid (show ¬ Good s from fun h => by have := h.2.2 (2 * j + 1) hlt1; omega)
              clear hown had
              go_wp2
              go_ret2
              exact hexGot_no hng.out hbel
            · have had1 := had.next (by omega) (by omega)
              go_wp2_with (at_builtin; refine wpList_append_own _ rfl _ _ 25 rfl w.heap.size 5 i0 (.int .u8 0) 1 1 Try.underlying25 hi hz0 hz1 hz2 rfl (by decide) _ _ _ rfl (hown.alloc _) ⟨wr.heap.size, 0, none⟩ 1 1 [.int .u8 (16 * dig (bt s (2 * j)) + dig (bt s (2 * j + 1)))] rfl rfl ?c1 ?c2 ?c3 ?c4 ?c5 ?_)
              case c1 =>
                intro i u hi'
                match i, hi' with
                | 0, hi' => simp at hi'; subst hi'; simp [Addr.add]
              case c2 => intro u hu; simp at hu; subst hu; rfl
              case c3 => unfold maxLen; omega
              case c4 => omega
              case c5 => simp; omega
              · intro v' w4 hown4 hgrow _
                have hb4 : Below w.heap.size w w4 := (hbel.alloc hsz _).grown hgrow (by simp; omega) (fun k hk => own_ge hown hk)
                clear hgrow hown hbel hbt had
                go_wp2
                go_roundw
                case rel => exact ⟨j + 1, by omega, by go_num, had1, by simpa [outL] using hown4, hb4⟩
                case measure => simp [intOf]; omega
        · have he : s.size = 2 * j := by omega
          have hg := Lib.hid (show Good s from ⟨HO.out, h80, by rw [he]; exact had⟩)
          have hu := Lib.hid (show unhex s = strOfNums (outL s j) by unfold unhex; rw [he, Nat.mul_div_cancel_left _ (by decide)])
          have kc := conv_own hown
          clear he
          go_wp2
          go_ret2
          rw [← hu.out]
          exact hexGot_yes hg.out hbel
    · have h2 : ¬ Good s := fun h => h80 h.2.1
      have c1 : (((s.size : Int) % 2) != 0) = false := by simp; omega
      have c2 : (80 : Int) < s.size := by omega
      have H2 := Lib.hid h2
      clear h2 ho
      go_enter Try.func18, Try.ntmps18
      go_wp2
      go_ret2
      exact hexGot_no H2.out (Below.refl _ _)
  · have h2 : ¬ Good s := fun h => ho h.1
    have c1 : (((s.size : Int) % 2) != 0) = true := by simp; omega
    have H2 := Lib.hid h2
    clear h2 ho
    go_enter Try.func18, Try.ntmps18
    go_wp2
    go_ret2
    exact hexGot_no H2.out (Below.refl _ _)

theorem idx_any (z : Int) (h0 : 0 ≤ z) (h1 : z ≤ 255) (w : World) :
    Calls Try.prog 33 #[.string { data := #[48, 49, 50, 51, 52, 53, 54, 55, 56, 57, 97, 98, 99, 100, 101, 102] }, .int .u8 z] w fun e w' => e = .returned (.int .i64 (dig z)) ∧ w' = w := by
  refine (Try.strings_IndexByte _ z w).mono ?_
  rintro e w' ⟨he, hw⟩
  refine ⟨?_, hw⟩
  rw [he]
  exact ret_i (index_dig z h0 h1)

set_option maxHeartbeats 1000000 in
theorem pair_short (c : Nat) (s : ByteArray) (p : Nat) (w : World) (hs : s.size ≤ maxLen)
    (hc0 : w.cell? ⟨c, 0, none⟩ = some (.string s)) (hc1 : w.cell? ⟨c, 1, none⟩ = some (.int .i64 p)) (h : s.size < p + 2) :
    Calls Try.prog 29 #[.pointer (some ⟨c, 0, none⟩)] w fun e w' => e = .returned (.tuple #[.int .u8 0, .bool false]) ∧ ∃ k, w' = w.drewN k := by
  go_enter Try.func29, Try.ntmps29
  go_wp2_with fail
  refine (has_no c s p 2 _ hs (by omega) (by omega) (by exact hc0) (by exact hc1) (by omega)).mono ?_
  rintro e w' ⟨rfl, k, rfl⟩
  go_wp2
  go_ret2
  exact ⟨rfl, _, rfl⟩

/-- Nothing but draws lies between the two worlds. -/
def Dr (w w' : World) : Prop := ∃ k, w' = w.drewN k
theorem Dr.cell {w w' : World} (h : Dr w w') {a : Addr} {v : Value} (hc : w.cell? a = some v) : w'.cell? a = some v := by
  obtain ⟨k, rfl⟩ := h
  exact hc
theorem Dr.frozen {w w' : World} (h : Dr w w') {a : Addr} {b : Bool} (hc : w.frozen? a = b) : w'.frozen? a = b := by
  obtain ⟨k, rfl⟩ := h
  exact hc
theorem Dr.trans {a b c : World} (h : Dr a b) (k : Dr b c) : Dr a c := by
  obtain ⟨m, rfl⟩ := h
  obtain ⟨n, rfl⟩ := k
  exact ⟨m + n, by simp [World.drewN, Nat.add_assoc]⟩
theorem Dr.below {w w' : World} (h : Dr w w') (B : Nat) : Below B w w' := by
  obtain ⟨k, rfl⟩ := h
  exact below_drewN (Below.refl _ _) _
theorem Only.of_dr {c : Nat} {w w1 w2 : World} {v : Value} (h : Dr w w1) (k : ∃ q, w2 = (w1.setCell ⟨c, 1, none⟩ v).drewN q) : Only c w w2 := by
  obtain ⟨m, rfl⟩ := h
  obtain ⟨q, rfl⟩ := k
  exact ⟨v, m + q, by simp [World.drewN, World.setCell, Nat.add_assoc]⟩

set_option maxHeartbeats 1000000 in
theorem pair_bad (c : Nat) (s : ByteArray) (p : Nat) (w : World) (hs : s.size ≤ maxLen)
    (hc0 : w.cell? ⟨c, 0, none⟩ = some (.string s)) (hc1 : w.cell? ⟨c, 1, none⟩ = some (.int .i64 p)) (h : p + 2 ≤ s.size) (hb : dig (bt s p) < 0 ∨ dig (bt s (p + 1)) < 0) :
    Calls Try.prog 29 #[.pointer (some ⟨c, 0, none⟩)] w fun e w' => e = .returned (.tuple #[.int .u8 0, .bool false]) ∧ Dr w w' := by
  have hs' := hs
  unfold maxLen at hs
  have i0 : (0 : Int) ≤ p := by omega
  have i1 : (p : Int) < s.size := by omega
  have i2 : (p : Int) + 1 < s.size := by omega
  have hbt := get_bt s
  have b0 := bt_nonneg s p
  have b1 := bt_le s p
  have b2 := bt_nonneg s (p + 1)
  have b3 := bt_le s (p + 1)
  go_enter Try.func29, Try.ntmps29
  go_wp2_with fail
  refine (has_yes c s p 2 _ hs' (by omega) (by omega) (by exact hc0) (by exact hc1) (by omega) (by omega)).mono ?_
  rintro e w1 ⟨rfl, hw1⟩
  have hd1 : Dr w w1 := hw1
  have c10 := hd1.cell hc0
  have c11 := hd1.cell hc1
  clear hw1 hc0 hc1
  go_wp2_with fail
  go_quiet ((go_at_call 33; exact Calls.quiet_of_same (idx_any _ b0 b1 _)))
  generalize hw2 : World.drewN w1 _ = w2
  have hd2 : Dr w1 w2 := ⟨_, hw2.symm⟩
  have c20 := hd2.cell c10
  have c21 := hd2.cell c11
  clear hw2 c10 c11
  go_wp2_with fail
  go_quiet ((go_at_call 33; exact Calls.quiet_of_same (idx_any _ b2 b3 _)))
  generalize hw3 : World.drewN w2 _ = w3
  have hd3 : Dr w2 w3 := ⟨_, hw3.symm⟩
  have hd := hd1.trans (hd2.trans hd3)
  clear hw3 c20 c21 hd1 hd2 hd3
  rcases hb with hb | hb
  · go_wp2
    go_ret2
    exact ⟨rfl, hd⟩
  · by_cases hb' : dig (bt s p) < 0
    all_goals
      go_wp2
      go_ret2
      exact ⟨rfl, hd⟩

set_option maxHeartbeats 1000000 in
theorem pair_good (c : Nat) (s : ByteArray) (p : Nat) (w : World) (hs : s.size ≤ maxLen)
    (hc0 : w.cell? ⟨c, 0, none⟩ = some (.string s)) (hc1 : w.cell? ⟨c, 1, none⟩ = some (.int .i64 p)) (hf1 : w.frozen? ⟨c, 1, none⟩ = false) (h : p + 2 ≤ s.size) (ha : 0 ≤ dig (bt s p)) (hb : 0 ≤ dig (bt s (p + 1))) :
    Calls Try.prog 29 #[.pointer (some ⟨c, 0, none⟩)] w fun e w' => e = .returned (.tuple #[.int .u8 (16 * dig (bt s p) + dig (bt s (p + 1))), .bool true]) ∧ Only c w w' ∧ w'.cell? ⟨c, 1, none⟩ = some (.int .i64 ((p : Int) + 2)) := by
  have hs' := hs
  unfold maxLen at hs
  have i0 : (0 : Int) ≤ p := by omega
  have i1 : (p : Int) < s.size := by omega
  have i2 : (p : Int) + 1 < s.size := by omega
  have hbt := get_bt s
  have b0 := bt_nonneg s p
  have b1 := bt_le s p
  have b2 := bt_nonneg s (p + 1)
  have b3 := bt_le s (p + 1)
  have a1 := dig_hi (bt s p)
  have a3 := dig_hi (bt s (p + 1))
  have o1 := or_nib _ _ ha (by omega) hb (by omega)
  go_enter Try.func29, Try.ntmps29
  go_wp2_with fail
  refine (has_yes c s p 2 _ hs' (by omega) (by omega) (by exact hc0) (by exact hc1) (by omega) (by omega)).mono ?_
  rintro e w1 ⟨rfl, hw1⟩
  have hd1 : Dr w w1 := hw1
  have c10 := hd1.cell hc0
  have c11 := hd1.cell hc1
  clear hw1 hc0 hc1
  go_wp2_with fail
  go_quiet ((go_at_call 33; exact Calls.quiet_of_same (idx_any _ b0 b1 _)))
  generalize hw2 : World.drewN w1 _ = w2
  have hd2 : Dr w1 w2 := ⟨_, hw2.symm⟩
  have c20 := hd2.cell c10
  have c21 := hd2.cell c11
  clear hw2 c10 c11
  go_wp2_with fail
  go_quiet ((go_at_call 33; exact Calls.quiet_of_same (idx_any _ b2 b3 _)))
  generalize hw3 : World.drewN w2 _ = w3
  have hd3 : Dr w2 w3 := ⟨_, hw3.symm⟩
  have hd := hd1.trans (hd2.trans hd3)
  have c31 := hd3.cell c21
  have f31 := hd.frozen hf1
  clear hw3 c20 c21 hd1 hd2 hd3
  go_wp2
  go_ret2
  exact ⟨rfl, Only.of_dr hd ⟨0, rfl⟩, World.cell?_setCell_same _ _ _ c31⟩

theorem isBuilder_only {T e B b c : Nat} {bs : List Value} {w w' : World} (h : Lib.IsBuilder T e B b bs w) (ho : Only c w w') (hc : c < B) : Lib.IsBuilder T e B b bs w' := by
  have key : ∀ p, Lib.BuilderAt T e B b p bs w → Lib.BuilderAt T e B b p bs w' := by
    rintro p ⟨hB, v, hbk, hown, hne⟩
    refine ⟨hB, v, ?_, own_only ho hc hown, hne⟩
    obtain ⟨u, q, rfl⟩ := ho
    show (w.setCell ⟨c, 1, none⟩ u).heap[b]? = _
    rw [Below.heap_setCell w ⟨c, 1, none⟩ u b (by simp; omega)]
    exact hbk
  rcases h with h | h
  · exact .inl (key _ h)
  · exact .inr (key _ h)
theorem isBuilder_dr {T e B b : Nat} {bs : List Value} {w w' : World} (h : Lib.IsBuilder T e B b bs w) (hd : Dr w w') : Lib.IsBuilder T e B b bs w' := by
  obtain ⟨k, rfl⟩ := hd
  exact h

set_option maxHeartbeats 2000000 in
theorem hexGet_any (s : ByteArray) (w : World) (hs : s.size ≤ 2000000) :
    Calls Try.prog 16 #[.string s] w (HexGot s w) := by
  by_cases h80 : s.size ≤ 80
  · have c2 : (s.size : Int) ≤ 80 := by omega
    have hsm : s.size ≤ maxLen := Nat.le_trans hs (by decide)
    have HS := Lib.hid hsm
    clear hsm
    have hbu0 : Lib.IsBuilder 44 5 (w.heap.size + 1) (w.heap.size + 1) ((outL s 0).map (Value.int .u8)) ((w.alloc (.cells #[.string s, .int .i64 0] 35)).alloc (.cells #[.pointer none, .slice none 0 0] 44)) := by
      have h := Lib.fresh_isBuilder 44 5 (w.alloc (.cells #[.string s, .int .i64 0] 35))
      rw [show (w.alloc (.cells #[.string s, .int .i64 0] 35)).heap.size = w.heap.size + 1 by simp] at h
      exact h
    have hb0 : Below w.heap.size w ((w.alloc (.cells #[.string s, .int .i64 0] 35)).alloc (.cells #[.pointer none, .slice none 0 0] 44)) :=
      ((Below.refl _ _).alloc (Nat.le_refl _) _).alloc (by simp) _
    go_enter Try.func16, Try.ntmps16
    go_wp2
    go_loopg [6, 7] s.size (fun g _ _ wr => ∃ p j : Nat, Hid (p = 2 * j) ∧ p ≤ s.size ∧ Hid (g = s.size - p) ∧ AllDig s p ∧ wr.cell? ⟨w.heap.size, 0, none⟩ = some (.string s) ∧ wr.cell? ⟨w.heap.size, 1, none⟩ = some (.int .i64 p) ∧ wr.frozen? ⟨w.heap.size, 1, none⟩ = false ∧
      Lib.IsBuilder 44 5 (w.heap.size + 1) (w.heap.size + 1) ((outL s j).map (Value.int .u8)) wr ∧ Below w.heap.size w wr ∧ w.heap.size + 2 ≤ wr.heap.size)
    case atStart => exact ⟨0, 0, rfl, Nat.zero_le _, rfl, fun i hi => by omega, by simp, by simp, by simp, hbu0, hb0, by simp⟩
    case round =>
      obtain ⟨p, j, HP, hp, HG, had, c0, c1, f1, hbu, hbel, hsz⟩ := hrel
      clear hbu0 hb0
      by_cases hlt : p < s.size
      · go_wp2_with fail
        refine (has_yes w.heap.size s p 1 _ HS.out (by omega) (by omega) (by exact c0) (by exact c1) (by omega) (by omega)).mono ?_
        rintro e w1 ⟨rfl, hw1⟩
        have hd1 : Dr wr w1 := hw1
        have c10 := hd1.cell c0
        have c11 := hd1.cell c1
        have f11 := hd1.frozen f1
        have hbu1 := isBuilder_dr hbu hd1
        have hbel1 := hbel.trans (hd1.below _)
        have hsz1 : w.heap.size + 2 ≤ w1.heap.size := Nat.le_trans hsz (hd1.below 0).size
        clear hw1 c0 c1 f1 hbu hbel hd1 hsz
        go_wp2_with fail
        by_cases hsh : s.size < p + 2
        · have hng := Lib.hid (show ¬ Good s from fun h => by have := h.1; have := HP.out; omega)
          refine (pair_short w.heap.size s p _ HS.out (by exact c10) (by exact c11) hsh).mono ?_
          rintro e w2 ⟨rfl, hw2⟩
          have hd2 : Dr w1 w2 := hw2
          clear hw2
          go_wp2
          go_ret2
          exact hexGot_no hng.out (hbel1.trans (hd2.below _))
        · by_cases hbad : dig (bt s p) < 0 ∨ dig (bt s (p + 1)) < 0
          · have hng := Lib.hid (show ¬ Good s from fun h => by
              have g1 := h.2.2 p (by omega)
              have g2 := h.2.2 (p + 1) (by omega)
              omega)
            refine (pair_bad w.heap.size s p _ HS.out (by exact c10) (by exact c11) (by omega) hbad).mono ?_
            rintro e w2 ⟨rfl, hd2⟩
            clear hbad
            go_wp2
            go_ret2
            exact hexGot_no hng.out (hbel1.trans (hd2.below _))
          · have ha : 0 ≤ dig (bt s p) := by omega
            have hb : 0 ≤ dig (bt s (p + 1)) := by omega
            clear hbad
            refine (pair_good w.heap.size s p _ HS.out (by exact c10) (by exact c11) (by exact f11) (by omega) ha hb).mono ?_
            rintro e w2 ⟨rfl, ho2, c21⟩
            have c20 : w2.cell? ⟨w.heap.size, 0, none⟩ = some (.string s) := by
              obtain ⟨v, q, rfl⟩ := ho2
              exact cell_other (by decide) c10
            have f21 : w2.frozen? ⟨w.heap.size, 1, none⟩ = false := by
              obtain ⟨v, q, rfl⟩ := ho2
              rw [World.frozen?_drewN, World.frozen?_setCell]
              exact f11
            have hbu2 := isBuilder_only hbu1 ho2 (by omega)
            have hbel2 := hbel1.trans (ho2.below (Nat.le_refl _))
            have hsz2 : w.heap.size + 2 ≤ w2.heap.size := by rw [ho2.size]; exact hsz1
            clear c10 c11 f11 hbu1 hbel1 ho2 hsz1
            have hln : ((outL s j).map (Value.int .u8)).length = j := by rw [List.length_map, outL_length]
            have HN := Lib.hid hln
            clear hln
            go_wp2_with fail
            refine (writeByte_any (w.heap.size + 1) (w.heap.size + 1) _ (16 * dig (bt s p) + dig (bt s (p + 1))) _ hbu2 (by rw [HN.out]; have := HP.out; omega) (by omega)).mono ?_
            rintro e w3 ⟨rfl, hbu3, hb3⟩
            have c30 : w3.cell? ⟨w.heap.size, 0, none⟩ = some (.string s) := (hb3.cell (p := ⟨w.heap.size, 0, none⟩) (Nat.lt_succ_self _)).trans c20
            have c31 : w3.cell? ⟨w.heap.size, 1, none⟩ = some (.int .i64 ((p : Int) + 2)) := (hb3.cell (p := ⟨w.heap.size, 1, none⟩) (Nat.lt_succ_self _)).trans c21
            have f31 : w3.frozen? ⟨w.heap.size, 1, none⟩ = false := (hb3.frozen (p := ⟨w.heap.size, 1, none⟩) (Nat.lt_succ_self _)).trans f21
            have hbel3 := hbel2.trans (hb3.mono (Nat.le_succ _))
            have hsz3 := Nat.le_trans hsz2 hb3.size
            have HA : Hid (AllDig s (p + 2)) := by
              have h1 := HP.out
              subst h1
              exact had.next ha hb
            have hbu4 : Lib.IsBuilder 44 5 (w.heap.size + 1) (w.heap.size + 1) ((outL s (j + 1)).map (Value.int .u8)) w3 := by
              have hm : (outL s (j + 1)).map (Value.int .u8) = (outL s j).map (Value.int .u8) ++ [.int .u8 (16 * dig (bt s p) + dig (bt s (p + 1)))] := by
                have h1 := HP.out
                subst h1
                simp [outL]
              rw [hm]
              exact hbu3
            clear c20 c21 f21 hbu2 hbel2 hb3 hsz2 hbu3 had
            go_wp2
            go_roundg (s.size - (p + 2))
            case measure => have := HG.out; omega
            case rel => exact ⟨p + 2, j + 1, by show p + 2 = 2 * (j + 1); have := HP.out; omega, by omega, rfl, HA.out, c30, by rw [c31]; simp, f31, hbu4, hbel3, hsz3⟩
      · have he : p = s.size := by omega
        have hg := Lib.hid (show Good s from ⟨by have := HP.out; omega, h80, by rw [← he]; exact had⟩)
        have hun := Lib.hid (show unhex s = strOfNums (outL s j) by
          unfold unhex
          rw [← he, show p / 2 = j by have := HP.out; omega])
        have had2 : AllDig s (2 * j) := by
          have h1 := HP.out
          rw [← h1]
          exact had
        go_wp2_with fail
        refine (has_no w.heap.size s p 1 _ HS.out (by omega) (by omega) (by exact c0) (by exact c1) (by omega)).mono ?_
        rintro e w1 ⟨rfl, hw1⟩
        have hd1 : Dr wr w1 := hw1
        have hbu1 := isBuilder_dr hbu hd1
        have hbel1 := hbel.trans (hd1.below _)
        have hsz1 : w.heap.size + 2 ≤ w1.heap.size := Nat.le_trans hsz (hd1.below 0).size
        rw [nums_cells _ (outL_range s j had2)] at hbu1
        clear hw1 c0 c1 f1 hbu hbel hd1 hsz had had2 he
        go_wp2_with fail
        refine (Try.Builder_String_any (w.heap.size + 1) (w.heap.size + 1) _ _ hbu1 (by omega)).mono ?_
        rintro e w2 ⟨rfl, hb2⟩
        go_wp2
        go_ret2
        have hfin := hexGot_yes hg.out (hbel1.trans (hb2.mono (Nat.le_succ _)))
        rw [hun.out] at hfin
        exact hfin
  · have h2 : ¬ Good s := fun h => h80 h.2.1
    have c2 : (80 : Int) < s.size := by omega
    have H2 := Lib.hid h2
    clear h2
    go_enter Try.func16, Try.ntmps16
    go_wp2
    go_ret2
    exact hexGot_no H2.out (Below.refl _ _)

end Go.Proofs.Ytjphehjbmbjnnab
