/- The contracts of the drawing functions for hexadecimal texts. -/
import Derived.Test.YtjphehjbmbjnnabK5
namespace Go.Proofs.Ytjphehjbmbjnnab
open Go.RowKit Go.PlainAid

def strSize : Value → Nat
  | .string x => x.size
  | _ => 0
/-- A text of the given size, the world as it was. -/
def ManyStr (T : Nat) (w : World) (e : Ending) (w' : World) : Prop := ∃ t : ByteArray, e = .returned (.string t) ∧ t.size = T ∧ w = w'
theorem half_odd (a o k : Nat) (h : k % 2 = 1) : o + a + (a + a) * (k / 2) = o + a * k := by
  have e : k = 2 * (k / 2) + 1 := by omega
  have : a * k = 2 * (a * (k / 2)) + a := by
    conv => lhs; rw [e]
    rw [Nat.mul_add, Nat.mul_one, Nat.mul_left_comm]
  rw [this, Nat.add_mul]
  omega
theorem half_even (a o k : Nat) (h : k % 2 = 0) : o + (a + a) * (k / 2) = o + a * k := by
  have e : k = 2 * (k / 2) := by omega
  have : a * k = 2 * (a * (k / 2)) := by
    conv => lhs; rw [e]
    rw [Nat.mul_left_comm]
  rw [this, Nat.add_mul]
  omega
theorem le_mul_pos (a k : Nat) (h : 0 < k) : a ≤ a * k := Nat.le_mul_of_pos_right a h

set_option maxHeartbeats 1000000 in
theorem l6Many_any (s : ByteArray) (n : Nat) (w : World) (hs : s.size ≤ 100) (hn : n ≤ 1000) :
    Calls Try.prog 23 #[.string s, .int .i64 n] w (ManyStr (s.size * n) w) := by
  have hT : s.size * n ≤ 100000 := Nat.mul_le_mul hs hn
  obtain ⟨T, hTe⟩ : ∃ T, T = s.size * n := ⟨_, rfl⟩
  rw [← hTe] at hT ⊢
  have HT := Lib.hid hTe
  clear hTe
  go_enter Try.func23, Try.ntmps23
  go_wp2
  go_loop [0, 1, 5] (fun a k o => ∃ (A O : ByteArray) (K : Nat), a = .string A ∧ k = .int .i64 K ∧ o = .string O ∧ K ≤ n ∧ A.size ≤ 2 * T + 100 ∧ Hid (O.size + A.size * K = T)) (fun _ k _ => (intOf k).toNat)
  case atStart => exact ⟨s, ⟨#[]⟩, n, rfl, rfl, rfl, Nat.le_refl _, by omega, by show 0 + s.size * n = T; rw [HT.out]; omega⟩
  case round =>
    obtain ⟨A, O, K, rfl, rfl, rfl, hK, hA, HH⟩ := hrel
    by_cases h0 : 0 < K
    · have hm := le_mul_pos A.size K h0
      have hA2 : A.size ≤ T ∧ O.size ≤ T := by have := HH.out; omega
      obtain ⟨hA3, hO3⟩ := hA2
      clear hm
      by_cases ho : K % 2 = 1
      · have ho1 : ((K : Int) % 2 == 1) = true := by simp; omega
        have HO := Lib.hid ho
        clear ho
        go_wp2
        go_round
        case rel => exact ⟨_, _, K / 2, rfl, by go_num, rfl, by omega, by rw [ByteArray.size_append]; omega, by show _ + _ = T; rw [ByteArray.size_append, ByteArray.size_append, half_odd _ _ _ HO.out]; exact HH.out⟩
        case measure => simp [intOf]; omega
      · have ho1 : ((K : Int) % 2 == 1) = false := by simp; omega
        have HO := Lib.hid (show K % 2 = 0 by omega)
        clear ho
        go_wp2
        go_round
        case rel => exact ⟨_, _, K / 2, rfl, by go_num, rfl, by omega, by rw [ByteArray.size_append]; omega, by show _ + _ = T; rw [ByteArray.size_append, half_even _ _ _ HO.out]; exact HH.out⟩
        case measure => simp [intOf]; omega
    · have hk0 : ¬ (0 : Int) < K := by omega
      go_wp2
      go_ret
      exact ⟨O, rfl, by have := HH.out; rw [show K = 0 by omega, Nat.mul_zero] at this; omega, rfl⟩

set_option maxHeartbeats 1000000 in
theorem of_any (B r m g n cap : Nat) (w : World) (h : Rd B r m w) (hm : m ≤ 1000000) (hn : 1 ≤ n) (hn2 : n ≤ 1000) (hg : g ≠ r)
    (hc : ∀ j, j < n → ∃ t : ByteArray, t.size ≤ 100 ∧ w.cell? ⟨g, j, none⟩ = some (.string t)) :
    Calls Try.prog 30 #[.pointer (some ⟨r, 0, none⟩), .slice (some ⟨g, 0, none⟩) n cap] w (DrewStr B r (m + 1) 100 w) := by
  have HC := Lib.hid hc
  clear hc
  go_enter Try.func30, Try.ntmps30
  go_wp2_with fail
  refine (pick_any B r m n _ h (by omega) (by omega) (by omega)).mono ?_
  rintro e w1 ⟨k, rfl, k0, k1, hr1, ho1⟩
  obtain ⟨t, ht, hct⟩ := HC.out k.toNat (by omega)
  have hct1 : w1.cell? ⟨g, k.toNat, none⟩ = some (.string t) := by
    obtain ⟨v, q, rfl⟩ := ho1
    rw [World.cell?_drewN]
    exact cell_far (fun e => hg e.symm) hct
  clear hct
  go_wp2
  go_ret
  exact ⟨t, rfl, ht, hr1, ho1.below h.1⟩

/-- A text was drawn out of the given bytes. -/
def DrewS (n : Nat) (w : World) (e : Ending) (w' : World) : Prop := ∃ s : ByteArray, e = .returned (.string s) ∧ s.size ≤ n ∧ Below w.heap.size w w'

set_option maxHeartbeats 1000000 in
theorem drawHexPut_any (a : Option Addr) (len cap : Nat) (zs : List Int) (w : World) (h : IsRow .u8 w a len cap zs) :
    Calls Try.prog 13 #[.slice a len cap] w (DrewS 100 w) := by
  have H := Lib.hid h
  clear h
  go_enter Try.func13, Try.ntmps13
  go_wp2_with fail
  refine (l6Open_any a len cap zs _ H.out).mono ?_
  rintro e w1 ⟨r, rfl, hr1, hb1⟩
  go_wp2_with fail
  refine (pick_any _ r 0 12 _ hr1 (by omega) (by omega) (by omega)).mono ?_
  rintro e w2 ⟨k, rfl, k0, k1, hr2, ho2⟩
  have hb2 := hb1.trans (ho2.below hr1.1)
  by_cases c0 : k = 0
  · subst c0
    go_wp2_with fail
    refine (pick_any _ r _ 5 _ hr2 (by omega) (by omega) (by omega)).mono ?_
    rintro e w3 ⟨j, rfl, j0, j1, hr3, ho3⟩
    obtain ⟨J, rfl⟩ := Int.eq_ofNat_of_zero_le j0
    have hb3 := hb2.trans (ho3.below hr1.1)
    go_wp2_with fail
    rw [show (38 : Int) + (J : Int) = ((38 + J : Nat) : Int) by omega]
    refine (l6Many_any _ (38 + J) _ (by decide) (by omega)).mono ?_
    rintro e w4 ⟨t, rfl, ht, rfl⟩
    have ht1 : t.size ≤ 100 := by
      rw [ht, show (ByteArray.mk #[120]).size = 1 from rfl]
      omega
    clear ht
    go_wp2
    go_ret
    exact ⟨t, rfl, ht1, hb3⟩
  · go_wp2_with fail
    refine (l91Bytes_any _ r _ 20 _ hr2 (by omega) (by omega)).mono ?_
    rintro e w3 ⟨t, rfl, ht, hr3, hb3⟩
    go_wp2
    go_ret
    exact ⟨t, rfl, by omega, hb2.trans hb3⟩

set_option maxHeartbeats 1000000 in
theorem drawHexGet_any (a : Option Addr) (len cap : Nat) (zs : List Int) (w : World) (h : IsRow .u8 w a len cap zs) :
    Calls Try.prog 17 #[.slice a len cap] w (DrewS 200 w) := by
  have H := Lib.hid h
  clear h
  go_enter Try.func17, Try.ntmps17
  go_wp2_with fail
  refine (l6Open_any a len cap zs _ H.out).mono ?_
  rintro e w1 ⟨r, rfl, hr1, hb1⟩
  go_wp2_with fail
  refine (l91Bytes_any _ r 0 20 _ hr1 (by omega) (by omega)).mono ?_
  rintro e w2 ⟨b, rfl, hb, hr2, hb2⟩
  have hb2' := hb1.trans hb2
  go_wp2_with fail
  refine (l1Hex_any b _ (by omega)).mono ?_
  rintro e w3 ⟨rfl, hb3⟩
  have hr3 := hr2.keep hb3 hr2.2.1
  have hb3' := hb2'.trans (hb3.mono (Nat.le_of_lt (Nat.lt_of_le_of_lt hr2.1 hr2.2.1)))
  have hsz := hexS_size b
  generalize hexS b = S at *
  have hS : S.size ≤ 40 := by omega
  clear hsz hb3 hb2 hr2
  go_wp2_with fail
  refine (pick_any _ r _ 8 _ hr3 (by omega) (by omega) (by omega)).mono ?_
  rintro e w4 ⟨k, rfl, k0, k1, hr4, ho4⟩
  have hb4 := hb3'.trans (ho4.below hr1.1)
  by_cases c0 : k = 0
  · subst c0
    go_wp2_with fail
    refine (of_any _ r _ w4.heap.size 5 5 _ (hr4.alloc _) (by omega) (by omega) (by omega) (fun e => by have := hr4.2.1; omega) ?_).mono ?_
    · intro j hj
      match j, hj with
      | 0, _ => exact ⟨⟨#[97]⟩, by decide, by simp⟩
      | 1, _ => exact ⟨⟨#[103, 48]⟩, by decide, by simp⟩
      | 2, _ => exact ⟨⟨#[65, 48]⟩, by decide, by simp⟩
      | 3, _ => exact ⟨⟨#[32]⟩, by decide, by simp⟩
      | 4, _ => exact ⟨⟨#[122, 122]⟩, by decide, by simp⟩
    rintro e w5 ⟨t, rfl, ht, hr5, hb5⟩
    go_wp2
    go_ret
    exact ⟨_, rfl, by rw [ByteArray.size_append]; omega, hb4.trans ((hr4.below_alloc _).trans hb5)⟩
  · by_cases c1 : k = 1
    · subst c1
      go_wp2_with fail
      refine (pick_any _ r _ 6 _ hr4 (by omega) (by omega) (by omega)).mono ?_
      rintro e w5 ⟨j, rfl, j0, j1, hr5, ho5⟩
      obtain ⟨J, rfl⟩ := Int.eq_ofNat_of_zero_le j0
      have hb5 := hb4.trans (ho5.below hr1.1)
      go_wp2_with fail
      rw [show (78 : Int) + (J : Int) = ((78 + J : Nat) : Int) by omega]
      refine (l6Many_any _ (78 + J) _ (by decide) (by omega)).mono ?_
      rintro e w6 ⟨t, rfl, ht, rfl⟩
      have ht1 : t.size ≤ 200 := by
        rw [ht, show (ByteArray.mk #[48]).size = 1 from rfl]
        omega
      clear ht
      go_wp2
      go_ret
      exact ⟨t, rfl, ht1, hb5⟩
    · go_wp2
      go_ret
      exact ⟨S, rfl, by omega, hb4⟩

end Go.Proofs.Ytjphehjbmbjnnab
