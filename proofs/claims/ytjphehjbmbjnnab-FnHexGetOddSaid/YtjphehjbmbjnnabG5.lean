/- Plain lemmas: digits give the bytes back, bytes give the digits back, digits of two texts stand one after the other. -/
import Derived.Test.YtjphehjbmbjnnabG4
namespace Go.Proofs.Ytjphehjbmbjnnab
open Go.RowKit Go.PlainAid

theorem ext_bt {s t : ByteArray} (hz : s.size = t.size) (h : ∀ i, i < s.size → bt s i = bt t i) : s = t := by
  apply ByteArray.ext
  apply Array.ext
  · simpa using hz
  · intro i h1 h2
    have h3 : i < s.size := by simpa using h1
    have h4 : i < t.size := by simpa using h2
    have := h i h3
    rw [← get_bt s i h3, ← get_bt t i h4] at this
    have h5 : (s[i]).toNat = (t[i]).toNat := by omega
    exact UInt8.toNat_inj.1 h5
theorem hexL_get (s : ByteArray) : ∀ j i, i < j → (hexL s j)[2 * i]? = some (hx (bt s i / 16)) ∧ (hexL s j)[2 * i + 1]? = some (hx (bt s i % 16))
  | 0, i, h => by omega
  | j + 1, i, h => by
    have hl := hexL_length s j
    rcases Nat.lt_or_ge i j with h1 | h1
    · have ih := hexL_get s j i h1
      simp only [hexL]
      rw [List.getElem?_append_left (by omega), List.getElem?_append_left (by omega)]
      exact ih
    · obtain rfl : i = j := by omega
      simp only [hexL]
      rw [List.getElem?_append_right (by omega), List.getElem?_append_right (by omega), hl, show 2 * i - 2 * i = 0 by omega, show 2 * i + 1 - 2 * i = 1 by omega]
      exact ⟨rfl, rfl⟩
theorem outL_get (s : ByteArray) : ∀ j i, i < j → (outL s j)[i]? = some (16 * dig (bt s (2 * i)) + dig (bt s (2 * i + 1)))
  | 0, i, h => by omega
  | j + 1, i, h => by
    have hl := outL_length s j
    rcases Nat.lt_or_ge i j with h1 | h1
    · have ih := outL_get s j i h1
      simp only [outL]
      rw [List.getElem?_append_left (by omega)]
      exact ih
    · obtain rfl : i = j := by omega
      simp only [outL]
      rw [List.getElem?_append_right (by omega), hl, Nat.sub_self]
      rfl
theorem bt_hexS (s : ByteArray) (i : Nat) (h : i < s.size) : bt (hexS s) (2 * i) = hx (bt s i / 16) ∧ bt (hexS s) (2 * i + 1) = hx (bt s i % 16) := by
  have b0 := bt_nonneg s i
  have b1 := bt_le s i
  have g := hexL_get s s.size i h
  have r1 := hx_range (bt s i / 16) (by omega) (by omega)
  have r2 := hx_range (bt s i % 16) (by omega) (by omega)
  exact ⟨bt_nums _ _ _ g.1 (by omega) (by omega), bt_nums _ _ _ g.2 (by omega) (by omega)⟩
theorem good_hexS (s : ByteArray) (h : s.size ≤ 40) : Good (hexS s) := by
  have hz := hexS_size s
  refine ⟨by omega, by omega, fun n hn => ?_⟩
  have hi : n / 2 < s.size := by omega
  have b0 := bt_nonneg s (n / 2)
  have b1 := bt_le s (n / 2)
  have g := bt_hexS s (n / 2) hi
  rcases (show n = 2 * (n / 2) ∨ n = 2 * (n / 2) + 1 by omega) with e | e
  · rw [e, g.1, dig_hx _ (by omega) (by omega)]
    omega
  · rw [e, g.2, dig_hx _ (by omega) (by omega)]
    omega
theorem unhex_size (s : ByteArray) : (unhex s).size = s.size / 2 := by
  unfold unhex
  rw [strOfNums_size, outL_length]
theorem unhex_hexS (s : ByteArray) : unhex (hexS s) = s := by
  have hz := hexS_size s
  have hu := unhex_size (hexS s)
  refine ext_bt (by omega) (fun i hi => ?_)
  have hi' : i < s.size := by omega
  have b0 := bt_nonneg s i
  have b1 := bt_le s i
  have g := bt_hexS s i hi'
  unfold unhex
  refine bt_nums _ _ _ ?_ b0 b1
  rw [outL_get _ _ i (by omega), g.1, g.2, dig_hx _ (by omega) (by omega), dig_hx _ (by omega) (by omega)]
  congr 1
  omega
theorem bt_unhex (t : ByteArray) (h : Good t) (i : Nat) (hi : i < t.size / 2) : bt (unhex t) i = 16 * dig (bt t (2 * i)) + dig (bt t (2 * i + 1)) := by
  have a0 := h.2.2 (2 * i) (by omega)
  have a1 := h.2.2 (2 * i + 1) (by omega)
  have a2 := dig_hi (bt t (2 * i))
  have a3 := dig_hi (bt t (2 * i + 1))
  unfold unhex
  exact bt_nums _ _ _ (outL_get t _ i hi) (by omega) (by omega)
theorem hexS_unhex (t : ByteArray) (h : Good t) : hexS (unhex t) = t := by
  have hz := hexS_size (unhex t)
  have hu := unhex_size t
  have he := h.1
  refine ext_bt (by omega) (fun n hn => ?_)
  have hi : n / 2 < (unhex t).size := by omega
  have g := bt_hexS (unhex t) (n / 2) hi
  have b := bt_unhex t h (n / 2) (by omega)
  have a0 := h.2.2 (2 * (n / 2)) (by omega)
  have a1 := h.2.2 (2 * (n / 2) + 1) (by omega)
  have a2 := dig_hi (bt t (2 * (n / 2)))
  have a3 := dig_hi (bt t (2 * (n / 2) + 1))
  rcases (show n = 2 * (n / 2) ∨ n = 2 * (n / 2) + 1 by omega) with e | e
  · rw [e, g.1, b, show (16 * dig (bt t (2 * (n / 2))) + dig (bt t (2 * (n / 2) + 1))) / 16 = dig (bt t (2 * (n / 2))) by omega, hx_dig _ a0]
  · rw [e, g.2, b, show (16 * dig (bt t (2 * (n / 2))) + dig (bt t (2 * (n / 2) + 1))) % 16 = dig (bt t (2 * (n / 2) + 1)) by omega, hx_dig _ a1]
theorem not_good_odd (t x : ByteArray) (h : Good t) (hx : x.size = 1) : ¬ Good (t ++ x) := fun g => by
  have h1 := h.1
  have g1 := g.1
  rw [ByteArray.size_append, hx] at g1
  omega
theorem not_good_A0 (t : ByteArray) : ¬ Good (t ++ ByteArray.mk #[65, 48]) := fun g => by
  have hz : (ByteArray.mk #[65, 48]).size = 2 := rfl
  have g2 := g.2.2 t.size (by rw [ByteArray.size_append, hz]; omega)
  have e := bt_append_right t (ByteArray.mk #[65, 48]) 0
  rw [Nat.zero_add] at e
  rw [e] at g2
  exact absurd g2 (by decide)
theorem bt_extract (s : ByteArray) (a b i : Nat) (h : a + i < b) : bt (s.extract a b) i = bt s (a + i) := by
  rw [bt_list, bt_list]
  have e : (s.extract a b).data.toList = (s.data.toList.drop a).take (b - a) := by
    simp [ByteArray.data_extract]
  rw [e, List.getD, List.getD, List.getElem?_take, if_pos (by omega), List.getElem?_drop]
theorem hexS_join (s : ByteArray) (k : Nat) (hk : k ≤ s.size) : hexS (s.extract 0 k) ++ hexS (s.extract k s.size) = hexS s := by
  have z1 : (s.extract 0 k).size = k := by rw [ByteArray.size_extract]; omega
  have z2 : (s.extract k s.size).size = s.size - k := by rw [ByteArray.size_extract]; omega
  have h1 := hexS_size (s.extract 0 k)
  have h2 := hexS_size (s.extract k s.size)
  have h3 := hexS_size s
  refine ext_bt (by rw [ByteArray.size_append]; omega) (fun n hn => ?_)
  rw [ByteArray.size_append] at hn
  have hi : n / 2 < s.size := by omega
  have g := bt_hexS s (n / 2) hi
  rcases Nat.lt_or_ge (n / 2) k with hlt | hge
  · have g1 := bt_hexS (s.extract 0 k) (n / 2) (by omega)
    have e1 := bt_extract s 0 k (n / 2) (by omega)
    rw [Nat.zero_add] at e1
    rw [e1] at g1
    rw [bt_append_left _ _ _ (by omega)]
    rcases (show n = 2 * (n / 2) ∨ n = 2 * (n / 2) + 1 by omega) with e | e
    · rw [e, g.1, g1.1]
    · rw [e, g.2, g1.2]
  · have g1 := bt_hexS (s.extract k s.size) (n / 2 - k) (by omega)
    have e1 := bt_extract s k s.size (n / 2 - k) (by omega)
    rw [show k + (n / 2 - k) = n / 2 by omega] at e1
    rw [e1] at g1
    have e2 := bt_append_right (hexS (s.extract 0 k)) (hexS (s.extract k s.size)) (n - 2 * k)
    rw [show n - 2 * k + (hexS (s.extract 0 k)).size = n by omega] at e2
    rw [e2]
    rcases (show n = 2 * (n / 2) ∨ n = 2 * (n / 2) + 1 by omega) with e | e
    · rw [show n - 2 * k = 2 * (n / 2 - k) by omega, g1.1, ← g.1, ← e]
    · rw [show n - 2 * k = 2 * (n / 2 - k) + 1 by omega, g1.2, ← g.2, ← e]

end Go.Proofs.Ytjphehjbmbjnnab
