/- Receipts, plain: the bytes of a receipt say the receipt, and the receipt says the bytes. -/
import Derived.Test.YtifphigdklkpjaaG11
import Derived.Test.YtifphigdklkpjaaG12
namespace Go.Proofs.Ytifphigdklkpjaa

theorem gaps_range : ∀ {l : Int} {gs : List (Int × Int)}, 0 ≤ l → GapsOk l gs → ∀ g ∈ gs, (0 ≤ g.1 ∧ g.1 ≤ 65535) ∧ 0 ≤ g.2 ∧ g.2 ≤ 65535
  | _, [], _, _, g, hg => by simp at hg
  | l, x :: xs, h0, ⟨h1, h2, h3, h4⟩, g, hg => by
    rcases List.mem_cons.1 hg with rfl | hg
    · omega
    · exact gaps_range (by omega) h4 g hg
theorem gapsAt_left (x y : ByteArray) (k : Nat) (h : 2 + 4 * k ≤ x.size) : gapsAt (x ++ y) k = gapsAt x k := by
  induction k with
  | zero => rfl
  | succ k ih => rw [gapsAt, gapsAt, ih (by omega), be_left _ _ _ _ (by omega), be_left _ _ _ _ (by omega)]
theorem be_at_right (x y : ByteArray) (p k : Nat) (h : x.size = p) : be (x ++ y) p k = be y 0 k := by
  subst h
  exact be_right x y 0 k
theorem sack_at (c : Int) (gs : List (Int × Int)) (hr : ∀ g ∈ gs, (0 ≤ g.1 ∧ g.1 ≤ 65535) ∧ 0 ≤ g.2 ∧ g.2 ≤ 65535) (k : Nat) (hk : k ≤ gs.length) : gapsAt (sackS c (gs.take k)) k = gs.take k := by
  induction k with
  | zero => rfl
  | succ k ih =>
    have hz : (sackS c (gs.take k)).size = 2 + 4 * k := by rw [sackS_size, List.length_take, Nat.min_eq_left (by omega)]
    have hm : gs.getD k (0, 0) ∈ gs := by
      rw [List.getD_eq_getElem?_getD, List.getElem?_eq_getElem (by omega : k < gs.length)]
      exact List.getElem_mem _
    obtain ⟨⟨f0, f1⟩, t0, t1⟩ := hr _ hm
    obtain ⟨f, hf⟩ : ∃ f, (gs.getD k (0, 0)).1 = f := ⟨_, rfl⟩
    obtain ⟨t, ht⟩ : ∃ t, (gs.getD k (0, 0)).2 = t := ⟨_, rfl⟩
    rw [take_next (by omega), sackS_append, gapsAt, ByteArray.append_assoc, gapsAt_left _ _ _ (by omega), ih (by omega), be_at_right _ _ _ _ hz, ← ByteArray.append_assoc, be_at_right _ (wordS (gs.getD k (0, 0)).2) (4 + 4 * k) 2 (by rw [ByteArray.size_append, wordS_size]; omega), be_left _ _ _ _ (by rw [wordS_size]; omega), be_wordS _ f0 f1, be_wordS _ t0 t1]
theorem sack_first (c : Int) (gs : List (Int × Int)) (h0 : 0 ≤ c ∧ c ≤ 65535) : be (sackS c gs) 0 2 = c := by
  unfold sackS
  rw [be_left _ _ _ _ (by rw [wordS_size]; omega), be_wordS c h0.1 h0.2]
theorem sack_gaps {c : Int} {gs : List (Int × Int)} (h : SackOk c gs) : gapsAt (sackS c gs) gs.length = gs := by
  have := sack_at c gs (gaps_range (by decide) h.2) gs.length (Nat.le_refl _)
  rwa [List.take_of_length_le (Nat.le_refl _)] at this
theorem sack_count (c : Int) (gs : List (Int × Int)) : ((sackS c gs).size - 2) / 4 = gs.length := by
  rw [sackS_size]
  omega
theorem sack_cut (b : ByteArray) (k : Nat) (h : 2 + 4 * k ≤ b.size) : sackS (be b 0 2) (gapsAt b k) = b.extract 0 (2 + 4 * k) := by
  induction k with
  | zero =>
    show wordS (be b 0 2) ++ ByteArray.mk #[] = _
    rw [word_cut b 0 h]
    exact ByteArray.append_empty
  | succ k ih =>
    rw [gapsAt, sackS_append, ih (by omega)]
    show b.extract 0 (2 + 4 * k) ++ wordS (be b (2 + 4 * k) 2) ++ wordS (be b (4 + 4 * k) 2) = _
    rw [word_cut b (2 + 4 * k) (by omega), word_cut b (4 + 4 * k) (by omega), cut_join b 0 (2 + 4 * k) (2 + 4 * k + 2) (by omega) (by omega) (by omega)]
    have := cut_join b 0 (4 + 4 * k) (4 + 4 * k + 2) (by omega) (by omega) (by omega)
    rw [show 2 + 4 * k + 2 = 4 + 4 * k by omega, this]
    congr 1
    omega
theorem sack_back {b : ByteArray} (h : b.size % 4 = 2) : sackS (be b 0 2) (gapsAt b ((b.size - 2) / 4)) = b := by
  rw [sack_cut b _ (by omega), show 2 + 4 * ((b.size - 2) / 4) = b.size by omega, cut_all]

end Go.Proofs.Ytifphigdklkpjaa
