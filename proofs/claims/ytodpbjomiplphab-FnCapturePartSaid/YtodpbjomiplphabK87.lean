/- The records at the beginning of bytes: both sides at bytes whose records are known; bytes that are cut or go on. -/
import Derived.Test.YtodpbjomiplphabK86
import Derived.Test.YtodpbjomiplphabK73
import Derived.Test.YtodpbjomiplphabK74
namespace Go.Proofs.Ytodpbjomiplphab
open Go.RowKit Go.PlainAid

theorem begin_from {s : ByteArray} (h : 4 ≤ s.size ∧ s.extract 0 4 = tap1) : ∀ (m : Nat) (rs : List (Int × ByteArray)) (q : Nat), rs.length + m = 60 → RunR s 4 0 rs q → ∃ rs q, BeginIs s rs q
  | 0, rs, q, hm, hr => ⟨rs, q, h, hr, by omega, fun h => by omega⟩
  | m + 1, rs, q, hm, hr => by
    by_cases hh : HasR s q (lastT 0 rs)
    · exact begin_from h m (rs ++ [recAt s q]) (recEnd s q) (by rw [List.length_append]; show rs.length + 1 + m = 60; omega) (runR_snoc hr hh)
    · exact ⟨rs, q, h, hr, by omega, fun _ => hh⟩
theorem begin_some {s : ByteArray} (h : 4 ≤ s.size ∧ s.extract 0 4 = tap1) : ∃ rs q, BeginIs s rs q := begin_from h 60 [] 4 rfl rfl
theorem cut_be {s : ByteArray} {K : Nat} (p m : Nat) (hK : K ≤ s.size) (h : p + m ≤ K) : be (s.extract 0 K) p m = be s p m := by
  have e : s = s.extract 0 K ++ s.extract K s.size := by
    rw [cut_join s 0 K s.size (by omega) hK (Nat.le_refl _)]
    exact (ByteArray.extract_zero_size).symm
  have := be_left (s.extract 0 K) (s.extract K s.size) p m (by rw [size_cut _ _ _ hK]; omega)
  rw [← e] at this
  exact this.symm
theorem hasR_cut {s : ByteArray} {K p : Nat} {l : Int} (hK : K ≤ s.size) (h : HasR (s.extract 0 K) p l) : HasR s p l ∧ recAt (s.extract 0 K) p = recAt s p ∧ recEnd (s.extract 0 K) p = recEnd s p := by
  obtain ⟨h1, h2⟩ := h
  have hz : (s.extract 0 K).size = K := by rw [size_cut _ _ _ hK]; omega
  rw [hz] at h1
  have h6 : p + 6 ≤ K := by unfold recEnd at h1; omega
  have e1 : lenR (s.extract 0 K) p = lenR s p := by
    unfold lenR
    rw [cut_be (p + 4) 2 hK (by omega)]
  have e2 : recEnd (s.extract 0 K) p = recEnd s p := by unfold recEnd; rw [e1]
  rw [e2] at h1
  have e3 : recAt (s.extract 0 K) p = recAt s p := by
    unfold recEnd at h1
    unfold recAt
    rw [e1, cut_be p 4 hK (by omega)]
    refine Prod.ext rfl (same_bt (by rw [size_cut _ _ _ (by rw [hz]; exact h1), size_cut _ _ _ (by omega)]) fun i hi => ?_)
    rw [size_cut _ _ _ (by rw [hz]; exact h1)] at hi
    rw [bt_cut _ _ _ _ (by omega), bt_cut _ _ _ _ (by omega), bt_cut _ _ _ _ (by omega), Nat.zero_add]
  rw [e3] at h2
  exact ⟨⟨by omega, h2⟩, e3, e2⟩
theorem runR_cut {s : ByteArray} {K : Nat} (hK : K ≤ s.size) : ∀ {rs : List (Int × ByteArray)} {p q : Nat} {l : Int}, RunR (s.extract 0 K) p l rs q → RunR s p l rs q
  | [], _, _, _, h => h
  | _ :: _, _, _, _, ⟨h1, h2, h3⟩ => by
    obtain ⟨k1, k2, k3⟩ := hasR_cut hK h1
    rw [k3] at h3
    rw [k2] at h2
    exact ⟨k1, h2, runR_cut hK h3⟩
/-- Bytes that are cut hold the first records. -/
theorem begin_cut {s : ByteArray} {rs ds : List (Int × ByteArray)} {K q : Nat} (hK : K ≤ s.size) (h : BeginIs s rs s.size) (k : BeginIs (s.extract 0 K) ds q) : ds.length ≤ rs.length ∧ ds = rs.take ds.length ∧ q ≤ K ∧ (K = s.size → ds.length = rs.length) := by
  have r := runR_cut hK k.2.1
  have hz : (s.extract 0 K).size = K := by rw [size_cut _ _ _ hK]; omega
  have hle : ds.length ≤ rs.length := by
    rcases Nat.lt_or_ge rs.length ds.length with hl | hl
    · exact absurd ((runR_take h.2.1 r (by omega)).2.2.1 hl) (hasR_not_end _ _)
    · exact hl
  refine ⟨hle, (runR_take r h.2.1 hle).1, by have := (begin_back k).2.2.2; omega, fun e => ?_⟩
  have es : s.extract 0 K = s := by rw [e]; exact ByteArray.extract_zero_size
  rw [es] at k
  rw [(begin_one h k).1]
/-- A byte behind the records changes nothing. -/
theorem begin_rest {s y : ByteArray} {rs : List (Int × ByteArray)} {q : Nat} (h : BeginIs s rs q) (hy : y.size = 1) : BeginIs (s.extract 0 q ++ y) rs q := by
  obtain ⟨h1, h2, h3, h4⟩ := begin_back h
  have hz : (s.extract 0 q).size = q := by rw [size_cut _ _ _ h4]; omega
  have r := runR_recs rs tap1 y 0 (by omega) h2.1
  have e : tap1 ++ recsS rs = s.extract 0 q := h1
  rw [e, hz] at r
  refine ⟨⟨by rw [ByteArray.size_append]; omega, ?_⟩, r, h2.2, fun _ hh => ?_⟩
  · rw [← e]
    refine same_bt (by rw [size_cut _ _ _ (by rw [ByteArray.size_append, ByteArray.size_append, tap1_size]; omega), tap1_size]) fun i hi => ?_
    rw [size_cut _ _ _ (by rw [ByteArray.size_append, ByteArray.size_append, tap1_size]; omega)] at hi
    rw [bt_cut _ _ _ _ (by omega), Nat.zero_add, bt_left _ _ _ (by rw [ByteArray.size_append, tap1_size]; omega)]
    exact bt_left tap1 (recsS rs) i (by rw [tap1_size]; omega)
  · have := hh.1
    unfold recEnd at this
    rw [ByteArray.size_append] at this
    omega

theorem captureBegin_is (s : ByteArray) (rs : List (Int × ByteArray)) (q k : Nat) (w : World) (hs : s.size ≤ 100000000) (h : BeginIs s rs q) (hk : rs.length = k) :
    Calls Try.prog 11 #[.string s] w fun e w' => ∃ a cap, e = .returned (.tuple #[.slice a k cap, .int .i64 (q : Nat)]) ∧ Rcs w' a k cap rs ∧ Below w.heap.size w w' := by
  subst hk
  refine (captureBegin_any s w hs).mono ?_
  rintro e w' (⟨rs2, q2, k2, a, cap, h2, rfl, rfl, ho⟩ | ⟨hn, _⟩)
  · obtain ⟨rfl, rfl⟩ := begin_one h h2
    exact ⟨a, cap, rfl, ho.rcs, ho.b⟩
  · exact absurd h.1 hn

theorem captureBegin_own (s : ByteArray) (rs : List (Int × ByteArray)) (q k : Nat) (w : World) (hs : s.size ≤ 100000000) (h : BeginIs s rs q) (hk : rs.length = k) :
    Calls Try.prog 11 #[.string s] w fun e w' => ∃ a cap, e = .returned (.tuple #[.slice a k cap, .int .i64 (q : Nat)]) ∧ Own k (.slice a k cap) rs w w' := by
  subst hk
  refine (captureBegin_any s w hs).mono ?_
  rintro e w' (⟨rs2, q2, k2, a, cap, h2, rfl, rfl, ho⟩ | ⟨hn, _⟩)
  · obtain ⟨rfl, rfl⟩ := begin_one h h2
    exact ⟨a, cap, rfl, ho⟩
  · exact absurd h.1 hn

theorem captureBegin_not (s : ByteArray) (w : World) (hs : s.size ≤ 100000000) (h : ¬ (4 ≤ s.size ∧ s.extract 0 4 = tap1)) :
    Calls Try.prog 11 #[.string s] w fun e w' => e = .returned (.tuple #[.slice none 0 0, .int .i64 0]) ∧ Below w.heap.size w w' := by
  refine (captureBegin_any s w hs).mono ?_
  rintro e w' (⟨rs2, q2, k2, a, cap, h2, rfl, rfl, ho⟩ | ⟨hn, rfl, hb⟩)
  · exact absurd h2.1 h
  · exact ⟨rfl, hb⟩

theorem sCaptureBegin_is (s : ByteArray) (rs : List (Int × ByteArray)) (q k : Nat) (w : World) (hs : s.size ≤ 100000000) (h : BeginIs s rs q) (hk : rs.length = k) :
    Calls Try.prog 12 #[.string s] w fun e w' => ∃ x cap, e = .returned (.tuple #[.slice (some ⟨x, 0, none⟩) k cap, .int .i64 (q : Nat)]) ∧ Rcs w' (some ⟨x, 0, none⟩) k cap rs ∧ Below w.heap.size w w' := by
  subst hk
  refine (sCaptureBegin_any s w hs).mono ?_
  rintro e w' (⟨rs2, q2, x, k2, cap, h2, rfl, ho⟩ | ⟨hn, _⟩)
  · obtain ⟨rfl, rfl⟩ := begin_one h h2
    have hr := own_rcs ho.own
    obtain rfl := hr.length
    exact ⟨x, cap, rfl, hr, ho.b⟩
  · exact absurd h.1 hn

theorem sCaptureBegin_not (s : ByteArray) (w : World) (hs : s.size ≤ 100000000) (h : ¬ (4 ≤ s.size ∧ s.extract 0 4 = tap1)) :
    Calls Try.prog 12 #[.string s] w fun e w' => ∃ x, e = .returned (.tuple #[.slice (some ⟨x, 0, none⟩) 0 0, .int .i64 0]) ∧ Rcs w' (some ⟨x, 0, none⟩) 0 0 [] ∧ Below w.heap.size w w' := by
  refine (sCaptureBegin_any s w hs).mono ?_
  rintro e w' (⟨rs2, q2, x, k2, cap, h2, rfl, ho⟩ | ⟨hn, x, rfl, ho⟩)
  · exact absurd h2.1 h
  · exact ⟨x, rfl, own_rcs ho.own, ho.b⟩

theorem captureGet_is (s : ByteArray) (rs : List (Int × ByteArray)) (k : Nat) (w : World) (hs : s.size ≤ 100000000) (h : BeginIs s rs s.size) (hk : rs.length = k) :
    Calls Try.prog 23 #[.string s] w fun e w' => ∃ a cap, e = .returned (.tuple #[.slice a k cap, .bool true]) ∧ Rcs w' a k cap rs ∧ Below w.heap.size w w' := by
  subst hk
  refine (captureGet_any s w hs).mono ?_
  rintro e w' (⟨rs2, k2, a, cap, h2, rfl, rfl, ho⟩ | ⟨hn, _⟩)
  · obtain ⟨rfl, _⟩ := begin_one h h2
    exact ⟨a, cap, rfl, ho.rcs, ho.b⟩
  · exact absurd h (hn _)

theorem captureGet_own (s : ByteArray) (rs : List (Int × ByteArray)) (k : Nat) (w : World) (hs : s.size ≤ 100000000) (h : BeginIs s rs s.size) (hk : rs.length = k) :
    Calls Try.prog 23 #[.string s] w fun e w' => ∃ a cap, e = .returned (.tuple #[.slice a k cap, .bool true]) ∧ Own k (.slice a k cap) rs w w' := by
  subst hk
  refine (captureGet_any s w hs).mono ?_
  rintro e w' (⟨rs2, k2, a, cap, h2, rfl, rfl, ho⟩ | ⟨hn, _⟩)
  · obtain ⟨rfl, _⟩ := begin_one h h2
    exact ⟨a, cap, rfl, ho⟩
  · exact absurd h (hn _)

theorem captureGet_not (s : ByteArray) (w : World) (hs : s.size ≤ 100000000) (h : ∀ rs, ¬ BeginIs s rs s.size) :
    Calls Try.prog 23 #[.string s] w fun e w' => e = .returned (.tuple #[.slice none 0 0, .bool false]) ∧ Below w.heap.size w w' := by
  refine (captureGet_any s w hs).mono ?_
  rintro e w' (⟨rs2, k2, a, cap, h2, rfl, rfl, ho⟩ | ⟨hn, rfl, hb⟩)
  · exact absurd h2 (h _)
  · exact ⟨rfl, hb⟩

theorem sCaptureGet_is (s : ByteArray) (rs : List (Int × ByteArray)) (k : Nat) (w : World) (hs : s.size ≤ 100000000) (h : BeginIs s rs s.size) (hk : rs.length = k) :
    Calls Try.prog 22 #[.string s] w fun e w' => ∃ x cap, e = .returned (.tuple #[.slice (some ⟨x, 0, none⟩) k cap, .bool true]) ∧ Rcs w' (some ⟨x, 0, none⟩) k cap rs ∧ Below w.heap.size w w' := by
  subst hk
  refine (sCaptureGet_any s w hs).mono ?_
  rintro e w' (⟨rs2, x, k2, cap, h2, rfl, ho⟩ | ⟨hn, _⟩)
  · obtain ⟨rfl, _⟩ := begin_one h h2
    have hr := own_rcs ho.own
    obtain rfl := hr.length
    exact ⟨x, cap, rfl, hr, ho.b⟩
  · exact absurd h (hn _)

theorem sCaptureGet_not (s : ByteArray) (w : World) (hs : s.size ≤ 100000000) (h : ∀ rs, ¬ BeginIs s rs s.size) :
    Calls Try.prog 22 #[.string s] w fun e w' => ∃ x, e = .returned (.tuple #[.slice (some ⟨x, 0, none⟩) 0 0, .bool false]) ∧ Rcs w' (some ⟨x, 0, none⟩) 0 0 [] ∧ Below w.heap.size w w' := by
  refine (sCaptureGet_any s w hs).mono ?_
  rintro e w' (⟨rs2, x, k2, cap, h2, rfl, ho⟩ | ⟨hn, x, rfl, ho⟩)
  · exact absurd h2 (h _)
  · exact ⟨x, rfl, own_rcs ho.own, ho.b⟩

end Go.Proofs.Ytodpbjomiplphab
