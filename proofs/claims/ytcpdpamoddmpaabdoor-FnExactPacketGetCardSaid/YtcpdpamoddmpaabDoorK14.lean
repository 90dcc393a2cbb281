/- The contracts of chapter 11's model, further: the bytes of a chunk or none, the chunk at a place. -/
import Derived.Test.YtcpdpamoddmpaabDoorK13
import Derived.RegionTactic
namespace Go.Proofs.YtcpdpamoddmpaabDoor
open Go.RowKit Go.PlainAid

/-- A chunk was read, or none. -/
def gotV (k f : Int) (b : ByteArray) (n : Int) : Value := .tuple #[.agg #[.int .i64 k, .int .i64 f, .string b], .int .i64 n, .bool true]
def noneV : Value := .tuple #[.agg #[.int .i64 0, .int .i64 0, .string (ByteArray.mk #[])], .int .i64 0, .bool false]

set_option maxHeartbeats 1000000 in
theorem sChunkGet_yes (s : ByteArray) (p : Nat) (w : World) (hs : s.size ≤ 100000000) (h : Has s p) :
    Calls Tryd.prog 37 #[.string s, .int .i64 p] w fun e w' => e = .returned (gotV (bt s p) (bt s (p + 1)) (bodyAt s p) (chunkEnd s p)) ∧ Below w.heap.size w w' := by
  have H := Lib.hid h
  obtain ⟨h1, h2, h3, h4, _⟩ := h
  have hle : p + lenAt s p ≤ s.size := by unfold chunkEnd at h4; omega
  have E := Lib.hid (show 256 * bt s (p + 2) + bt s (p + 2 + 1) = (lenAt s p : Int) from (lenAt_bt s p).symm)
  have D := Lib.hid (decide_eq_true (show (4 : Int) ≤ lenAt s p ∧ (lenAt s p : Int) ≤ 64 by omega))
  go_enter Tryd.func37, Tryd.ntmps37
  go_wp2_with fail
  rw [show ((p : Int) + 2) = ((p + 2 : Nat) : Int) by omega]
  refine (l1At_any s (p + 2) _ (Nat.le_trans hs (by decide)) (by omega)).mono ?_
  rintro e w1 ⟨rfl, q1, rfl⟩
  rw [E.out]
  go_wp2_with fail
  refine (l6In_any (lenAt s p) 4 64 _).mono ?_
  rintro e w1 ⟨rfl, rfl⟩
  rw [D.out]
  have hbt := get_bt s
  have b0 := bt_nonneg s p
  have b0' := bt_le s p
  have b1 := bt_nonneg s (p + 1)
  have b1' := bt_le s (p + 1)
  have i1 : (p : Int) < s.size := by omega
  have i2 : (p : Int) + 1 < s.size := by omega
  have t1 : ((p : Int) + 1).toNat = p + 1 := by omega
  have t4 : ((p : Int) + 4).toNat = p + 4 := by omega
  have tn : ((p : Int) + lenAt s p).toNat = p + lenAt s p := by omega
  have v1 : IntKind.i64.wrap ((p : Int) + 1) = (p : Int) + 1 := IntWalk.i64_in _ (by omega)
  have v4 : IntKind.i64.wrap ((p : Int) + 4) = (p : Int) + 4 := IntWalk.i64_in _ (by omega)
  have vn : IntKind.i64.wrap ((p : Int) + lenAt s p) = (p : Int) + lenAt s p := IntWalk.i64_in _ (by omega)
  go_wp2
  go_region
  clear v1 v4 vn t1 t4 tn hbt
  have HC := Lib.hid (has_chk H.out)
  have hz := has_size H.out
  have hx := has_text H.out
  have he : chunkEnd s p = p + lenAt s p + pad (lenAt s p) := rfl
  have HZ := Lib.hid hz
  have HX := Lib.hid hx
  have HE := Lib.hid he
  clear hz hx he
  go_wp2_with fail
  refine (l11Put_any (bt s p) (bt s (p + 1)) (bodyAt s p) _ HC.out).mono ?_
  rintro e w2 ⟨rfl, hb2⟩
  have hbW : Below (w.heap.size + 1) (w.alloc (.cells #[.int .i64 0, .int .i64 0, .string (ByteArray.mk #[])] 43)) w2 := ((below_drewN (Below.refl _ _) _).alloc (by simp) _).trans (hb2.mono (by simp))
  have c0 : w2.cell? ⟨w.heap.size + 1, 0, none⟩ = some (.int .i64 (bt s p)) := (hb2.cell (p := ⟨w.heap.size + 1, 0, none⟩) (by simp)).trans (by simp [go_sem])
  have c1 : w2.cell? ⟨w.heap.size + 1, 1, none⟩ = some (.int .i64 (bt s (p + 1))) := (hb2.cell (p := ⟨w.heap.size + 1, 1, none⟩) (by simp)).trans (by simp [go_sem])
  have c2 : w2.cell? ⟨w.heap.size + 1, 2, none⟩ = some (.string (bodyAt s p)) := (hb2.cell (p := ⟨w.heap.size + 1, 2, none⟩) (by simp)).trans (by simp [go_sem, bodyAt])
  have r0 : w2.cell? ⟨w.heap.size, 0, none⟩ = some (.int .i64 0) := kept_cell hbW (by omega) (by simp)
  have r1 : w2.cell? ⟨w.heap.size, 1, none⟩ = some (.int .i64 0) := kept_cell hbW (by omega) (by simp)
  have r2 : w2.cell? ⟨w.heap.size, 2, none⟩ = some (.string (ByteArray.mk #[])) := kept_cell hbW (by omega) (by simp)
  have f0 : w2.frozen? ⟨w.heap.size, 0, none⟩ = false := kept_frozen hbW (by omega) (by simp)
  have f1 : w2.frozen? ⟨w.heap.size, 1, none⟩ = false := kept_frozen hbW (by omega) (by simp)
  have f2 : w2.frozen? ⟨w.heap.size, 2, none⟩ = false := kept_frozen hbW (by omega) (by simp)
  have hb : Below w.heap.size w w2 := (below_box _ (Nat.le_refl _)).trans (hbW.mono (by omega))
  clear hb2 hbW
  have HT : ∃ T, chunkS (bt s p) (bt s (p + 1)) (bodyAt s p) = T := ⟨_, rfl⟩
  obtain ⟨T, hT⟩ := HT
  rw [hT]
  have hTz : T.size = lenAt s p + pad (lenAt s p) := by rw [← hT]; exact HZ.out
  have tle : p + T.size ≤ s.size := by have := HE.out; omega
  have X := Lib.hid (show s.extract p (p + T.size) = T by
    rw [hTz, ← hT, ← Nat.add_assoc, ← HE.out]
    exact HX.out)
  have EE := Lib.hid (show (p : Int) + T.size = (chunkEnd s p : Int) by have := HE.out; omega)
  have tle2 : (p : Int) + T.size ≤ s.size := by omega
  have tn : ((p : Int) + T.size).toNat = p + T.size := by omega
  have xe := X.out
  clear hT hTz X
  go_wp2
  refine bodyPost_ret (v := gotV (bt s p) (bt s (p + 1)) (bodyAt s p) (chunkEnd s p)) ?_ rfl ?_
  · have e := EE.out
    simp [results, Tryd.results37, go_sem, gotV, r0, r1, r2, e]
  · exact ⟨rfl, ((hb.setCell (Nat.le_refl _) _).setCell (Nat.le_refl _) _).setCell (Nat.le_refl _) _⟩

set_option maxHeartbeats 4000000 in
theorem sChunkGet_no (s : ByteArray) (z : Int) (w : World) (hs : s.size ≤ 100000000) (h : ∀ p : Nat, z = p → ¬ Has s p) :
    Calls Tryd.prog 37 #[.string s, .int .i64 z] w fun e w' => e = .returned noneV ∧ Below w.heap.size w w' := by
  by_cases hz : z < 0
  · clear h
    go_enter Tryd.func37, Tryd.ntmps37
    go_wp2
    refine bodyPost_ret (v := noneV) ?_ rfl ?_
    · simp [results, Tryd.results37, go_sem, noneV]
    · exact ⟨rfl, below_box _ (Nat.le_refl _)⟩
  obtain ⟨p, rfl⟩ := Int.eq_ofNat_of_zero_le (show 0 ≤ z by omega)
  have hp := h p rfl
  clear h hz
  by_cases h1 : (s.size : Int) - 4 < p
  · clear hp
    go_enter Tryd.func37, Tryd.ntmps37
    go_wp2
    refine bodyPost_ret (v := noneV) ?_ rfl ?_
    · simp [results, Tryd.results37, go_sem, noneV]
    · exact ⟨rfl, below_box _ (Nat.le_refl _)⟩
  by_cases hr : 4 ≤ lenAt s p ∧ lenAt s p ≤ 64
  · obtain ⟨h2, h3⟩ := hr
    by_cases hle : p + lenAt s p ≤ s.size
    · by_cases h4 : chunkEnd s p ≤ s.size
      · have HX := Lib.hid (fun hx => hp (has_of_text (by omega) h2 h3 h4 hx))
        clear hp
        have E := Lib.hid (show 256 * bt s (p + 2) + bt s (p + 2 + 1) = (lenAt s p : Int) from (lenAt_bt s p).symm)
        have D := Lib.hid (decide_eq_true (show (4 : Int) ≤ lenAt s p ∧ (lenAt s p : Int) ≤ 64 by omega))
        have HC := Lib.hid (chk_at h2 h3 hle)
        have HZ := Lib.hid (text_size (bt s p) (bt s (p + 1)) h2 hle)
        go_enter Tryd.func37, Tryd.ntmps37
        go_wp2_with fail
        rw [show ((p : Int) + 2) = ((p + 2 : Nat) : Int) by omega]
        refine (l1At_any s (p + 2) _ (Nat.le_trans hs (by decide)) (by omega)).mono ?_
        rintro e w1 ⟨rfl, q1, rfl⟩
        rw [E.out]
        go_wp2_with fail
        refine (l6In_any (lenAt s p) 4 64 _).mono ?_
        rintro e w1 ⟨rfl, rfl⟩
        rw [D.out]
        have hbt := get_bt s
        have b0 := bt_nonneg s p
        have b0' := bt_le s p
        have b1 := bt_nonneg s (p + 1)
        have b1' := bt_le s (p + 1)
        have i1 : (p : Int) < s.size := by omega
        have i2 : (p : Int) + 1 < s.size := by omega
        have t1 : ((p : Int) + 1).toNat = p + 1 := by omega
        have t4 : ((p : Int) + 4).toNat = p + 4 := by omega
        have tn : ((p : Int) + lenAt s p).toNat = p + lenAt s p := by omega
        have v1 : IntKind.i64.wrap ((p : Int) + 1) = (p : Int) + 1 := IntWalk.i64_in _ (by omega)
        have v4 : IntKind.i64.wrap ((p : Int) + 4) = (p : Int) + 4 := IntWalk.i64_in _ (by omega)
        have vn : IntKind.i64.wrap ((p : Int) + lenAt s p) = (p : Int) + lenAt s p := IntWalk.i64_in _ (by omega)
        go_wp2
        go_region
        clear v1 v4 vn t1 t4 tn hbt
        go_wp2_with fail
        refine (l11Put_any (bt s p) (bt s (p + 1)) (bodyAt s p) _ HC.out).mono ?_
        rintro e w2 ⟨rfl, hb2⟩
        have hbW : Below (w.heap.size + 1) (w.alloc (.cells #[.int .i64 0, .int .i64 0, .string (ByteArray.mk #[])] 43)) w2 := ((below_drewN (Below.refl _ _) _).alloc (by simp) _).trans (hb2.mono (by simp))
        have c0 : w2.cell? ⟨w.heap.size + 1, 0, none⟩ = some (.int .i64 (bt s p)) := (hb2.cell (p := ⟨w.heap.size + 1, 0, none⟩) (by simp)).trans (by simp [go_sem])
        have c1 : w2.cell? ⟨w.heap.size + 1, 1, none⟩ = some (.int .i64 (bt s (p + 1))) := (hb2.cell (p := ⟨w.heap.size + 1, 1, none⟩) (by simp)).trans (by simp [go_sem])
        have c2 : w2.cell? ⟨w.heap.size + 1, 2, none⟩ = some (.string (bodyAt s p)) := (hb2.cell (p := ⟨w.heap.size + 1, 2, none⟩) (by simp)).trans (by simp [go_sem, bodyAt])
        have r0 : w2.cell? ⟨w.heap.size, 0, none⟩ = some (.int .i64 0) := kept_cell hbW (by omega) (by simp)
        have r1 : w2.cell? ⟨w.heap.size, 1, none⟩ = some (.int .i64 0) := kept_cell hbW (by omega) (by simp)
        have r2 : w2.cell? ⟨w.heap.size, 2, none⟩ = some (.string (ByteArray.mk #[])) := kept_cell hbW (by omega) (by simp)
        have f0 : w2.frozen? ⟨w.heap.size, 0, none⟩ = false := kept_frozen hbW (by omega) (by simp)
        have f1 : w2.frozen? ⟨w.heap.size, 1, none⟩ = false := kept_frozen hbW (by omega) (by simp)
        have f2 : w2.frozen? ⟨w.heap.size, 2, none⟩ = false := kept_frozen hbW (by omega) (by simp)
        have hb : Below w.heap.size w w2 := (below_box _ (Nat.le_refl _)).trans (hbW.mono (by omega))
        clear hb2 hbW
        have HT : ∃ T, chunkS (bt s p) (bt s (p + 1)) (bodyAt s p) = T := ⟨_, rfl⟩
        obtain ⟨T, hT⟩ := HT
        rw [hT]
        have hTz : T.size = lenAt s p + pad (lenAt s p) := by rw [← hT]; exact HZ.out
        have tle : (p : Int) + T.size ≤ s.size := by unfold chunkEnd at h4; omega
        have tn : ((p : Int) + T.size).toNat = p + T.size := by omega
        have xne := text_ne (show ¬ s.extract p (p + T.size) = T by
          rw [hTz, ← hT, ← Nat.add_assoc]
          exact HX.out)
        clear hT hTz
        go_wp2
        refine bodyPost_ret (v := noneV) ?_ rfl ?_
        · simp [results, Tryd.results37, go_sem, noneV, r0, r1, r2]
        · exact ⟨rfl, ((hb.setCell (Nat.le_refl _) _).setCell (Nat.le_refl _) _).setCell (Nat.le_refl _) _⟩
      · clear hp
        have E := Lib.hid (show 256 * bt s (p + 2) + bt s (p + 2 + 1) = (lenAt s p : Int) from (lenAt_bt s p).symm)
        have D := Lib.hid (decide_eq_true (show (4 : Int) ≤ lenAt s p ∧ (lenAt s p : Int) ≤ 64 by omega))
        have HC := Lib.hid (chk_at h2 h3 hle)
        have HZ := Lib.hid (text_size (bt s p) (bt s (p + 1)) h2 hle)
        go_enter Tryd.func37, Tryd.ntmps37
        go_wp2_with fail
        rw [show ((p : Int) + 2) = ((p + 2 : Nat) : Int) by omega]
        refine (l1At_any s (p + 2) _ (Nat.le_trans hs (by decide)) (by omega)).mono ?_
        rintro e w1 ⟨rfl, q1, rfl⟩
        rw [E.out]
        go_wp2_with fail
        refine (l6In_any (lenAt s p) 4 64 _).mono ?_
        rintro e w1 ⟨rfl, rfl⟩
        rw [D.out]
        have hbt := get_bt s
        have b0 := bt_nonneg s p
        have b0' := bt_le s p
        have b1 := bt_nonneg s (p + 1)
        have b1' := bt_le s (p + 1)
        have i1 : (p : Int) < s.size := by omega
        have i2 : (p : Int) + 1 < s.size := by omega
        have t1 : ((p : Int) + 1).toNat = p + 1 := by omega
        have t4 : ((p : Int) + 4).toNat = p + 4 := by omega
        have tn : ((p : Int) + lenAt s p).toNat = p + lenAt s p := by omega
        have v1 : IntKind.i64.wrap ((p : Int) + 1) = (p : Int) + 1 := IntWalk.i64_in _ (by omega)
        have v4 : IntKind.i64.wrap ((p : Int) + 4) = (p : Int) + 4 := IntWalk.i64_in _ (by omega)
        have vn : IntKind.i64.wrap ((p : Int) + lenAt s p) = (p : Int) + lenAt s p := IntWalk.i64_in _ (by omega)
        go_wp2
        go_region
        clear v1 v4 vn t1 t4 tn hbt
        go_wp2_with fail
        refine (l11Put_any (bt s p) (bt s (p + 1)) (bodyAt s p) _ HC.out).mono ?_
        rintro e w2 ⟨rfl, hb2⟩
        have hbW : Below (w.heap.size + 1) (w.alloc (.cells #[.int .i64 0, .int .i64 0, .string (ByteArray.mk #[])] 43)) w2 := ((below_drewN (Below.refl _ _) _).alloc (by simp) _).trans (hb2.mono (by simp))
        have c0 : w2.cell? ⟨w.heap.size + 1, 0, none⟩ = some (.int .i64 (bt s p)) := (hb2.cell (p := ⟨w.heap.size + 1, 0, none⟩) (by simp)).trans (by simp [go_sem])
        have c1 : w2.cell? ⟨w.heap.size + 1, 1, none⟩ = some (.int .i64 (bt s (p + 1))) := (hb2.cell (p := ⟨w.heap.size + 1, 1, none⟩) (by simp)).trans (by simp [go_sem])
        have c2 : w2.cell? ⟨w.heap.size + 1, 2, none⟩ = some (.string (bodyAt s p)) := (hb2.cell (p := ⟨w.heap.size + 1, 2, none⟩) (by simp)).trans (by simp [go_sem, bodyAt])
        have r0 : w2.cell? ⟨w.heap.size, 0, none⟩ = some (.int .i64 0) := kept_cell hbW (by omega) (by simp)
        have r1 : w2.cell? ⟨w.heap.size, 1, none⟩ = some (.int .i64 0) := kept_cell hbW (by omega) (by simp)
        have r2 : w2.cell? ⟨w.heap.size, 2, none⟩ = some (.string (ByteArray.mk #[])) := kept_cell hbW (by omega) (by simp)
        have f0 : w2.frozen? ⟨w.heap.size, 0, none⟩ = false := kept_frozen hbW (by omega) (by simp)
        have f1 : w2.frozen? ⟨w.heap.size, 1, none⟩ = false := kept_frozen hbW (by omega) (by simp)
        have f2 : w2.frozen? ⟨w.heap.size, 2, none⟩ = false := kept_frozen hbW (by omega) (by simp)
        have hb : Below w.heap.size w w2 := (below_box _ (Nat.le_refl _)).trans (hbW.mono (by omega))
        clear hb2 hbW
        have HT : ∃ T, chunkS (bt s p) (bt s (p + 1)) (bodyAt s p) = T := ⟨_, rfl⟩
        obtain ⟨T, hT⟩ := HT
        rw [hT]
        have hTz : T.size = lenAt s p + pad (lenAt s p) := by rw [← hT]; exact HZ.out
        have tle : (s.size : Int) < (p : Int) + T.size := by unfold chunkEnd at h4; omega
        have tz : T.size ≤ 100 := by have := pad_lt (lenAt s p); omega
        clear hT hTz
        go_wp2
        refine bodyPost_ret (v := noneV) ?_ rfl ?_
        · simp [results, Tryd.results37, go_sem, noneV, r0, r1, r2]
        · exact ⟨rfl, ((hb.setCell (Nat.le_refl _) _).setCell (Nat.le_refl _) _).setCell (Nat.le_refl _) _⟩
    · clear hp
      have E := Lib.hid (show 256 * bt s (p + 2) + bt s (p + 2 + 1) = (lenAt s p : Int) from (lenAt_bt s p).symm)
      have D := Lib.hid (decide_eq_true (show (4 : Int) ≤ lenAt s p ∧ (lenAt s p : Int) ≤ 64 by omega))
      have h5 : (s.size : Int) < (p : Int) + lenAt s p := by omega
      go_enter Tryd.func37, Tryd.ntmps37
      go_wp2_with fail
      rw [show ((p : Int) + 2) = ((p + 2 : Nat) : Int) by omega]
      refine (l1At_any s (p + 2) _ (Nat.le_trans hs (by decide)) (by omega)).mono ?_
      rintro e w1 ⟨rfl, q1, rfl⟩
      rw [E.out]
      go_wp2_with fail
      refine (l6In_any (lenAt s p) 4 64 _).mono ?_
      rintro e w1 ⟨rfl, rfl⟩
      rw [D.out]
      go_wp2
      refine bodyPost_ret (v := noneV) ?_ rfl ?_
      · simp [results, Tryd.results37, go_sem, noneV]
      · exact ⟨rfl, (((below_drewN (below_box _ (Nat.le_refl _)) _).setCell (Nat.le_refl _) _).setCell (Nat.le_refl _) _).setCell (Nat.le_refl _) _⟩
  · clear hp
    have E := Lib.hid (show 256 * bt s (p + 2) + bt s (p + 2 + 1) = (lenAt s p : Int) from (lenAt_bt s p).symm)
    have D := Lib.hid (decide_eq_false (show ¬ ((4 : Int) ≤ lenAt s p ∧ (lenAt s p : Int) ≤ 64) by omega))
    go_enter Tryd.func37, Tryd.ntmps37
    go_wp2_with fail
    rw [show ((p : Int) + 2) = ((p + 2 : Nat) : Int) by omega]
    refine (l1At_any s (p + 2) _ (Nat.le_trans hs (by decide)) (by omega)).mono ?_
    rintro e w1 ⟨rfl, q1, rfl⟩
    rw [E.out]
    go_wp2_with fail
    refine (l6In_any (lenAt s p) 4 64 _).mono ?_
    rintro e w1 ⟨rfl, rfl⟩
    rw [D.out]
    go_wp2
    refine bodyPost_ret (v := noneV) ?_ rfl ?_
    · simp [results, Tryd.results37, go_sem, noneV]
    · exact ⟨rfl, (((below_drewN (below_box _ (Nat.le_refl _)) _).setCell (Nat.le_refl _) _).setCell (Nat.le_refl _) _).setCell (Nat.le_refl _) _⟩

end Go.Proofs.YtcpdpamoddmpaabDoor
