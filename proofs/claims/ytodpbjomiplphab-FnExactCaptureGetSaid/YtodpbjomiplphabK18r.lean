/- The contracts of the program's cursor: what it reads and where it stands behind it. -/
import Derived.Test.YtodpbjomiplphabG10
import Derived.Test.YtodpbjomiplphabK1
import Derived.Test.YtodpbjomiplphabK13
import Derived.Test.YtodpbjomiplphabShelf
import Derived.Deep.RegionHeldLaw
import Derived.IntWalk
import Derived.Handy
import Derived.Test.YtodpbjomiplphabK2
import Derived.Test.YtodpbjomiplphabK4c
import Derived.Test.YtodpbjomiplphabG9
namespace Go.Proofs.Ytodpbjomiplphab
open Go.RowKit Go.PlainAid

theorem Fr.own {B r i : Nat} {w a : World} (h : Fr B r w a) (hB : B ≤ r) (v : Value) : Fr B r w (a.setCell ⟨r, i, none⟩ v) :=
  ⟨h.below.setCell (p := ⟨r, i, none⟩) hB v, h.aside.trans fun b _ hr => Below.heap_setCell _ _ _ _ (by simpa using hr)⟩

/-- A cursor at block c over the text s, at the place p. -/
def Cur (c : Nat) (s : ByteArray) (p : Int) (w : World) : Prop :=
  c < w.heap.size ∧ w.cell? ⟨c, 0, none⟩ = some (.string s) ∧ w.cell? ⟨c, 1, none⟩ = some (.int .i64 p) ∧ w.frozen? ⟨c, 1, none⟩ = false
theorem Cur.drewN {c : Nat} {s : ByteArray} {p : Int} {w : World} (h : Cur c s p w) (q : Nat) : Cur c s p (w.drewN q) := by
  obtain ⟨h0, h1, h2, h3⟩ := h
  exact ⟨by simpa using h0, by simpa using h1, by simpa using h2, by simpa using h3⟩
theorem Cur.grow {c : Nat} {s : ByteArray} {p : Int} {w w' : World} (h : Cur c s p w) (hb : Below w.heap.size w w') : Cur c s p w' :=
  ⟨Nat.lt_of_lt_of_le h.1 hb.size, kept_cell hb h.1 h.2.1, kept_cell hb h.1 h.2.2.1, kept_frozen hb h.1 h.2.2.2⟩
theorem Cur.to {c : Nat} {s : ByteArray} {p : Int} {w : World} (h : Cur c s p w) (q : Int) : Cur c s q (w.setCell ⟨c, 1, none⟩ (.int .i64 q)) := by
  obtain ⟨h0, h1, h2, h3⟩ := h
  exact ⟨by simpa using h0, cell_other (by decide) h1, World.cell?_setCell_same _ _ _ h2, by rw [World.frozen?_setCell]; exact h3⟩

set_option maxHeartbeats 1000000 in
theorem number_cur (c : Nat) (s : ByteArray) (p m : Nat) (w : World) (hs : s.size ≤ maxLen) (hm : m ≤ 4)
    (hc : Cur c s p w) (h : p + m ≤ s.size) (B : Nat) (hB : B ≤ c) :
    Calls Try.prog 45 #[.pointer (some ⟨c, 0, none⟩), .int .i64 m] w fun e w' => e = .returned (.tuple #[.int .i64 (be s p m), .bool true]) ∧ Cur c s ((p : Int) + m) w' ∧ Fr B c w w' := by
  have HC := Lib.hid hc
  obtain ⟨hcl, hc0, hc1, hf1⟩ := hc
  have hs' := hs
  unfold maxLen at hs
  go_enter Try.func45, Try.ntmps45
  go_wp2_with (go_at_call 44; refine (has_yes c s p m _ hs' (by omega) (by omega) (by exact hc0) (by exact hc1) (by omega) (by omega)).mono ?_; rintro e w' ⟨rfl, q, rfl⟩)
  go_loopw [6, 12] (fun n i wr => ∃ k : Nat, k ≤ m ∧ i = .int .i64 k ∧ n = .int .i64 (be s p k) ∧ wr.cell? ⟨c, 0, none⟩ = some (.string s) ∧ wr.cell? ⟨c, 1, none⟩ = some (.int .i64 (p + k)) ∧ wr.frozen? ⟨c, 1, none⟩ = false ∧ Hid (Fr B c w wr)) (fun _ i _ => m - (intOf i).toNat)
  case atStart => exact ⟨0, Nat.zero_le _, rfl, rfl, hc0, by simpa using hc1, hf1, Lib.hid ((Fr.refl B c w).drewN _)⟩
  case round =>
    obtain ⟨k, hk, rfl, rfl, hr0, hr1, hrf, hbel⟩ := hrel
    by_cases hlt : k < m
    · have i0 : (0 : Int) ≤ p + k := by omega
      have i1 : (p : Int) + k < s.size := by omega
      have hbt := get_bt s
      have b0 := bt_nonneg s (p + k)
      have b0' := bt_le s (p + k)
      have e0 := be_nonneg s p k
      have e0' := be_three s p k (by omega)
      have o1 : bits .or .i64 (be s p k * 256) (bt s (p + k)) = be s p k * 256 + bt s (p + k) := or_byte _ _ (by omega) (by omega) (by omega) b0 (by omega)
      clear hc0 hc1 hf1 hcl
      go_wp2
      go_quiet (fail)
      go_wp2
      go_roundw
      case rel =>
        refine ⟨k + 1, by omega, by go_num, rfl, ?_, ?_, ?_, Lib.hid ((hbel.out.drewN _).own hB _)⟩
        · exact cell_other (by decide) hr0
        · rw [World.cell?_setCell_same _ _ _ (show (wr.drewN nq).cell? ⟨c, 1, none⟩ = _ from hr1), show ((p : Int) + k + 1) = p + ((k + 1 : Nat) : Int) by omega]
        · rw [World.frozen?_setCell]; exact hrf
      case measure => simp [intOf]; omega
    · obtain rfl : k = m := by omega
      have hsz := hbel.out.size
      go_wp2
      go_ret2
      exact ⟨rfl, ⟨by omega, hr0, hr1, hrf⟩, hbel.out⟩

set_option maxHeartbeats 400000 in
theorem clone_any (s : ByteArray) (w : World) (h : s.size ≤ 100000000) :
    Calls Try.prog 58 #[.string s] w fun e w' => e = .returned (.string s) ∧ Below w.heap.size w w' := by
  go_enter Try.func58, Try.ntmps58
  go_wp2_with fail
  refine (Try.stringslite_Clone s _ (by omega)).mono ?_
  rintro e w1 ⟨rfl, hb1⟩
  go_wp2
  go_ret
  exact ⟨rfl, hb1⟩

theorem keptC {B c : Nat} {s : ByteArray} {p : Int} {w W W' : World} (hB : B ≤ w.heap.size) (h : W.cell? ⟨c, 0, none⟩ = some (.string s) ∧ W.cell? ⟨c, 1, none⟩ = some (.int .i64 p) ∧ W.frozen? ⟨c, 1, none⟩ = false ∧ Fr B c w W) (hb : Below W.heap.size W W') :
    W'.cell? ⟨c, 0, none⟩ = some (.string s) ∧ W'.cell? ⟨c, 1, none⟩ = some (.int .i64 p) ∧ W'.frozen? ⟨c, 1, none⟩ = false ∧ Fr B c w W' := by
  obtain ⟨h0, h1, h2, h3⟩ := h
  have hlt : c < W.heap.size := World.block_lt_of_cell? W ⟨c, 0, none⟩ h0
  exact ⟨kept_cell hb hlt h0, kept_cell hb hlt h1, kept_frozen hb hlt h2, h3.grow hB hb⟩

set_option maxHeartbeats 400000 in
theorem piece_no (c : Nat) (s : ByteArray) (p n : Int) (w : World) (hs : s.size ≤ maxLen) (hn0 : 0 ≤ n) (hn : n ≤ 100)
    (hc : Cur c s p w) (h : p < 0 ∨ s.size - n < p) :
    Calls Try.prog 46 #[.pointer (some ⟨c, 0, none⟩), .int .i64 n] w fun e w' => e = .returned (.tuple #[.string (ByteArray.mk #[]), .bool false]) ∧ ∃ k, w' = w.drewN k := by
  obtain ⟨hcl, hc0, hc1, hf1⟩ := hc
  go_enter Try.func46, Try.ntmps46
  go_wp2_with (go_at_call 44; refine (has_no c s p n _ hs hn0 hn (by exact hc0) (by exact hc1) h).mono ?_; rintro e w' ⟨rfl, k, rfl⟩)
  go_ret2
  exact ⟨rfl, _, rfl⟩

set_option maxHeartbeats 1000000 in
theorem piece_yes (c : Nat) (s : ByteArray) (p n : Nat) (w : World) (hs : s.size ≤ 100000000) (hn : n ≤ 100)
    (hc : Cur c s p w) (h : p + n ≤ s.size) (B : Nat) (hB : B ≤ c) :
    Calls Try.prog 46 #[.pointer (some ⟨c, 0, none⟩), .int .i64 n] w fun e w' => e = .returned (.tuple #[.string (s.extract p (p + n)), .bool true]) ∧ Cur c s ((p : Int) + n) w' ∧ Fr B c w w' := by
  have HC := Lib.hid hc
  obtain ⟨hcl, hc0, hc1, hf1⟩ := hc
  have hBw : B ≤ w.heap.size := by omega
  have hs' : s.size ≤ maxLen := Nat.le_trans hs (by decide)
  have e1 : IntKind.i64.wrap ((p : Int) + n) = (p : Int) + n := IntWalk.i64_in _ (by omega)
  have i0 : (p : Int) ≤ (p : Int) + n := by omega
  have i1 : (p : Int) + n ≤ s.size := by omega
  have t1 : ((p : Int) + n).toNat = p + n := by omega
  have hx : (s.extract p (p + n)).size ≤ 100000000 := by rw [ByteArray.size_extract]; omega
  go_enter Try.func46, Try.ntmps46
  go_wp2_with (go_at_call 44; refine (has_yes c s p n _ hs' (by omega) (by omega) (by exact hc0) (by exact hc1) (by omega) (by omega)).mono ?_; rintro e w' ⟨rfl, q, rfl⟩)
  have C1 := (HC.out.drewN q).to ((p : Int) + n)
  have F1 := ((Fr.refl B c w).drewN q).own (i := 1) hB (.int .i64 ((p : Int) + n))
  have hS := keptC (W := (w.drewN q).setCell ⟨c, 1, none⟩ (.int .i64 ((p : Int) + n))) hBw ⟨C1.2.1, C1.2.2.1, C1.2.2.2, F1⟩ (Below.drew (Below.refl _ _))
  clear HC C1 F1 hc0 hc1 hf1
  go_region_held_law (fun W => W.cell? ⟨c, 0, none⟩ = some (.string s) ∧ W.cell? ⟨c, 1, none⟩ = some (.int .i64 ((p : Int) + n)) ∧ W.frozen? ⟨c, 1, none⟩ = false ∧ Fr B c w W)
    (first | assumption | exact hS | exact keptC hBw (by assumption) (by assumption))
    (first | (go_simp; go_at_call 58; refine (clone_any (s.extract p (p + n)) _ hx).mono ?_; rintro e w' ⟨rfl, hbn⟩))
  all_goals
    go_wp2
    go_ret2
    exact ⟨rfl, by go_split_ands; exact ⟨World.block_lt_of_cell? _ ⟨c, 0, none⟩ (by assumption), by assumption, by assumption, by assumption⟩, by go_split_ands; assumption⟩

end Go.Proofs.Ytodpbjomiplphab
