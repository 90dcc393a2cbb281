/- The contracts of the drawing helper: a reader is opened over the given bytes, and each pick is a number in its range. -/
import Derived.Test.YtpdoegococcblaaG
import Derived.Deep.QuietTactic
import Derived.BigQuiet
import Derived.OpenShut
namespace Go.Proofs.Ytpdoegococcblaa
open Go.RowKit

/-- The bytes that a reader goes over: none, or a row below block B. -/
def Src (B : Nat) (w : World) (src : Option Addr) (len : Nat) : Prop :=
  len ≤ 2000 ∧ (len = 0 ∨ ∃ b off, src = some ⟨b, off, none⟩ ∧ b < B ∧ ∀ i, i < len → ∃ z : Int, 0 ≤ z ∧ z ≤ 255 ∧ w.cell? ⟨b, off + i, none⟩ = some (.int .u8 z))
/-- A reader at block r, from B on, whose place is at most m. -/
def Rd (B : Nat) (r m : Nat) (w : World) : Prop :=
  B ≤ r ∧ r < w.heap.size ∧ w.frozen? ⟨r, 1, none⟩ = false ∧ (∃ p : Nat, p ≤ m ∧ w.cell? ⟨r, 1, none⟩ = some (.int .i64 p)) ∧ ∃ src len cap, w.cell? ⟨r, 0, none⟩ = some (.slice src len cap) ∧ Src B w src len
/-- Only the place of the reader at block r has turned. -/
def Only (r : Nat) (w w' : World) : Prop := ∃ v q, w' = (w.setCell ⟨r, 1, none⟩ v).drewN q
/-- What a pick leaves. -/
def Picked (B r m : Nat) (n : Int) (w : World) (e : Ending) (w' : World) : Prop :=
  ∃ k : Int, e = .returned (.int .i64 k) ∧ 0 ≤ k ∧ k < n ∧ Rd B r (m + 1) w' ∧ Only r w w'

theorem Src.keep {B : Nat} {w w' : World} {src : Option Addr} {len : Nat} (h : Src B w src len) (hb : Below B w w') : Src B w' src len := by
  obtain ⟨h1, h2⟩ := h
  refine ⟨h1, ?_⟩
  rcases h2 with h2 | ⟨b, off, e, hlt, hc⟩
  · exact .inl h2
  · exact .inr ⟨b, off, e, hlt, fun i hi => by
      obtain ⟨z, a1, a2, a3⟩ := hc i hi
      exact ⟨z, a1, a2, (hb.cell (p := ⟨b, off + i, none⟩) hlt).trans a3⟩⟩
theorem Only.below {r B : Nat} {w w' : World} (h : Only r w w') (hB : B ≤ r) : Below B w w' := by
  obtain ⟨v, q, rfl⟩ := h
  exact below_drewN ((Below.refl _ _).setCell hB _) _
theorem Only.size {r : Nat} {w w' : World} (h : Only r w w') : w'.heap.size = w.heap.size := by
  obtain ⟨v, q, rfl⟩ := h
  simp [World.drewN]
/-- Whatever keeps all blocks that were there keeps a reader. -/
theorem Rd.keep {B r m C : Nat} {w w' : World} (h : Rd B r m w) (hb : Below C w w') (hC : r < C) : Rd B r m w' := by
  obtain ⟨h1, h2, h3, ⟨p, h4, h5⟩, src, len, cap, h6, h7⟩ := h
  exact ⟨h1, Nat.lt_of_lt_of_le h2 hb.size, (hb.frozen (p := ⟨r, 1, none⟩) hC).trans h3, ⟨p, h4, (hb.cell (p := ⟨r, 1, none⟩) hC).trans h5⟩, src, len, cap, (hb.cell (p := ⟨r, 0, none⟩) hC).trans h6, h7.keep (hb.mono (by omega))⟩
theorem Rd.mono {B r m m' : Nat} {w : World} (h : Rd B r m w) (hm : m ≤ m') : Rd B r m' w := by
  obtain ⟨h1, h2, h3, ⟨p, h4, h5⟩, h6⟩ := h
  exact ⟨h1, h2, h3, ⟨p, Nat.le_trans h4 hm, h5⟩, h6⟩
theorem picked_of {B r m p : Nat} {n k : Int} {w : World} {q : Nat} (h : Rd B r m w) (hp : p ≤ m) (h0 : 0 ≤ k) (h1 : k < n) :
    Picked B r m n w (.returned (.int .i64 k)) ((w.setCell ⟨r, 1, none⟩ (.int .i64 ((p : Int) + 1))).drewN q) := by
  have hb : Below B w ((w.setCell ⟨r, 1, none⟩ (.int .i64 ((p : Int) + 1))).drewN q) := below_drewN ((Below.refl _ _).setCell h.1 _) _
  obtain ⟨g1, g2, g3, ⟨p', g4, g5⟩, src, len, cap, g6, g7⟩ := h
  refine ⟨k, rfl, h0, h1, ⟨g1, by simpa [World.drewN] using g2, by rw [World.frozen?_drewN, World.frozen?_setCell]; exact g3, ⟨p + 1, by omega, ?_⟩, src, len, cap, ?_, g7.keep hb⟩, _, _, rfl⟩
  · rw [World.cell?_drewN, World.cell?_setCell_same _ _ _ g5]; simp
  · rw [World.cell?_drewN]; exact cell_other (by decide) g6
theorem picked_of' {B r m p : Nat} {n k : Int} {w : World} (h : Rd B r m w) (hp : p ≤ m) (h0 : 0 ≤ k) (h1 : k < n) :
    Picked B r m n w (.returned (.int .i64 k)) (w.setCell ⟨r, 1, none⟩ (.int .i64 ((p : Int) + 1))) := picked_of (q := 0) h hp h0 h1
theorem mod_lo (x n : Int) (h : 1 ≤ n) : 0 ≤ x % n := Int.emod_nonneg _ (by omega)
theorem mod_hi (x n : Int) (h : 1 ≤ n) : x % n < n := Int.emod_lt_of_pos _ (by omega)

set_option maxHeartbeats 1000000 in
theorem pick_any (B r m : Nat) (n : Int) (w : World) (h : Rd B r m w) (hm : m ≤ 1000000000) (hn : 1 ≤ n) (hn2 : n ≤ 4294967296) :
    Calls Try.prog 54 #[.pointer (some ⟨r, 0, none⟩), .int .i64 n] w (Picked B r m n w) := by
  have h' := h
  obtain ⟨g1, g2, g3, ⟨p, g4, g5⟩, src, len, cap, g6, g7, g8⟩ := h'
  by_cases hl : len = 0
  · subst hl
    have hnn : decide (n < 1) = false := by simp; omega
    go_enter Try.func54, Try.ntmps54
    go_wp2
    go_ret
    exact picked_of' h g4 (by omega) (by omega)
  · rcases g8 with g8 | ⟨b, off, rfl, hb, hc⟩
    · exact absurd g8 hl
    · have hne : ((len : Int) == 0) = false := by simp; omega
      by_cases hp : p < len
      · obtain ⟨z, z0, z1, hz⟩ := hc p hp
        have hzz : (w.setCell ⟨r, 1, none⟩ (.int .i64 (p + 1))).cell? ⟨b, off + p, none⟩ = some (.int .u8 z) := cell_far (by omega) hz
        go_enter Try.func54, Try.ntmps54
        go_wp2
        go_ret
        exact picked_of' h g4 (mod_lo _ _ hn) (mod_hi _ _ hn)
      · have hpl : ¬ (p : Int) < len := by omega
        have hlp : 0 < len := by omega
        obtain ⟨z1, z10, z11, hz1⟩ := hc (p % len) (Nat.mod_lt _ hlp)
        obtain ⟨z2, z20, z21, hz2⟩ := hc ((p * 7 + 3) % len) (Nat.mod_lt _ hlp)
        have hzz1 : (w.setCell ⟨r, 1, none⟩ (.int .i64 (p + 1))).cell? ⟨b, off + p % len, none⟩ = some (.int .u8 z1) := cell_far (by omega) hz1
        have hzz2 : (w.setCell ⟨r, 1, none⟩ (.int .i64 (p + 1))).cell? ⟨b, off + (p * 7 + 3) % len, none⟩ = some (.int .u8 z2) := cell_far (by omega) hz2
        have i0 : (0 : Int) ≤ (p : Int) % len := Int.emod_nonneg _ (by omega)
        have i1 : (p : Int) % len < len := Int.emod_lt_of_pos _ (by omega)
        have j0 : (0 : Int) ≤ ((p : Int) * 7 + 3) % len := Int.emod_nonneg _ (by omega)
        have j1 : ((p : Int) * 7 + 3) % len < len := Int.emod_lt_of_pos _ (by omega)
        have d0 : (0 : Int) ≤ (p : Int) / len := Int.ediv_nonneg (by omega) (by omega)
        have d1 : (p : Int) / len ≤ 1000000000 := Int.le_trans (Int.ediv_le_self _ (by omega)) (by omega)
        clear hz1 hz2 hc
        go_enter Try.func54, Try.ntmps54
        go_wp2
        go_quiet (fail)
        go_wp2
        go_ret
        exact picked_of h g4 (Int.tmod_nonneg _ (xor_nonneg _ _ (by omega) (by omega) (by omega) (by omega)).1) (Int.tmod_lt_of_pos _ (by omega))

/-- What opening a reader leaves. -/
def Opened (w : World) (e : Ending) (w' : World) : Prop :=
  ∃ r : Nat, e = .returned (.pointer (some ⟨r, 0, none⟩)) ∧ Rd w.heap.size r 0 w' ∧ Below w.heap.size w w'

theorem src_of {w : World} {x : Addr} {len cap n : Nat} {zs : List Int} (hl : len ≤ cap) (hz : zs.length = cap) (hn : n ≤ len) (hn2 : n ≤ 2000)
    (hc : ∀ i, i < zs.length → w.cell? (x.add i) = some (.int .u8 (zs.getD i 0))) (hw : ∀ z ∈ zs, (Lit.int .u8 z).wf = true) : Src w.heap.size w (some x) n := by
  refine ⟨hn2, ?_⟩
  rcases Nat.eq_zero_or_pos n with h0 | h0
  · exact .inl h0
  · obtain ⟨b, off, spot⟩ := x
    have h00 := hc 0 (by omega)
    have hspot : spot = none := by simpa [Addr.add] using World.cell?_spot h00
    subst hspot
    have hadd : ∀ i, (⟨b, off, none⟩ : Addr).add i = ⟨b, off + i, none⟩ := fun i => by unfold Addr.add; split <;> simp_all
    have hplain : ∀ i, w.cell? ⟨b, off + i, none⟩ = w.cell? ((⟨b, off, none⟩ : Addr).add i) := fun i => by rw [hadd]
    refine .inr ⟨b, off, rfl, lt_of_cell (by rw [hplain]; exact h00), fun i hi => ?_⟩
    have hi' : i < zs.length := by omega
    have hwf := hw (zs.getD i 0) (by rw [show zs.getD i 0 = zs[i] by simp [List.getD, List.getElem?_eq_getElem hi']]; exact List.getElem_mem hi')
    have hb := bounds_u8 hwf
    exact ⟨zs.getD i 0, hb.1, hb.2, by rw [hplain]; exact hc i hi'⟩

theorem opened_of {w : World} {src : Option Addr} {len cap : Nat} (h : Src w.heap.size w src len) :
    Opened w (.returned (.pointer (some ⟨w.heap.size, 0, none⟩))) (w.alloc (.cells #[.slice src len cap, .int .i64 0] 96)) := by
  have hb : Below w.heap.size w (w.alloc (.cells #[.slice src len cap, .int .i64 0] 96)) := (Below.refl _ _).alloc (Nat.le_refl _) _
  exact ⟨w.heap.size, rfl, ⟨Nat.le_refl _, by simp, by simp, ⟨0, Nat.le_refl _, by simp⟩, src, len, cap, by simp, h.keep hb⟩, hb⟩

set_option maxHeartbeats 400000 in
theorem l6Open_any (a : Option Addr) (len cap : Nat) (zs : List Int) (w : World) (h : IsRow .u8 w a len cap zs) :
    Calls Try.prog 37 #[.slice a len cap] w (Opened w) := by
  rcases h with ⟨rfl, rfl, rfl, rfl⟩ | ⟨x, rfl, hl, hm, hz, hc, hw⟩
  · go_enter Try.func37, Try.ntmps37
    go_wp2
    go_ret
    exact opened_of ⟨by omega, .inl rfl⟩
  · unfold maxLen at hm
    by_cases h2 : (2000 : Int) < len
    · have hs := src_of hl hz (n := 2000) (by omega) (by omega) hc hw
      clear hc hw
      go_enter Try.func37, Try.ntmps37
      go_wp2
      go_ret
      exact opened_of hs
    · have hs := src_of hl hz (n := len) (by omega) (by omega) hc hw
      clear hc hw
      go_enter Try.func37, Try.ntmps37
      go_wp2
      go_ret
      exact opened_of hs

end Go.Proofs.Ytpdoegococcblaa
