/- Plain lemmas on checksums: what the two parts are after some bytes, and how they turn when a byte is changed, exchanged or added. -/
import Derived.Test.YtcpdpamoddmpaaaG2
namespace Go.Proofs.Ytcpdpamoddmpaaa
open Go.RowKit Go.PlainAid

/-- The bytes of a text as numbers. -/
def nums (s : ByteArray) : List Int := s.data.toList.map fun c => (c.toNat : Int)
/-- The sum of some numbers. -/
def tot : List Int → Int
  | [] => 0
  | c :: l => c + tot l
/-- What the second part grows by, the first one being a. -/
def tri : Int → List Int → Int
  | _, [] => 0
  | a, c :: l => (a + c) + tri (a + c) l
/-- Both parts, byte by byte. -/
def sumRun : Int → Int → List Int → Int × Int
  | a, b, [] => (a, b)
  | a, b, c :: l => sumRun ((a + c) % 65521) ((b + (a + c) % 65521) % 65521) l
def sumOf (p : Int × Int) : Int := 65536 * p.2 + p.1
/-- The checksum that a given one becomes. -/
def sumNext (sum : Int) (s : ByteArray) : Int := sumOf (sumRun (sum % 65536) (sum / 65536) (nums s))

theorem sumRun_append (a b : Int) (l m : List Int) : sumRun a b (l ++ m) = sumRun (sumRun a b l).1 (sumRun a b l).2 m := by
  induction l generalizing a b with
  | nil => rfl
  | cons c l ih => exact ih _ _
theorem tri_mod (a : Int) (l : List Int) : (tri (a % 65521) l) % 65521 = tri a l % 65521 := by
  induction l generalizing a with
  | nil => rfl
  | cons c l ih =>
    simp only [tri]
    have h1 := ih (a % 65521 + c)
    have h2 := ih (a + c)
    rw [show (a % 65521 + c) % 65521 = (a + c) % 65521 by omega] at h1
    omega
theorem sumRun_eq (a b : Int) (l : List Int) : (sumRun a b l).1 % 65521 = (a + tot l) % 65521 ∧ (sumRun a b l).2 % 65521 = (b + tri a l) % 65521 := by
  induction l generalizing a b with
  | nil => simp [sumRun, tot, tri]
  | cons c l ih =>
    have h := ih ((a + c) % 65521) ((b + (a + c) % 65521) % 65521)
    have ht := tri_mod (a + c) l
    simp only [sumRun, tot, tri]
    rw [h.1, h.2]
    constructor <;> omega
theorem sumRun_range (a b : Int) (l : List Int) (ha : 0 ≤ a ∧ a < 65521) (hb : 0 ≤ b ∧ b < 65521) : (0 ≤ (sumRun a b l).1 ∧ (sumRun a b l).1 < 65521) ∧ (0 ≤ (sumRun a b l).2 ∧ (sumRun a b l).2 < 65521) := by
  induction l generalizing a b with
  | nil => exact ⟨ha, hb⟩
  | cons c l ih => exact ih _ _ (by omega) (by omega)
theorem sumRun_first (a b : Int) (l : List Int) (ha : 0 ≤ a ∧ a < 65521) (hb : 0 ≤ b ∧ b < 65521) : (sumRun a b l).1 = (a + tot l) % 65521 := by
  have := (sumRun_eq a b l).1
  have := (sumRun_range a b l ha hb).1
  omega
theorem sumRun_second (a b : Int) (l : List Int) (ha : 0 ≤ a ∧ a < 65521) (hb : 0 ≤ b ∧ b < 65521) : (sumRun a b l).2 = (b + tri a l) % 65521 := by
  have := (sumRun_eq a b l).2
  have := (sumRun_range a b l ha hb).2
  omega
theorem sumOf_inj {p q : Int × Int} (hp : 0 ≤ p.1 ∧ p.1 < 65521) (hq : 0 ≤ q.1 ∧ q.1 < 65521) (h : sumOf p = sumOf q) : p.1 = q.1 ∧ p.2 = q.2 := by
  unfold sumOf at h
  omega
theorem sumOf_parts (p : Int × Int) (h1 : 0 ≤ p.1 ∧ p.1 < 65521) : sumOf p % 65536 = p.1 ∧ sumOf p / 65536 = p.2 := by
  unfold sumOf
  omega
theorem tot_append (l m : List Int) : tot (l ++ m) = tot l + tot m := by
  induction l with
  | nil => simp [tot]
  | cons c l ih => simp only [List.cons_append, tot, ih]; omega
theorem tri_append (a : Int) (l m : List Int) : tri a (l ++ m) = tri a l + tri (a + tot l) m := by
  induction l generalizing a with
  | nil => simp [tri, tot]
  | cons c l ih =>
    simp only [List.cons_append, tri, tot, ih]
    rw [show a + (c + tot l) = a + c + tot l by omega]
    omega
/-- Continuing by two texts one after the other. -/
theorem sumNext_join (sum : Int) (l m : List Int) (h : 0 ≤ sum ∧ sum % 65536 < 65521 ∧ sum / 65536 < 65521) :
    sumOf (sumRun (sumOf (sumRun (sum % 65536) (sum / 65536) l) % 65536) (sumOf (sumRun (sum % 65536) (sum / 65536) l) / 65536) m) = sumOf (sumRun (sum % 65536) (sum / 65536) (l ++ m)) := by
  have hr := sumRun_range (sum % 65536) (sum / 65536) l (by omega) (by omega)
  have hp := sumOf_parts _ hr.1
  rw [hp.1, hp.2, sumRun_append]
/-- A changed byte is seen in the first part. -/
theorem sum_byte (a b : Int) (l m : List Int) (c d : Int) (ha : 0 ≤ a ∧ a < 65521) (hb : 0 ≤ b ∧ b < 65521) (hcd : c ≠ d) (hc : 0 ≤ c ∧ c ≤ 255) (hd : 0 ≤ d ∧ d ≤ 255) :
    sumOf (sumRun a b (l ++ c :: m)) ≠ sumOf (sumRun a b (l ++ d :: m)) := fun h => by
  have r1 := sumRun_range a b (l ++ c :: m) ha hb
  have r2 := sumRun_range a b (l ++ d :: m) ha hb
  have e := (sumOf_inj r1.1 r2.1 h).1
  rw [sumRun_first a b _ ha hb, sumRun_first a b _ ha hb, tot_append, tot_append] at e
  simp only [tot] at e
  omega
/-- Two bytes that are exchanged are seen in the second part, if they differ. -/
theorem sum_swap (a b : Int) (l m : List Int) (c d : Int) (ha : 0 ≤ a ∧ a < 65521) (hb : 0 ≤ b ∧ b < 65521) (hc : 0 ≤ c ∧ c ≤ 255) (hd : 0 ≤ d ∧ d ≤ 255) :
    sumOf (sumRun a b (l ++ c :: d :: m)) = sumOf (sumRun a b (l ++ d :: c :: m)) ↔ c = d := by
  constructor
  · intro h
    have r1 := sumRun_range a b (l ++ c :: d :: m) ha hb
    have r2 := sumRun_range a b (l ++ d :: c :: m) ha hb
    have e := (sumOf_inj r1.1 r2.1 h).2
    rw [sumRun_second a b _ ha hb, sumRun_second a b _ ha hb, tri_append, tri_append] at e
    simp only [tri] at e
    rw [show a + tot l + d + c = a + tot l + c + d by omega] at e
    omega
  · rintro rfl
    rfl
/-- A further byte 0 is seen in the second part, if the first one is not 0. -/
theorem sum_zero (a b : Int) (l : List Int) (ha : 0 ≤ a ∧ a < 65521) (hb : 0 ≤ b ∧ b < 65521) (hn : (a + tot l) % 65521 ≠ 0) :
    sumOf (sumRun a b (l ++ [0])) ≠ sumOf (sumRun a b l) := fun h => by
  have r1 := sumRun_range a b (l ++ [0]) ha hb
  have r2 := sumRun_range a b l ha hb
  have e := (sumOf_inj r1.1 r2.1 h).2
  rw [sumRun_second a b _ ha hb, sumRun_second a b _ ha hb, tri_append] at e
  simp only [tri] at e
  omega

end Go.Proofs.Ytcpdpamoddmpaaa
