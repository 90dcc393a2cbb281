/- Plain lemmas on serial numbers: steps, differences, and which one is ahead. -/
import Derived.Test.YtncbgejggfkdmabG2
namespace Go.Proofs.Ytncbgejggfkdmab
open Go.RowKit Go.PlainAid

/-- A serial number. -/
def Ser (a : Int) : Prop := 0 ≤ a ∧ a < 65536
/-- Some steps behind a number. -/
def addS (a n : Int) : Int := (a + n) % 65536
/-- The steps from one number to another one. -/
def diffS (a b : Int) : Int := if 32768 < addS b (-a) then addS b (-a) - 65536 else addS b (-a)
/-- One number is ahead of the other. -/
def LessS (a b : Int) : Prop := 1 ≤ diffS a b ∧ diffS a b ≤ 32767
/-- A number is among those that follow each other. -/
def InS (n first many : Int) : Prop := Ser n ∧ Ser first ∧ 0 ≤ many ∧ many ≤ 32768 ∧ addS n (-first) < many

theorem rem_mod (a n : Int) : (a + Int.tmod n 65536 + 65536) % 65536 = addS a n := by
  have := Int.mul_tdiv_add_tmod n 65536
  unfold addS
  omega
theorem rem_range (n : Int) : -65536 < Int.tmod n 65536 ∧ Int.tmod n 65536 < 65536 := by
  have h1 := Int.tmod_lt_of_pos n (show (0 : Int) < 65536 by decide)
  refine ⟨?_, h1⟩
  by_cases h : 0 ≤ n
  · have := Int.tmod_nonneg 65536 h
    omega
  · have h2 := Int.tmod_lt_of_pos (-n) (show (0 : Int) < 65536 by decide)
    rw [Int.neg_tmod] at h2
    omega
theorem addS_ser (a n : Int) : Ser (addS a n) := by unfold Ser addS; omega
theorem addS_back {a : Int} (n : Int) (h : Ser a) : addS (addS a n) (-n) = a := by unfold Ser at h; unfold addS; omega
theorem addS_more (a n : Int) : addS a (n + 65536) = addS a n := by unfold addS; omega
theorem addS_fewer (a n : Int) : addS a (n - 65536) = addS a n := by unfold addS; omega
theorem addS_sum (a n k : Int) : addS (addS a n) k = addS a (n + k) := by unfold addS; omega
theorem addS_none {a : Int} (h : Ser a) : addS a 0 = a := by unfold Ser at h; unfold addS; omega
theorem diffS_range (a b : Int) : -32768 < diffS a b ∧ diffS a b ≤ 32768 := by unfold diffS addS; split <;> omega
theorem diffS_leads (a : Int) {b : Int} (h : Ser b) : addS a (diffS a b) = b := by unfold Ser at h; unfold diffS addS; split <;> omega
theorem diffS_half {a b : Int} (h : diffS a b = 32768) : diffS b a = 32768 := by revert h; unfold diffS addS; split <;> split <;> omega
theorem diffS_back {a b : Int} (h : diffS a b ≠ 32768) : diffS b a = -diffS a b := by revert h; unfold diffS addS; split <;> split <;> omega
theorem diffS_add {a k : Int} (h0 : 0 ≤ k) (h1 : k < 32768) : diffS a (addS a k) = k := by unfold diffS addS; split <;> omega
theorem diffS_sub {a k : Int} (h0 : 0 ≤ k) (h1 : k < 32768) : diffS a (addS a (-k)) = -k := by unfold diffS addS; split <;> omega
theorem diffS_move (a b k : Int) : diffS (addS a k) (addS b k) = diffS a b := by unfold diffS addS; split <;> split <;> omega
theorem diffS_same (a : Int) : diffS a a = 0 := by unfold diffS addS; split <;> omega
theorem diffS_zero {a b : Int} (ha : Ser a) (hb : Ser b) (h : diffS a b = 0) : a = b := by
  unfold Ser at ha hb
  revert h
  unfold diffS addS
  split <;> omega
theorem lessS_other {a b : Int} (h : LessS a b) : ¬ LessS b a := by
  unfold LessS at *
  have := diffS_back (a := a) (b := b) (by omega)
  omega
theorem lessS_ne {a b : Int} (h : LessS a b) : a ≠ b := fun e => by
  unfold LessS at h
  rw [e, diffS_same] at h
  omega
theorem lessS_none (a b : Int) : (¬ LessS a b ∧ ¬ LessS b a) ↔ (diffS a b = 0 ∨ diffS a b = 32768) := by
  have hr := diffS_range a b
  unfold LessS
  by_cases h : diffS a b = 32768
  · have := diffS_half h
    omega
  · have := diffS_back h
    omega
theorem lessS_add {a k : Int} (h0 : 1 ≤ k) (h1 : k ≤ 32767) : LessS a (addS a k) := by
  unfold LessS
  rw [diffS_add (by omega) (by omega)]
  exact ⟨h0, h1⟩
theorem lessS_sub {a k : Int} (h0 : 1 ≤ k) (h1 : k ≤ 32767) : ¬ LessS a (addS a (-k)) := by
  unfold LessS
  rw [diffS_sub (by omega) (by omega)]
  omega
/-- Among them: the steps from the first one are not negative, and fewer than they are. -/
theorem inS_diff {n first many : Int} (hn : Ser n) (hf : Ser first) (h0 : 0 ≤ many) (h1 : many ≤ 32768) : InS n first many ↔ (0 ≤ diffS first n ∧ diffS first n < many) := by
  unfold InS
  unfold Ser at *
  unfold diffS addS
  split <;> omega
theorem inS_first {n first many : Int} (h : InS n first many) : InS first first many := by
  unfold InS Ser addS at *
  omega
theorem inS_end {n first many : Int} (h : InS n first many) : ¬ InS (addS first many) first many := by
  unfold InS Ser addS at *
  omega
theorem inS_last {n first many : Int} (h : InS n first many) : InS (addS first (many - 1)) first many := by
  unfold InS Ser addS at *
  omega

/-- What SerialAdd answers. -/
def addV (a n : Int) : Int := if 0 ≤ a ∧ a ≤ 65535 then addS a n else -1
/-- What SerialDiff answers. -/
def diffV (a b : Int) : Int := if (0 ≤ a ∧ a ≤ 65535) ∧ (0 ≤ b ∧ b ≤ 65535) then diffS a b else -65536
/-- What SerialLess answers. -/
def lessV (a b : Int) : Bool := decide ((0 ≤ a ∧ a ≤ 65535) ∧ (0 ≤ b ∧ b ≤ 65535) ∧ 1 ≤ diffS a b ∧ diffS a b ≤ 32767)
/-- What SerialLast answers. -/
def lastV (a b : Int) : Int := if (0 ≤ a ∧ a ≤ 65535) ∧ (0 ≤ b ∧ b ≤ 65535) then (if lessV a b = true then b else a) else -1
instance (n first many : Int) : Decidable (InS n first many) := by
  unfold InS Ser
  infer_instance
/-- What SerialIn answers. -/
def inV (n first many : Int) : Bool := decide (InS n first many)

theorem ser_le {a : Int} (h : Ser a) : 0 ≤ a ∧ a ≤ 65535 := by unfold Ser at h; omega
theorem ser_not {a : Int} (h : ¬ Ser a) : ¬ (0 ≤ a ∧ a ≤ 65535) := by unfold Ser at h; omega
theorem addV_yes {a : Int} (n : Int) (h : Ser a) : addV a n = addS a n := if_pos (ser_le h)
theorem addV_no {a : Int} (n : Int) (h : ¬ Ser a) : addV a n = -1 := if_neg (ser_not h)
theorem diffV_yes {a b : Int} (ha : Ser a) (hb : Ser b) : diffV a b = diffS a b := if_pos ⟨ser_le ha, ser_le hb⟩
theorem diffV_left {a : Int} (b : Int) (ha : ¬ Ser a) : diffV a b = -65536 := if_neg fun h => ser_not ha h.1
theorem diffV_right (a : Int) {b : Int} (hb : ¬ Ser b) : diffV a b = -65536 := if_neg fun h => ser_not hb h.2
theorem lessV_yes {a b : Int} (ha : Ser a) (hb : Ser b) (h : LessS a b) : lessV a b = true := decide_eq_true ⟨ser_le ha, ser_le hb, h⟩
theorem lessV_no {a b : Int} (h : ¬ LessS a b) : lessV a b = false := decide_eq_false fun g => h g.2.2
theorem lessV_left {a : Int} (b : Int) (ha : ¬ Ser a) : lessV a b = false := decide_eq_false fun h => ser_not ha h.1
theorem lessV_right (a : Int) {b : Int} (hb : ¬ Ser b) : lessV a b = false := decide_eq_false fun h => ser_not hb h.2.1
theorem lessV_ser {a b : Int} (h : lessV a b = true) : Ser a ∧ Ser b ∧ LessS a b := by
  have g := of_decide_eq_true h
  refine ⟨?_, ?_, g.2.2⟩ <;> unfold Ser <;> omega
theorem lastV_less {a b : Int} (ha : Ser a) (hb : Ser b) (h : LessS a b) : lastV a b = b := by
  unfold lastV
  rw [if_pos ⟨ser_le ha, ser_le hb⟩, if_pos (lessV_yes ha hb h)]
theorem lastV_other {a b : Int} (ha : Ser a) (hb : Ser b) (h : ¬ LessS a b) : lastV a b = a := by
  unfold lastV
  rw [if_pos ⟨ser_le ha, ser_le hb⟩, lessV_no h, if_neg (by decide)]
theorem lastV_left {a : Int} (b : Int) (ha : ¬ Ser a) : lastV a b = -1 := if_neg fun h => ser_not ha h.1
theorem lastV_right (a : Int) {b : Int} (hb : ¬ Ser b) : lastV a b = -1 := if_neg fun h => ser_not hb h.2
theorem inV_yes {n first many : Int} (h : InS n first many) : inV n first many = true := decide_eq_true h
theorem inV_no {n first many : Int} (h : ¬ InS n first many) : inV n first many = false := decide_eq_false h
theorem inV_self {n : Int} (h : Ser n) : inV n n 1 = true := by
  refine inV_yes ?_
  unfold InS Ser addS at *
  omega
theorem inV_self_no {n : Int} (h : ¬ Ser n) : inV n n 1 = false := inV_no fun g => h g.1
theorem inV_many_no {n first many : Int} (h : ¬ (0 ≤ many ∧ many ≤ 32768)) : inV n first many = false := inV_no fun g => h ⟨g.2.2.1, g.2.2.2.1⟩

end Go.Proofs.Ytncbgejggfkdmab
