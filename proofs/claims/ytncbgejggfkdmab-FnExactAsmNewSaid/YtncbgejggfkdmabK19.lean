/- The contracts of chapter 12's model on parts and inits. -/
import Derived.Test.YtncbgejggfkdmabK10
import Derived.Test.YtncbgejggfkdmabK13
import Derived.Test.YtncbgejggfkdmabG11
import Derived.Deep.RegionHeldLaw
import Derived.Test.YtncbgejggfkdmabK4b
import Derived.Deep.QuietTactic
import Derived.BigQuiet
import Derived.IntWalk
namespace Go.Proofs.Ytncbgejggfkdmab
open Go.RowKit Go.PlainAid

/-- A number for a condition. -/
def bitV (x : Bool) (n : Int) : Int := if x then n else 0
theorem past_cell {w : World} {b i : Nat} {v : Value} (h : w.cell? ⟨b, i, none⟩ = some v) (o : Obj) : (w.alloc o).cell? ⟨b, i, none⟩ = some v := by
  rw [World.cell?_alloc_lt _ _ _ (World.block_lt_of_cell? w _ h)]
  exact h
theorem past3 {w : World} {b i : Nat} {v : Value} {o p q : Obj} (h : w.cell? ⟨b, i, none⟩ = some v) : (((w.alloc o).alloc p).alloc q).drew.cell? ⟨b, i, none⟩ = some v :=
  (World.cell?_drew _ _).trans (past_cell (past_cell (past_cell h o) p) q)
theorem stored3 {w : World} {b d i : Nat} {v x y z : Value} {o p q : Obj} (hd : d ≠ b) (h : w.cell? ⟨b, i, none⟩ = some v) :
    ((((((w.alloc o).alloc p).alloc q).setCell ⟨d, 0, none⟩ x).setCell ⟨d, 1, none⟩ y).setCell ⟨d, 2, none⟩ z).drew.cell? ⟨b, i, none⟩ = some v :=
  (World.cell?_drew _ _).trans (cell_far hd (cell_far hd (cell_far hd (past_cell (past_cell (past_cell h o) p) q))))
theorem pastN {w : World} {c : Nat} {vs : List Value} (h : VarN c vs w) (hc : c < w.heap.size) (i : Nat) (v : Value) (hi : vs[i]? = some v) (o p q : Obj) :
    (((w.alloc o).alloc p).alloc q).cell? ⟨c, i, none⟩ = some v ∧ (((w.alloc o).alloc p).alloc q).frozen? ⟨c, i, none⟩ = false :=
  (((h.alloc o hc).alloc p (by simp; omega)).alloc q (by simp; omega)) i v hi
theorem bits_flags (fi la lo : Bool) : bitV la 1 + bitV fi 2 + bitV lo 4 = flagsV fi la lo := rfl
theorem bits_range (fi la : Bool) : 0 ≤ bitV la 1 + bitV fi 2 ∧ bitV la 1 + bitV fi 2 ≤ 3 := by cases fi <;> cases la <;> decide
instance (a b c : Int) (t : ByteArray) : Decidable (DataOk a b c t) := by
  unfold DataOk
  infer_instance
/-- Whether a part is valid. -/
def dataOkV (a b c : Int) (t : ByteArray) : Bool := decide (DataOk a b c t)
theorem dataOkV_yes {a b c : Int} {t : ByteArray} (h : DataOk a b c t) : dataOkV a b c t = true := decide_eq_true h
theorem dataOkV_no {a b c : Int} {t : ByteArray} (h : ¬ DataOk a b c t) : dataOkV a b c t = false := decide_eq_false h
instance (a b c d : Int) : Decidable (InitOk a b c d) := by
  unfold InitOk
  infer_instance
/-- Whether an init is valid. -/
def initOkV (a b c d : Int) : Bool := decide (InitOk a b c d)
theorem initOkV_yes {a b c d : Int} (h : InitOk a b c d) : initOkV a b c d = true := decide_eq_true h
theorem initOkV_no {a b c d : Int} (h : ¬ InitOk a b c d) : initOkV a b c d = false := decide_eq_false h

set_option maxHeartbeats 400000 in
theorem l12Data_any (a b c : Int) (fi la lo : Bool) (t : ByteArray) (w : World) :
    Calls Try.prog 45 #[.agg #[.int .i64 a, .int .i64 b, .int .i64 c, .bool fi, .bool la, .bool lo, .string t]] w fun e w' => e = .returned (.bool (dataOkV a b c t)) ∧ Below w.heap.size w w' := by
  by_cases h1 : Ser a
  · have H1 := Lib.hid h1
    clear h1
    by_cases h2 : Ser b
    · have H2 := Lib.hid h2
      clear h2
      by_cases h3 : Ser c
      · have H3 := Lib.hid h3
        clear h3
        have E := Lib.hid (show decide ((1 : Int) ≤ t.size ∧ (t.size : Int) ≤ 20) = dataOkV a b c t by
          by_cases g : 1 ≤ t.size ∧ t.size ≤ 20
          · rw [dataOkV_yes ⟨ser_le H1.out, ser_le H2.out, ser_le H3.out, g.1, g.2⟩]; exact decide_eq_true (by omega)
          · rw [dataOkV_no fun h => g h.2.2.2]; exact decide_eq_false (by omega))
        go_enter Try.func45, Try.ntmps45
        go_wp2_with fail
        refine (l3Ok_yes a _ H1.out).mono ?_
        rintro e w1 ⟨rfl, rfl⟩
        go_wp2_with fail
        refine (l3Ok_yes b _ H2.out).mono ?_
        rintro e w1 ⟨rfl, rfl⟩
        go_wp2_with fail
        refine (l3Ok_yes c _ H3.out).mono ?_
        rintro e w1 ⟨rfl, rfl⟩
        go_wp2_with fail
        refine (l6In_any (t.size : Int) 1 20 _).mono ?_
        rintro e w1 ⟨rfl, rfl⟩
        rw [E.out]
        go_wp2
        go_ret
        exact ⟨rfl, below_box _ (Nat.le_refl _)⟩
      · have H3 := Lib.hid h3
        clear h3
        rw [dataOkV_no fun h => ser_not H3.out h.2.2.1]
        go_enter Try.func45, Try.ntmps45
        go_wp2_with fail
        refine (l3Ok_yes a _ H1.out).mono ?_
        rintro e w1 ⟨rfl, rfl⟩
        go_wp2_with fail
        refine (l3Ok_yes b _ H2.out).mono ?_
        rintro e w1 ⟨rfl, rfl⟩
        go_wp2_with fail
        refine (l3Ok_no c _ H3.out).mono ?_
        rintro e w1 ⟨rfl, rfl⟩
        go_wp2
        go_ret
        exact ⟨rfl, below_box _ (Nat.le_refl _)⟩
    · have H2 := Lib.hid h2
      clear h2
      rw [dataOkV_no fun h => ser_not H2.out h.2.1]
      go_enter Try.func45, Try.ntmps45
      go_wp2_with fail
      refine (l3Ok_yes a _ H1.out).mono ?_
      rintro e w1 ⟨rfl, rfl⟩
      go_wp2_with fail
      refine (l3Ok_no b _ H2.out).mono ?_
      rintro e w1 ⟨rfl, rfl⟩
      go_wp2
      go_ret
      exact ⟨rfl, below_box _ (Nat.le_refl _)⟩
  · have H1 := Lib.hid h1
    clear h1
    rw [dataOkV_no fun h => ser_not H1.out h.1]
    go_enter Try.func45, Try.ntmps45
    go_wp2_with fail
    refine (l3Ok_no a _ H1.out).mono ?_
    rintro e w1 ⟨rfl, rfl⟩
    go_wp2
    go_ret
    exact ⟨rfl, below_box _ (Nat.le_refl _)⟩

/-- A chunk was made, or none. -/
def madeV (k f : Int) (b : ByteArray) : Value := .tuple #[.agg #[.int .i64 k, .int .i64 f, .string b], .bool true]
def notMadeV : Value := .tuple #[.agg #[.int .i64 0, .int .i64 0, .string (ByteArray.mk #[])], .bool false]

end Go.Proofs.Ytncbgejggfkdmab
