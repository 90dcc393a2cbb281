/- The contracts of the program's chapter 12: numbers of two bytes one after the other, written and read. -/
import Derived.Test.YtodpbjomiplphabK18r
import Derived.Test.YtodpbjomiplphabK20v
import Derived.Test.YtodpbjomiplphabG11
namespace Go.Proofs.Ytodpbjomiplphab
open Go.RowKit Go.PlainAid

/-- Numbers of two bytes, one after the other. -/
def wordsS (ns : List Int) : ByteArray := ns.foldl (fun o n => o ++ wordS n) (ByteArray.mk #[])
theorem wordsS_snoc (ns : List Int) (n : Int) : wordsS (ns ++ [n]) = wordsS ns ++ wordS n := by
  unfold wordsS
  rw [List.foldl_append]
  rfl
theorem wordsS_take (ns : List Int) (k : Nat) (h : k < ns.length) : wordsS (ns.take (k + 1)) = wordsS (ns.take k) ++ wordS ns[k] := by
  rw [← wordsS_snoc, List.take_add_one, List.getElem?_eq_getElem h]
  rfl
theorem wordsS_from (ns : List Int) (o : ByteArray) : (ns.foldl (fun o n => o ++ wordS n) o).size = o.size + 2 * ns.length := by
  induction ns generalizing o with
  | nil => rfl
  | cons x xs ih =>
    rw [List.foldl_cons, ih, ByteArray.size_append, wordS_size, List.length_cons]
    omega
theorem wordsS_size (ns : List Int) : (wordsS ns).size = 2 * ns.length := by
  unfold wordsS
  rw [wordsS_from]
  show 0 + _ = _
  omega
theorem wordsS_three (a b c : Int) : wordsS [a, b, c] = wordS a ++ wordS b ++ wordS c := by
  show ByteArray.mk #[] ++ wordS a ++ wordS b ++ wordS c = _
  rw [show ByteArray.mk #[] ++ wordS a = wordS a from ByteArray.empty_append]
theorem wordsS_two (a b : Int) : wordsS [a, b] = wordS a ++ wordS b := by
  show ByteArray.mk #[] ++ wordS a ++ wordS b = _
  rw [show ByteArray.mk #[] ++ wordS a = wordS a from ByteArray.empty_append]
theorem wordsS_one (a : Int) : wordsS [a] = wordS a := by
  show ByteArray.mk #[] ++ wordS a = _
  rw [show ByteArray.mk #[] ++ wordS a = wordS a from ByteArray.empty_append]

theorem Cur.put {c d i : Nat} {s : ByteArray} {p : Int} {w : World} (h : Cur c s p w) (hd : d ≠ c) (v : Value) : Cur c s p (w.setCell ⟨d, i, none⟩ v) := by
  obtain ⟨h0, h1, h2, h3⟩ := h
  exact ⟨by simpa using h0, cell_far hd h1, cell_far hd h2, by rw [World.frozen?_setCell]; exact h3⟩
theorem Cur.go {c : Nat} {s : ByteArray} {p q : Int} {w : World} (h : Cur c s p w) (e : p = q) : Cur c s q w := e ▸ h

set_option maxHeartbeats 400000 in
theorem has_big (c : Nat) (s : ByteArray) (p n : Int) (w : World) (hs : s.size ≤ 100000000) (hn0 : 0 ≤ n) (hn : n ≤ 100000000)
    (hc0 : w.cell? ⟨c, 0, none⟩ = some (.string s)) (hc1 : w.cell? ⟨c, 1, none⟩ = some (.int .i64 p)) (h0 : 0 ≤ p) (h1 : p ≤ s.size - n) :
    Calls Try.prog 44 #[.pointer (some ⟨c, 0, none⟩), .int .i64 n] w fun e w' => e = .returned (.bool true) ∧ ∃ k, w' = w.drewN k := by
  go_enter Try.func44, Try.ntmps44
  go_wp2
  go_quiet (fail)
  go_wp2
  go_ret
  exact ⟨rfl, _, rfl⟩

set_option maxHeartbeats 1000000 in
theorem piece_big (c : Nat) (s : ByteArray) (p n : Nat) (w : World) (hs : s.size ≤ 100000000)
    (hc : Cur c s p w) (h : p + n ≤ s.size) (B : Nat) (hB : B ≤ c) :
    Calls Try.prog 46 #[.pointer (some ⟨c, 0, none⟩), .int .i64 n] w fun e w' => e = .returned (.tuple #[.string (s.extract p (p + n)), .bool true]) ∧ Cur c s ((p : Int) + n) w' ∧ Fr B c w w' := by
  have HC := Lib.hid hc
  obtain ⟨hcl, hc0, hc1, hf1⟩ := hc
  have hBw : B ≤ w.heap.size := by omega
  have e1 : IntKind.i64.wrap ((p : Int) + n) = (p : Int) + n := IntWalk.i64_in _ (by omega)
  have i0 : (p : Int) ≤ (p : Int) + n := by omega
  have i1 : (p : Int) + n ≤ s.size := by omega
  have t1 : ((p : Int) + n).toNat = p + n := by omega
  have hx : (s.extract p (p + n)).size ≤ 100000000 := by rw [ByteArray.size_extract]; omega
  go_enter Try.func46, Try.ntmps46
  go_wp2_with (go_at_call 44; refine (has_big c s p n _ hs (by omega) (by omega) (by exact hc0) (by exact hc1) (by omega) (by omega)).mono ?_; rintro e w' ⟨rfl, q, rfl⟩)
  have C1 := (HC.out.drewN q).to ((p : Int) + n)
  have F1 := ((Fr.refl B c w).drewN q).own (i := 1) hB (.int .i64 ((p : Int) + n))
  have hS := keptC (W := (w.drewN q).setCell ⟨c, 1, none⟩ (.int .i64 ((p : Int) + n))) hBw ⟨C1.2.1, C1.2.2.1, C1.2.2.2, F1⟩ (Below.drew (Below.refl _ _))
  clear HC C1 F1 hc0 hc1 hf1
  go_region_held_law (fun W => W.cell? ⟨c, 0, none⟩ = some (.string s) ∧ W.cell? ⟨c, 1, none⟩ = some (.int .i64 ((p : Int) + n)) ∧ W.frozen? ⟨c, 1, none⟩ = false ∧ Fr B c w W)
    (first | assumption | exact hS | exact keptC hBw (by assumption) (by assumption))
    (first | (go_simp; go_at_call 58; refine (clone_any (s.extract p (p + n)) _ hx).mono ?_; rintro e w' ⟨rfl, hbn⟩))
  all_goals
    go_wp2
    go_ret2
    exact ⟨rfl, by go_split_ands; exact ⟨World.block_lt_of_cell? _ ⟨c, 0, none⟩ (by assumption), by assumption, by assumption, by assumption⟩, by go_split_ands; assumption⟩

end Go.Proofs.Ytodpbjomiplphab
