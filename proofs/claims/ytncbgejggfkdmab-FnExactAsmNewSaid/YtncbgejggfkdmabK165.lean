/- The contracts of AsmNew, the program's and the model's; its draw. -/
import Derived.Test.YtncbgejggfkdmabK159
import Derived.Test.YtncbgejggfkdmabK130
import Derived.Test.YtncbgejggfkdmabK4a
namespace Go.Proofs.Ytncbgejggfkdmab
open Go.RowKit Go.PlainAid

theorem flat_rep (n : Nat) : flatN (List.replicate n 0) = List.replicate n (.int .i64 0) := by
  induction n with
  | zero => rfl
  | succ n ih =>
    rw [List.replicate_succ, List.replicate_succ, ← ih]
    rfl
/-- A new assembly: n numbers of one's own, all zero, and parts of one's own. -/
def NewA (n : Nat) (w : World) (e : Ending) (w' : World) : Prop :=
  ∃ g p, e = .returned (.tuple #[.agg #[.slice (some ⟨g, 0, none⟩) n n, .slice p 0 0], .bool true]) ∧ w'.ownsRow w.heap.size 3 1 (.slice (some ⟨g, 0, none⟩) n n) n (flatN (List.replicate n 0)) ∧ w'.ownsRow w.heap.size 43 7 (.slice p 0 0) 0 (flatP []) ∧ Below w.heap.size w w'
def NoA (w : World) (e : Ending) (w' : World) : Prop := e = .returned (.tuple #[.agg #[.slice none 0 0, .slice none 0 0], .bool false]) ∧ Below w.heap.size w w'

set_option maxHeartbeats 1000000 in
theorem asmNew_1 (w : World) : Calls Try.prog 13 #[.int .i64 1] w (NewA 1 w) := by
  have hmk : ∀ w, (Instr.makeSlice 24 (.int .i64 1) (.int .i64 1)).run Try.prog w = .ok (.slice (some ⟨w.heap.size, 0, none⟩) 1 1) (w.alloc (.cells #[.int .i64 0] 3)) := fun _ => by kernel_rfl
  have Z := (VarN.new w [.slice (some ⟨w.heap.size + 1, 0, none⟩) 1 1, .slice none 0 0] 27).alloc (.cells #[.int .i64 0] 3) (by simp)
  have z0 := (Z 0 _ rfl).1
  have z1 := (Z 1 _ rfl).1
  have O := Lib.hid (World.ownsRow_lit (base := w.heap.size) (e := 3) (size := 1) (w.alloc (.cells (List.toArray [.slice (some ⟨w.heap.size + 1, 0, none⟩) 1 1, .slice none 0 0]) 27)) #[.int .i64 0] 1 (by simp) (by decide) rfl)
  have B := Lib.hid (show Below w.heap.size w ((w.alloc (.cells (List.toArray [.slice (some ⟨w.heap.size + 1, 0, none⟩) 1 1, .slice none 0 0]) 27)).alloc (.cells #[.int .i64 0] 3)) from (below_box _ (Nat.le_refl _)).alloc (by simp) _)
  clear Z
  go_enter Try.func13, Try.ntmps13
  go_wp2
  refine bodyPost_ret (v := .tuple #[.agg #[.slice (some ⟨w.heap.size + 1, 0, none⟩) 1 1, .slice none 0 0], .bool true]) ?_ rfl ?_
  · simp [results, Try.results13, go_sem, z0, z1]
  · refine ⟨w.heap.size + 1, none, rfl, ?_, World.ownsRow_nil _ _ _ _, B.out⟩
    have h := O.out
    rw [flat_rep]
    simpa using h

set_option maxHeartbeats 1000000 in
theorem sAsmNew_1 (w : World) : Calls Try.prog 14 #[.int .i64 1] w (NewA 1 w) := by
  have hmk : ∀ w, (Instr.makeSlice 24 (.int .i64 1) (.int .i64 1)).run Try.prog w = .ok (.slice (some ⟨w.heap.size, 0, none⟩) 1 1) (w.alloc (.cells #[.int .i64 0] 3)) := fun _ => by kernel_rfl
  have Z := (VarN.new w [.slice (some ⟨w.heap.size + 1, 0, none⟩) 1 1, .slice (some ⟨w.heap.size + 1 + 1, 0, none⟩) 0 0] 27).alloc (.cells #[.int .i64 0] 3) (by simp)
  have Z := Z.alloc (.cells #[] 43) (by first | (simp; done) | (simp; omega))
  have z0 := (Z 0 _ rfl).1
  have z1 := (Z 1 _ rfl).1
  have O := Lib.hid (World.ownsRow_lit (base := w.heap.size) (e := 3) (size := 1) (w.alloc (.cells (List.toArray [.slice (some ⟨w.heap.size + 1, 0, none⟩) 1 1, .slice (some ⟨w.heap.size + 1 + 1, 0, none⟩) 0 0]) 27)) #[.int .i64 0] 1 (by simp) (by decide) rfl)
  have Q := Lib.hid (World.ownsRow_lit (base := w.heap.size) (e := 43) (size := 7) ((w.alloc (.cells (List.toArray [.slice (some ⟨w.heap.size + 1, 0, none⟩) 1 1, .slice (some ⟨w.heap.size + 1 + 1, 0, none⟩) 0 0]) 27)).alloc (.cells #[.int .i64 0] 3)) #[] 0 (by first | (simp; done) | (simp; omega)) (by decide) rfl)
  have B := Lib.hid (show Below w.heap.size w (((w.alloc (.cells (List.toArray [.slice (some ⟨w.heap.size + 1, 0, none⟩) 1 1, .slice (some ⟨w.heap.size + 1 + 1, 0, none⟩) 0 0]) 27)).alloc (.cells #[.int .i64 0] 3)).alloc (.cells #[] 43)) from ((below_box _ (Nat.le_refl _)).alloc (by simp) _).alloc (by first | (simp; done) | (simp; omega)) _)
  clear Z
  go_enter Try.func14, Try.ntmps14
  go_wp2_with fail
  refine (l6In_any 1 1 4 _).mono ?_
  rintro e w' ⟨rfl, rfl⟩
  go_wp2
  refine bodyPost_ret (v := .tuple #[.agg #[.slice (some ⟨w.heap.size + 1, 0, none⟩) 1 1, .slice (some ⟨w.heap.size + 1 + 1, 0, none⟩) 0 0], .bool true]) ?_ rfl ?_
  · simp [results, Try.results14, go_sem, z0, z1]
  · refine ⟨w.heap.size + 1, _, rfl, ?_, ?_, B.out⟩
    · have h := O.out.alloc (.cells #[] 43)
      rw [flat_rep]
      simpa using h
    · have h := Q.out
      simpa [flatP] using h

set_option maxHeartbeats 1000000 in
theorem asmNew_2 (w : World) : Calls Try.prog 13 #[.int .i64 2] w (NewA 2 w) := by
  have hmk : ∀ w, (Instr.makeSlice 24 (.int .i64 2) (.int .i64 2)).run Try.prog w = .ok (.slice (some ⟨w.heap.size, 0, none⟩) 2 2) (w.alloc (.cells #[.int .i64 0, .int .i64 0] 3)) := fun _ => by kernel_rfl
  have Z := (VarN.new w [.slice (some ⟨w.heap.size + 1, 0, none⟩) 2 2, .slice none 0 0] 27).alloc (.cells #[.int .i64 0, .int .i64 0] 3) (by simp)
  have z0 := (Z 0 _ rfl).1
  have z1 := (Z 1 _ rfl).1
  have O := Lib.hid (World.ownsRow_lit (base := w.heap.size) (e := 3) (size := 1) (w.alloc (.cells (List.toArray [.slice (some ⟨w.heap.size + 1, 0, none⟩) 2 2, .slice none 0 0]) 27)) #[.int .i64 0, .int .i64 0] 2 (by simp) (by decide) rfl)
  have B := Lib.hid (show Below w.heap.size w ((w.alloc (.cells (List.toArray [.slice (some ⟨w.heap.size + 1, 0, none⟩) 2 2, .slice none 0 0]) 27)).alloc (.cells #[.int .i64 0, .int .i64 0] 3)) from (below_box _ (Nat.le_refl _)).alloc (by simp) _)
  clear Z
  go_enter Try.func13, Try.ntmps13
  go_wp2
  refine bodyPost_ret (v := .tuple #[.agg #[.slice (some ⟨w.heap.size + 1, 0, none⟩) 2 2, .slice none 0 0], .bool true]) ?_ rfl ?_
  · simp [results, Try.results13, go_sem, z0, z1]
  · refine ⟨w.heap.size + 1, none, rfl, ?_, World.ownsRow_nil _ _ _ _, B.out⟩
    have h := O.out
    rw [flat_rep]
    simpa using h

set_option maxHeartbeats 1000000 in
theorem sAsmNew_2 (w : World) : Calls Try.prog 14 #[.int .i64 2] w (NewA 2 w) := by
  have hmk : ∀ w, (Instr.makeSlice 24 (.int .i64 2) (.int .i64 2)).run Try.prog w = .ok (.slice (some ⟨w.heap.size, 0, none⟩) 2 2) (w.alloc (.cells #[.int .i64 0, .int .i64 0] 3)) := fun _ => by kernel_rfl
  have Z := (VarN.new w [.slice (some ⟨w.heap.size + 1, 0, none⟩) 2 2, .slice (some ⟨w.heap.size + 1 + 1, 0, none⟩) 0 0] 27).alloc (.cells #[.int .i64 0, .int .i64 0] 3) (by simp)
  have Z := Z.alloc (.cells #[] 43) (by first | (simp; done) | (simp; omega))
  have z0 := (Z 0 _ rfl).1
  have z1 := (Z 1 _ rfl).1
  have O := Lib.hid (World.ownsRow_lit (base := w.heap.size) (e := 3) (size := 1) (w.alloc (.cells (List.toArray [.slice (some ⟨w.heap.size + 1, 0, none⟩) 2 2, .slice (some ⟨w.heap.size + 1 + 1, 0, none⟩) 0 0]) 27)) #[.int .i64 0, .int .i64 0] 2 (by simp) (by decide) rfl)
  have Q := Lib.hid (World.ownsRow_lit (base := w.heap.size) (e := 43) (size := 7) ((w.alloc (.cells (List.toArray [.slice (some ⟨w.heap.size + 1, 0, none⟩) 2 2, .slice (some ⟨w.heap.size + 1 + 1, 0, none⟩) 0 0]) 27)).alloc (.cells #[.int .i64 0, .int .i64 0] 3)) #[] 0 (by first | (simp; done) | (simp; omega)) (by decide) rfl)
  have B := Lib.hid (show Below w.heap.size w (((w.alloc (.cells (List.toArray [.slice (some ⟨w.heap.size + 1, 0, none⟩) 2 2, .slice (some ⟨w.heap.size + 1 + 1, 0, none⟩) 0 0]) 27)).alloc (.cells #[.int .i64 0, .int .i64 0] 3)).alloc (.cells #[] 43)) from ((below_box _ (Nat.le_refl _)).alloc (by simp) _).alloc (by first | (simp; done) | (simp; omega)) _)
  clear Z
  go_enter Try.func14, Try.ntmps14
  go_wp2_with fail
  refine (l6In_any 2 1 4 _).mono ?_
  rintro e w' ⟨rfl, rfl⟩
  go_wp2
  refine bodyPost_ret (v := .tuple #[.agg #[.slice (some ⟨w.heap.size + 1, 0, none⟩) 2 2, .slice (some ⟨w.heap.size + 1 + 1, 0, none⟩) 0 0], .bool true]) ?_ rfl ?_
  · simp [results, Try.results14, go_sem, z0, z1]
  · refine ⟨w.heap.size + 1, _, rfl, ?_, ?_, B.out⟩
    · have h := O.out.alloc (.cells #[] 43)
      rw [flat_rep]
      simpa using h
    · have h := Q.out
      simpa [flatP] using h

set_option maxHeartbeats 1000000 in
theorem asmNew_3 (w : World) : Calls Try.prog 13 #[.int .i64 3] w (NewA 3 w) := by
  have hmk : ∀ w, (Instr.makeSlice 24 (.int .i64 3) (.int .i64 3)).run Try.prog w = .ok (.slice (some ⟨w.heap.size, 0, none⟩) 3 3) (w.alloc (.cells #[.int .i64 0, .int .i64 0, .int .i64 0] 3)) := fun _ => by kernel_rfl
  have Z := (VarN.new w [.slice (some ⟨w.heap.size + 1, 0, none⟩) 3 3, .slice none 0 0] 27).alloc (.cells #[.int .i64 0, .int .i64 0, .int .i64 0] 3) (by simp)
  have z0 := (Z 0 _ rfl).1
  have z1 := (Z 1 _ rfl).1
  have O := Lib.hid (World.ownsRow_lit (base := w.heap.size) (e := 3) (size := 1) (w.alloc (.cells (List.toArray [.slice (some ⟨w.heap.size + 1, 0, none⟩) 3 3, .slice none 0 0]) 27)) #[.int .i64 0, .int .i64 0, .int .i64 0] 3 (by simp) (by decide) rfl)
  have B := Lib.hid (show Below w.heap.size w ((w.alloc (.cells (List.toArray [.slice (some ⟨w.heap.size + 1, 0, none⟩) 3 3, .slice none 0 0]) 27)).alloc (.cells #[.int .i64 0, .int .i64 0, .int .i64 0] 3)) from (below_box _ (Nat.le_refl _)).alloc (by simp) _)
  clear Z
  go_enter Try.func13, Try.ntmps13
  go_wp2
  refine bodyPost_ret (v := .tuple #[.agg #[.slice (some ⟨w.heap.size + 1, 0, none⟩) 3 3, .slice none 0 0], .bool true]) ?_ rfl ?_
  · simp [results, Try.results13, go_sem, z0, z1]
  · refine ⟨w.heap.size + 1, none, rfl, ?_, World.ownsRow_nil _ _ _ _, B.out⟩
    have h := O.out
    rw [flat_rep]
    simpa using h

set_option maxHeartbeats 1000000 in
theorem sAsmNew_3 (w : World) : Calls Try.prog 14 #[.int .i64 3] w (NewA 3 w) := by
  have hmk : ∀ w, (Instr.makeSlice 24 (.int .i64 3) (.int .i64 3)).run Try.prog w = .ok (.slice (some ⟨w.heap.size, 0, none⟩) 3 3) (w.alloc (.cells #[.int .i64 0, .int .i64 0, .int .i64 0] 3)) := fun _ => by kernel_rfl
  have Z := (VarN.new w [.slice (some ⟨w.heap.size + 1, 0, none⟩) 3 3, .slice (some ⟨w.heap.size + 1 + 1, 0, none⟩) 0 0] 27).alloc (.cells #[.int .i64 0, .int .i64 0, .int .i64 0] 3) (by simp)
  have Z := Z.alloc (.cells #[] 43) (by first | (simp; done) | (simp; omega))
  have z0 := (Z 0 _ rfl).1
  have z1 := (Z 1 _ rfl).1
  have O := Lib.hid (World.ownsRow_lit (base := w.heap.size) (e := 3) (size := 1) (w.alloc (.cells (List.toArray [.slice (some ⟨w.heap.size + 1, 0, none⟩) 3 3, .slice (some ⟨w.heap.size + 1 + 1, 0, none⟩) 0 0]) 27)) #[.int .i64 0, .int .i64 0, .int .i64 0] 3 (by simp) (by decide) rfl)
  have Q := Lib.hid (World.ownsRow_lit (base := w.heap.size) (e := 43) (size := 7) ((w.alloc (.cells (List.toArray [.slice (some ⟨w.heap.size + 1, 0, none⟩) 3 3, .slice (some ⟨w.heap.size + 1 + 1, 0, none⟩) 0 0]) 27)).alloc (.cells #[.int .i64 0, .int .i64 0, .int .i64 0] 3)) #[] 0 (by first | (simp; done) | (simp; omega)) (by decide) rfl)
  have B := Lib.hid (show Below w.heap.size w (((w.alloc (.cells (List.toArray [.slice (some ⟨w.heap.size + 1, 0, none⟩) 3 3, .slice (some ⟨w.heap.size + 1 + 1, 0, none⟩) 0 0]) 27)).alloc (.cells #[.int .i64 0, .int .i64 0, .int .i64 0] 3)).alloc (.cells #[] 43)) from ((below_box _ (Nat.le_refl _)).alloc (by simp) _).alloc (by first | (simp; done) | (simp; omega)) _)
  clear Z
  go_enter Try.func14, Try.ntmps14
  go_wp2_with fail
  refine (l6In_any 3 1 4 _).mono ?_
  rintro e w' ⟨rfl, rfl⟩
  go_wp2
  refine bodyPost_ret (v := .tuple #[.agg #[.slice (some ⟨w.heap.size + 1, 0, none⟩) 3 3, .slice (some ⟨w.heap.size + 1 + 1, 0, none⟩) 0 0], .bool true]) ?_ rfl ?_
  · simp [results, Try.results14, go_sem, z0, z1]
  · refine ⟨w.heap.size + 1, _, rfl, ?_, ?_, B.out⟩
    · have h := O.out.alloc (.cells #[] 43)
      rw [flat_rep]
      simpa using h
    · have h := Q.out
      simpa [flatP] using h

set_option maxHeartbeats 1000000 in
theorem asmNew_4 (w : World) : Calls Try.prog 13 #[.int .i64 4] w (NewA 4 w) := by
  have hmk : ∀ w, (Instr.makeSlice 24 (.int .i64 4) (.int .i64 4)).run Try.prog w = .ok (.slice (some ⟨w.heap.size, 0, none⟩) 4 4) (w.alloc (.cells #[.int .i64 0, .int .i64 0, .int .i64 0, .int .i64 0] 3)) := fun _ => by kernel_rfl
  have Z := (VarN.new w [.slice (some ⟨w.heap.size + 1, 0, none⟩) 4 4, .slice none 0 0] 27).alloc (.cells #[.int .i64 0, .int .i64 0, .int .i64 0, .int .i64 0] 3) (by simp)
  have z0 := (Z 0 _ rfl).1
  have z1 := (Z 1 _ rfl).1
  have O := Lib.hid (World.ownsRow_lit (base := w.heap.size) (e := 3) (size := 1) (w.alloc (.cells (List.toArray [.slice (some ⟨w.heap.size + 1, 0, none⟩) 4 4, .slice none 0 0]) 27)) #[.int .i64 0, .int .i64 0, .int .i64 0, .int .i64 0] 4 (by simp) (by decide) rfl)
  have B := Lib.hid (show Below w.heap.size w ((w.alloc (.cells (List.toArray [.slice (some ⟨w.heap.size + 1, 0, none⟩) 4 4, .slice none 0 0]) 27)).alloc (.cells #[.int .i64 0, .int .i64 0, .int .i64 0, .int .i64 0] 3)) from (below_box _ (Nat.le_refl _)).alloc (by simp) _)
  clear Z
  go_enter Try.func13, Try.ntmps13
  go_wp2
  refine bodyPost_ret (v := .tuple #[.agg #[.slice (some ⟨w.heap.size + 1, 0, none⟩) 4 4, .slice none 0 0], .bool true]) ?_ rfl ?_
  · simp [results, Try.results13, go_sem, z0, z1]
  · refine ⟨w.heap.size + 1, none, rfl, ?_, World.ownsRow_nil _ _ _ _, B.out⟩
    have h := O.out
    rw [flat_rep]
    simpa using h

set_option maxHeartbeats 1000000 in
theorem sAsmNew_4 (w : World) : Calls Try.prog 14 #[.int .i64 4] w (NewA 4 w) := by
  have hmk : ∀ w, (Instr.makeSlice 24 (.int .i64 4) (.int .i64 4)).run Try.prog w = .ok (.slice (some ⟨w.heap.size, 0, none⟩) 4 4) (w.alloc (.cells #[.int .i64 0, .int .i64 0, .int .i64 0, .int .i64 0] 3)) := fun _ => by kernel_rfl
  have Z := (VarN.new w [.slice (some ⟨w.heap.size + 1, 0, none⟩) 4 4, .slice (some ⟨w.heap.size + 1 + 1, 0, none⟩) 0 0] 27).alloc (.cells #[.int .i64 0, .int .i64 0, .int .i64 0, .int .i64 0] 3) (by simp)
  have Z := Z.alloc (.cells #[] 43) (by first | (simp; done) | (simp; omega))
  have z0 := (Z 0 _ rfl).1
  have z1 := (Z 1 _ rfl).1
  have O := Lib.hid (World.ownsRow_lit (base := w.heap.size) (e := 3) (size := 1) (w.alloc (.cells (List.toArray [.slice (some ⟨w.heap.size + 1, 0, none⟩) 4 4, .slice (some ⟨w.heap.size + 1 + 1, 0, none⟩) 0 0]) 27)) #[.int .i64 0, .int .i64 0, .int .i64 0, .int .i64 0] 4 (by simp) (by decide) rfl)
  have Q := Lib.hid (World.ownsRow_lit (base := w.heap.size) (e := 43) (size := 7) ((w.alloc (.cells (List.toArray [.slice (some ⟨w.heap.size + 1, 0, none⟩) 4 4, .slice (some ⟨w.heap.size + 1 + 1, 0, none⟩) 0 0]) 27)).alloc (.cells #[.int .i64 0, .int .i64 0, .int .i64 0, .int .i64 0] 3)) #[] 0 (by first | (simp; done) | (simp; omega)) (by decide) rfl)
  have B := Lib.hid (show Below w.heap.size w (((w.alloc (.cells (List.toArray [.slice (some ⟨w.heap.size + 1, 0, none⟩) 4 4, .slice (some ⟨w.heap.size + 1 + 1, 0, none⟩) 0 0]) 27)).alloc (.cells #[.int .i64 0, .int .i64 0, .int .i64 0, .int .i64 0] 3)).alloc (.cells #[] 43)) from ((below_box _ (Nat.le_refl _)).alloc (by simp) _).alloc (by first | (simp; done) | (simp; omega)) _)
  clear Z
  go_enter Try.func14, Try.ntmps14
  go_wp2_with fail
  refine (l6In_any 4 1 4 _).mono ?_
  rintro e w' ⟨rfl, rfl⟩
  go_wp2
  refine bodyPost_ret (v := .tuple #[.agg #[.slice (some ⟨w.heap.size + 1, 0, none⟩) 4 4, .slice (some ⟨w.heap.size + 1 + 1, 0, none⟩) 0 0], .bool true]) ?_ rfl ?_
  · simp [results, Try.results14, go_sem, z0, z1]
  · refine ⟨w.heap.size + 1, _, rfl, ?_, ?_, B.out⟩
    · have h := O.out.alloc (.cells #[] 43)
      rw [flat_rep]
      simpa using h
    · have h := Q.out
      simpa [flatP] using h

theorem asmNew_yes (n : Int) (w : World) (h : 1 ≤ n ∧ n ≤ 4) : Calls Try.prog 13 #[.int .i64 n] w (NewA n.toNat w) := by
  obtain rfl | rfl | rfl | rfl : n = 1 ∨ n = 2 ∨ n = 3 ∨ n = 4 := by omega
  · exact asmNew_1 w
  · exact asmNew_2 w
  · exact asmNew_3 w
  · exact asmNew_4 w

theorem asmNew_no (n : Int) (w : World) (h : ¬ (1 ≤ n ∧ n ≤ 4)) : Calls Try.prog 13 #[.int .i64 n] w (NoA w) := by
  have Z := VarN.new w [.slice none 0 0, .slice none 0 0] 27
  have z0 := (Z 0 _ rfl).1
  have z1 := (Z 1 _ rfl).1
  have B := Lib.hid (show Below w.heap.size w (w.alloc (.cells (List.toArray [.slice none 0 0, .slice none 0 0]) 27)) from below_box _ (Nat.le_refl _))
  clear Z
  by_cases h1 : n < 1
  all_goals
    have h2 : n < 1 ∨ 4 < n := by omega
    go_enter Try.func13, Try.ntmps13
    go_wp2_with (fail)
  · go_wp2
    refine bodyPost_ret (v := .tuple #[.agg #[.slice none 0 0, .slice none 0 0], .bool false]) ?_ rfl ⟨rfl, B.out⟩
    simp [results, Try.results13, go_sem, z0, z1]
  · have h3 : 4 < n := by omega
    go_wp2
    refine bodyPost_ret (v := .tuple #[.agg #[.slice none 0 0, .slice none 0 0], .bool false]) ?_ rfl ⟨rfl, B.out⟩
    simp [results, Try.results13, go_sem, z0, z1]

theorem sAsmNew_yes (n : Int) (w : World) (h : 1 ≤ n ∧ n ≤ 4) : Calls Try.prog 14 #[.int .i64 n] w (NewA n.toNat w) := by
  obtain rfl | rfl | rfl | rfl : n = 1 ∨ n = 2 ∨ n = 3 ∨ n = 4 := by omega
  · exact sAsmNew_1 w
  · exact sAsmNew_2 w
  · exact sAsmNew_3 w
  · exact sAsmNew_4 w

theorem sAsmNew_no (n : Int) (w : World) (h : ¬ (1 ≤ n ∧ n ≤ 4)) : Calls Try.prog 14 #[.int .i64 n] w (NoA w) := by
  have Z := VarN.new w [.slice none 0 0, .slice none 0 0] 27
  have z0 := (Z 0 _ rfl).1
  have z1 := (Z 1 _ rfl).1
  have B := Lib.hid (show Below w.heap.size w (w.alloc (.cells (List.toArray [.slice none 0 0, .slice none 0 0]) 27)) from below_box _ (Nat.le_refl _))
  clear Z
  have d := decide_eq_false h
  go_enter Try.func14, Try.ntmps14
  go_wp2_with fail
  refine (l6In_any n 1 4 _).mono ?_
  rw [d]
  rintro e w' ⟨rfl, rfl⟩
  go_wp2
  refine bodyPost_ret (v := .tuple #[.agg #[.slice none 0 0, .slice none 0 0], .bool false]) ?_ rfl ⟨rfl, B.out⟩
  simp [results, Try.results14, go_sem, z0, z1]

theorem drawAsmNew_any (a : Option Addr) (len cap : Nat) (zs : List Int) (w : World) (h : IsRow .u8 w a len cap zs) :
    Calls Try.prog 12 #[.slice a len cap] w (DrewN (fun n => -1 ≤ n ∧ n ≤ 5) w) := by
  go_enter Try.func12, Try.ntmps12
  go_wp2_with fail
  refine (l6Open_any a len cap zs _ h).mono ?_
  rintro e w1 ⟨r, rfl, hr1, hb1⟩
  go_wp2_with fail
  refine (pick_any _ r 0 7 _ hr1 (by omega) (by decide) (by decide)).mono ?_
  rintro e w2 ⟨n, rfl, n0, n1, hr2, ho2⟩
  have K := Lib.hid (show DrewN (fun n => -1 ≤ n ∧ n ≤ 5) w (.returned (.int .i64 (n - 1))) w2 from ⟨n - 1, rfl, ⟨by omega, by omega⟩, hb1.trans (ho2.below hr1.1)⟩)
  clear hr1 hb1 hr2 ho2
  go_wp2
  go_ret
  exact K.out

end Go.Proofs.Ytncbgejggfkdmab
