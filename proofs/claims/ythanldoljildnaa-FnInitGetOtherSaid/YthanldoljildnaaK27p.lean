/- The contracts of the program's chapter 12: inits that are written. -/
import Derived.Test.YthanldoljildnaaK24
import Derived.Test.YthanldoljildnaaK26a
import Derived.Test.YthanldoljildnaaK26c
namespace Go.Proofs.Ythanldoljildnaa
open Go.RowKit Go.PlainAid

theorem initS_join (a b c d : Int) : initS a b c d = longS a ++ (wordS b ++ wordS c ++ wordS d) := by
  unfold initS
  rw [ByteArray.append_assoc, ByteArray.append_assoc, ByteArray.append_assoc]
theorem wordsPut_three (a b c : Int) (a0 : 0 ≤ a ∧ a ≤ 65535) (b0 : 0 ≤ b ∧ b ≤ 65535) (c0 : 0 ≤ c ∧ c ≤ 65535) (d cap : Nat) (w : World) (hv : VarN d [.int .i64 a, .int .i64 b, .int .i64 c] w) :
    Calls Try.prog 27 #[.slice (some ⟨d, 0, none⟩) 3 cap] w fun e w' => e = .returned (.string (wordS a ++ wordS b ++ wordS c)) ∧ Below w.heap.size w w' := by
  rw [← wordsS_three]
  exact wordsPut_any [a, b, c] d cap w (by simp) (fun n hn => by simp at hn; rcases hn with rfl | rfl | rfl <;> assumption) hv (lt_of_cell (hv 0 _ rfl).1)

set_option maxHeartbeats 400000 in
theorem initPut_no (a b c d : Int) (y : Bool) (w : World) (h : ¬ InitOk a b c d) :
    Calls Try.prog 11 #[.agg #[.int .i64 a, .int .i64 b, .int .i64 c, .int .i64 d], .bool y] w fun e w' => e = .returned notMadeV ∧ Below w.heap.size w w' := by
  have E := Lib.hid (initOkV_no h)
  have V0 := (VarN.new w [.int .i64 a, .int .i64 b, .int .i64 c, .int .i64 d] 24).alloc (.cells (List.toArray [.int .i64 0, .int .i64 0, .string (ByteArray.mk #[])]) 28) (by simp)
  have R0 := VarN.new_at (w := w.alloc (.cells (List.toArray [.int .i64 a, .int .i64 b, .int .i64 c, .int .i64 d]) 24)) (d := w.heap.size + 1) (by simp) [.int .i64 0, .int .i64 0, .string (ByteArray.mk #[])] 28
  have B0 := (below_box (.cells (List.toArray [.int .i64 a, .int .i64 b, .int .i64 c, .int .i64 d]) 24) (Nat.le_refl w.heap.size)).alloc (by simp) (.cells (List.toArray [.int .i64 0, .int .i64 0, .string (ByteArray.mk #[])]) 28)
  clear V0
  have HR := Lib.hid R0
  have HB := Lib.hid B0
  clear R0 B0
  go_enter Try.func11, Try.ntmps11
  go_wp2_with fail
  refine (initValid_any a b c d _).mono ?_
  rw [E.out]
  rintro e w1 ⟨rfl, hb1⟩
  have R1 := HR.out.below hb1 (by simp)
  have B1 := HB.out.trans (hb1.mono (by simp; omega))
  clear hb1 HR HB
  have r0 := (R1 0 _ rfl).1
  have r1 := (R1 1 _ rfl).1
  have r2 := (R1 2 _ rfl).1
  have g0 := (R1 0 _ rfl).2
  have g1 := (R1 1 _ rfl).2
  have g2 := (R1 2 _ rfl).2
  clear R1
  go_wp2
  refine bodyPost_ret (v := notMadeV) ?_ rfl ?_
  · simp [results, Try.results11, go_sem, notMadeV, r0, r1, r2]
  · exact ⟨rfl, ((B1.setCell (Nat.le_succ _) _).setCell (Nat.le_succ _) _).setCell (Nat.le_succ _) _⟩

theorem varN_drew (w : World) (vs : List Value) (T : TypeId) : VarN w.heap.size vs (w.alloc (.cells vs.toArray T)).drew := fun i v h => ⟨by simpa using (VarN.new w vs T i v h).1, by simp⟩
theorem below_drew_alloc (w : World) (o : Obj) : Below w.drew.heap.size w.drew (w.alloc o).drew := (Below.refl _ w.drew).alloc (Nat.le_refl _) o
/-- What the writing of an init needs of a world: the init, the result's place. -/
structure PutI (N : Nat) (a b c d : Int) (w W : World) : Prop where
  v : VarN N [.int .i64 a, .int .i64 b, .int .i64 c, .int .i64 d] W
  r : ∃ z0 z1 z2, VarN (N + 1) [z0, z1, z2] W
  b : Below N w W
theorem PutI.go {N : Nat} {a b c d : Int} {w W W' : World} (h : PutI N a b c d w W) (hb : Below W.heap.size W W') : PutI N a b c d w W' := by
  have h1 := lt_of_cell (h.v 0 _ rfl).1
  obtain ⟨z0, z1, z2, hr⟩ := h.r
  exact ⟨h.v.below hb h1, ⟨z0, z1, z2, hr.below hb (lt_of_cell (hr 0 _ rfl).1)⟩, h.b.trans (hb.mono (Nat.le_of_lt h1))⟩
theorem PutI.put {N : Nat} {a b c d : Int} {w W : World} (h : PutI N a b c d w W) (x y z : Value) : PutI N a b c d w (((W.setCell ⟨N + 1, 0, none⟩ x).setCell ⟨N + 1, 1, none⟩ y).setCell ⟨N + 1, 2, none⟩ z) := by
  obtain ⟨z0, z1, z2, hr⟩ := h.r
  exact ⟨((h.v.far x (by omega)).far y (by omega)).far z (by omega), ⟨x, y, z, hr.put3 x y z⟩, ((h.b.setCell (p := ⟨N + 1, 0, none⟩) (Nat.le_succ _) x).setCell (p := ⟨N + 1, 1, none⟩) (Nat.le_succ _) y).setCell (p := ⟨N + 1, 2, none⟩) (Nat.le_succ _) z⟩
theorem putI_at {N : Nat} {a b c d : Int} {w W : World} (h : PutI N a b c d w W) : W.cell? ⟨N, 0, none⟩ = some (.int .i64 a) ∧ W.cell? ⟨N, 1, none⟩ = some (.int .i64 b) ∧ W.cell? ⟨N, 2, none⟩ = some (.int .i64 c) ∧ W.cell? ⟨N, 3, none⟩ = some (.int .i64 d) ∧ PutI N a b c d w W :=
  ⟨(h.v 0 _ rfl).1, (h.v 1 _ rfl).1, (h.v 2 _ rfl).1, (h.v 3 _ rfl).1, h⟩
theorem putI_next {N : Nat} {a b c d : Int} {w W W' : World} (hb : Below W.heap.size W W') (h : W.cell? ⟨N, 0, none⟩ = some (.int .i64 a) ∧ W.cell? ⟨N, 1, none⟩ = some (.int .i64 b) ∧ W.cell? ⟨N, 2, none⟩ = some (.int .i64 c) ∧ W.cell? ⟨N, 3, none⟩ = some (.int .i64 d) ∧ PutI N a b c d w W) : W'.cell? ⟨N, 0, none⟩ = some (.int .i64 a) ∧ W'.cell? ⟨N, 1, none⟩ = some (.int .i64 b) ∧ W'.cell? ⟨N, 2, none⟩ = some (.int .i64 c) ∧ W'.cell? ⟨N, 3, none⟩ = some (.int .i64 d) ∧ PutI N a b c d w W' :=
  putI_at (h.2.2.2.2.go hb)
theorem putI_store {N : Nat} {a b c d : Int} {w W W' : World} {x y z : Value} (e : ((W.setCell ⟨N + 1, 0, none⟩ x).setCell ⟨N + 1, 1, none⟩ y).setCell ⟨N + 1, 2, none⟩ z = W') (h : W.cell? ⟨N, 0, none⟩ = some (.int .i64 a) ∧ W.cell? ⟨N, 1, none⟩ = some (.int .i64 b) ∧ W.cell? ⟨N, 2, none⟩ = some (.int .i64 c) ∧ W.cell? ⟨N, 3, none⟩ = some (.int .i64 d) ∧ PutI N a b c d w W) : W'.cell? ⟨N, 0, none⟩ = some (.int .i64 a) ∧ W'.cell? ⟨N, 1, none⟩ = some (.int .i64 b) ∧ W'.cell? ⟨N, 2, none⟩ = some (.int .i64 c) ∧ W'.cell? ⟨N, 3, none⟩ = some (.int .i64 d) ∧ PutI N a b c d w W' :=
  putI_at (e ▸ h.2.2.2.2.put x y z)

set_option maxHeartbeats 4000000 in
theorem initPut_yes (a b c d : Int) (y : Bool) (w : World) (h : InitOk a b c d) :
    Calls Try.prog 11 #[.agg #[.int .i64 a, .int .i64 b, .int .i64 c, .int .i64 d], .bool y] w fun e w' => e = .returned (madeV (if y then 2 else 1) 0 (initS a b c d)) ∧ Below w.heap.size w w' := by
  have E := Lib.hid (initOkV_yes h)
  have H := Lib.hid h
  have hz1 : ¬ 9223372036854775807 < (longS a).size + ((wordS b).size + (wordS c).size + (wordS d).size) := by rw [wordS_size, wordS_size, wordS_size, longS_size]; simp
  clear h
  have V0 := (VarN.new w [.int .i64 a, .int .i64 b, .int .i64 c, .int .i64 d] 24).alloc (.cells (List.toArray [.int .i64 0, .int .i64 0, .string (ByteArray.mk #[])]) 28) (by simp)
  have R0 := VarN.new_at (w := w.alloc (.cells (List.toArray [.int .i64 a, .int .i64 b, .int .i64 c, .int .i64 d]) 24)) (d := w.heap.size + 1) (by simp) [.int .i64 0, .int .i64 0, .string (ByteArray.mk #[])] 28
  have B0 := (below_box (.cells (List.toArray [.int .i64 a, .int .i64 b, .int .i64 c, .int .i64 d]) 24) (Nat.le_refl w.heap.size)).alloc (by simp) (.cells (List.toArray [.int .i64 0, .int .i64 0, .string (ByteArray.mk #[])]) 28)
  have P0 := Lib.hid (PutI.mk V0 ⟨_, _, _, R0⟩ B0)
  clear V0 R0 B0
  cases y
  · show Calls Try.prog 11 _ w fun e w' => e = .returned (madeV 1 0 (initS a b c d)) ∧ Below w.heap.size w w'
    go_enter Try.func11, Try.ntmps11
    go_wp2_with fail
    refine (initValid_any a b c d _).mono ?_
    rw [E.out]
    rintro e w1 ⟨rfl, hb1⟩
    have P1 := P0.out.go hb1
    clear hb1 P0
    have x0 := (P1.v 0 _ rfl).1
    have x1 := (P1.v 1 _ rfl).1
    have x2 := (P1.v 2 _ rfl).1
    have x3 := (P1.v 3 _ rfl).1
    have P1 := Lib.hid P1
    go_wp2_with fail
    go_region_held_law (fun W => W.cell? ⟨w.heap.size, 0, none⟩ = some (.int .i64 a) ∧ W.cell? ⟨w.heap.size, 1, none⟩ = some (.int .i64 b) ∧ W.cell? ⟨w.heap.size, 2, none⟩ = some (.int .i64 c) ∧ W.cell? ⟨w.heap.size, 3, none⟩ = some (.int .i64 d) ∧ PutI w.heap.size a b c d w W)
      (first | assumption | exact putI_at (P1.out.go (Below.drew (Below.refl _ _))) | exact putI_next (by first | assumption | exact below_box _ (Nat.le_refl _) | exact below_drew_alloc _ _ | exact Below.drew (Below.refl _ _)) (by assumption) | exact putI_store rfl (by assumption))
      (first | (go_simp; go_at_call 26; refine (numberPut_four a (by have := H.out.1.1; omega) H.out.1.2 _).mono ?_; rintro e w' ⟨rfl, hbn⟩; obtain ⟨z0, z1, z2, hR⟩ := (putI_next (N := w.heap.size) (a := a) (b := b) (c := c) (d := d) (w := w) hbn (by assumption)).2.2.2.2.r; have r0 := (hR 0 _ rfl).1; have r1 := (hR 1 _ rfl).1; have r2 := (hR 2 _ rfl).1; have g0 := (hR 0 _ rfl).2; have g1 := (hR 1 _ rfl).2; have g2 := (hR 2 _ rfl).2) | (go_simp; go_at_call 27; refine (wordsPut_three b c d H.out.2.1 ⟨by have := H.out.2.2.1.1; omega, by have := H.out.2.2.1.2; omega⟩ H.out.2.2.2 _ _ _ (by first | exact VarN.new _ _ _ | exact varN_drew _ _ _ | exact (VarN.new _ _ _).below (by assumption) (by simp) | exact (varN_drew _ _ _).below (by assumption) (by simp))).mono ?_; rintro e w' ⟨rfl, hbn⟩; obtain ⟨z0, z1, z2, hR⟩ := (putI_next (N := w.heap.size) (a := a) (b := b) (c := c) (d := d) (w := w) hbn (by assumption)).2.2.2.2.r; have r0 := (hR 0 _ rfl).1; have r1 := (hR 1 _ rfl).1; have r2 := (hR 2 _ rfl).1; have g0 := (hR 0 _ rfl).2; have g1 := (hR 1 _ rfl).2; have g2 := (hR 2 _ rfl).2))
    all_goals
      rename_i hHeld
      have HB := Lib.hid hHeld.2.2.2.2.b
      clear hHeld x0 x1 x2 x3 hz1
      go_wp2
      refine bodyPost_ret (v := madeV 1 0 (initS a b c d)) ?_ rfl ?_
      · simp [results, Try.results11, go_sem, madeV, r0, r1, r2]
        exact (initS_join a b c d).symm
      · exact ⟨rfl, HB.out⟩
  · show Calls Try.prog 11 _ w fun e w' => e = .returned (madeV 2 0 (initS a b c d)) ∧ Below w.heap.size w w'
    go_enter Try.func11, Try.ntmps11
    go_wp2_with fail
    refine (initValid_any a b c d _).mono ?_
    rw [E.out]
    rintro e w1 ⟨rfl, hb1⟩
    have P1 := P0.out.go hb1
    clear hb1 P0
    have x0 := (P1.v 0 _ rfl).1
    have x1 := (P1.v 1 _ rfl).1
    have x2 := (P1.v 2 _ rfl).1
    have x3 := (P1.v 3 _ rfl).1
    have P1 := Lib.hid P1
    go_wp2_with fail
    go_region_held_law (fun W => W.cell? ⟨w.heap.size, 0, none⟩ = some (.int .i64 a) ∧ W.cell? ⟨w.heap.size, 1, none⟩ = some (.int .i64 b) ∧ W.cell? ⟨w.heap.size, 2, none⟩ = some (.int .i64 c) ∧ W.cell? ⟨w.heap.size, 3, none⟩ = some (.int .i64 d) ∧ PutI w.heap.size a b c d w W)
      (first | assumption | exact putI_at (P1.out.go (Below.drew (Below.refl _ _))) | exact putI_next (by first | assumption | exact below_box _ (Nat.le_refl _) | exact below_drew_alloc _ _ | exact Below.drew (Below.refl _ _)) (by assumption) | exact putI_store rfl (by assumption))
      (first | (go_simp; go_at_call 26; refine (numberPut_four a (by have := H.out.1.1; omega) H.out.1.2 _).mono ?_; rintro e w' ⟨rfl, hbn⟩; obtain ⟨z0, z1, z2, hR⟩ := (putI_next (N := w.heap.size) (a := a) (b := b) (c := c) (d := d) (w := w) hbn (by assumption)).2.2.2.2.r; have r0 := (hR 0 _ rfl).1; have r1 := (hR 1 _ rfl).1; have r2 := (hR 2 _ rfl).1; have g0 := (hR 0 _ rfl).2; have g1 := (hR 1 _ rfl).2; have g2 := (hR 2 _ rfl).2) | (go_simp; go_at_call 27; refine (wordsPut_three b c d H.out.2.1 ⟨by have := H.out.2.2.1.1; omega, by have := H.out.2.2.1.2; omega⟩ H.out.2.2.2 _ _ _ (by first | exact VarN.new _ _ _ | exact varN_drew _ _ _ | exact (VarN.new _ _ _).below (by assumption) (by simp) | exact (varN_drew _ _ _).below (by assumption) (by simp))).mono ?_; rintro e w' ⟨rfl, hbn⟩; obtain ⟨z0, z1, z2, hR⟩ := (putI_next (N := w.heap.size) (a := a) (b := b) (c := c) (d := d) (w := w) hbn (by assumption)).2.2.2.2.r; have r0 := (hR 0 _ rfl).1; have r1 := (hR 1 _ rfl).1; have r2 := (hR 2 _ rfl).1; have g0 := (hR 0 _ rfl).2; have g1 := (hR 1 _ rfl).2; have g2 := (hR 2 _ rfl).2))
    all_goals
      rename_i hHeld
      have HB := Lib.hid hHeld.2.2.2.2.b
      clear hHeld x0 x1 x2 x3 hz1
      go_wp2
      refine bodyPost_ret (v := madeV 2 0 (initS a b c d)) ?_ rfl ?_
      · simp [results, Try.results11, go_sem, madeV, r0, r1, r2]
        exact (initS_join a b c d).symm
      · exact ⟨rfl, HB.out⟩

end Go.Proofs.Ythanldoljildnaa
