/- Texts that a proof needs, merged: K176, K177, K159, K119a, K170, K161, K92, K162, K128, K163. -/
import Derived.Test.YtncbgejggfkdmabM3
import Derived.Lib.Builder
import Derived.Maps.AppendAt
import Derived.Deep.RegionLaw
import Derived.Deep.CutRange
import Derived.Deep.DeepCutAuto
import Derived.BigQuiet
import Derived.Handy

/- The laws' marks in parts. -/
namespace Go.Proofs.Ytncbgejggfkdmab
open Go.RowKit Go.PlainAid

/-- A cell of a place that is not filled yet is written. -/
theorem FilP.cell {d len k o i j : Nat} {ps : List Part} {w : World} (h : FilP d len k ps w) (hi : k ≤ i) (ho : o = i * 7 + j) (hj : j < 7) (y : Value) : FilP d len k ps (w.setCell ⟨d, o, none⟩ y) := fun i' hi' j' hj' => by
  obtain ⟨u, h1, h2⟩ := h i' hi' j' hj'
  by_cases e : i' = i ∧ j' = j
  · obtain ⟨rfl, rfl⟩ := e
    subst ho
    exact ⟨y, World.cell?_setCell_same _ _ _ h1, fun h => absurd h (by omega)⟩
  · exact ⟨u, cell_other (by omega) h1, h2⟩
/-- A place is filled. -/
theorem FilP.fill {d len k : Nat} {ps : List Part} {w : World} (h : FilP d len k ps w) (hc : ∀ j v, (cellsP (pAt ps k))[j]? = some v → w.cell? ⟨d, k * 7 + j, none⟩ = some v) : FilP d len (k + 1) ps w := fun i hi j hj => by
  by_cases e : i = k
  · subst e
    obtain ⟨v, hv⟩ : ∃ v, (cellsP (pAt ps i))[j]? = some v := ⟨_, List.getElem?_eq_getElem (by exact hj)⟩
    exact ⟨v, hc j v hv, fun _ => hv⟩
  · obtain ⟨u, h1, h2⟩ := h i hi j hj
    exact ⟨u, h1, fun h => h2 (by omega)⟩
/-- The part that is marked from a number on. -/
def markP (c : Nat) : Part := ⟨(c : Int), (c : Int) + 1, (c : Int) + 1 + 1, ((c : Int) + 1 + 1 + 1) % 3 == 0, ((c : Int) + 1 + 1 + 1 + 1) % 3 == 0, ((c : Int) + 1 + 1 + 1 + 1 + 1) % 3 == 0, markT (c + 6)⟩
def marksP (n c : Nat) : List Part := (List.range n).map fun i => markP (c + 7 * i)
theorem marksP_length (n c : Nat) : (marksP n c).length = n := by simp [marksP]
theorem marksP_at (n c k : Nat) (h : k < n) : pAt (marksP n c) k = markP (c + 7 * k) := by
  unfold pAt
  rw [List.getD_eq_getElem?_getD]
  simp [marksP, h]
theorem markText_at (v : Int) (k : Nat) (w : World) (hv : v = (k : Int)) (h1 : 1 ≤ k) (h2 : k ≤ 1000000000) :
    Calls Try.prog 67 #[.int .i64 v] w fun e w' => e = .returned (.string (markT k)) ∧ Below w.heap.size w w' := by
  subst hv
  exact markText_pos k w h1 h2

set_option maxHeartbeats 2000000 in
theorem markDataS_any (g n cap c : Nat) (w : World) (hn : n ≤ 1048576) (hc1 : 1 ≤ c) (hc2 : c ≤ 100000000) (hg : g < w.heap.size) (h : FilP g n 0 (marksP n c) w) (hf : FreeN g w) :
    Calls Try.prog 34 #[.slice (some ⟨g, 0, none⟩) n cap, .int .i64 (c : Int)] w fun e w' => e = .returned (.int .i64 ((c + 7 * n : Nat) : Int)) ∧ FilP g n n (marksP n c) w' ∧ FreeN g w' ∧ MwN g w w' := by
  have HF := Lib.hid (And.intro h (And.intro hf (show MwN g w w from ⟨Aside.refl _ _ _, Below.refl _ _, Nat.le_refl _, hg⟩)))
  clear h hf
  go_enter Try.func34, Try.ntmps34
  go_wp2
  go_loopw [1, 5] (fun m i wr => ∃ j z : Nat, j ≤ n ∧ i = .int .i64 j ∧ m = .int .i64 (z : Int) ∧ Hid (z = c + 7 * j) ∧ Hid (FilP g n j (marksP n c) wr ∧ FreeN g wr ∧ MwN g w wr)) (fun _ i _ => n - (intOf i).toNat)
  case atStart => exact ⟨0, c, Nat.zero_le _, rfl, rfl, rfl, HF⟩
  case round =>
    obtain ⟨j, z, hj, rfl, rfl, HZ, hfi⟩ := hrel
    clear HF
    by_cases hlt : j < n
    · obtain ⟨F0, R0, M0⟩ := hfi.out
      obtain ⟨u0, s0, _⟩ := F0 j hlt 0 (by omega)
      obtain ⟨u1, s1, _⟩ := F0 j hlt 1 (by omega)
      obtain ⟨u2, s2, _⟩ := F0 j hlt 2 (by omega)
      obtain ⟨u3, s3, _⟩ := F0 j hlt 3 (by omega)
      obtain ⟨u4, s4, _⟩ := F0 j hlt 4 (by omega)
      obtain ⟨u5, s5, _⟩ := F0 j hlt 5 (by omega)
      have r0 := R0 (j * 7)
      have r1 := R0 (j * 7 + 1)
      have r2 := R0 (j * 7 + 2)
      have r3 := R0 (j * 7 + 3)
      have r4 := R0 (j * 7 + 4)
      have r5 := R0 (j * 7 + 5)
      simp only [Nat.add_zero] at s0
      have hz9 : z ≤ 110000000 := by have := HZ.out; omega
      have hz1 : 1 ≤ z := by have := HZ.out; omega
      have k1 : IntKind.i64.wrap ((z : Int) + 1) = (z : Int) + 1 := IntWalk.i64_in _ (by omega)
      have k2 : IntKind.i64.wrap ((z : Int) + 1 + 1) = (z : Int) + 1 + 1 := IntWalk.i64_in _ (by omega)
      have k3 : IntKind.i64.wrap ((z : Int) + 1 + 1 + 1) = (z : Int) + 1 + 1 + 1 := IntWalk.i64_in _ (by omega)
      have k4 : IntKind.i64.wrap ((z : Int) + 1 + 1 + 1 + 1) = (z : Int) + 1 + 1 + 1 + 1 := IntWalk.i64_in _ (by omega)
      have k5 : IntKind.i64.wrap ((z : Int) + 1 + 1 + 1 + 1 + 1) = (z : Int) + 1 + 1 + 1 + 1 + 1 := IntWalk.i64_in _ (by omega)
      have k6 : IntKind.i64.wrap ((z : Int) + 1 + 1 + 1 + 1 + 1 + 1) = (z : Int) + 1 + 1 + 1 + 1 + 1 + 1 := IntWalk.i64_in _ (by omega)
      obtain ⟨W6, hW6⟩ : ∃ W6, ((((((wr.setCell ⟨g, j * 7, none⟩ (.int .i64 (z : Int))).setCell ⟨g, j * 7 + 1, none⟩ (.int .i64 ((z : Int) + 1))).setCell ⟨g, j * 7 + 2, none⟩ (.int .i64 ((z : Int) + 1 + 1))).setCell ⟨g, j * 7 + 3, none⟩ (.bool (((z : Int) + 1 + 1 + 1) % 3 == 0))).setCell ⟨g, j * 7 + 4, none⟩ (.bool (((z : Int) + 1 + 1 + 1 + 1) % 3 == 0))).setCell ⟨g, j * 7 + 5, none⟩ (.bool (((z : Int) + 1 + 1 + 1 + 1 + 1) % 3 == 0))) = W6 := ⟨_, rfl⟩
      have F6 := Lib.hid (show FilP g n j (marksP n c) W6 ∧ FreeN g W6 ∧ MwN g w W6 from by rw [← hW6]; exact ⟨((((((F0.cell (i := j) (j := 0) (Nat.le_refl _) rfl (by omega) (.int .i64 (z : Int))).cell (i := j) (j := 1) (Nat.le_refl _) rfl (by omega) (.int .i64 ((z : Int) + 1))).cell (i := j) (j := 2) (Nat.le_refl _) rfl (by omega) (.int .i64 ((z : Int) + 1 + 1))).cell (i := j) (j := 3) (Nat.le_refl _) rfl (by omega) (.bool (((z : Int) + 1 + 1 + 1) % 3 == 0))).cell (i := j) (j := 4) (Nat.le_refl _) rfl (by omega) (.bool (((z : Int) + 1 + 1 + 1 + 1) % 3 == 0))).cell (i := j) (j := 5) (Nat.le_refl _) rfl (by omega) (.bool (((z : Int) + 1 + 1 + 1 + 1 + 1) % 3 == 0))), (FreeN.set (FreeN.set (FreeN.set (FreeN.set (FreeN.set (FreeN.set R0 (e := g) (i := j * 7) (.int .i64 (z : Int))) (e := g) (i := j * 7 + 1) (.int .i64 ((z : Int) + 1))) (e := g) (i := j * 7 + 2) (.int .i64 ((z : Int) + 1 + 1))) (e := g) (i := j * 7 + 3) (.bool (((z : Int) + 1 + 1 + 1) % 3 == 0))) (e := g) (i := j * 7 + 4) (.bool (((z : Int) + 1 + 1 + 1 + 1) % 3 == 0))) (e := g) (i := j * 7 + 5) (.bool (((z : Int) + 1 + 1 + 1 + 1 + 1) % 3 == 0))), (MwN.set (MwN.set (MwN.set (MwN.set (MwN.set (MwN.set M0 (i := j * 7) (.int .i64 (z : Int))) (i := j * 7 + 1) (.int .i64 ((z : Int) + 1))) (i := j * 7 + 2) (.int .i64 ((z : Int) + 1 + 1))) (i := j * 7 + 3) (.bool (((z : Int) + 1 + 1 + 1) % 3 == 0))) (i := j * 7 + 4) (.bool (((z : Int) + 1 + 1 + 1 + 1) % 3 == 0))) (i := j * 7 + 5) (.bool (((z : Int) + 1 + 1 + 1 + 1 + 1) % 3 == 0)))⟩)
      have Q0 := Lib.hid (show W6.cell? ⟨g, j * 7, none⟩ = some (.int .i64 (z : Int)) from by rw [← hW6]; exact (cell_other (by omega) (cell_other (by omega) (cell_other (by omega) (cell_other (by omega) (cell_other (by omega) (World.cell?_setCell_same _ _ _ s0)))))))
      have Q1 := Lib.hid (show W6.cell? ⟨g, j * 7 + 1, none⟩ = some (.int .i64 ((z : Int) + 1)) from by rw [← hW6]; exact (cell_other (by omega) (cell_other (by omega) (cell_other (by omega) (cell_other (by omega) (World.cell?_setCell_same _ _ _ (cell_other (by omega) s1)))))))
      have Q2 := Lib.hid (show W6.cell? ⟨g, j * 7 + 2, none⟩ = some (.int .i64 ((z : Int) + 1 + 1)) from by rw [← hW6]; exact (cell_other (by omega) (cell_other (by omega) (cell_other (by omega) (World.cell?_setCell_same _ _ _ (cell_other (by omega) (cell_other (by omega) s2)))))))
      have Q3 := Lib.hid (show W6.cell? ⟨g, j * 7 + 3, none⟩ = some (.bool (((z : Int) + 1 + 1 + 1) % 3 == 0)) from by rw [← hW6]; exact (cell_other (by omega) (cell_other (by omega) (World.cell?_setCell_same _ _ _ (cell_other (by omega) (cell_other (by omega) (cell_other (by omega) s3)))))))
      have Q4 := Lib.hid (show W6.cell? ⟨g, j * 7 + 4, none⟩ = some (.bool (((z : Int) + 1 + 1 + 1 + 1) % 3 == 0)) from by rw [← hW6]; exact (cell_other (by omega) (World.cell?_setCell_same _ _ _ (cell_other (by omega) (cell_other (by omega) (cell_other (by omega) (cell_other (by omega) s4)))))))
      have Q5 := Lib.hid (show W6.cell? ⟨g, j * 7 + 5, none⟩ = some (.bool (((z : Int) + 1 + 1 + 1 + 1 + 1) % 3 == 0)) from by rw [← hW6]; exact (World.cell?_setCell_same _ _ _ (cell_other (by omega) (cell_other (by omega) (cell_other (by omega) (cell_other (by omega) (cell_other (by omega) s5)))))))
      have HW6 := Lib.hid hW6
      clear F0 R0 M0 hW6
      clear hfi
      go_wp2_with fail
      rw [HW6.out]
      clear s0 s1 s2 s3 s4 s5 r0 r1 r2 r3 r4 r5 HW6
      refine (markText_at _ (z + 6) _ (by omega) (by omega) (by omega)).mono ?_
      rintro e w2 ⟨rfl, hb2⟩
      have hg6 : g < W6.heap.size := Nat.lt_of_lt_of_le F6.out.2.2.l F6.out.2.2.z
      have F2 := F6.out.1.below hb2
      have R2 := F6.out.2.1.below hg6 hb2
      have M2 := F6.out.2.2.grow hb2
      obtain ⟨u6, s6, _⟩ := F2 j hlt 6 (by omega)
      have r6 := R2 (j * 7 + 6)
      have FN := Lib.hid (show FilP g n (j + 1) (marksP n c) (w2.setCell ⟨g, j * 7 + 6, none⟩ (.string (markT (z + 6)))) ∧ FreeN g (w2.setCell ⟨g, j * 7 + 6, none⟩ (.string (markT (z + 6)))) ∧ MwN g w (w2.setCell ⟨g, j * 7 + 6, none⟩ (.string (markT (z + 6)))) from by
        refine ⟨(F2.cell (i := j) (j := 6) (Nat.le_refl _) rfl (by omega) _).fill fun jj v hv => ?_, R2.set _, M2.set _⟩
        rw [marksP_at n c j hlt, ← HZ.out] at hv
        have hjj : jj < 7 := (List.getElem?_eq_some_iff.1 hv).1
        rcases (show jj = 0 ∨ jj = 1 ∨ jj = 2 ∨ jj = 3 ∨ jj = 4 ∨ jj = 5 ∨ jj = 6 by omega) with rfl | rfl | rfl | rfl | rfl | rfl | rfl
        · exact (cell_other (by omega) (kept_cell hb2 hg6 Q0.out)).trans hv
        · exact (cell_other (by omega) (kept_cell hb2 hg6 Q1.out)).trans hv
        · exact (cell_other (by omega) (kept_cell hb2 hg6 Q2.out)).trans hv
        · exact (cell_other (by omega) (kept_cell hb2 hg6 Q3.out)).trans hv
        · exact (cell_other (by omega) (kept_cell hb2 hg6 Q4.out)).trans hv
        · exact (cell_other (by omega) (kept_cell hb2 hg6 Q5.out)).trans hv
        · exact (World.cell?_setCell_same _ _ _ s6).trans hv)
      have k7 : IntKind.i64.wrap ((z : Int) + 1 + 1 + 1 + 1 + 1 + 1 + 1) = (z : Int) + 1 + 1 + 1 + 1 + 1 + 1 + 1 := IntWalk.i64_in _ (by omega)
      have HZ7 := Lib.hid (show z + 7 = c + 7 * (j + 1) by have := HZ.out; omega)
      clear F2 R2 M2 F6 Q0 Q1 Q2 Q3 Q4 Q5 hb2
      go_wp2
      go_roundw
      case rel => exact ⟨j + 1, z + 7, by omega, by go_num, by go_num, HZ7, FN⟩
      case measure => simp [intOf]; omega
    · obtain rfl : j = n := by omega
      go_wp2
      go_ret
      exact ⟨by rw [HZ.out]; rfl, hfi.out.1, hfi.out.2.1, hfi.out.2.2⟩

theorem load_textP {W : World} {x : Addr} {len cap i : Nat} {ps : List Part} (h : Pts W (some x) len cap ps) (hi : i < len) : (Instr.loadAt 9 (.pointer (some ⟨(x.add (i * 7)).block, (x.add (i * 7)).off + 6, none⟩))).run Try.prog W = .ok (.string (pAt ps i).text) W := by
  obtain ⟨l0, l1, l2, l3, l4, l5, l6⟩ := h.at (Below.refl _ _) hi
  clear h l0 l1 l2 l3 l4 l5
  go_simp

set_option maxRecDepth 20000 in
set_option maxHeartbeats 2000000 in
theorem heldDataS_any (a : Option Addr) (n cap c : Nat) (w : World) (hn : n ≤ 1048576) (hc1 : 1 ≤ c) (hc2 : c ≤ 100000000) (h : Pts w a n cap (marksP n c)) :
    Calls Try.prog 60 #[.slice a n cap, .int .i64 (c : Int)] w fun e w' => e = .returned (.int .i64 ((c + 7 * n : Nat) : Int)) ∧ Below w.heap.size w w' := by
  have HG := Lib.hid h
  clear h
  go_enter Try.func60, Try.ntmps60
  go_wp2
  go_loopw [1, 5] (fun m i wr => ∃ j z : Nat, j ≤ n ∧ i = .int .i64 j ∧ m = .int .i64 (z : Int) ∧ Hid (z = c + 7 * j) ∧ Hid (Below w.heap.size w wr)) (fun _ i _ => n - (intOf i).toNat)
  case atStart => exact ⟨0, c, Nat.zero_le _, rfl, rfl, rfl, Lib.hid (Below.refl _ _)⟩
  case round =>
    obtain ⟨j, z, hj, rfl, rfl, HZ, hbel⟩ := hrel
    by_cases hlt : j < n
    · obtain ⟨x, rfl⟩ := HG.out.addr hlt
      obtain ⟨p0, p1, p2, p3, p4, p5, p6⟩ := HG.out.at hbel.out hlt
      have EP := Lib.hid (show pAt (marksP n c) j = markP z by rw [marksP_at n c j hlt, HZ.out])
      rw [EP.out] at p0 p1 p2 p3 p4 p5 p6
      unfold markP at p0 p1 p2 p3 p4 p5 p6
      dsimp only at p0 p1 p2 p3 p4 p5 p6
      have hz9 : z ≤ 110000000 := by have := HZ.out; omega
      have hz1 : 1 ≤ z := by have := HZ.out; omega
      have k1 : IntKind.i64.wrap ((z : Int) + 1) = (z : Int) + 1 := IntWalk.i64_in _ (by omega)
      have k2 : IntKind.i64.wrap ((z : Int) + 1 + 1) = (z : Int) + 1 + 1 := IntWalk.i64_in _ (by omega)
      have k3 : IntKind.i64.wrap ((z : Int) + 1 + 1 + 1) = (z : Int) + 1 + 1 + 1 := IntWalk.i64_in _ (by omega)
      have k4 : IntKind.i64.wrap ((z : Int) + 1 + 1 + 1 + 1) = (z : Int) + 1 + 1 + 1 + 1 := IntWalk.i64_in _ (by omega)
      have k5 : IntKind.i64.wrap ((z : Int) + 1 + 1 + 1 + 1 + 1) = (z : Int) + 1 + 1 + 1 + 1 + 1 := IntWalk.i64_in _ (by omega)
      have k6 : IntKind.i64.wrap ((z : Int) + 1 + 1 + 1 + 1 + 1 + 1) = (z : Int) + 1 + 1 + 1 + 1 + 1 + 1 := IntWalk.i64_in _ (by omega)
      have hsz2 := hbel.out.size
      have LT : ∀ W, Below wr.heap.size wr W → (Instr.loadAt 9 (.pointer (some ⟨(x.add (j * 7)).block, (x.add (j * 7)).off + 6, none⟩))).run Try.prog W = .ok (.string (markT (z + 6))) W := fun W hW => by
        have h := load_textP ((HG.out.below hbel.out).below hW) hlt
        rw [EP.out] at h
        exact h
      have SMH := Lib.hid (fun w => markText_at ((z : Int) + 1 + 1 + 1 + 1 + 1 + 1) (z + 6) w (by omega) (by omega) (by omega))
      clear p6
      go_wp2_with fail
      clear p0 p1 p2 p3 p4 p5
      refine region_class (C := fun W => Below wr.heap.size wr W) (by kernel_rfl) (by kernel_rfl) (Below.drew (Below.refl _ _)) ?_
      repeat (first
        | go_big_quiet_skip
        | (go_big_quiet_want; go_big_quiet_op; go_big_quiet_on)
        | (refine BigFrame.wpQuiet_want (by rfl) (fun K hK => ?_)
           first
             | (refine quiet_loadQ (x := .tmp 75) (by with_reducible rfl) (by rfl) LT (hK _ ?_))
             | (apply Exists.intro
                refine ⟨fun W hW => ?_, hK _ ?_⟩
                next =>
                  go_simp
                  first
                    | with_reducible exact rfl
                    | (refine (SMH.out _).mono ?_; rintro e w3 ⟨rfl, hb3⟩; exact ⟨rfl, hW.trans (hb3.mono hW.size)⟩))
           conv => arg 6; simp only [Act.put, List.setIfInBounds_toArray, List.set_cons_zero, List.set_cons_succ]
           clear hK K))
      refine wpQuiet_nil ?_
      intro W hW
      clear LT
      have hb := Lib.hid (hbel.out.trans (hW.mono hsz2))
      have k7 : IntKind.i64.wrap ((z : Int) + 1 + 1 + 1 + 1 + 1 + 1 + 1) = (z : Int) + 1 + 1 + 1 + 1 + 1 + 1 + 1 := IntWalk.i64_in _ (by omega)
      have HZ7 := Lib.hid (show z + 7 = c + 7 * (j + 1) by have := HZ.out; omega)
      clear hW
      go_wp2
      go_roundw
      case rel => exact ⟨j + 1, z + 7, by omega, by go_num, by go_num, HZ7, hb⟩
      case measure => simp [intOf]; omega
    · obtain rfl : j = n := by omega
      go_wp2
      go_ret
      exact ⟨by rw [HZ.out]; rfl, hbel.out⟩

end Go.Proofs.Ytncbgejggfkdmab

/- The laws' marks in messages. -/
namespace Go.Proofs.Ytncbgejggfkdmab
open Go.RowKit Go.PlainAid

/-- A row of messages that is being filled: k of 'len' messages lie there. -/
def FilM (d len k : Nat) (ms : List Msg) (w : World) : Prop :=
  ∀ i, i < len → ∀ j, j < 4 → ∃ u, w.cell? ⟨d, i * 4 + j, none⟩ = some u ∧ (i < k → (cellsM (mAt ms i))[j]? = some u)
theorem FilM.below {d len k : Nat} {ms : List Msg} {w w' : World} (h : FilM d len k ms w) (hb : Below w.heap.size w w') : FilM d len k ms w' := fun i hi j hj => by
  obtain ⟨u, h1, h2⟩ := h i hi j hj
  exact ⟨u, kept_cell hb (lt_of_cell h1) h1, h2⟩
theorem FilM.mgs {d len cap : Nat} {ms : List Msg} {w : World} (h : FilM d len len ms w) (hl : ms.length = len) (hc : len ≤ cap) (hm : cap ≤ maxLen) : Mgs w (some ⟨d, 0, none⟩) len cap ms := by
  refine .inr ⟨_, rfl, hc, hm, hl, fun i hi j v hv => ?_⟩
  have hj : j < 4 := (List.getElem?_eq_some_iff.1 hv).1
  obtain ⟨u, h1, h2⟩ := h i hi j hj
  have h3 := h2 hi
  rw [hv] at h3
  rw [atM_zero, h1, h3]
theorem FilM.cell {d len k o i j : Nat} {ms : List Msg} {w : World} (h : FilM d len k ms w) (hi : k ≤ i) (ho : o = i * 4 + j) (hj : j < 4) (y : Value) : FilM d len k ms (w.setCell ⟨d, o, none⟩ y) := fun i' hi' j' hj' => by
  obtain ⟨u, h1, h2⟩ := h i' hi' j' hj'
  by_cases e : i' = i ∧ j' = j
  · obtain ⟨rfl, rfl⟩ := e
    subst ho
    exact ⟨y, World.cell?_setCell_same _ _ _ h1, fun h => absurd h (by omega)⟩
  · exact ⟨u, cell_other (by omega) h1, h2⟩
theorem FilM.fill {d len k : Nat} {ms : List Msg} {w : World} (h : FilM d len k ms w) (hc : ∀ j v, (cellsM (mAt ms k))[j]? = some v → w.cell? ⟨d, k * 4 + j, none⟩ = some v) : FilM d len (k + 1) ms w := fun i hi j hj => by
  by_cases e : i = k
  · subst e
    obtain ⟨v, hv⟩ : ∃ v, (cellsM (mAt ms i))[j]? = some v := ⟨_, List.getElem?_eq_getElem (by exact hj)⟩
    exact ⟨v, hc j v hv, fun _ => hv⟩
  · obtain ⟨u, h1, h2⟩ := h i hi j hj
    exact ⟨u, h1, fun h => h2 (by omega)⟩
/-- The message that is marked from a number on. -/
def markM (c : Nat) : Msg := ⟨(c : Int), (c : Int) + 1, ((c : Int) + 1 + 1) % 3 == 0, markT (c + 3)⟩
def marksM (n c : Nat) : List Msg := (List.range n).map fun i => markM (c + 4 * i)
theorem marksM_length (n c : Nat) : (marksM n c).length = n := by simp [marksM]
theorem marksM_at (n c k : Nat) (h : k < n) : mAt (marksM n c) k = markM (c + 4 * k) := by
  unfold mAt
  rw [List.getD_eq_getElem?_getD]
  simp [marksM, h]
theorem load_textM {W : World} {x : Addr} {len cap i : Nat} {ms : List Msg} (h : Mgs W (some x) len cap ms) (hi : i < len) : (Instr.loadAt 9 (.pointer (some ⟨(x.add (i * 4)).block, (x.add (i * 4)).off + 3, none⟩))).run Try.prog W = .ok (.string (mAt ms i).text) W := by
  obtain ⟨l0, l1, l2, l3⟩ := h.at (Below.refl _ _) hi
  clear h l0 l1 l2
  go_simp

set_option maxHeartbeats 2000000 in
theorem markMessageS_any (g n cap c : Nat) (w : World) (hn : n ≤ 1048576) (hc1 : 1 ≤ c) (hc2 : c ≤ 100000000) (hg : g < w.heap.size) (h : FilM g n 0 (marksM n c) w) (hf : FreeN g w) :
    Calls Try.prog 35 #[.slice (some ⟨g, 0, none⟩) n cap, .int .i64 (c : Int)] w fun e w' => e = .returned (.int .i64 ((c + 4 * n : Nat) : Int)) ∧ FilM g n n (marksM n c) w' ∧ FreeN g w' ∧ MwN g w w' := by
  have HF := Lib.hid (And.intro h (And.intro hf (show MwN g w w from ⟨Aside.refl _ _ _, Below.refl _ _, Nat.le_refl _, hg⟩)))
  clear h hf
  go_enter Try.func35, Try.ntmps35
  go_wp2
  go_loopw [1, 5] (fun m i wr => ∃ j z : Nat, j ≤ n ∧ i = .int .i64 j ∧ m = .int .i64 (z : Int) ∧ Hid (z = c + 4 * j) ∧ Hid (FilM g n j (marksM n c) wr ∧ FreeN g wr ∧ MwN g w wr)) (fun _ i _ => n - (intOf i).toNat)
  case atStart => exact ⟨0, c, Nat.zero_le _, rfl, rfl, rfl, HF⟩
  case round =>
    obtain ⟨j, z, hj, rfl, rfl, HZ, hfi⟩ := hrel
    clear HF
    by_cases hlt : j < n
    · obtain ⟨F0, R0, M0⟩ := hfi.out
      obtain ⟨u0, s0, _⟩ := F0 j hlt 0 (by omega)
      obtain ⟨u1, s1, _⟩ := F0 j hlt 1 (by omega)
      obtain ⟨u2, s2, _⟩ := F0 j hlt 2 (by omega)
      have r0 := R0 (j * 4)
      have r1 := R0 (j * 4 + 1)
      have r2 := R0 (j * 4 + 2)
      simp only [Nat.add_zero] at s0
      have hz9 : z ≤ 110000000 := by have := HZ.out; omega
      have hz1 : 1 ≤ z := by have := HZ.out; omega
      have k1 : IntKind.i64.wrap ((z : Int) + 1) = (z : Int) + 1 := IntWalk.i64_in _ (by omega)
      have k2 : IntKind.i64.wrap ((z : Int) + 1 + 1) = (z : Int) + 1 + 1 := IntWalk.i64_in _ (by omega)
      have k3 : IntKind.i64.wrap ((z : Int) + 1 + 1 + 1) = (z : Int) + 1 + 1 + 1 := IntWalk.i64_in _ (by omega)
      obtain ⟨W6, hW6⟩ : ∃ W6, (((wr.setCell ⟨g, j * 4, none⟩ (.int .i64 ((z : Int)))).setCell ⟨g, j * 4 + 1, none⟩ (.int .i64 ((z : Int) + 1))).setCell ⟨g, j * 4 + 2, none⟩ (.bool (((z : Int) + 1 + 1) % 3 == 0))) = W6 := ⟨_, rfl⟩
      have F6 := Lib.hid (show FilM g n j (marksM n c) W6 ∧ FreeN g W6 ∧ MwN g w W6 from by rw [← hW6]; exact ⟨(((F0.cell (i := j) (j := 0) (Nat.le_refl _) rfl (by omega) (.int .i64 ((z : Int)))).cell (i := j) (j := 1) (Nat.le_refl _) rfl (by omega) (.int .i64 ((z : Int) + 1))).cell (i := j) (j := 2) (Nat.le_refl _) rfl (by omega) (.bool (((z : Int) + 1 + 1) % 3 == 0))), (FreeN.set (FreeN.set (FreeN.set R0 (e := g) (i := j * 4) (.int .i64 ((z : Int)))) (e := g) (i := j * 4 + 1) (.int .i64 ((z : Int) + 1))) (e := g) (i := j * 4 + 2) (.bool (((z : Int) + 1 + 1) % 3 == 0))), (MwN.set (MwN.set (MwN.set M0 (i := j * 4) (.int .i64 ((z : Int)))) (i := j * 4 + 1) (.int .i64 ((z : Int) + 1))) (i := j * 4 + 2) (.bool (((z : Int) + 1 + 1) % 3 == 0)))⟩)
      have Q0 := Lib.hid (show W6.cell? ⟨g, j * 4, none⟩ = some (.int .i64 ((z : Int))) from by rw [← hW6]; exact (cell_other (by omega) (cell_other (by omega) (World.cell?_setCell_same _ _ _ s0))))
      have Q1 := Lib.hid (show W6.cell? ⟨g, j * 4 + 1, none⟩ = some (.int .i64 ((z : Int) + 1)) from by rw [← hW6]; exact (cell_other (by omega) (World.cell?_setCell_same _ _ _ (cell_other (by omega) s1))))
      have Q2 := Lib.hid (show W6.cell? ⟨g, j * 4 + 2, none⟩ = some (.bool (((z : Int) + 1 + 1) % 3 == 0)) from by rw [← hW6]; exact (World.cell?_setCell_same _ _ _ (cell_other (by omega) (cell_other (by omega) s2))))
      have HW6 := Lib.hid hW6
      clear F0 R0 M0 hW6
      clear hfi
      go_wp2_with fail
      rw [HW6.out]
      clear s0 s1 s2 r0 r1 r2 HW6
      refine (markText_at _ (z + 3) _ (by omega) (by omega) (by omega)).mono ?_
      rintro e w2 ⟨rfl, hb2⟩
      have hg6 : g < W6.heap.size := Nat.lt_of_lt_of_le F6.out.2.2.l F6.out.2.2.z
      have F2 := F6.out.1.below hb2
      have R2 := F6.out.2.1.below hg6 hb2
      have M2 := F6.out.2.2.grow hb2
      obtain ⟨u6, s6, _⟩ := F2 j hlt 3 (by omega)
      have r6 := R2 (j * 4 + 3)
      have FN := Lib.hid (show FilM g n (j + 1) (marksM n c) (w2.setCell ⟨g, j * 4 + 3, none⟩ (.string (markT (z + 3)))) ∧ FreeN g (w2.setCell ⟨g, j * 4 + 3, none⟩ (.string (markT (z + 3)))) ∧ MwN g w (w2.setCell ⟨g, j * 4 + 3, none⟩ (.string (markT (z + 3)))) from by
        refine ⟨(F2.cell (i := j) (j := 3) (Nat.le_refl _) rfl (by omega) _).fill fun jj v hv => ?_, R2.set _, M2.set _⟩
        rw [marksM_at n c j hlt, ← HZ.out] at hv
        have hjj : jj < 4 := (List.getElem?_eq_some_iff.1 hv).1
        rcases (show jj = 0 ∨ jj = 1 ∨ jj = 2 ∨ jj = 3 by omega) with rfl | rfl | rfl | rfl
        · exact (cell_other (by omega) (kept_cell hb2 hg6 Q0.out)).trans hv
        · exact (cell_other (by omega) (kept_cell hb2 hg6 Q1.out)).trans hv
        · exact (cell_other (by omega) (kept_cell hb2 hg6 Q2.out)).trans hv
        · exact (World.cell?_setCell_same _ _ _ s6).trans hv)
      have k4 : IntKind.i64.wrap ((z : Int) + 1 + 1 + 1 + 1) = (z : Int) + 1 + 1 + 1 + 1 := IntWalk.i64_in _ (by omega)
      have HZ7 := Lib.hid (show z + 4 = c + 4 * (j + 1) by have := HZ.out; omega)
      clear F2 R2 M2 F6 Q0 Q1 Q2 hb2
      go_wp2
      go_roundw
      case rel => exact ⟨j + 1, z + 4, by omega, by go_num, by go_num, HZ7, FN⟩
      case measure => simp [intOf]; omega
    · obtain rfl : j = n := by omega
      go_wp2
      go_ret
      exact ⟨by rw [HZ.out]; rfl, hfi.out.1, hfi.out.2.1, hfi.out.2.2⟩

set_option maxRecDepth 20000 in
set_option maxHeartbeats 2000000 in
theorem heldMessageS_any (a : Option Addr) (n cap c : Nat) (w : World) (hn : n ≤ 1048576) (hc1 : 1 ≤ c) (hc2 : c ≤ 100000000) (h : Mgs w a n cap (marksM n c)) :
    Calls Try.prog 36 #[.slice a n cap, .int .i64 (c : Int)] w fun e w' => e = .returned (.int .i64 ((c + 4 * n : Nat) : Int)) ∧ Below w.heap.size w w' := by
  have HG := Lib.hid h
  clear h
  go_enter Try.func36, Try.ntmps36
  go_wp2
  go_loopw [1, 5] (fun m i wr => ∃ j z : Nat, j ≤ n ∧ i = .int .i64 j ∧ m = .int .i64 (z : Int) ∧ Hid (z = c + 4 * j) ∧ Hid (Below w.heap.size w wr)) (fun _ i _ => n - (intOf i).toNat)
  case atStart => exact ⟨0, c, Nat.zero_le _, rfl, rfl, rfl, Lib.hid (Below.refl _ _)⟩
  case round =>
    obtain ⟨j, z, hj, rfl, rfl, HZ, hbel⟩ := hrel
    by_cases hlt : j < n
    · obtain ⟨x, rfl⟩ := HG.out.addr hlt
      obtain ⟨p0, p1, p2, p6⟩ := HG.out.at hbel.out hlt
      have EP := Lib.hid (show mAt (marksM n c) j = markM z by rw [marksM_at n c j hlt, HZ.out])
      rw [EP.out] at p0 p1 p2 p6
      unfold markM at p0 p1 p2 p6
      dsimp only at p0 p1 p2 p6
      have hz9 : z ≤ 110000000 := by have := HZ.out; omega
      have hz1 : 1 ≤ z := by have := HZ.out; omega
      have k1 : IntKind.i64.wrap ((z : Int) + 1) = (z : Int) + 1 := IntWalk.i64_in _ (by omega)
      have k2 : IntKind.i64.wrap ((z : Int) + 1 + 1) = (z : Int) + 1 + 1 := IntWalk.i64_in _ (by omega)
      have k3 : IntKind.i64.wrap ((z : Int) + 1 + 1 + 1) = (z : Int) + 1 + 1 + 1 := IntWalk.i64_in _ (by omega)
      have hsz2 := hbel.out.size
      have LT : ∀ W, Below wr.heap.size wr W → (Instr.loadAt 9 (.pointer (some ⟨(x.add (j * 4)).block, (x.add (j * 4)).off + 3, none⟩))).run Try.prog W = .ok (.string (markT (z + 3))) W := fun W hW => by
        have h := load_textM ((HG.out.below hbel.out).below hW) hlt
        rw [EP.out] at h
        exact h
      have SMH := Lib.hid (fun w => markText_at ((z : Int) + 1 + 1 + 1) (z + 3) w (by omega) (by omega) (by omega))
      clear p6
      go_wp2_with fail
      clear p0 p1 p2
      refine region_class (C := fun W => Below wr.heap.size wr W) (by kernel_rfl) (by kernel_rfl) (Below.drew (Below.refl _ _)) ?_
      repeat (first
        | go_big_quiet_skip
        | (go_big_quiet_want; go_big_quiet_op; go_big_quiet_on)
        | (refine BigFrame.wpQuiet_want (by rfl) (fun K hK => ?_)
           first
             | (refine quiet_loadQ (x := .tmp 44) (by with_reducible rfl) (by rfl) LT (hK _ ?_))
             | (apply Exists.intro
                refine ⟨fun W hW => ?_, hK _ ?_⟩
                next =>
                  go_simp
                  first
                    | with_reducible exact rfl
                    | (refine (SMH.out _).mono ?_; rintro e w3 ⟨rfl, hb3⟩; exact ⟨rfl, hW.trans (hb3.mono hW.size)⟩))
           conv => arg 6; simp only [Act.put, List.setIfInBounds_toArray, List.set_cons_zero, List.set_cons_succ]
           clear hK K))
      refine wpQuiet_nil ?_
      intro W hW
      clear LT
      have hb := Lib.hid (hbel.out.trans (hW.mono hsz2))
      have k4 : IntKind.i64.wrap ((z : Int) + 1 + 1 + 1 + 1) = (z : Int) + 1 + 1 + 1 + 1 := IntWalk.i64_in _ (by omega)
      have HZ7 := Lib.hid (show z + 4 = c + 4 * (j + 1) by have := HZ.out; omega)
      clear hW
      go_wp2
      go_roundw
      case rel => exact ⟨j + 1, z + 4, by omega, by go_num, by go_num, HZ7, hb⟩
      case measure => simp [intOf]; omega
    · obtain rfl : j = n := by omega
      go_wp2
      go_ret
      exact ⟨by rw [HZ.out]; rfl, hbel.out⟩

end Go.Proofs.Ytncbgejggfkdmab

/- Numbers in a row of one's own; rows that are left be. -/
namespace Go.Proofs.Ytncbgejggfkdmab
open Go.RowKit Go.PlainAid

theorem VarN.blk {c : Nat} {vs : List Value} {w w' : World} (h : VarN c vs w) (e : w'.heap[c]? = w.heap[c]?) : VarN c vs w' := fun i v hi =>
  ⟨(World.cell?_of_block (w := w) e).trans (h i v hi).1, (World.frozen?_of_block (w := w) e).trans (h i v hi).2⟩
theorem VarN.lt {c : Nat} {v : Value} {vs : List Value} {w : World} (h : VarN c (v :: vs) w) : c < w.heap.size := lt_of_cell (h 0 v rfl).1
theorem row_low {base base2 e size n : Nat} {v : Value} {xs : List Value} {w : World} (h : w.ownsRow base e size v n xs) (hb : base2 ≤ base) : w.ownsRow base2 e size v n xs := by
  refine ⟨h.1, ?_⟩
  rcases h.2 with h1 | ⟨g, cap, cur, h1, h2, h3⟩
  · exact .inl h1
  · exact .inr ⟨g, cap, cur, h1, Nat.le_trans hb h2, h3⟩
theorem row_same {base e size n : Nat} {v : Value} {xs : List Value} {w w' : World} (h : w.ownsRow base e size v n xs) (hb : ∀ x, base ≤ x → x < w.heap.size → w'.heap[x]? = w.heap[x]?) : w'.ownsRow base e size v n xs := by
  refine ⟨h.1, ?_⟩
  rcases h.2 with h1 | ⟨g, cap, cur, h1, h2, h3, h4⟩
  · exact .inl h1
  · have hg : g < w.heap.size := (Array.getElem?_eq_some_iff.1 h3).1
    exact .inr ⟨g, cap, cur, h1, h2, by rw [hb g h2 hg]; exact h3, h4⟩
/-- Numbers in a row of one's own, at block G. -/
def Nrow (G n cn : Nat) (es : List Int) (W : World) : Prop := W.ownsRow G 3 1 (.slice (some ⟨G, 0, none⟩) n cn) n (flatN es)
theorem own_varN {base G n cap : Nat} {next : List Int} {W : World} (h : W.ownsRow base 3 1 (.slice (some ⟨G, 0, none⟩) n cap) n (flatN next)) : VarN G (flatN next) W := fun i v hi => by
  refine ⟨?_, ?_⟩
  · have hl : i < (flatN next).length := (List.getElem?_eq_some_iff.1 hi).1
    have := h.cellAt i (by rw [← h.1]; exact hl)
    rw [hi] at this
    exact this
  · rcases h.2 with ⟨h1, _⟩ | ⟨g, cap', cur, h1, _, h3, _⟩
    · exact absurd h1 (by intro e; cases e)
    · obtain ⟨rfl, _⟩ : G = g ∧ cap = cap' := by simpa using h1
      exact Lib.frozen_of_heap h3 i
section
variable {G n cn : Nat} {es : List Int} {W W' : World}
theorem Nrow.of {base : Nat} (h : W.ownsRow base 3 1 (.slice (some ⟨G, 0, none⟩) n cn) n (flatN es)) : Nrow G n cn es W := by
  refine ⟨h.1, ?_⟩
  rcases h.2 with ⟨h1, _⟩ | ⟨g, cap', cur, h1, h2, h3⟩
  · exact absurd h1 (by intro e; cases e)
  · have e : G = g ∧ cn = cap' := by simpa using h1
    exact .inr ⟨g, cap', cur, h1, by rw [e.1]; exact Nat.le_refl _, h3⟩
theorem Nrow.var (h : Nrow G n cn es W) : VarN G (flatN es) W := own_varN h
theorem Nrow.blk (h : Nrow G n cn es W) (e : W'.heap[G]? = W.heap[G]?) : Nrow G n cn es W' := by
  refine ⟨h.1, ?_⟩
  rcases h.2 with ⟨h1, _⟩ | ⟨g, cap', cur, h1, h2, h3, h4⟩
  · exact absurd h1 (by intro e; cases e)
  · have eg : G = g ∧ cn = cap' := by simpa using h1
    exact .inr ⟨g, cap', cur, h1, h2, by rw [← eg.1, e, eg.1]; exact h3, h4⟩
theorem Nrow.below {C : Nat} (h : Nrow G n cn es W) (hb : Below C W W') (hG : G < C) : Nrow G n cn es W' := h.blk (hb.block G hG)
theorem flatN_set (es : List Int) (i : Nat) (x : Int) : flatN (es.set i x) = (flatN es).set i (.int .i64 x) := by
  unfold flatN
  rw [List.map_set]
theorem Nrow.set (h : Nrow G n cn es W) (i : Nat) (x : Int) : Nrow G n cn (es.set i x) (W.setCell ⟨G, i, none⟩ (.int .i64 x)) := by
  unfold Nrow
  rw [flatN_set]
  exact (World.ownsRow.stored h i (.int .i64 x)).1
theorem Nrow.len (h : Nrow G n cn es W) : n ≤ cn ∧ cn ≤ maxLen ∧ es.length = n := by
  have := own_ns h
  exact ⟨this.len_le.1, this.len_le.2, this.length⟩
end

end Go.Proofs.Ytncbgejggfkdmab

/- What an exact law's marks leave be; the marks of a copy and of an answer. -/
namespace Go.Proofs.Ytncbgejggfkdmab
open Go.RowKit Go.PlainAid

/-- Of the blocks that were there none has turned but o, and none below C. -/
structure Mg (C : Nat) (o : Option Nat) (w w' : World) : Prop where
  b : Below C w w'
  a : ∀ x, x < w.heap.size → some x ≠ o → w'.heap[x]? = w.heap[x]?
section
variable {C d len cap k n size base e : Nat} {o : Option Nat} {a : Option Addr} {es : List Int} {vs : List Value} {v : Value} {xs : List Value} {w w' : World}
theorem VarN.mg (h : VarN d vs w) (m : Mg C o w w') (hd : d < w.heap.size) (hne : some d ≠ o) : VarN d vs w' := fun i v hi =>
  ⟨(World.cell?_of_block (w := w) (m.a d hd hne)).trans (h i v hi).1, (World.frozen?_of_block (w := w) (m.a d hd hne)).trans (h i v hi).2⟩
theorem own_mg (h : w.ownsRow base e size v n xs) (m : Mg C o w w') (hne : ∀ x, v.ownBlock = some x → some x ≠ o) : w'.ownsRow base e size v n xs := by
  refine ⟨h.1, ?_⟩
  rcases h.2 with h1 | ⟨x, cap, cur, rfl, h2, h3, h4⟩
  · exact .inl h1
  · have hx : x < w.heap.size := (Array.getElem?_eq_some_iff.1 h3).1
    exact .inr ⟨x, cap, cur, rfl, h2, by rw [m.a x hx (hne x rfl)]; exact h3, h4⟩
theorem add_block (x : Addr) (i : Nat) : (x.add i).block = x.block := by unfold Addr.add; split <;> rfl
theorem Ns.lts (h : Ns w a len cap es) : ∀ x, a = some x → 0 < len → x.block < w.heap.size := fun x hx hl => by
  rcases h with ⟨rfl, _⟩ | ⟨y, hy, _, _, _, h5⟩
  · cases hx
  · obtain rfl : x = y := by rw [hx] at hy; simpa using hy
    have := World.block_lt_of_cell? w _ (h5 0 hl)
    rwa [add_block] at this
theorem Ns.mgC (h : Ns w a len cap es) (hb : Below C w w') (hlt : ∀ x, a = some x → 0 < len → x.block < C) : Ns w' a len cap es := by
  rcases h with h | ⟨y, rfl, h1, h2, h3, h5⟩
  · exact .inl h
  · exact .inr ⟨y, rfl, h1, h2, h3, fun i hi => (hb.cell (by rw [add_block]; exact hlt y rfl (by omega))).trans (h5 i hi)⟩
end

theorem ownN_alloc {X : World} {base e size n : Nat} {v : Value} {xs : List Value} {o : Obj} (h : X.ownsRow base e size v n xs) : (X.alloc o).ownsRow base e size v n xs := h.alloc o
theorem ownUp {w w' : World} {base e size n : Nat} {v : Value} {xs : List Value} (h : w.ownsRow base e size v n xs) (hb : Below w.heap.size w w') : w'.ownsRow base e size v n xs := row_same h fun x _ h2 => hb.block x h2
theorem row_lt {w : World} {base e size n : Nat} {v : Value} {xs : List Value} (h : w.ownsRow base e size v n xs) {x : Nat} (hx : v.ownBlock = some x) : base ≤ x ∧ x < w.heap.size := by
  refine ⟨own_ge h hx, ?_⟩
  rcases h.2 with ⟨h1, _⟩ | ⟨g, cap, cur, h1, _, h3, _⟩
  · rw [h1] at hx; cases hx
  · rw [h1] at hx
    obtain rfl : g = x := by simpa [Value.ownBlock] using hx
    exact (Array.getElem?_eq_some_iff.1 h3).1
theorem pts0 (w : World) (p : Option Addr) : Pts w p 0 0 [] := by
  cases p with
  | none => exact .inl ⟨rfl, rfl, rfl, rfl⟩
  | some x => exact .inr ⟨x, rfl, Nat.le_refl _, Nat.zero_le _, rfl, fun i hi => absurd hi (by omega)⟩

end Go.Proofs.Ytncbgejggfkdmab

/- The laws' marks in a new assembly, and whether they are still there. -/
namespace Go.Proofs.Ytncbgejggfkdmab
open Go.RowKit Go.PlainAid

set_option maxHeartbeats 400000 in
theorem markDataS_none (p : Option Addr) (cap : Nat) (z : Int) (w : World) :
    Calls Try.prog 34 #[.slice p 0 cap, .int .i64 z] w fun e w' => e = .returned (.int .i64 z) ∧ w' = w := by
  go_enter Try.func34, Try.ntmps34
  go_wp2
  go_loopw [1, 5] (fun m i wr => m = .int .i64 z ∧ i = .int .i64 0 ∧ wr = w) (fun _ _ _ => 0)
  case atStart => exact ⟨rfl, rfl, rfl⟩
  case round =>
    obtain ⟨rfl, rfl, rfl⟩ := hrel
    go_wp2
    go_ret
    exact ⟨rfl, rfl⟩

set_option maxHeartbeats 400000 in
theorem heldDataS_none (p : Option Addr) (cap : Nat) (z : Int) (w : World) :
    Calls Try.prog 60 #[.slice p 0 cap, .int .i64 z] w fun e w' => e = .returned (.int .i64 z) ∧ w' = w := by
  go_enter Try.func60, Try.ntmps60
  go_wp2
  go_loopw [1, 5] (fun m i wr => m = .int .i64 z ∧ i = .int .i64 0 ∧ wr = w) (fun _ _ _ => 0)
  case atStart => exact ⟨rfl, rfl, rfl⟩
  case round =>
    obtain ⟨rfl, rfl, rfl⟩ := hrel
    go_wp2
    go_ret
    exact ⟨rfl, rfl⟩

set_option maxHeartbeats 1000000 in
/-- A new assembly is marked. -/
theorem markNewA {C k : Nat} {a : Option Addr} {cap : Nat} {es : List Int} {W : World} (p : Option Addr) (h : W.ownsRow C 3 1 (.slice a k cap) k (flatN es)) (hC : C ≤ W.heap.size) (hk : k ≤ 1048576) :
    Calls Try.prog 26 #[.agg #[.slice a k cap, .slice p 0 0], .int .i64 1] W fun e w' => e = .returned (.int .i64 (1 + (k : Int))) ∧ Ns w' a k cap (marksN k) ∧ W.heap.size ≤ w'.heap.size ∧ Mg C (Value.slice a k cap).ownBlock W w' := by
  have BX := Lib.hid (below_box (w := W) (.cells #[.slice a k cap, .slice p 0 0] 27) (Nat.le_refl _))
  have VX := Lib.hid (VarN.new W [.slice a k cap, .slice p 0 0] 27)
  rcases h.2 with ⟨h1, h2⟩ | ⟨g, cap', cur, h1, _⟩
  · obtain ⟨rfl, rfl, rfl⟩ : a = none ∧ k = 0 ∧ cap = 0 := by simpa using h1
    go_enter Try.func26, Try.ntmps26
    go_wp2_with fail
    refine (markIntS_none _).mono ?_
    rintro e w1 ⟨rfl, rfl⟩
    go_wp2_with fail
    refine (markDataS_none p 0 1 _).mono ?_
    rintro e w1 ⟨rfl, rfl⟩
    go_wp2
    go_ret
    exact ⟨rfl, Ns.nil _, BX.out.size, BX.out.mono hC, fun x hx _ => BX.out.block x hx⟩
  · obtain ⟨rfl, rfl⟩ : a = some ⟨g, 0, none⟩ ∧ cap = cap' := by simpa using h1
    obtain ⟨f1, f2, f3, f4, f5, f6⟩ := own_filN (marksN k) h
    have F1 := Lib.hid (f1.below BX.out)
    have R1 := Lib.hid (f2.below f6 BX.out)
    have hz := Lib.hid (And.intro f5 f6)
    clear h h1 f1 f2 f5 f6
    go_enter Try.func26, Try.ntmps26
    go_wp2_with fail
    refine (markIntS_any g k cap _ hk (Nat.lt_of_lt_of_le hz.out.2 BX.out.size) F1.out R1.out).mono ?_
    rintro e w1 ⟨rfl, hf, _, hm⟩
    have HF := Lib.hid (hf.ns (marksN_length k) f3 f4)
    have HM := Lib.hid hm
    have v1 := ((VX.out.blk (hm.a W.heap.size (by simp) (by have := hz.out.2; omega))) 1 _ rfl).1
    clear hf hm
    go_wp2_with fail
    refine (markDataS_none p 0 _ _).mono ?_
    rintro e w2 ⟨rfl, rfl⟩
    clear v1
    go_wp2
    go_ret
    exact ⟨rfl, HF.out, Nat.le_trans BX.out.size HM.out.z, (BX.out.mono hC).trans (HM.out.b.mono hz.out.1), fun x hx hne => (HM.out.a x (Nat.lt_of_lt_of_le hx BX.out.size) fun e => hne (by rw [e]; rfl)).trans (BX.out.block x hx)⟩

set_option maxHeartbeats 1000000 in
theorem heldNewA (a : Option Addr) (k cap : Nat) (p : Option Addr) (w : World) (hk : k ≤ 1048576) (h : Ns w a k cap (marksN k)) :
    Calls Try.prog 27 #[.agg #[.slice a k cap, .slice p 0 0], .int .i64 1] w fun e w' => e = .returned (.int .i64 (1 + (k : Int))) ∧ Below w.heap.size w w' := by
  have BX := Lib.hid (below_box (w := w) (.cells #[.slice a k cap, .slice p 0 0] 27) (Nat.le_refl _))
  have VX := Lib.hid (VarN.new w [.slice a k cap, .slice p 0 0] 27)
  have G1 := Lib.hid (h.below BX.out)
  have kn : ¬ 1 + (k : Int) < 0 := by omega
  clear h
  go_enter Try.func27, Try.ntmps27
  go_wp2_with fail
  refine (heldIntS_any a k cap _ hk G1.out).mono ?_
  rintro e w1 ⟨rfl, hb1⟩
  have v1 := ((VX.out.below hb1 (by simp)) 1 _ rfl).1
  have B1 := Lib.hid (BX.out.trans (hb1.mono BX.out.size))
  clear hb1
  go_wp2_with fail
  refine (heldDataS_none p 0 _ _).mono ?_
  rintro e w2 ⟨rfl, rfl⟩
  clear v1
  go_wp2
  go_ret
  exact ⟨rfl, B1.out⟩

end Go.Proofs.Ytncbgejggfkdmab

/- The contracts of chapter 22's model: the first message that is due. -/
namespace Go.Proofs.Ytncbgejggfkdmab
open Go.RowKit Go.PlainAid

theorem _root_.Go.RowKit.Below.drewQ {B : Nat} {a w : World} (h : Below B a w) (n : Nat) : Below B a (w.drewN n) := ⟨h.os, h.tape, h.output, h.size, h.block⟩
set_option maxRecDepth 4000 in
set_option maxHeartbeats 8000000 in
theorem l22Find_any (an : Option Addr) (ln cn : Nat) (next : List Int) (ap : Option Addr) (lp cp : Nat) (ps : List Part) (w : World) (h : Ns w an ln cn next) (hp : Pts w ap lp cp ps) (ha : AsmOk next ps) :
    Calls Try.prog 75 #[.agg #[.slice an ln cn, .slice ap lp cp]] w fun e w' => ∃ m g cap2, e = .returned (.slice (some ⟨g, 0, none⟩) m cap2) ∧ m = (findP next ps).length ∧ OwnN m (.slice (some ⟨g, 0, none⟩) m cap2) (natI (findP next ps)) w w' := by
  have hl := h.length
  have hm := h.len_int
  have HG := Lib.hid h
  have hlp := hp.length
  have hmp := hp.len_int
  have HP := Lib.hid hp
  have HA := Lib.hid ha
  have few := ha.few
  clear h hp ha
  go_enter Try.func75, Try.ntmps75
  go_wp2
  go_loopw [3] (fun i wr => ∃ k : Nat, k ≤ lp ∧ i = .int .i64 k ∧ Hid (findFrom next ps k (lp - k) = findP next ps) ∧ wr.cell? ⟨w.heap.size, 0, none⟩ = some (.slice an ln cn) ∧ wr.cell? ⟨w.heap.size, 1, none⟩ = some (.slice ap lp cp) ∧ Hid (Below w.heap.size w wr)) (fun i _ => lp - (intOf i).toNat)
  case atStart => exact ⟨0, Nat.zero_le _, rfl, Lib.hid (by unfold findP; rw [hlp]; rfl), by simp, by simp, Lib.hid (below_box _ (Nat.le_refl _))⟩
  case round =>
    obtain ⟨k, hk, rfl, hF, hc0, hc1, hbel⟩ := hrel
    have nes : ¬ w.heap.size = wr.heap.size := by have := lt_of_cell hc0; omega
    by_cases hlt : k < lp
    · obtain ⟨x, rfl⟩ := HP.out.addr hlt
      obtain ⟨p0, p1, p2, p3, p4, p5, p6⟩ := HP.out.at hbel.out hlt
      have hkl : k < ps.length := by omega
      obtain ⟨⟨t, s, q, fi, la, lo, tx⟩, he⟩ : ∃ e, pAt ps k = e := ⟨_, rfl⟩
      have HE := Lib.hid he
      have HO := Lib.hid (HA.out.ok _ (pAt_mem hkl))
      rw [he] at p0 p1 p2 p3 p4 p5 p6 HO
      dsimp only at p0 p1 p2 p3 p4 p5 p6
      obtain ⟨sn, rfl⟩ : ∃ sn : Nat, s = (sn : Int) := ⟨s.toNat, by have := HO.out.1.2.1.1; dsimp only at this; omega⟩
      have hsn : sn < ln := by have := HO.out.2; dsimp only at this; omega
      obtain ⟨y, rfl⟩ := HG.out.addr hsn
      have n0 := HG.out.at hbel.out hsn
      obtain ⟨nx, hnx⟩ : ∃ nx, nAt next sn = nx := ⟨_, rfl⟩
      rw [hnx] at n0
      have HN := Lib.hid hnx
      have hsi : ((sn : Nat) : Int) < (ln : Int) := by omega
      clear he hnx
      have DU := Lib.hid (show dueP next (pAt ps k) = (fi && (lo || q == nx)) by rw [HE.out, ← HN.out]; rfl)
      have BX := below_box (w := wr) (.cells #[.int .i64 t, .int .i64 (sn : Int), .int .i64 q, .bool fi, .bool la, .bool lo, .string tx] 43) (Nat.le_refl _)
      have g0 := (BX.cell (World.block_lt_of_cell? _ _ hc0)).trans hc0
      have g1 := (BX.cell (World.block_lt_of_cell? _ _ hc1)).trans hc1
      have g2 := (BX.cell (World.block_lt_of_cell? _ _ n0)).trans n0
      have HBx := Lib.hid (hbel.out.trans (BX.mono hbel.out.size))
      clear BX
      cases fi with
      | false =>
        have F := Lib.hid (show findFrom next ps (k + 1) (lp - (k + 1)) = findP next ps by have h := find_skip (next := next) (ps := ps) (i := k) (m := lp - k) (.inl (by rw [DU.out]; rfl)) (by omega); rw [Nat.sub_sub] at h; exact h.symm.trans hF.out)
        go_wp2_with fail
        go_quiet (fail)
        go_wp2
        go_roundw
        case rel => exact ⟨k + 1, by omega, by go_num, F, by simpa using g0, by simpa using g1, Lib.hid (HBx.out.drewQ _)⟩
        case measure => simp [intOf]; omega
      | true =>
        cases lo with
        | true =>
          have DT := Lib.hid (show dueP next (pAt ps k) = true by rw [DU.out]; rfl)
          go_wp2_with fail
          go_quiet (fail)
          go_wp2_with fail
          refine (l22Chain_any x lp cp ps k _ (HP.out.below (HBx.out.drewQ _)) hlt (fun p hp => ⟨(HA.out.ok p hp).1.1.1, by have := (HA.out.ok p hp).1.1.2; omega⟩)).mono ?_
          rintro e w3 ⟨m, g, cap2, rfl, hm4, ho3⟩
          have hm3 := Lib.hid hm4
          clear hm4
          have O := Lib.hid (ho3.low (HBx.out.drewQ _))
          have k0 := (ho3.b.cell (World.block_lt_of_cell? _ _ (by simpa using g0))).trans (show _ = _ by simpa using g0)
          have k1 := (ho3.b.cell (World.block_lt_of_cell? _ _ (by simpa using g1))).trans (show _ = _ by simpa using g1)
          clear ho3 g0 g1 g2 hc0 hc1 p0 p1 p2 p3 p4 p5 p6 n0
          by_cases hm0 : m = 0
          · have F := Lib.hid (show findFrom next ps (k + 1) (lp - (k + 1)) = findP next ps by have h := find_skip (next := next) (ps := ps) (i := k) (m := lp - k) (.inr (List.eq_nil_of_length_eq_zero (by rw [← hm3.out]; exact hm0))) (by omega); rw [Nat.sub_sub] at h; exact h.symm.trans hF.out)
            subst hm0
            go_wp2
            go_roundw
            case rel => exact ⟨k + 1, by omega, by go_num, F, k0, k1, Lib.hid O.out.b⟩
            case measure => simp [intOf]; omega
          · have E := Lib.hid (show findP next ps = chainOf ps k from hF.out.symm.trans (find_here DT.out (fun h => hm0 (by rw [hm3.out, h]; rfl)) (by omega)))
            have hpos : (0 : Int) < (m : Int) := by omega
            go_wp2
            go_ret
            exact ⟨m, g, cap2, rfl, by rw [E.out]; exact hm3.out, by rw [E.out]; exact O.out⟩
        | false =>
          by_cases hq : q = nx
          · subst hq
            have DT := Lib.hid (show dueP next (pAt ps k) = true by rw [DU.out]; simp)
            go_wp2_with fail
            go_quiet (fail)
            go_wp2_with fail
            refine (l22Chain_any x lp cp ps k _ (HP.out.below (HBx.out.drewQ _)) hlt (fun p hp => ⟨(HA.out.ok p hp).1.1.1, by have := (HA.out.ok p hp).1.1.2; omega⟩)).mono ?_
            rintro e w3 ⟨m, g, cap2, rfl, hm4, ho3⟩
            have hm3 := Lib.hid hm4
            clear hm4
            have O := Lib.hid (ho3.low (HBx.out.drewQ _))
            have k0 := (ho3.b.cell (World.block_lt_of_cell? _ _ (by simpa using g0))).trans (show _ = _ by simpa using g0)
            have k1 := (ho3.b.cell (World.block_lt_of_cell? _ _ (by simpa using g1))).trans (show _ = _ by simpa using g1)
            clear ho3 g0 g1 g2 hc0 hc1 p0 p1 p2 p3 p4 p5 p6 n0
            by_cases hm0 : m = 0
            · have F := Lib.hid (show findFrom next ps (k + 1) (lp - (k + 1)) = findP next ps by have h := find_skip (next := next) (ps := ps) (i := k) (m := lp - k) (.inr (List.eq_nil_of_length_eq_zero (by rw [← hm3.out]; exact hm0))) (by omega); rw [Nat.sub_sub] at h; exact h.symm.trans hF.out)
              subst hm0
              go_wp2
              go_roundw
              case rel => exact ⟨k + 1, by omega, by go_num, F, k0, k1, Lib.hid O.out.b⟩
              case measure => simp [intOf]; omega
            · have E := Lib.hid (show findP next ps = chainOf ps k from hF.out.symm.trans (find_here DT.out (fun h => hm0 (by rw [hm3.out, h]; rfl)) (by omega)))
              have hpos : (0 : Int) < (m : Int) := by omega
              go_wp2
              go_ret
              exact ⟨m, g, cap2, rfl, by rw [E.out]; exact hm3.out, by rw [E.out]; exact O.out⟩
          · have hq2 : decide (q = nx) = false := decide_eq_false hq
            have F := Lib.hid (show findFrom next ps (k + 1) (lp - (k + 1)) = findP next ps by have h := find_skip (next := next) (ps := ps) (i := k) (m := lp - k) (.inl (by rw [DU.out]; simp [hq])) (by omega); rw [Nat.sub_sub] at h; exact h.symm.trans hF.out)
            go_wp2_with fail
            go_quiet (fail)
            go_wp2
            go_roundw
            case rel => exact ⟨k + 1, by omega, by go_num, F, by simpa using g0, by simpa using g1, Lib.hid (HBx.out.drewQ _)⟩
            case measure => simp [intOf]; omega
    · obtain rfl : k = lp := by omega
      have E := Lib.hid (show findP next ps = [] by rw [← hF.out, Nat.sub_self]; rfl)
      go_wp2
      go_ret
      exact ⟨0, _, 0, rfl, by rw [E.out]; rfl, by rw [E.out]; exact OwnN.start hbel.out⟩

end Go.Proofs.Ytncbgejggfkdmab

/- The contracts of chapter 21's model: a part that arrives; whether a part has arrived. -/
namespace Go.Proofs.Ytncbgejggfkdmab
open Go.RowKit Go.PlainAid

/-- Numbers that are appended to a row of one's own, none or some. -/
theorem wp_catN {o : Oper} {a : Act} {w : World} {K : Act → World → Prop} {Q : Exit → Act → World → Prop} (s x : Operand) (hop : o.op = Op.call { callee := Callee.builtin Builtin.append, args := #[s, x], argTypes := #[24, 24] })
    (base i m n cc e cap : Nat) (ad : Addr) (xs ys : List Int) (hn : i + m = n) (hv : a.eval s = .slice (some ⟨e, 0, none⟩) i cap) (hown : w.ownsRow base 3 1 (.slice (some ⟨e, 0, none⟩) i cap) i (flatN xs))
    (hx : a.eval x = .slice (some ad) m cc) (hl : ys.length = m) (hc : ∀ j u, (flatN ys)[j]? = some u → w.cell? (ad.add j) = some u) (him : i + m ≤ 10000000) (hb : base ≤ w.heap.size)
    (hK : ∀ g3 cap3 w', w'.ownsRow base 3 1 (.slice (some ⟨g3, 0, none⟩) n cap3) n (flatN (xs ++ ys)) → w.grownBy w' (some e) → (g3 = e ∨ g3 = w.heap.size) → K (a.put o.dst (.slice (some ⟨g3, 0, none⟩) n cap3)) w') :
    Oper.wp Try.prog o a w K Q := by
  subst hn
  obtain ⟨i0, hi, hz0, hz1, hz2⟩ := info_parts info_n
  obtain ⟨v', w', hr, h2, h3, h4, h5⟩ := run_append_own_at (P := Try.prog) w base 24 o.type 3 i0 (.int .i64 0) 1 8 Try.underlying24 hi hz0 hz1 hz2 rfl (by decide) _ i (flatN xs) hown ad m cc (flatN ys) (by rw [flatN_length, hl]; omega) hc (flatN_one ys) (by unfold maxLen; omega) (by omega) hb
  obtain ⟨g3, cap3, rfl⟩ : ∃ g3 cap3, v' = .slice (some ⟨g3, 0, none⟩) (i + m) cap3 := by
    rcases h2.2 with ⟨h0, _⟩ | ⟨g3, cap3, _, hv, _⟩
    · have := (h4.1 h0).1
      cases this
    · exact ⟨g3, cap3, hv⟩
  unfold Oper.wp execOp
  simp only [hop, resolve, invoke, builtin, Sem.run_bind, Sem.run_pure, Result.andThen_ok, List.map_toArray, List.map_cons, List.map_nil, hv, hx, hr]
  refine hK g3 cap3 w' (by rw [flatN_append]; exact h2) h3 ?_
  rcases h5 with h5 | h5
  · exact .inl (by simpa [Value.ownBlock] using h5)
  · exact .inr (by simpa [Value.ownBlock] using h5)

theorem list_catN {ops : Array Oper} {rest : List Oper} {o : Oper} {a : Act} {w : World} {Q : Exit → Act → World → Prop} (hg : o.guard = none) (s x : Operand) (hop : o.op = Op.call { callee := Callee.builtin Builtin.append, args := #[s, x], argTypes := #[24, 24] })
    (base i m n cc e cap : Nat) (ad : Addr) (xs ys : List Int) (hn : i + m = n) (hv : a.eval s = .slice (some ⟨e, 0, none⟩) i cap) (hown : w.ownsRow base 3 1 (.slice (some ⟨e, 0, none⟩) i cap) i (flatN xs))
    (hx : a.eval x = .slice (some ad) m cc) (hl : ys.length = m) (hc : ∀ j u, (flatN ys)[j]? = some u → w.cell? (ad.add j) = some u) (him : i + m ≤ 10000000) (hb : base ≤ w.heap.size)
    (hK : ∀ g3 cap3 w', w'.ownsRow base 3 1 (.slice (some ⟨g3, 0, none⟩) n cap3) n (flatN (xs ++ ys)) → w.grownBy w' (some e) → (g3 = e ∨ g3 = w.heap.size) → wpList Try.prog ops Q rest (a.put o.dst (.slice (some ⟨g3, 0, none⟩) n cap3)) w') :
    wpList Try.prog ops Q (o :: rest) a w :=
  wpList_plain hg fun _ h => wp_catN s x hop base i m n cc e cap ad xs ys hn hv hown hx hl hc him hb fun g3 cap3 w' h2 h3 h4 => h _ _ (hK g3 cap3 w' h2 h3 h4)

end Go.Proofs.Ytncbgejggfkdmab

/- The contracts of chapter 22's model: a message is taken out. -/
namespace Go.Proofs.Ytncbgejggfkdmab
open Go.RowKit Go.PlainAid

/-- While a message is taken out: the assembly's box, the answers' boxes, the first part at B, behind it the message with the text X. -/
structure Tq (B : Nat) (an : Option Addr) (ln cn : Nat) (ap : Option Addr) (lp cp : Nat) (d : Part) (X : ByteArray) (w W : World) : Prop where
  a : VarN w.heap.size [.slice an ln cn, .slice ap lp cp] W
  ra : VarN (w.heap.size + 1) [.slice none 0 0, .slice none 0 0] W
  rm : VarN (w.heap.size + 2) [.int .i64 0, .int .i64 0, .bool false, .string (ByteArray.mk #[])] W
  fd : VarN B (cellsP d) W
  m : VarN (B + 1) [.int .i64 d.stream, .int .i64 d.ssn, .bool d.loose, .string X] W
  b : Below w.heap.size w W
  z : B + 2 ≤ W.heap.size
  lo : w.heap.size + 3 ≤ B
section
variable {B : Nat} {w W W' : World} {an : Option Addr} {ln cn : Nat} {ap : Option Addr} {lp cp : Nat} {d : Part} {X : ByteArray}
theorem Tq.step (h : Tq B an ln cn ap lp cp d X w W) (hb : Below (B + 2) W W') : Tq B an ln cn ap lp cp d X w W' :=
  have h0 := h.lo
  ⟨h.a.below hb (by omega), h.ra.below hb (by omega), h.rm.below hb (by omega), h.fd.below hb (by omega), h.m.below hb (by omega), h.b.trans (hb.mono (by omega)), Nat.le_trans h.z hb.size, h0⟩
theorem Tq.drew (h : Tq B an ln cn ap lp cp d X w W) : Tq B an ln cn ap lp cp d X w W.drew := h.step (Below.drew (Below.refl _ _))
theorem Tq.text (h : Tq B an ln cn ap lp cp d X w W) (Y : ByteArray) : Tq B an ln cn ap lp cp d Y w (W.setCell ⟨B + 1, 3, none⟩ (.string Y)) :=
  have h0 := h.lo
  ⟨h.a.far _ (by omega), h.ra.far _ (by omega), h.rm.far _ (by omega), h.fd.far _ (by omega), h.m.set (i := 3) _, h.b.setCell (p := ⟨B + 1, 3, none⟩) (by show w.heap.size ≤ B + 1; omega) _, by simpa using h.z, h0⟩
end
/-- Two, four cells are stored. -/
def st2 (W : World) (b : Nat) (v0 v1 : Value) : World := (W.setCell ⟨b, 0, none⟩ v0).setCell ⟨b, 1, none⟩ v1
def st4 (W : World) (b : Nat) (u0 u1 u2 u3 : Value) : World := (((W.setCell ⟨b, 0, none⟩ u0).setCell ⟨b, 1, none⟩ u1).setCell ⟨b, 2, none⟩ u2).setCell ⟨b, 3, none⟩ u3
theorem st2_heap (W : World) (b : Nat) (v0 v1 : Value) {x : Nat} (h : x ≠ b) : (st2 W b v0 v1).heap[x]? = W.heap[x]? := by
  unfold st2
  rw [Below.heap_setCell _ _ _ _ h, Below.heap_setCell _ _ _ _ h]
theorem st4_heap (W : World) (b : Nat) (u0 u1 u2 u3 : Value) {x : Nat} (h : x ≠ b) : (st4 W b u0 u1 u2 u3).heap[x]? = W.heap[x]? := by
  unfold st4
  rw [Below.heap_setCell _ _ _ _ h, Below.heap_setCell _ _ _ _ h, Below.heap_setCell _ _ _ _ h, Below.heap_setCell _ _ _ _ h]
theorem st2_below {R b : Nat} {w W : World} (h : Below R w W) (hb : R ≤ b) (v0 v1 : Value) : Below R w (st2 W b v0 v1) := (h.setCell (p := ⟨b, 0, none⟩) hb v0).setCell (p := ⟨b, 1, none⟩) hb v1
theorem st4_below {R b : Nat} {w W : World} (h : Below R w W) (hb : R ≤ b) (u0 u1 u2 u3 : Value) : Below R w (st4 W b u0 u1 u2 u3) := (((h.setCell (p := ⟨b, 0, none⟩) hb u0).setCell (p := ⟨b, 1, none⟩) hb u1).setCell (p := ⟨b, 2, none⟩) hb u2).setCell (p := ⟨b, 3, none⟩) hb u3
theorem drew_row {base e size n : Nat} {v : Value} {xs : List Value} {W W' : World} (h : W.ownsRow base e size v n xs) (he : ∀ x, base ≤ x → W'.heap[x]? = W.heap[x]?) : W'.drew.ownsRow base e size v n xs := row_same h fun x h1 _ => he x h1
/-- .. and what is left: numbers at g3, parts at g2, both in a variable at ob. -/
structure Tr (B : Nat) (an : Option Addr) (ln cn : Nat) (ap : Option Addr) (lp cp : Nat) (d : Part) (X : ByteArray) (ob g3 cap3 g2 k cap2 : Nat) (next2 : List Int) (qs : List Part) (w W : World) : Prop where
  q : Tq B an ln cn ap lp cp d X w W
  o : VarN ob [.slice (some ⟨g3, 0, none⟩) ln cap3, .slice (some ⟨g2, 0, none⟩) k cap2] W
  nr : Nrow g3 ln cap3 next2 W
  pr : W.ownsRow (B + 2) 43 7 (.slice (some ⟨g2, 0, none⟩) k cap2) k (flatP qs)
  lo : B + 2 ≤ ob ∧ B + 2 ≤ g3
  ne : g2 ≠ ob ∧ g3 ≠ ob ∧ g2 ≠ g3
section
variable {B : Nat} {w W W' : World} {an : Option Addr} {ln cn : Nat} {ap : Option Addr} {lp cp : Nat} {d : Part} {X : ByteArray} {ob g3 cap3 g2 k cap2 : Nat} {next2 : List Int} {qs : List Part}
theorem Nrow.lt {G n c : Nat} {es : List Int} (h : Nrow G n c es W) : G < W.heap.size := rowLt h
theorem Tr.step (h : Tr B an ln cn ap lp cp d X ob g3 cap3 g2 k cap2 next2 qs w W) (hb : Below W.heap.size W W') : Tr B an ln cn ap lp cp d X ob g3 cap3 g2 k cap2 next2 qs w W' :=
  ⟨h.q.step (hb.mono h.q.z), h.o.below hb h.o.lt, h.nr.below hb h.nr.lt, rowBelow h.pr hb (rowLt h.pr), h.lo, h.ne⟩
theorem Tr.drewT (h : Tr B an ln cn ap lp cp d X ob g3 cap3 g2 k cap2 next2 qs w W) : Tr B an ln cn ap lp cp d X ob g3 cap3 g2 k cap2 next2 qs w W.drew := h.step (Below.drew (Below.refl _ _))
theorem Tr.push {W1 : World} {g4 cap4 : Nat} {p : Part} (h : Tr B an ln cn ap lp cp d X ob g3 cap3 g2 k cap2 next2 qs w W) (hg : W.grownBy W1 (some g2)) (hown : W1.ownsRow (B + 2) 43 7 (.slice (some ⟨g4, 0, none⟩) (k + 1) cap4) (k + 1) (flatP qs ++ cellsP p)) (hat : g2 = g4 ∨ W.heap.size ≤ g4) :
    Tr B an ln cn ap lp cp d X ob g3 cap3 g4 (k + 1) cap4 next2 (qs ++ [p]) w (W1.setCell ⟨ob, 1, none⟩ (.slice (some ⟨g4, 0, none⟩) (k + 1) cap4)) := by
  have h1 := h.o.lt
  have h2 := h.nr.lt
  have h3 := own_ge h.pr rfl
  have h4 := h.lo
  have h5 := h.ne
  have e : flatP qs ++ cellsP p = flatP (qs ++ [p]) := by rw [flatP_append]; simp [flatP]
  have n1 : g4 ≠ ob := by rcases hat with h | h <;> omega
  have n2 : g4 ≠ g3 := by rcases hat with h | h <;> omega
  have hb : Below (B + 2) W W1 := Below.grown (Below.refl _ W) hg h.q.z fun x hx => by cases hx; exact h3
  refine ⟨(h.q.step hb).step ((Below.refl _ _).setCell (p := ⟨ob, 1, none⟩) h4.1 _), (h.o.plus hg h1 h5.1.symm).set (i := 1) _, (h.nr.blk (hg.block g3 h2 (by simpa using h5.2.2.symm))).blk (Below.heap_setCell _ _ _ _ (by simpa using h5.2.1)), rowFar (by rw [← e]; exact hown) n1 _, h4, n1, h5.2.1, n2⟩
theorem Tr.number (h : Tr B an ln cn ap lp cp d X ob g3 cap3 g2 k cap2 next2 qs w W) (i : Nat) (x : Int) : Tr B an ln cn ap lp cp d X ob g3 cap3 g2 k cap2 (next2.set i x) qs w (W.setCell ⟨g3, i, none⟩ (.int .i64 x)) :=
  ⟨h.q.step ((Below.refl _ _).setCell (p := ⟨g3, i, none⟩) h.lo.2 _), h.o.far _ h.ne.2.1, h.nr.set i x, rowFar h.pr h.ne.2.2 _, h.lo, h.ne⟩
theorem Tr.done (h : Tr B an ln cn ap lp cp d X ob g3 cap3 g2 k cap2 next2 qs w W) (v0 v1 u0 u1 u2 u3 : Value) :
    VarN (w.heap.size + 1) [v0, v1] (st4 (st2 W (w.heap.size + 1) v0 v1) (w.heap.size + 1 + 1) u0 u1 u2 u3).drew ∧
    VarN (w.heap.size + 1 + 1) [u0, u1, u2, u3] (st4 (st2 W (w.heap.size + 1) v0 v1) (w.heap.size + 1 + 1) u0 u1 u2 u3).drew ∧
    (st4 (st2 W (w.heap.size + 1) v0 v1) (w.heap.size + 1 + 1) u0 u1 u2 u3).drew.ownsRow w.heap.size 3 1 (.slice (some ⟨g3, 0, none⟩) ln cap3) ln (flatN next2) ∧
    (st4 (st2 W (w.heap.size + 1) v0 v1) (w.heap.size + 1 + 1) u0 u1 u2 u3).drew.ownsRow w.heap.size 43 7 (.slice (some ⟨g2, 0, none⟩) k cap2) k (flatP qs) ∧
    Below w.heap.size w (st4 (st2 W (w.heap.size + 1) v0 v1) (w.heap.size + 1 + 1) u0 u1 u2 u3).drew := by
  have hl := h.q.lo
  have hlo := h.lo
  have hg2 := own_ge h.pr rfl
  have e : ∀ x, B + 2 ≤ x → (st4 (st2 W (w.heap.size + 1) v0 v1) (w.heap.size + 1 + 1) u0 u1 u2 u3).heap[x]? = W.heap[x]? := fun x hx => by
    rw [st4_heap _ _ _ _ _ _ (by omega), st2_heap _ _ _ _ (by omega)]
  have va : VarN (w.heap.size + 1) [v0, v1] (st2 W (w.heap.size + 1) v0 v1) := (h.q.ra.set (i := 0) v0).set (i := 1) v1
  have vm : VarN (w.heap.size + 1 + 1) [.int .i64 0, .int .i64 0, .bool false, .string (ByteArray.mk #[])] (st2 W (w.heap.size + 1) v0 v1) := h.q.rm.blk (st2_heap _ _ _ _ (by omega))
  have vm4 : VarN (w.heap.size + 1 + 1) [u0, u1, u2, u3] (st4 (st2 W (w.heap.size + 1) v0 v1) (w.heap.size + 1 + 1) u0 u1 u2 u3) := vm.put4 u0 u1 u2 u3
  have va4 : VarN (w.heap.size + 1) [v0, v1] (st4 (st2 W (w.heap.size + 1) v0 v1) (w.heap.size + 1 + 1) u0 u1 u2 u3) := va.blk (st4_heap _ _ _ _ _ _ (by omega))
  exact ⟨va4.drewN 1, vm4.drewN 1, row_low (drew_row (row_low h.nr hlo.2) fun x hx => e x hx) (by omega), row_low (drew_row h.pr fun x hx => e x hx) (by omega), (st4_below (st2_below h.q.b (Nat.le_succ _) _ _) (by omega) _ _ _ _).drew⟩
end

set_option maxRecDepth 8000 in
set_option maxHeartbeats 20000000 in
theorem l22Take_any (y : Addr) (ln cn : Nat) (next : List Int) (x : Addr) (lp cp : Nat) (ps : List Part) (gc m cc k0 : Nat) (ch : List Nat) (w : World) (h : Ns w (some y) ln cn next) (hp : Pts w (some x) lp cp ps) (hc : Ns w (some ⟨gc, 0, none⟩) m cc (natI ch)) (ha : AsmOk next ps) (hch : Chn ps k0 ch) :
    Calls Try.prog 76 #[.agg #[.slice (some y) ln cn, .slice (some x) lp cp], .slice (some ⟨gc, 0, none⟩) m cc] w fun e w' => ∃ g3 c3 g2 c2, e = .returned (.tuple #[.agg #[.slice (some ⟨g3, 0, none⟩) ln c3, .slice (some ⟨g2, 0, none⟩) (restP ps ch).length c2], msgV (msgP ps ch)]) ∧
      w'.ownsRow w.heap.size 3 1 (.slice (some ⟨g3, 0, none⟩) ln c3) ln (flatN (nextP next (headD ps ch))) ∧ w'.ownsRow w.heap.size 43 7 (.slice (some ⟨g2, 0, none⟩) (restP ps ch).length c2) (restP ps ch).length (flatP (restP ps ch)) ∧ Below w.heap.size w w' := by
  have hl := h.length
  have hlp := hp.length
  have hmp := hp.len_int
  have hml : ch.length = m := by have := hc.length; rwa [natI_length] at this
  have hpos : 0 < m := by rw [← hml]; exact List.length_pos_iff.2 hch.cn.ne
  have hm13 : m ≤ 13 := by rw [← hml]; exact hch.cn.len
  have h0 : ch.getD 0 0 < ps.length := hch.cn.lt _ (getD_in (by omega))
  have HD := Lib.hid (ha.ok _ (pAt_mem h0))
  have hl4 : ln ≤ 4 := by rw [← hl]; exact ha.n4
  have hlp12 : lp ≤ 12 := by rw [← hlp]; exact ha.few
  have i0 : (0 : Int) < (m : Int) := by omega
  have LN := Lib.hid hl
  have LP := Lib.hid hlp
  have LM := Lib.hid hml
  have HN := Lib.hid h
  have HP := Lib.hid hp
  have HC := Lib.hid hc
  have HCH := Lib.hid hch
  have HA := Lib.hid ha
  obtain ⟨c0, hc0⟩ : ∃ c, ch.getD 0 0 = c := ⟨_, rfl⟩
  have HC0 := Lib.hid hc0
  have hclp : c0 < lp := by rw [← hc0, ← hlp]; exact h0
  have ci : (c0 : Int) < (lp : Int) := by omega
  have B3 := Lib.hid (show Below w.heap.size w (((w.alloc (.cells #[.slice (some y) ln cn, .slice (some x) lp cp] 27)).alloc (.cells #[.slice none 0 0, .slice none 0 0] 27)).alloc (.cells #[.int .i64 0, .int .i64 0, .bool false, .string (ByteArray.mk #[])] 46)) from ((below_box _ (Nat.le_refl _)).alloc (by simp) _).alloc (by first | (simp; done) | (simp; omega)) _)
  have V0 := Lib.hid (show VarN w.heap.size [.slice (some y) ln cn, .slice (some x) lp cp] (((w.alloc (.cells #[.slice (some y) ln cn, .slice (some x) lp cp] 27)).alloc (.cells #[.slice none 0 0, .slice none 0 0] 27)).alloc (.cells #[.int .i64 0, .int .i64 0, .bool false, .string (ByteArray.mk #[])] 46)) from ((VarN.new w _ _).alloc _ (by simp)).alloc _ (by first | (simp; done) | (simp; omega)))
  have V1 := Lib.hid (show VarN (w.heap.size + 1) [.slice none 0 0, .slice none 0 0] (((w.alloc (.cells #[.slice (some y) ln cn, .slice (some x) lp cp] 27)).alloc (.cells #[.slice none 0 0, .slice none 0 0] 27)).alloc (.cells #[.int .i64 0, .int .i64 0, .bool false, .string (ByteArray.mk #[])] 46)) from (VarN.new_at (by simp) _ _).alloc _ (by first | (simp; done) | (simp; omega)))
  have V2 := Lib.hid (show VarN (w.heap.size + 2) [.int .i64 0, .int .i64 0, .bool false, .string (ByteArray.mk #[])] (((w.alloc (.cells #[.slice (some y) ln cn, .slice (some x) lp cp] 27)).alloc (.cells #[.slice none 0 0, .slice none 0 0] 27)).alloc (.cells #[.int .i64 0, .int .i64 0, .bool false, .string (ByteArray.mk #[])] 46)) from VarN.new_at (by simp) _ _)
  have Z3 := Lib.hid (show w.heap.size + 3 ≤ ((((w.alloc (.cells #[.slice (some y) ln cn, .slice (some x) lp cp] 27)).alloc (.cells #[.slice none 0 0, .slice none 0 0] 27)).alloc (.cells #[.int .i64 0, .int .i64 0, .bool false, .string (ByteArray.mk #[])] 46))).heap.size by simp)
  clear h hp hc hch ha hl hlp hml hc0 h0
  go_enter Try.func76, Try.ntmps76
  go_upto_region 1 with fail
  generalize (((w.alloc (.cells #[.slice (some y) ln cn, .slice (some x) lp cp] 27)).alloc (.cells #[.slice none 0 0, .slice none 0 0] 27)).alloc (.cells #[.int .i64 0, .int .i64 0, .bool false, .string (ByteArray.mk #[])] 46)) = w3 at *
  have q0 := HC.out.at B3.out hpos
  rw [n_add, natI_at (by rw [LM.out]; exact hpos), HC0.out] at q0
  obtain ⟨p0, p1, p2, p3, p4, p5, p6⟩ := HP.out.at B3.out hclp
  obtain ⟨⟨t, sI, q, fi, la, lo, tx⟩, hd⟩ : ∃ d, pAt ps c0 = d := ⟨_, rfl⟩
  have HDE := Lib.hid hd
  rw [hd] at p0 p1 p2 p3 p4 p5 p6
  rw [HC0.out, hd] at HD
  clear hd
  obtain ⟨sn, rfl⟩ : ∃ sn : Nat, sI = (sn : Int) := ⟨sI.toNat, by have := HD.out.1.2.1.1; dsimp only at this; omega⟩
  dsimp only at p0 p1 p2 p3 p4 p5 p6
  have v0 := (V0.out 1 _ rfl).1
  have lv0 := lt_of_cell v0
  have lgc := lt_of_cell q0
  have lpb : (x.add (c0 * 7)).block < w3.heap.size := World.block_lt_of_cell? w3 _ p0
  go_region
  have T0 := Lib.hid (show Tq w3.heap.size (some y) ln cn (some x) lp cp ⟨t, sn, q, fi, la, lo, tx⟩ (ByteArray.mk #[]) w (((w3.alloc (.cells #[.int .i64 t, .int .i64 sn, .int .i64 q, .bool fi, .bool la, .bool lo, .string tx] 43)).alloc (.cells #[.int .i64 sn, .int .i64 q, .bool lo, .string (ByteArray.mk #[])] 46)).drew) from by
    have hb : Below w3.heap.size w3 (((w3.alloc (.cells #[.int .i64 t, .int .i64 sn, .int .i64 q, .bool fi, .bool la, .bool lo, .string tx] 43)).alloc (.cells #[.int .i64 sn, .int .i64 q, .bool lo, .string (ByteArray.mk #[])] 46)).drew) := Below.drew ((below_box _ (Nat.le_refl _)).alloc (by simp) _)
    have z := Z3.out
    exact ⟨V0.out.below hb (by omega), V1.out.below hb (by omega), V2.out.below hb (by omega), ((VarN.new w3 (cellsP ⟨t, sn, q, fi, la, lo, tx⟩) _).alloc _ (by simp)).drewN 1, (VarN.new_at (by simp) _ _).drewN 1, B3.out.trans (hb.mono (by omega)), by simp [World.drew], z⟩)
  have S0 := HD.out.1.2.1
  have hsn : sn < ln := by have := HD.out.2; rw [LN.out] at this; dsimp only at this; omega
  have SQ := Lib.hid (show Ser q from ⟨HD.out.1.2.2.1.1, by have := HD.out.1.2.2.1.2; dsimp only at this; omega⟩)
  clear q0 p0 p1 p2 p3 p4 p5 p6 v0 lv0 lgc lpb V0 V1 V2 B3 Z3 S0
  go_wp2
  obtain ⟨B, hB⟩ : ∃ B, w3.heap.size = B := ⟨_, rfl⟩
  rw [hB] at T0 ⊢
  have HB3 := Lib.hid hB
  clear hB
  go_loopw [8] (fun c wr => ∃ (i : Nat) (X : ByteArray), i ≤ m ∧ c = .int .i64 i ∧ Hid (X = textP ps (ch.take i)) ∧ X.size ≤ 20 * i ∧ Hid (Tq B (some y) ln cn (some x) lp cp ⟨t, sn, q, fi, la, lo, tx⟩ X w wr)) (fun c _ => m - (intOf c).toNat)
  case atStart => exact ⟨0, _, Nat.zero_le _, rfl, rfl, Nat.le_refl _, T0⟩
  case round =>
    obtain ⟨i, X, hi, rfl, hX, hXz, hT⟩ := hrel
    clear T0
    by_cases hlt : i < m
    · have hil : i < ch.length := by rw [LM.out]; exact hlt
      have qi := HC.out.at hT.out.b hlt
      rw [n_add, natI_at hil] at qi
      have hcm := HCH.out.cn.lt _ (getD_in hil)
      have HDC := Lib.hid (HA.out.ok _ (pAt_mem hcm))
      obtain ⟨c, hc⟩ : ∃ c, ch.getD i 0 = c := ⟨_, rfl⟩
      rw [hc] at qi hcm HDC
      have hclp2 : c < lp := by rw [← LP.out]; exact hcm
      have ci2 : (c : Int) < (lp : Int) := by omega
      obtain ⟨_, _, _, _, _, _, p6⟩ := HP.out.at hT.out.b hclp2
      obtain ⟨Y, hY⟩ : ∃ Y, (pAt ps c).text = Y := ⟨_, rfl⟩
      have hYz : Y.size ≤ 20 := by have := HDC.out.1.2.2.2.2; rwa [hY] at this
      have EX := Lib.hid (show X ++ Y = textP ps (ch.take (i + 1)) by
        have e2 : ch.take (i + 1) = ch.take i ++ [c] := by
          rw [List.take_add_one, ← hc, List.getD_eq_getElem?_getD, List.getElem?_eq_getElem hil]
          rfl
        rw [e2, textP_snoc, hX.out, hY])
      rw [hY] at p6
      have b1 := (hT.out.a 1 _ rfl).1
      have m3 := (hT.out.m 3 _ rfl).1
      have mf := (hT.out.m 3 _ rfl).2
      have hcat : ¬ 9223372036854775807 < X.size + Y.size := by omega
      have T2 := Lib.hid (hT.out.text (X ++ Y)).drew
      clear hc hY hil hcm
      go_wp2_with fail
      go_region
      clear qi p6 b1 m3 mf hcat
      go_wp2
      go_roundw
      case rel => exact ⟨i + 1, X ++ Y, by omega, by go_num, EX, by rw [ByteArray.size_append]; omega, T2⟩
      case measure => simp [intOf]; omega
    · obtain rfl : i = m := by omega
      have EX := Lib.hid (show X = textP ps ch by rw [hX.out, List.take_of_length_le (by rw [LM.out]; exact Nat.le_refl _)])
      have a0 := (hT.out.a 0 _ rfl).1
      have la0 := lt_of_cell a0
      have O := Lib.hid (World.ownsRow_lit (base := B + 2) (e := 3) (size := 1) wr #[] 0 hT.out.z (by decide) rfl)
      have HNW := Lib.hid (HN.out.below (hT.out.b.alloc hT.out.b.size (.cells #[] 3)))
      have hzz := hT.out.z
      have hLo := hT.out.lo
      go_wp2_with (at_builtin; go_loud (refine list_catN rfl _ _ rfl (B + 2) 0 ln ln cn wr.heap.size 0 y [] next (Nat.zero_add _) rfl O.out rfl LN.out (ns_flat HNW.out) (by omega) (by simp; omega) ?_))
      intro g3 cap3 w5 hown hgrow hat3
      have hown5 := Lib.hid (Nrow.of hown)
      have hb5 : Below (B + 2) wr w5 := Below.grown ((below_box _ (Nat.le_refl _)).mono hzz) hgrow (by simp; omega) fun k e => by cases e; exact hzz
      have hg3 : B + 2 ≤ g3 := own_ge hown rfl
      have hg3l := Lib.hid (rowLt hown)
      have T5 := Lib.hid (hT.out.step hb5)
      clear hown hgrow hat3 hT O HNW a0 la0 hb5
      go_wp2
      have R5 := Lib.hid (show Tr B (some y) ln cn (some x) lp cp ⟨t, sn, q, fi, la, lo, tx⟩ X (w5.heap.size + 1) g3 cap3 w5.heap.size 0 0 next (restTo ps ch 0) w ((w5.alloc (.cells #[] 43)).alloc (.cells #[.slice (some ⟨g3, 0, none⟩) ln cap3, .slice (some ⟨w5.heap.size, 0, none⟩) 0 0] 27)) from by
        have z5 := T5.out.z
        have l3 := hg3l.out
        have hb : Below w5.heap.size w5 ((w5.alloc (.cells #[] 43)).alloc (.cells #[.slice (some ⟨g3, 0, none⟩) ln cap3, .slice (some ⟨w5.heap.size, 0, none⟩) 0 0] 27)) := (below_box _ (Nat.le_refl _)).alloc (by simp) _
        refine ⟨T5.out.step (hb.mono z5), VarN.new_at (by simp) _ _, hown5.out.below hb l3, ?_, ⟨by omega, hg3⟩, by omega, by omega, by omega⟩
        exact (World.ownsRow_lit (base := B + 2) (e := 43) (size := 7) w5 #[] 0 z5 (by decide) rfl).alloc _)
      have zB : B + 2 ≤ w5.heap.size := T5.out.z
      obtain ⟨ob, hob⟩ : ∃ ob, w5.heap.size + 1 = ob := ⟨_, rfl⟩
      rw [hob] at R5 ⊢
      clear T5 hown5 hg3l hob
      obtain ⟨iP, hiP, zP0, zP1, zP2⟩ := info_parts info_pt
      have HI := Lib.hid (And.intro hiP (And.intro zP0 (And.intro zP1 zP2)))
      clear hiP zP0 zP1 zP2
      go_loopw [10] (fun c wr => ∃ (j g2 k cap2 : Nat), j ≤ lp ∧ c = .int .i64 j ∧ k ≤ j ∧ Hid (k = (restTo ps ch j).length) ∧ Hid (Tr B (some y) ln cn (some x) lp cp ⟨t, sn, q, fi, la, lo, tx⟩ X ob g3 cap3 g2 k cap2 next (restTo ps ch j) w wr)) (fun c _ => lp - (intOf c).toNat)
      case atStart => exact ⟨0, _, 0, 0, Nat.zero_le _, rfl, Nat.le_refl _, rfl, R5⟩
      case round =>
        obtain ⟨j, g2, k, cap2, hj, rfl, hkj, hk, hR⟩ := hrel
        clear R5
        have b1 := (hR.out.q.a 1 _ rfl).1
        by_cases hlt2 : j < lp
        · have ji : (j : Int) < (lp : Int) := by omega
          have CW := Lib.hid (HC.out.below hR.out.q.b)
          have L21 := l21Has_any (some ⟨gc, 0, none⟩) i cc (natI ch) (j : Int) _ CW.out
          by_cases hin : j ∈ ch
          · have ER := Lib.hid (restTo_in (ps := ps) hin)
            rw [decide_eq_true (natI_mem.2 hin)] at L21
            clear hin
            go_wp2_with fail
            refine L21.mono ?_
            rintro e w6 ⟨rfl, hb6⟩
            have R6 := Lib.hid (show Tr B (some y) ln cn (some x) lp cp ⟨t, sn, q, fi, la, lo, tx⟩ X ob g3 cap3 g2 k cap2 next (restTo ps ch (j + 1)) w w6 by rw [ER.out]; exact hR.out.step hb6)
            have K6 := Lib.hid (show k = (restTo ps ch (j + 1)).length by rw [ER.out]; exact hk.out)
            clear L21 hb6 b1 hR hk
            go_wp2
            go_roundw
            case rel => exact ⟨j + 1, g2, k, cap2, by omega, by go_num, by omega, K6, R6⟩
            case measure => simp [intOf]; omega
          · have ER := Lib.hid (restTo_out (ps := ps) hin)
            rw [decide_eq_false (fun h => hin (natI_mem.1 h))] at L21
            clear hin
            go_wp2_with fail
            refine L21.mono ?_
            rintro e w6 ⟨rfl, hb6⟩
            have R6 := Lib.hid (hR.out.step hb6)
            have b6 := (R6.out.q.a 1 _ rfl).1
            have o6 := (R6.out.o 1 _ rfl).1
            obtain ⟨p0, p1, p2, p3, p4, p5, p6⟩ := HP.out.at R6.out.q.b hlt2
            obtain ⟨⟨t4, s4, q4, fi4, la4, lo4, tx4⟩, hd4⟩ : ∃ d, pAt ps j = d := ⟨_, rfl⟩
            rw [hd4] at p0 p1 p2 p3 p4 p5 p6 ER
            dsimp only at p0 p1 p2 p3 p4 p5 p6
            have RA := Lib.hid ((hR.out.step hb6).step (below_box (.cells #[.int .i64 t4, .int .i64 s4, .int .i64 q4, .bool fi4, .bool la4, .bool lo4, .string tx4] 43) (Nat.le_refl _))).drewT
            have z6 := R6.out.q.z
            have hk12 : k ≤ 12 := by omega
            clear hd4 L21 hb6 b1 hR
            have lo6 : ob < w6.heap.size := lt_of_cell o6
            have lb6 : w.heap.size < w6.heap.size := lt_of_cell b6
            have lp6 : (x.add (j * 7)).block < w6.heap.size := World.block_lt_of_cell? w6 _ p0
            have EQ := Lib.hid ER.out
            go_upto_region 12 with fail
            go_region_law (first
              | (refine step_append_lies _ (by rfl) _ _ _ (by rfl) (B + 2) 43 iP (partV ⟨0, 0, 0, false, false, false, ByteArray.mk #[]⟩) 7 48 Try.underlying25 HI.out.1 HI.out.2.1 HI.out.2.2.1 HI.out.2.2.2 rfl (by decide) (.slice (some ⟨g2, 0, none⟩) k cap2) k (flatP (restTo ps ch j)) (by rfl) RA.out.pr ⟨w6.heap.size, 0, none⟩ 1 1 (cellsP ⟨t4, s4, q4, fi4, la4, lo4, tx4⟩) (by rfl) (by rfl) (news_box rfl) (cellsP_one _) (by omega) (by unfold maxLen; omega) (by omega) (Nat.le_trans z6 (below_box _ (Nat.le_refl _)).size) _ rfl ?_; intro g4 cap4 w9 hown hgrow hat hlt9; have o9 := RA.out.o.plus hgrow RA.out.o.lt RA.out.ne.1.symm; have u1 := (o9 1 _ rfl).1; have u1f := (o9 1 _ rfl).2))
            all_goals
              have RP := Lib.hid (show Tr B (some y) ln cn (some x) lp cp ⟨t, sn, q, fi, la, lo, tx⟩ X ob g3 cap3 g4 (k + 1) cap4 next (restTo ps ch (j + 1)) w (w9.setCell ⟨ob, 1, none⟩ (.slice (some ⟨g4, 0, none⟩) (k + 1) cap4)) by
                rw [ER.out]
                exact RA.out.push (p := ⟨t4, s4, q4, fi4, la4, lo4, tx4⟩) hgrow hown (hat.imp (fun h => by simpa [Value.ownBlock] using h) fun h => by rw [h]; exact Nat.le_refl _))
              have K9 := Lib.hid (show k + 1 = (restTo ps ch (j + 1)).length by rw [EQ.out, List.length_append, ← hk.out]; rfl)
              clear RA R6 b6 o6 lo6 lb6 lp6 p0 p1 p2 p3 p4 p5 p6 hown hgrow hat hlt9 o9 u1 u1f hk
              go_wp2
              go_roundw
              case rel => exact ⟨j + 1, g4, k + 1, cap4, by omega, by go_num, by omega, K9, RP⟩
              case measure => simp [intOf]; omega
        · obtain rfl : j = lp := by omega
          have f5 := (hR.out.q.fd 5 _ rfl).1
          have f1 := (hR.out.q.fd 1 _ rfl).1
          have f2 := (hR.out.q.fd 2 _ rfl).1
          dsimp only at f1 f2 f5

          cases lo with
          | true =>
            have RF := Lib.hid hR.out
            have EN := Lib.hid (show restTo ps ch j = restP ps ch by unfold restP; rw [LP.out])
            have KN := Lib.hid (show k = (restP ps ch).length by rw [← EN.out]; exact hk.out)
            have HH := Lib.hid (show headD ps ch = ⟨t, sn, q, fi, la, true, tx⟩ by unfold headD; rw [HC0.out, HDE.out])
            have EM := Lib.hid (show msgP ps ch = ⟨sn, q, true, X⟩ by unfold msgP; rw [HC0.out, HDE.out, EX.out])
            have NX := Lib.hid (show nextP next (headD ps ch) = next by rw [HH.out]; rfl)
            have o0 := (RF.out.o 0 _ rfl).1
            have o1 := (RF.out.o 1 _ rfl).1
            have m0 := (RF.out.q.m 0 _ rfl).1
            have m1 := (RF.out.q.m 1 _ rfl).1
            have m2 := (RF.out.q.m 2 _ rfl).1
            have m3 := (RF.out.q.m 3 _ rfl).1
            have r0 := (RF.out.q.ra 0 _ rfl).1
            have r1 := (RF.out.q.ra 1 _ rfl).1
            have s0 := (RF.out.q.ra 0 _ rfl).2
            have s1 := (RF.out.q.ra 1 _ rfl).2
            have r2 := (RF.out.q.rm 0 _ rfl).1
            have r3 := (RF.out.q.rm 1 _ rfl).1
            have r4 := (RF.out.q.rm 2 _ rfl).1
            have r5 := (RF.out.q.rm 3 _ rfl).1
            have s2 := (RF.out.q.rm 0 _ rfl).2
            have s3 := (RF.out.q.rm 1 _ rfl).2
            have s4 := (RF.out.q.rm 2 _ rfl).2
            have s5 := (RF.out.q.rm 3 _ rfl).2
            dsimp only at m0 m1 m2 m3
            go_wp2_with fail
            go_region
            obtain ⟨y1, y2, y3, y4, y5⟩ := RF.out.done (.slice (some ⟨g3, 0, none⟩) ln cap3) (.slice (some ⟨g2, 0, none⟩) k cap2) (.int .i64 sn) (.int .i64 q) (.bool true) (.string X)
            unfold st2 st4 at y1 y2 y3 y4 y5
            have z0 := (y1 0 _ rfl).1
            have z1 := (y1 1 _ rfl).1
            have z2 := (y2 0 _ rfl).1
            have z3 := (y2 1 _ rfl).1
            have z4 := (y2 2 _ rfl).1
            have z5 := (y2 3 _ rfl).1
            have Y3 := Lib.hid y3
            have Y4 := Lib.hid y4
            have Y5 := Lib.hid y5
            clear y1 y2 y3 y4 y5 r0 r1 r2 r3 r4 r5 s0 s1 s2 s3 s4 s5 m0 m1 m2 m3 o0 o1
            go_wp2
            refine bodyPost_ret (v := .tuple #[.agg #[.slice (some ⟨g3, 0, none⟩) ln cap3, .slice (some ⟨g2, 0, none⟩) k cap2], .agg #[.int .i64 sn, .int .i64 q, .bool true, .string X]]) ?_ rfl ?_
            · simp [results, Try.results76, go_sem, z0, z1, z2, z3, z4, z5]
            · have hkn := KN.out
              subst hkn
              rw [EM.out, NX.out]
              exact ⟨g3, cap3, g2, cap2, rfl, Y3.out, by have h := Y4.out; rw [EN.out] at h; exact h, Y5.out⟩
          | false =>
            have gx := (hR.out.nr.var sn _ (flatN_get next sn (by rw [LN.out]; exact hsn))).1
            have gf := (hR.out.nr.var sn _ (flatN_get next sn (by rw [LN.out]; exact hsn))).2
            have o0 := (hR.out.o 0 _ rfl).1
            have hsi : (sn : Int) < (ln : Int) := by omega
            have N2 := Lib.hid (hR.out.number sn (addS q 1))
            go_upto_region 14 with fail
            go_cut [] from 74 to 81 (fun wx => Hid (Tr B (some y) ln cn (some x) j cp ⟨t, sn, q, fi, la, false, tx⟩ X ob g3 cap3 g2 k cap2 (next.set sn (addS q 1)) (restTo ps ch j) w wx))
            case first =>
              go_region_law (go_simp; go_at_call 89; refine (l3Add_any q 1 _ SQ.out).mono ?_; rintro e wc ⟨rfl, rfl⟩; dsimp only)
              all_goals
                go_wp2_with fail
                go_meet
                exact Lib.hid N2.out.drewT
            case rest =>
              have RF := hcut
              clear gx gf o0 f1 f2 f5 N2
              have EN := Lib.hid (show restTo ps ch j = restP ps ch by unfold restP; rw [LP.out])
              have KN := Lib.hid (show k = (restP ps ch).length by rw [← EN.out]; exact hk.out)
              have HH := Lib.hid (show headD ps ch = ⟨t, sn, q, fi, la, false, tx⟩ by unfold headD; rw [HC0.out, HDE.out])
              have EM := Lib.hid (show msgP ps ch = ⟨sn, q, false, X⟩ by unfold msgP; rw [HC0.out, HDE.out, EX.out])
              have NX := Lib.hid (show nextP next (headD ps ch) = next.set sn (addS q 1) by rw [HH.out]; rfl)
              have o0 := (RF.out.o 0 _ rfl).1
              have o1 := (RF.out.o 1 _ rfl).1
              have m0 := (RF.out.q.m 0 _ rfl).1
              have m1 := (RF.out.q.m 1 _ rfl).1
              have m2 := (RF.out.q.m 2 _ rfl).1
              have m3 := (RF.out.q.m 3 _ rfl).1
              have r0 := (RF.out.q.ra 0 _ rfl).1
              have r1 := (RF.out.q.ra 1 _ rfl).1
              have s0 := (RF.out.q.ra 0 _ rfl).2
              have s1 := (RF.out.q.ra 1 _ rfl).2
              have r2 := (RF.out.q.rm 0 _ rfl).1
              have r3 := (RF.out.q.rm 1 _ rfl).1
              have r4 := (RF.out.q.rm 2 _ rfl).1
              have r5 := (RF.out.q.rm 3 _ rfl).1
              have s2 := (RF.out.q.rm 0 _ rfl).2
              have s3 := (RF.out.q.rm 1 _ rfl).2
              have s4 := (RF.out.q.rm 2 _ rfl).2
              have s5 := (RF.out.q.rm 3 _ rfl).2
              dsimp only at m0 m1 m2 m3
              go_wp2_with fail
              go_region
              obtain ⟨y1, y2, y3, y4, y5⟩ := RF.out.done (.slice (some ⟨g3, 0, none⟩) ln cap3) (.slice (some ⟨g2, 0, none⟩) k cap2) (.int .i64 sn) (.int .i64 q) (.bool false) (.string X)
              unfold st2 st4 at y1 y2 y3 y4 y5
              have z0 := (y1 0 _ rfl).1
              have z1 := (y1 1 _ rfl).1
              have z2 := (y2 0 _ rfl).1
              have z3 := (y2 1 _ rfl).1
              have z4 := (y2 2 _ rfl).1
              have z5 := (y2 3 _ rfl).1
              have Y3 := Lib.hid y3
              have Y4 := Lib.hid y4
              have Y5 := Lib.hid y5
              clear y1 y2 y3 y4 y5 r0 r1 r2 r3 r4 r5 s0 s1 s2 s3 s4 s5 m0 m1 m2 m3 o0 o1
              go_wp2
              refine bodyPost_ret (v := .tuple #[.agg #[.slice (some ⟨g3, 0, none⟩) ln cap3, .slice (some ⟨g2, 0, none⟩) k cap2], .agg #[.int .i64 sn, .int .i64 q, .bool false, .string X]]) ?_ rfl ?_
              · simp [results, Try.results76, go_sem, z0, z1, z2, z3, z4, z5]
              · have hkn := KN.out
                subst hkn
                rw [EM.out, NX.out]
                exact ⟨g3, cap3, g2, cap2, rfl, Y3.out, by have h := Y4.out; rw [EN.out] at h; exact h, Y5.out⟩

end Go.Proofs.Ytncbgejggfkdmab

/- Regions that draw their order, by an invariant: whatever operation comes up, it keeps it. -/
namespace Go.Proofs.Ytncbgejggfkdmab
open Go.RowKit Go.PlainAid

theorem count_less {p q : Nat → Bool} {i : Nat} (hp : p i = true) (hq : q i = false) (he : ∀ j, j ≠ i → q j = p j) : ∀ n, i < n → (List.range n).countP q + 1 = (List.range n).countP p := by
  have same : ∀ n, n ≤ i → (List.range n).countP q = (List.range n).countP p := fun n hn => by
    refine List.countP_congr fun j hj => ?_
    rw [he j (by have := List.mem_range.1 hj; omega)]
  intro n hn
  induction n with
  | zero => omega
  | succ n ih =>
    rw [List.range_succ, List.countP_append, List.countP_append]
    by_cases h : i = n
    · subst h
      rw [same i (Nat.le_refl _)]
      simp [hp, hq]
    · have := ih (by omega)
      simp only [List.countP_cons, List.countP_nil, he n (fun h2 => h h2.symm)]
      omega
theorem count_none {p : Nat → Bool} {n : Nat} (h : (List.range n).countP p = 0) : ∀ i, i < n → p i = false := fun i hi => by
  have := List.countP_eq_zero.1 h i (List.mem_range.2 hi)
  simpa using this
/-- The flags that are set, one more. -/
def more (l : Nat → Bool) (i : Nat) : Nat → Bool := fun j => j == i || l j
section
variable {P : Program} {ops : Array Oper} {Q : Exit → Act → World → Prop} {md : Region.Mode} {Inv : (Nat → Bool) → Act → World → Prop} {n : Nat}
theorem wpAny_inv (hn : ops.size = n) (hlow : ∀ i o, ops[i]? = some o → ∀ e ∈ o.after, Region.binds md e = true → e.on < i)
    (hstep : ∀ i l a w, i < n → l i = false → (∀ o, ops[i]? = some o → ∀ e ∈ o.after, Region.binds md e = true → l e.on = true) → Inv l a w → wpOp P ops Q i (Inv (more l i)) a w)
    (hend : ∀ l a w, (∀ i, i < n → l i = true) → Inv l a w → Q .normal a w) :
    ∀ fuel (listed : Array Bool) a w, listed.size = n → (List.range n).countP (fun i => !listed.getD i false) = fuel → Inv (fun j => listed.getD j false) a w → wpAny P md ops Q fuel listed a w := by
  have all_of : ∀ (listed : Array Bool), Region.ready md ops listed = [] → listed.size = n → ∀ i, i < n → listed.getD i false = true := by
    intro listed hr hs i
    induction i using Nat.strongRecOn with
    | _ i ih =>
      intro hi
      cases hc : listed.getD i false with
      | true => rfl
      | false =>
        exfalso
        have hmem : i ∈ Region.ready md ops listed := by
          rw [mem_ready]
          have hlt : i < ops.size := by omega
          refine ⟨?_, ops[i], Array.getElem?_eq_getElem hlt, fun e he hb => ?_⟩
          · have : i < listed.size := by omega
            simp only [Array.getD_eq_getD_getElem?, Array.getElem?_eq_getElem this, Option.getD_some] at hc ⊢
            exact hc
          · have := hlow i _ (Array.getElem?_eq_getElem hlt) e he hb
            exact ih e.on this (by omega)
        rw [hr] at hmem
        cases hmem
  intro fuel
  induction fuel with
  | zero =>
    intro listed a w hs hc hI
    have hall : ∀ i, i < n → listed.getD i false = true := fun i hi => by
      have := count_none hc i hi
      simpa using this
    refine ⟨?_, hend _ _ _ hall hI⟩
    cases hr : Region.ready md ops listed with
    | nil => rfl
    | cons i rest =>
      exfalso
      have hi : i ∈ Region.ready md ops listed := by rw [hr]; exact List.mem_cons_self ..
      rw [mem_ready] at hi
      obtain ⟨h0, o, ho, _⟩ := hi
      have hlt : i < n := by have := (Array.getElem?_eq_some_iff.1 ho).1; omega
      have h1 := hall i hlt
      have : i < listed.size := by omega
      simp only [Array.getD_eq_getD_getElem?, Array.getElem?_eq_getElem this, Option.getD_some] at h0 h1
      rw [h0] at h1
      cases h1
  | succ fuel ih =>
    intro listed a w hs hc hI
    refine ⟨fun hr => hend _ _ _ (all_of listed hr hs) hI, fun i hi => ?_⟩
    rw [mem_ready] at hi
    obtain ⟨h0, o, ho, hall⟩ := hi
    have hlt : i < n := by have := (Array.getElem?_eq_some_iff.1 ho).1; omega
    have hli : i < listed.size := by omega
    have hf : listed.getD i false = false := by
      simp only [Array.getD_eq_getD_getElem?, Array.getElem?_eq_getElem hli, Option.getD_some] at h0 ⊢
      exact h0
    have hst := hstep i (fun j => listed.getD j false) a w hlt hf (fun o' ho' e he hb => by
      rw [ho] at ho'
      obtain rfl := Option.some.inj ho'
      exact hall e he hb) hI
    have hflag : ∀ j, (listed.setIfInBounds i true).getD j false = more (fun j => listed.getD j false) i j := fun j => by
      unfold more
      by_cases e : j = i
      · subst e
        simp [Array.getD_eq_getD_getElem?, hli]
      · rw [getD_set_ne false (fun h => e h.symm)]
        simp [e]
    unfold wpOp at hst ⊢
    rw [ho] at hst ⊢
    simp only at hst ⊢
    have next : ∀ a w, Inv (more (fun j => listed.getD j false) i) a w → wpAny P md ops Q fuel (listed.setIfInBounds i true) a w := fun a w hI2 => by
      refine ih _ a w (by rw [Array.size_setIfInBounds]; exact hs) ?_ ?_
      · have := count_less (p := fun j => !listed.getD j false) (q := fun j => !(listed.setIfInBounds i true).getD j false) (i := i) (by simp [hf]) (by rw [hflag i]; simp [more]) (fun j hj => by rw [hflag j]; simp [more, hj]) n hlt
        omega
      · have e : (fun j => (listed.setIfInBounds i true).getD j false) = more (fun j => listed.getD j false) i := funext hflag
        rw [e]
        exact hI2
    split
    · rename_i hw
      rw [if_pos hw] at hst
      rcases hst with h | h
      · exact .inl (Oper.wp_mono next h)
      · exact .inr h
    · rename_i hw
      rw [if_neg hw] at hst
      exact next _ _ hst
/-- A region, by an invariant. -/
theorem region_inv {id : Nat} {a : Act} {w : World} (hm : P.follows .mixedOrders = true) (hn : ops.size = n) (hlow : ∀ i o, ops[i]? = some o → ∀ e ∈ o.after, Region.binds .any e = true → e.on < i)
    (h0 : Inv (fun _ => false) a w.drew)
    (hstep : ∀ i l a w, i < n → l i = false → (∀ o, ops[i]? = some o → ∀ e ∈ o.after, Region.binds .any e = true → l e.on = true) → Inv l a w → wpOp P ops Q i (Inv (more l i)) a w)
    (hend : ∀ l a w, (∀ i, i < n → l i = true) → Inv l a w → Q .normal a w) : (Code.region id ops true).wp P Q a w := by
  refine wp_region_any hm ?_
  refine wpAny_inv hn hlow hstep hend ops.size _ a _ (by simp [hn]) ?_ ?_
  · rw [hn]
    have : ∀ i ∈ List.range n, (!(Array.replicate n false).getD i false) = true := fun i hi => by
      have := List.mem_range.1 hi
      simp [Array.getD_eq_getD_getElem?, this]
    rw [List.countP_eq_length.2 this, List.length_range]
  · have e : (fun j => (Array.replicate ops.size false).getD j false) = fun _ => false := by
      funext j
      by_cases h : j < ops.size <;> simp [Array.getD_eq_getD_getElem?, h]
    rw [e]
    exact h0
end
theorem wpOp_plain {P : Program} {ops : Array Oper} {Q : Exit → Act → World → Prop} {i : Nat} {o : Oper} {K : Act → World → Prop} {a : Act} {w : World} (hi : ops[i]? = some o) (hg : o.guard = none) (h : o.wp P a w K Q) : wpOp P ops Q i K a w := by
  unfold wpOp
  rw [hi]
  simp only [Region.wanted, hg, if_true]
  exact .inl h

/-- No operation waits for one behind it. -/
def lowB (ops : Array Oper) : Bool := (List.range ops.size).all fun i => ((ops[i]?).map fun o => o.after.all fun e => decide (e.on < i)).getD true
theorem lowB_spec {ops : Array Oper} (h : lowB ops = true) : ∀ i o, ops[i]? = some o → ∀ e ∈ o.after, Region.binds .any e = true → e.on < i := by
  intro i o ho e he _
  have hlt : i < ops.size := (Array.getElem?_eq_some_iff.1 ho).1
  have := List.all_eq_true.1 h i (List.mem_range.2 hlt)
  rw [ho] at this
  simp only [Option.map_some, Option.getD_some, Array.all_eq_true_iff_forall_mem] at this
  simpa using this e he
theorem ev_same {a : Act} {k : Nat} (h : k < a.tmps.size) (v : Value) : (a.put (some k) v).eval (.tmp k) = v := by
  simp [Act.put, Act.eval, h]
theorem ev_other {a : Act} {j k : Nat} (h : j ≠ k) (v : Value) : (a.put (some k) v).eval (.tmp j) = a.eval (.tmp j) := by
  simp [Act.put, Act.eval, Array.getElem?_setIfInBounds_ne (fun e => h e.symm)]
theorem size_put (a : Act) (d : Option Nat) (v : Value) : (a.put d v).tmps.size = a.tmps.size := by
  cases d <;> simp [Act.put]
/-- Two frames are the same but for some slots. -/
structure Fr0 (ds : List Nat) (a0 a : Act) : Prop where
  size : a.tmps.size = a0.tmps.size
  defers : a.defers = a0.defers
  same : ∀ j, j ∉ ds → a.eval (.tmp j) = a0.eval (.tmp j)
theorem Fr0.refl (ds : List Nat) (a : Act) : Fr0 ds a a := ⟨rfl, rfl, fun _ _ => rfl⟩
theorem Fr0.put {ds : List Nat} {a0 a : Act} {k : Nat} (h : Fr0 ds a0 a) (hk : k ∈ ds) (v : Value) : Fr0 ds a0 (a.put (some k) v) :=
  ⟨(size_put _ _ _).trans h.size, h.defers, fun j hj => (ev_other (fun e => hj (by rw [e]; exact hk)) v).trans (h.same j hj)⟩
theorem act_ext {a b : Act} (h1 : a.tmps.size = b.tmps.size) (h2 : a.defers = b.defers) (h3 : ∀ j, a.eval (.tmp j) = b.eval (.tmp j)) : a = b := by
  cases a with
  | mk t d =>
    cases b with
    | mk t2 d2 =>
      simp only at h1 h2
      subst h2
      congr 1
      refine Array.ext h1 fun j hj hj2 => ?_
      have := h3 j
      simp only [Act.eval, Array.getD_eq_getD_getElem?, Array.getElem?_eq_getElem hj, Array.getElem?_eq_getElem hj2, Option.getD_some] at this
      exact this
theorem fold_size (ds : List Nat) (f : Nat → Value) : ∀ a : Act, (ds.foldl (fun b k => b.put (some k) (f k)) a).tmps.size = a.tmps.size := by
  induction ds with
  | nil => intro a; rfl
  | cons d ds ih => intro a; exact (ih _).trans (size_put _ _ _)
theorem fold_defers (ds : List Nat) (f : Nat → Value) : ∀ a : Act, (ds.foldl (fun b k => b.put (some k) (f k)) a).defers = a.defers := by
  induction ds with
  | nil => intro a; rfl
  | cons d ds ih => intro a; exact ih _
theorem fold_eval (ds : List Nat) (f : Nat → Value) (j : Nat) : ∀ a : Act, (∀ k ∈ ds, k < a.tmps.size) → (ds.foldl (fun b k => b.put (some k) (f k)) a).eval (.tmp j) = if j ∈ ds then f j else a.eval (.tmp j) := by
  induction ds with
  | nil => intro a _; simp
  | cons d ds ih =>
    intro a hs
    rw [List.foldl_cons, ih _ fun k hk => by rw [size_put]; exact hs k (List.mem_cons_of_mem _ hk)]
    by_cases h1 : j ∈ ds
    · simp [h1]
    · by_cases h2 : j = d
      · subst h2
        rw [if_neg h1, ev_same (hs j (List.mem_cons_self ..)), if_pos (List.mem_cons_self ..)]
      · rw [if_neg h1, ev_other h2, if_neg (by simp [h1, h2])]
/-- The frame, its slots written one after the other. -/
theorem Fr0.eq {ds : List Nat} {a0 a : Act} (h : Fr0 ds a0 a) (hs : ∀ k ∈ ds, k < a0.tmps.size) : a = ds.foldl (fun b k => b.put (some k) (a.eval (.tmp k))) a0 := by
  refine act_ext (h.size.trans (fold_size _ _ _).symm) (h.defers.trans (fold_defers _ _ _).symm) fun j => ?_
  rw [fold_eval ds (fun k => a.eval (.tmp k)) j a0 hs]
  by_cases hj : j ∈ ds
  · rw [if_pos hj]
  · rw [if_neg hj]
    exact h.same j hj
/-- What the slots hold. -/
def valsOf (a : Act) : Nat → Value := fun j => a.eval (.tmp j)
def upd (V : Nat → Value) (k : Nat) (v : Value) : Nat → Value := fun j => if j = k then v else V j
theorem vals_put {a : Act} {k : Nat} (h : k < a.tmps.size) (v : Value) : valsOf (a.put (some k) v) = upd (valsOf a) k v := by
  funext j
  unfold valsOf upd
  by_cases e : j = k
  · subst e
    rw [if_pos rfl, ev_same h]
  · rw [if_neg e, ev_other e]
/-- A region, by an invariant on its slots' values and the world. -/
theorem region_vals {P : Program} {ops : Array Oper} {Q : Exit → Act → World → Prop} {id n : Nat} {a : Act} {w : World} (ds : List Nat) (Iv : (Nat → Bool) → (Nat → Value) → World → Prop) (hm : P.follows .mixedOrders = true) (hn : ops.size = n) (hlow : lowB ops = true)
    (hs : ∀ k ∈ ds, k < a.tmps.size) (h0 : Iv (fun _ => false) (valsOf a) w.drew)
    (hstep : ∀ i l b w, i < n → l i = false → (∀ o, ops[i]? = some o → ∀ e ∈ o.after, Region.binds .any e = true → l e.on = true) → (∀ k ∈ ds, k < b.tmps.size) → Iv l (valsOf b) w →
      wpOp P ops Q i (fun b' w' => (b' = b ∨ ∃ k ∈ ds, ∃ v, b' = b.put (some k) v) ∧ Iv (more l i) (valsOf b') w') b w)
    (hend : ∀ l (V : Nat → Value) w, (∀ i, i < n → l i = true) → Iv l V w → Q .normal (ds.foldl (fun b k => b.put (some k) (V k)) a) w) : (Code.region id ops true).wp P Q a w := by
  refine region_inv (n := n) (Inv := fun l b w => Fr0 ds a b ∧ Iv l (valsOf b) w) hm hn (lowB_spec hlow) ⟨Fr0.refl _ _, h0⟩ (fun i l b w hi hl hd hI => ?_) (fun l b w hall hI => ?_)
  · have h1 := hstep i l b w hi hl hd (fun k hk => by rw [hI.1.size]; exact hs k hk) hI.2
    refine wpOp_mono (fun b' w' hb => ⟨?_, hb.2⟩) h1
    rcases hb.1 with e | ⟨k, hk, v, e⟩
    · rw [e]; exact hI.1
    · rw [e]; exact hI.1.put hk v
  · rw [hI.1.eq hs]
    exact hend l (valsOf b) w hall hI.2

end Go.Proofs.Ytncbgejggfkdmab

/- Copies of rows, as a step of a region that draws its order; the copy of an assembly. -/
namespace Go.Proofs.Ytncbgejggfkdmab
open Go.RowKit Go.PlainAid

theorem add_none (b f j : Nat) : (⟨b, f, none⟩ : Addr).add j = ⟨b, f + j, none⟩ := by unfold Addr.add; split <;> simp_all
/-- The cells of a slice of parts, as a source of an append, from any address on. -/
theorem pts_src {W : World} {x : Addr} {k cap : Nat} {ps : List Part} (h : Pts W (some x) k cap ps) : ∀ j u, (flatP ps)[j]? = some u → W.cell? (x.add j) = some u := by
  intro j u hu
  have hl := h.length
  have hj : j < k * 7 := by have := (List.getElem?_eq_some_iff.1 hu).1; rw [flatP_length, hl] at this; exact this
  obtain ⟨b, f, spot⟩ := x
  have h00 := (h.at (Below.refl _ _) (k := 0) (by omega)).1
  have hspot : spot = none := by simpa [Addr.add] using World.cell?_spot h00
  subst hspot
  have e : j = j / 7 * 7 + j % 7 := by omega
  have hm : j % 7 < 7 := by omega
  generalize hq : j / 7 = q at e
  generalize j % 7 = r at e hm
  subst e
  rw [flatP_get ps q r (by omega) hm] at hu
  have := h.cells (Below.refl _ _) (k := q) (by omega) r u hu
  rw [add_none]
  cases r with
  | zero =>
    have e2 : atP ⟨b, f, none⟩ q 0 = ⟨b, f + (q * 7 + 0), none⟩ := add_none _ _ _
    rw [e2] at this
    exact this
  | succ r =>
    have e2 : atP ⟨b, f, none⟩ q (r + 1) = ⟨b, f + (q * 7 + (r + 1)), none⟩ := by
      show (⟨((⟨b, f, none⟩ : Addr).add (q * 7)).block, ((⟨b, f, none⟩ : Addr).add (q * 7)).off + (r + 1), none⟩ : Addr) = _
      rw [add_none]
      simp
      omega
    rw [e2] at this
    exact this
/-- Parts that are appended to an empty row of one's own. -/
theorem wp_copyP {o : Oper} {a : Act} {w : World} {K : Act → World → Prop} {Q : Exit → Act → World → Prop} (s x : Operand) (hop : o.op = Op.call { callee := Callee.builtin Builtin.append, args := #[s, x], argTypes := #[25, 25] })
    (base len cap e : Nat) (q : Option Addr) (ps : List Part) (hv : a.eval s = .slice (some ⟨e, 0, none⟩) 0 0) (hown : w.ownsRow base 43 7 (.slice (some ⟨e, 0, none⟩) 0 0) 0 []) (hx : a.eval x = .slice q len cap) (h : Pts w q len cap ps) (him : len ≤ 100000) (hb : base ≤ w.heap.size)
    (hK : ∀ g3 cap3 w', w'.ownsRow base 43 7 (.slice (some ⟨g3, 0, none⟩) len cap3) len (flatP ps) → w.grownBy w' (some e) → K (a.put o.dst (.slice (some ⟨g3, 0, none⟩) len cap3)) w') :
    Oper.wp Try.prog o a w K Q := by
  obtain ⟨i0, hi, hz0, hz1, hz2⟩ := info_parts info_pt
  obtain ⟨g3, cap3, w', hr, h2, h3⟩ : ∃ g3 cap3 w', (Builtin.append_ #[25, 25] o.type #[.slice (some ⟨e, 0, none⟩) 0 0, .slice q len cap]).run Try.prog w = .ok (.slice (some ⟨g3, 0, none⟩) len cap3) w' ∧ w'.ownsRow base 43 7 (.slice (some ⟨g3, 0, none⟩) len cap3) len (flatP ps) ∧ w.grownBy w' (some e) := by
    rcases h with ⟨rfl, rfl, rfl, rfl⟩ | ⟨ad, rfl, h7, h8, h9, h10⟩
    · exact ⟨e, 0, w, run_append_owned_none w base 25 o.type 43 i0 7 Try.underlying25 hi _ 0 [] hown, hown, ⟨rfl, rfl, rfl, Nat.le_refl _, fun _ _ _ => rfl⟩⟩
    · have hps : Pts w (some ad) len cap ps := .inr ⟨ad, rfl, h7, h8, h9, h10⟩
      have hflat : ∀ j u, (flatP ps)[j]? = some u → w.cell? (ad.add j) = some u := pts_src hps
      obtain ⟨v', w', hr, h2, h3, h4, h5⟩ := run_append_own_at (P := Try.prog) w base 25 o.type 43 i0 (partV ⟨0, 0, 0, false, false, false, ByteArray.mk #[]⟩) 7 48 Try.underlying25 hi hz0 hz1 hz2 rfl (by decide) (.slice (some ⟨e, 0, none⟩) 0 0) 0 [] hown ad len cap (flatP ps) (by rw [flatP_length, h9]) hflat (flatP_one ps) (by unfold maxLen; omega) (by omega) hb
      rw [Nat.zero_add, List.nil_append] at h2
      rcases h2.2 with ⟨h0, _⟩ | ⟨g3, cap3, cur, hv3, hh⟩
      · have := (h4.1 h0).1
        cases this
      · subst hv3
        exact ⟨g3, cap3, w', by simpa using hr, ⟨h2.1, .inr ⟨g3, cap3, cur, rfl, hh⟩⟩, h3⟩
  unfold Oper.wp execOp
  simp only [hop, resolve, invoke, builtin, Sem.run_bind, Sem.run_pure, Result.andThen_ok, List.map_toArray, List.map_cons, List.map_nil, hv, hx, hr]
  exact hK g3 cap3 w' h2 h3

theorem rowGrown {base e size n g cap m : Nat} {xs : List Value} {w w' : World} {row : Option Nat} (h : w.ownsRow base e size (.slice (some ⟨g, 0, none⟩) m cap) n xs) (hg : w.grownBy w' row) (hne : some g ≠ row) : w'.ownsRow base e size (.slice (some ⟨g, 0, none⟩) m cap) n xs := by
  refine ⟨h.1, ?_⟩
  rcases h.2 with ⟨h1, _⟩ | ⟨g', cap', cur, h1, h2, h3, h4⟩
  · exact absurd h1 (by intro e; cases e)
  · obtain ⟨rfl, rfl, rfl⟩ : g = g' ∧ m = n ∧ cap = cap' := by simpa using h1
    exact .inr ⟨g, cap, cur, rfl, h2, by rw [hg.block g (Array.getElem?_eq_some_iff.1 h3).1 hne]; exact h3, h4⟩
theorem rowKind {base e size n g cap m : Nat} {xs : List Value} {w : World} (h : w.ownsRow base e size (.slice (some ⟨g, 0, none⟩) m cap) n xs) : ∃ cur, w.heap[g]? = some (.cells cur e (0, 0)) := by
  rcases h.2 with ⟨h1, _⟩ | ⟨g', cap', cur, h1, _, h3, _⟩
  · exact absurd h1 (by intro e; cases e)
  · obtain ⟨rfl, _⟩ : g = g' ∧ m = n ∧ cap = cap' := by simpa using h1
    exact ⟨cur, h3⟩
theorem kind_ne {w : World} {a b e1 e2 : Nat} {c1 c2 : Array Value} (h1 : w.heap[a]? = some (.cells c1 e1 (0, 0))) (h2 : w.heap[b]? = some (.cells c2 e2 (0, 0))) (hne : e1 ≠ e2) : a ≠ b := fun e => by
  subst e
  rw [h1] at h2
  simp only [Option.some.injEq, Obj.cells.injEq] at h2
  exact hne h2.2.1
theorem keepRow {base e size n g cap m r e2 : Nat} {c2 : Array Value} {xs : List Value} {w w' : World} (h : w.ownsRow base e size (.slice (some ⟨g, 0, none⟩) m cap) n xs) (hg : w.grownBy w' (some r)) (hk : w.heap[r]? = some (.cells c2 e2 (0, 0))) (hne : e ≠ e2) : w'.ownsRow base e size (.slice (some ⟨g, 0, none⟩) m cap) n xs := by
  obtain ⟨cur, h1⟩ := rowKind h
  exact rowGrown h hg fun h2 => kind_ne h1 hk hne (by simpa using h2)
theorem box_set {w : World} {D e : Nat} {u v : Value} (h : w.heap[D]? = some (.cells #[u, v] e (0, 0))) (a b : Value) : ((w.setCell ⟨D, 0, none⟩ a).setCell ⟨D, 1, none⟩ b).heap[D]? = some (.cells #[a, b] e (0, 0)) := by
  have h1 := heap_setCell_same w D 0 _ e a h
  exact heap_setCell_same (w.setCell ⟨D, 0, none⟩ a) D 1 _ e b h1
/-- While an assembly is copied: what is done so far is in its slots. -/
structure Cq (B R : Nat) (an : Option Addr) (ln cn : Nat) (next : List Int) (ap : Option Addr) (lp cp : Nat) (ps : List Part) (W0 : World) (l : Nat → Bool) (V : Nat → Value) (w : World) : Prop where
  v2 : V 2 = .pointer (some ⟨R, 0, none⟩)
  b : Below W0.heap.size W0 w
  p0 : l 0 = true → l 3 = false → ∃ e, V 30 = .slice (some ⟨e, 0, none⟩) 0 0 ∧ w.ownsRow B 3 1 (.slice (some ⟨e, 0, none⟩) 0 0) 0 []
  p1 : l 1 = true → V 31 = .pointer (some ⟨R, 0, none⟩)
  p2 : l 2 = true → V 32 = .slice an ln cn
  p3 : l 3 = true → ∃ g c, V 33 = .slice (some ⟨g, 0, none⟩) ln c ∧ w.ownsRow B 3 1 (.slice (some ⟨g, 0, none⟩) ln c) ln (flatN next)
  p4 : l 4 = true → l 7 = false → ∃ e, V 34 = .slice (some ⟨e, 0, none⟩) 0 0 ∧ w.ownsRow B 43 7 (.slice (some ⟨e, 0, none⟩) 0 0) 0 []
  p5 : l 5 = true → V 35 = .pointer (some ⟨R, 1, none⟩)
  p6 : l 6 = true → V 36 = .slice ap lp cp
  p7 : l 7 = true → ∃ g c, V 37 = .slice (some ⟨g, 0, none⟩) lp c ∧ w.ownsRow B 43 7 (.slice (some ⟨g, 0, none⟩) lp c) lp (flatP ps)
  p8 : l 8 = true → V 38 = .agg #[V 33, V 37]
  p10 : l 10 = true → l 9 = true
  p9 : l 9 = true → ∃ D u v, V 7 = .pointer (some ⟨D, 0, none⟩) ∧ B ≤ D ∧ w.heap[D]? = some (.cells #[u, v] 27 (0, 0)) ∧ (l 10 = true → u = V 33 ∧ v = V 37)
  q8 : l 8 = true → l 3 = true
  r8 : l 8 = true → l 7 = true
  q10 : l 10 = true → l 8 = true
section
variable {B R : Nat} {an : Option Addr} {ln cn : Nat} {next : List Int} {ap : Option Addr} {lp cp : Nat} {ps : List Part} {W0 w w' : World} {l : Nat → Bool} {V : Nat → Value}
/-- Another block has grown, or none. -/
theorem Cq.grown {row : Option Nat} (h : Cq B R an ln cn next ap lp cp ps W0 l V w) (hg : w.grownBy w' row) (hrow : ∀ r, row = some r → W0.heap.size ≤ r)
    (h0 : ∀ e n c, w.ownsRow B 3 1 (.slice (some ⟨e, 0, none⟩) n c) n (flatN next) → n = ln → some e ≠ row ∨ l 3 = false) (h0' : ∀ e, w.ownsRow B 3 1 (.slice (some ⟨e, 0, none⟩) 0 0) 0 [] → some e ≠ row ∨ l 0 = false ∨ l 3 = true)
    (h4 : ∀ e n c, w.ownsRow B 43 7 (.slice (some ⟨e, 0, none⟩) n c) n (flatP ps) → n = lp → some e ≠ row ∨ l 7 = false) (h4' : ∀ e, w.ownsRow B 43 7 (.slice (some ⟨e, 0, none⟩) 0 0) 0 [] → some e ≠ row ∨ l 4 = false ∨ l 7 = true)
    (h9 : ∀ D u v, w.heap[D]? = some (.cells #[u, v] 27 (0, 0)) → some D ≠ row) : Cq B R an ln cn next ap lp cp ps W0 l V w' := by
  refine ⟨h.v2, Below.grown h.b hg h.b.size hrow, fun a b => ?_, h.p1, h.p2, fun a => ?_, fun a b => ?_, h.p5, h.p6, fun a => ?_, h.p8, h.p10, fun a => ?_, h.q8, h.r8, h.q10⟩
  · obtain ⟨e, e1, e2⟩ := h.p0 a b
    rcases h0' e e2 with hh | hh | hh
    · exact ⟨e, e1, rowGrown e2 hg hh⟩
    · rw [hh] at a; cases a
    · rw [hh] at b; cases b
  · obtain ⟨g, c, e1, e2⟩ := h.p3 a
    rcases h0 g ln c e2 rfl with hh | hh
    · exact ⟨g, c, e1, rowGrown e2 hg hh⟩
    · rw [hh] at a; cases a
  · obtain ⟨e, e1, e2⟩ := h.p4 a b
    rcases h4' e e2 with hh | hh | hh
    · exact ⟨e, e1, rowGrown e2 hg hh⟩
    · rw [hh] at a; cases a
    · rw [hh] at b; cases b
  · obtain ⟨g, c, e1, e2⟩ := h.p7 a
    rcases h4 g lp c e2 rfl with hh | hh
    · exact ⟨g, c, e1, rowGrown e2 hg hh⟩
    · rw [hh] at a; cases a
  · obtain ⟨D, u, v, e1, e2, e3, e4⟩ := h.p9 a
    exact ⟨D, u, v, e1, e2, by rw [hg.block D (Array.getElem?_eq_some_iff.1 e3).1 (h9 D u v e3)]; exact e3, e4⟩
theorem Cq.new (h : Cq B R an ln cn next ap lp cp ps W0 l V w) (o : Obj) : Cq B R an ln cn next ap lp cp ps W0 l V (w.alloc o) :=
  h.grown (World.grownBy_alloc w o none) (fun r e => by cases e) (fun _ _ _ _ _ => .inl (by simp)) (fun _ _ => .inl (by simp)) (fun _ _ _ _ _ => .inl (by simp)) (fun _ _ => .inl (by simp)) (fun _ _ _ _ => by simp)
end

end Go.Proofs.Ytncbgejggfkdmab
