/- What the row's condition on the table of names gives the walks; the witness. -/
import Derived.Test.YthogaffeeadnhabDoorRows
import Derived.Test.YthogaffeeadnhabDoorK18n
import Derived.LaidMore
import Derived.OpenShut
import Derived.ProofKit
import Derived.Stop.Joined
namespace Go.Proofs.YthogaffeeadnhabDoor
open Go.ChangeShapes Go.WideShapes Go.ChangeAt Go.RowKit

theorem gNames : Tryd.prog.globalNamed "loop.example/capturemonitor/impl.chunkNames" = some 0 := by kernel_rfl
theorem tNames : (Tryd.prog.globals[0]?).map (·.type) = some 30 := by kernel_rfl
theorem cNames : Tryd.prog.cellsOf 9 = 1 := by kernel_rfl

theorem door_met (os : Os) (args : Array Value) : laidMetH Tryd.prog Rows.fnChunkNameRow.laid ((World.doorLaid Tryd.prog 400 os).forCall (fun _ _ => 0) ⟨#[], args, []⟩).memory :=
  laidMetH_of_parts3 (fuel := 8) (laidMet_of_run' 8 (by kernel_rfl) (by kernel_rfl)) (by kernel_rfl) (by kernel_rfl)

theorem tab_of_laid {W : World} (h : laidMetH Tryd.prog Rows.fnChunkNameRow.laid W) : Tab W := by
  rw [MakeChecks.laidMetH_plain _ _ _ (by kernel_rfl)] at h
  obtain ⟨ps, ⟨g0, t0, cs0, f0, p0, q0, hg0, ht0, hv0, hd0, _, _⟩, _⟩ := h
  obtain rfl := Option.some.inj (gNames.symm.trans hg0)
  obtain rfl := Option.some.inj (tNames.symm.trans ht0)
  obtain ⟨xs, m, rfl, hx, hlen, hn, hel⟩ := DataW.trod_array Tryd.underlying30 hd0
  intro i hi
  have h1 := hel i hi
  obtain ⟨x, hxi⟩ : ∃ x, xs[i]? = some x := ⟨_, List.getElem?_eq_getElem (by omega)⟩
  rw [hxi] at h1
  obtain ⟨s, e1, e2, _⟩ := DataW.trod_string Tryd.underlying9 h1
  have hy : (xs.map (·.1))[i]? = some (.lit (.string s.data.toList)) := by rw [List.getElem?_map, hxi, e2]; rfl
  simp only [Prod.mk.injEq] at hx
  have hD := hx.1
  simp only [Rows.laid_loop_example_capturemonitor_impl_chunkNames, DataW.agg.injEq] at hD
  rw [← hD] at hy
  have hs : s = nameL.getD i ⟨#[]⟩ := by
    rcases (show i = 0 ∨ i = 1 ∨ i = 2 ∨ i = 3 ∨ i = 4 ∨ i = 5 ∨ i = 6 ∨ i = 7 ∨ i = 8 ∨ i = 9 ∨ i = 10 ∨ i = 11 ∨ i = 12 ∨ i = 13 ∨ i = 14 by omega) with rfl | rfl | rfl | rfl | rfl | rfl | rfl | rfl | rfl | rfl | rfl | rfl | rfl | rfl | rfl
    all_goals
      simp at hy
      apply ByteArray.ext
      apply Array.ext'
      first | exact hy.symm | (rw [hy]; rfl)
  rw [cNames, Nat.mul_one] at e1
  have hc := World.var?_cell hg0 hv0 i
  rw [hc, ← hs]
  have e3 : (cs0.toList.drop i)[0]? = some (.string s) := by
    have := congrArg (·[0]?) e1
    simpa using this
  rw [List.getElem?_drop, Nat.add_zero] at e3
  simpa using e3

end Go.Proofs.YthogaffeeadnhabDoor
