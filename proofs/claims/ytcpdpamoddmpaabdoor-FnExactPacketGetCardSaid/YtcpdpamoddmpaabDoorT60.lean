/- What the rows' condition on the program's three errors gives the walks; the witness. -/
import Derived.Test.YtcpdpamoddmpaabDoorRows
import Derived.Test.YtcpdpamoddmpaabDoorW60
import Derived.LaidMore
import Derived.OpenShut
import Derived.ProofKit
import Derived.Stop.Joined
import Derived.Stop.LaidTwo
namespace Go.Proofs.YtcpdpamoddmpaabDoor
open Go.ChangeShapes Go.WideShapes Go.ChangeAt Go.RowKit

theorem gE0 : Tryd.prog.globalNamed "loop.example/capturemonitor/impl.errPacketShort" = some 0 := by kernel_rfl
theorem gE1 : Tryd.prog.globalNamed "loop.example/capturemonitor/impl.errPacketSum" = some 1 := by kernel_rfl
theorem gE2 : Tryd.prog.globalNamed "loop.example/capturemonitor/impl.errPacketBad" = some 2 := by kernel_rfl
theorem tE0 : (Tryd.prog.globals[0]?).map (·.type) = some 47 := by kernel_rfl
theorem tE1 : (Tryd.prog.globals[1]?).map (·.type) = some 47 := by kernel_rfl
theorem tE2 : (Tryd.prog.globals[2]?).map (·.type) = some 47 := by kernel_rfl
theorem cE : Tryd.prog.cellsOf 159 = 1 := by kernel_rfl
theorem cS : Tryd.prog.cellsOf 9 = 1 := by kernel_rfl
theorem starE : "*" ++ "errors.errorString" = "*errors.errorString" := by decide
theorem rowE (u : TypeId) (h : Tryd.prog.typeName? 3 u = some "*errors.errorString") : u = 137 :=
  typeName_ptr_named (nm := "errors.errorString") (by rw [starE]; kernel_rfl) (by kernel_rfl) (by decide) u (by rw [starE]; exact h)

theorem door_met (os : Os) (args : Array Value) : laidMetH Tryd.prog Rows.fnPacketPutRow.laid ((World.doorLaid Tryd.prog 400 os).forCall (fun _ _ => 0) ⟨#[], args, []⟩).memory :=
  laidMetH_of_parts3 (fuel := 8) (laidMet_of_run' 8 (by kernel_rfl) (by kernel_rfl)) (by kernel_rfl) (by kernel_rfl)

set_option maxRecDepth 100000 in
theorem errs_of_laid {W : World} (h : laidMetH Tryd.prog Rows.fnPacketPutRow.laid W) : ErrsAny W := by
  rw [MakeChecks.laidMetH_plain _ _ _ (by kernel_rfl)] at h
  obtain ⟨ps, ⟨g0, t0, cs0, f0, p0, q0, hg0, ht0, hv0, hd0, ⟨g1, t1, cs1, f1, p1, q1, hg1, ht1, hv1, hd1, ⟨g2, t2, cs2, f2, p2, q2, hg2, ht2, hv2, hd2, _, x2⟩, x1⟩, x0⟩, hnd, hrows⟩ := h
  obtain rfl := Option.some.inj (gE0.symm.trans hg0)
  obtain rfl := Option.some.inj (gE1.symm.trans hg1)
  obtain rfl := Option.some.inj (gE2.symm.trans hg2)
  obtain rfl := Option.some.inj (tE0.symm.trans ht0)
  obtain rfl := Option.some.inj (tE1.symm.trans ht1)
  obtain rfl := Option.some.inj (tE2.symm.trans ht2)
  subst x2
  subst x1
  subst x0
  obtain ⟨l0⟩ := cs0
  obtain ⟨l1⟩ := cs1
  obtain ⟨l2⟩ := cs2
  have ok0 : ∀ u v, l0 = [.iface u v] → Value.okWide Tryd.prog W .any 0 u v := fun u v e => by
    subst e
    exact (hrows 0 0 (by simp [MemPlace.row])).2 u v (by simpa using World.var?_cell hg0 hv0 0)
  have ok1 : ∀ u v, l1 = [.iface u v] → Value.okWide Tryd.prog W .any 0 u v := fun u v e => by
    subst e
    exact (hrows 1 0 (by simp [MemPlace.row])).2 u v (by simpa using World.var?_cell hg1 hv1 0)
  have ok2 : ∀ u v, l2 = [.iface u v] → Value.okWide Tryd.prog W .any 0 u v := fun u v e => by
    subst e
    exact (hrows 2 0 (by simp [MemPlace.row])).2 u v (by simpa using World.var?_cell hg2 hv2 0)
  obtain ⟨a0, s0, rfl, hc0, hs0, hz0, rfl⟩ := errorString_of_trod Tryd.underlying47 rowE Tryd.underlying137 Tryd.underlying159 rfl rfl Tryd.underlying9 cE cS hd0 ok0
  obtain ⟨a1, s1, rfl, hc1, hs1, hz1, rfl⟩ := errorString_of_trod Tryd.underlying47 rowE Tryd.underlying137 Tryd.underlying159 rfl rfl Tryd.underlying9 cE cS hd1 ok1
  obtain ⟨a2, s2, rfl, hc2, hs2, hz2, rfl⟩ := errorString_of_trod Tryd.underlying47 rowE Tryd.underlying137 Tryd.underlying159 rfl rfl Tryd.underlying9 cE cS hd2 ok2
  refine ⟨a0, a1, a2, by simpa using World.var?_cell hg0 hv0 0, by simpa using World.var?_cell hg1 hv1 0, by simpa using World.var?_cell hg2 hv2 0, ?_, ?_, ?_, (hrows a0.block a0.off (by simp [MemPlace.row])).1, (hrows a1.block a1.off (by simp [MemPlace.row])).1, (hrows a2.block a2.off (by simp [MemPlace.row])).1⟩
  · rintro rfl
    simp [MemPlace.row] at hnd
  · rintro rfl
    simp [MemPlace.row] at hnd
  · rintro rfl
    simp [MemPlace.row] at hnd

end Go.Proofs.YtcpdpamoddmpaabDoor
