/- Variables of several cells, further. -/
import Derived.Test.YtncbgejggfkdmabK4b
namespace Go.Proofs.Ytncbgejggfkdmab
open Go.RowKit Go.PlainAid

theorem VarN.drewN {c : Nat} {vs : List Value} {w : World} (h : VarN c vs w) (q : Nat) : VarN c vs (w.drewN q) := fun i v hi => ⟨by simpa using (h i v hi).1, by simpa using (h i v hi).2⟩
theorem VarN.new_at {d : Nat} {w : World} (e : w.heap.size = d) (vs : List Value) (T : TypeId) : VarN d vs (w.alloc (.cells vs.toArray T)) := e ▸ VarN.new w vs T
/-- Seven values are stored over a variable's. -/
theorem VarN.put7 {c : Nat} {z0 z1 z2 z3 z4 z5 z6 : Value} {w : World} (h : VarN c [z0, z1, z2, z3, z4, z5, z6] w) (a0 a1 a2 a3 a4 a5 a6 : Value) :
    VarN c [a0, a1, a2, a3, a4, a5, a6] (((((((w.setCell ⟨c, 0, none⟩ a0).setCell ⟨c, 1, none⟩ a1).setCell ⟨c, 2, none⟩ a2).setCell ⟨c, 3, none⟩ a3).setCell ⟨c, 4, none⟩ a4).setCell ⟨c, 5, none⟩ a5).setCell ⟨c, 6, none⟩ a6) :=
  (((((((h.set (i := 0) a0).set (i := 1) a1).set (i := 2) a2).set (i := 3) a3).set (i := 4) a4).set (i := 5) a5).set (i := 6) a6)
/-- Four values, three values are stored over a variable's. -/
theorem VarN.put4 {c : Nat} {z0 z1 z2 z3 : Value} {w : World} (h : VarN c [z0, z1, z2, z3] w) (a0 a1 a2 a3 : Value) :
    VarN c [a0, a1, a2, a3] ((((w.setCell ⟨c, 0, none⟩ a0).setCell ⟨c, 1, none⟩ a1).setCell ⟨c, 2, none⟩ a2).setCell ⟨c, 3, none⟩ a3) :=
  ((((h.set (i := 0) a0).set (i := 1) a1).set (i := 2) a2).set (i := 3) a3)
theorem VarN.put3 {c : Nat} {z0 z1 z2 : Value} {w : World} (h : VarN c [z0, z1, z2] w) (a0 a1 a2 : Value) :
    VarN c [a0, a1, a2] (((w.setCell ⟨c, 0, none⟩ a0).setCell ⟨c, 1, none⟩ a1).setCell ⟨c, 2, none⟩ a2) :=
  (((h.set (i := 0) a0).set (i := 1) a1).set (i := 2) a2)

end Go.Proofs.Ytncbgejggfkdmab
