/-
  No cell of these rows narrows 'for every input' (looked for: loops, veiled, ifaces, maps, wideKeys, modest, calm, conditions, laid).
  DERIVED. THE GIVEN ROWS OF THIS SEAT. 7 by the template 'for every input the law returns true; each argument reads behind the call as it read before'; 0 by the template 'total and deterministic' (their statements: YthanldoljildnaaTotals.lean).
  GIVEN WITH THE SEED: the statements are not yours to turn. If you find one false, say at which input.
  Laid BY PROGRAM, IN A SANDBOX (cutbox-rows.mjs): the forced cells as the released guide's own fill.sh prints them over the translation 2b787a36622eb235… (all of the seat's roots in one cut). By AI agents, Wed Nov 11 2026. No macro, syntax, notation, axiom, sorry.
-/
import Derived.Test.YthanldoljildnaaChecked
import GoSem.Claim
import GoSem.ClaimJoined
import GoSem.ClaimMapViews
import Derived.JoinedTies
import Derived.KernelRfl
namespace Go.Proofs.Ythanldoljildnaa
/- THE CELL 'sum', in the pinned program and in every row, IS THE sha256 OF THE DUMP (.gsa) THAT YthanldoljildnaaProg.lean LOADS. Nothing in Lean hashes anything: it is a label: what it is worth is what the hold of that sum in a sandbox is worth. -/
noncomputable def Try.pinned : Pinned := { name := "ythanldoljildnaa", sum := "2b787a36622eb235fcea4eb987c3bd4a070d904f41cf9901365e2cd60a9e0176", checked := Try.checked }
namespace Rows
def none {H : Type} : Left H := { results := [], args := [] }

/-- 'laws.FnInitPut': WHATEVER THE INPUT: true; the input reads as it did. -/
def fnInitPutSpec : ChangeSpec := { name := "fnInitPut", fn := fun _ => fun
  | [d] => { results := [.lit (.bool true)], args := [d] }
  | _ => none }
def fnInitPutRow : OpenClaim := { program := "ythanldoljildnaa", sum := "2b787a36622eb235fcea4eb987c3bd4a070d904f41cf9901365e2cd60a9e0176", func := "loop.example/capturemonitor/laws.FnInitPut", spec := "fnInitPut", apart := false }
def FnInitPutSaid : Prop := fnInitPutRow.holds Try.pinned (OpenSpec.ofChange fnInitPutSpec)

/-- ITS FALSE NEIGHBOUR: 'it returns false'. Refute it at one input. -/
def fnInitPutWrong : ChangeSpec := { name := "fnInitPut", fn := fun _ => fun
  | [d] => { results := [.lit (.bool false)], args := [d] }
  | _ => none }
def FnInitPutWrongFalsely : Prop := fnInitPutRow.holds Try.pinned (OpenSpec.ofChange fnInitPutWrong)

/-- 'laws.FnInitPutBoth': WHATEVER THE INPUT: true; the input reads as it did. -/
def fnInitPutBothSpec : ChangeSpec := { name := "fnInitPutBoth", fn := fun _ => fun
  | [d] => { results := [.lit (.bool true)], args := [d] }
  | _ => none }
def fnInitPutBothRow : OpenClaim := { program := "ythanldoljildnaa", sum := "2b787a36622eb235fcea4eb987c3bd4a070d904f41cf9901365e2cd60a9e0176", func := "loop.example/capturemonitor/laws.FnInitPutBoth", spec := "fnInitPutBoth", apart := false }
def FnInitPutBothSaid : Prop := fnInitPutBothRow.holds Try.pinned (OpenSpec.ofChange fnInitPutBothSpec)

/-- ITS FALSE NEIGHBOUR: 'it returns false'. Refute it at one input. -/
def fnInitPutBothWrong : ChangeSpec := { name := "fnInitPutBoth", fn := fun _ => fun
  | [d] => { results := [.lit (.bool false)], args := [d] }
  | _ => none }
def FnInitPutBothWrongFalsely : Prop := fnInitPutBothRow.holds Try.pinned (OpenSpec.ofChange fnInitPutBothWrong)

/-- 'laws.FnInitPutRange': WHATEVER THE INPUT: true; the input reads as it did. -/
def fnInitPutRangeSpec : ChangeSpec := { name := "fnInitPutRange", fn := fun _ => fun
  | [d] => { results := [.lit (.bool true)], args := [d] }
  | _ => none }
def fnInitPutRangeRow : OpenClaim := { program := "ythanldoljildnaa", sum := "2b787a36622eb235fcea4eb987c3bd4a070d904f41cf9901365e2cd60a9e0176", func := "loop.example/capturemonitor/laws.FnInitPutRange", spec := "fnInitPutRange", apart := false }
def FnInitPutRangeSaid : Prop := fnInitPutRangeRow.holds Try.pinned (OpenSpec.ofChange fnInitPutRangeSpec)

/-- ITS FALSE NEIGHBOUR: 'it returns false'. Refute it at one input. -/
def fnInitPutRangeWrong : ChangeSpec := { name := "fnInitPutRange", fn := fun _ => fun
  | [d] => { results := [.lit (.bool false)], args := [d] }
  | _ => none }
def FnInitPutRangeWrongFalsely : Prop := fnInitPutRangeRow.holds Try.pinned (OpenSpec.ofChange fnInitPutRangeWrong)

/-- 'laws.FnInitGet': WHATEVER THE INPUT: true; the input reads as it did. -/
def fnInitGetSpec : ChangeSpec := { name := "fnInitGet", fn := fun _ => fun
  | [d] => { results := [.lit (.bool true)], args := [d] }
  | _ => none }
def fnInitGetRow : OpenClaim := { program := "ythanldoljildnaa", sum := "2b787a36622eb235fcea4eb987c3bd4a070d904f41cf9901365e2cd60a9e0176", func := "loop.example/capturemonitor/laws.FnInitGet", spec := "fnInitGet", apart := false }
def FnInitGetSaid : Prop := fnInitGetRow.holds Try.pinned (OpenSpec.ofChange fnInitGetSpec)

/-- ITS FALSE NEIGHBOUR: 'it returns false'. Refute it at one input. -/
def fnInitGetWrong : ChangeSpec := { name := "fnInitGet", fn := fun _ => fun
  | [d] => { results := [.lit (.bool false)], args := [d] }
  | _ => none }
def FnInitGetWrongFalsely : Prop := fnInitGetRow.holds Try.pinned (OpenSpec.ofChange fnInitGetWrong)

/-- 'laws.FnInitGetOther': WHATEVER THE INPUT: true; the input reads as it did. -/
def fnInitGetOtherSpec : ChangeSpec := { name := "fnInitGetOther", fn := fun _ => fun
  | [d] => { results := [.lit (.bool true)], args := [d] }
  | _ => none }
def fnInitGetOtherRow : OpenClaim := { program := "ythanldoljildnaa", sum := "2b787a36622eb235fcea4eb987c3bd4a070d904f41cf9901365e2cd60a9e0176", func := "loop.example/capturemonitor/laws.FnInitGetOther", spec := "fnInitGetOther", apart := false }
def FnInitGetOtherSaid : Prop := fnInitGetOtherRow.holds Try.pinned (OpenSpec.ofChange fnInitGetOtherSpec)

/-- ITS FALSE NEIGHBOUR: 'it returns false'. Refute it at one input. -/
def fnInitGetOtherWrong : ChangeSpec := { name := "fnInitGetOther", fn := fun _ => fun
  | [d] => { results := [.lit (.bool false)], args := [d] }
  | _ => none }
def FnInitGetOtherWrongFalsely : Prop := fnInitGetOtherRow.holds Try.pinned (OpenSpec.ofChange fnInitGetOtherWrong)

/-- 'laws.FnExactInitPut': WHATEVER THE INPUT: true; the input reads as it did. -/
def fnExactInitPutSpec : ChangeSpec := { name := "fnExactInitPut", fn := fun _ => fun
  | [d1, d2] => { results := [.lit (.bool true)], args := [d1, d2] }
  | _ => none }
def fnExactInitPutRow : OpenClaim := { program := "ythanldoljildnaa", sum := "2b787a36622eb235fcea4eb987c3bd4a070d904f41cf9901365e2cd60a9e0176", func := "loop.example/capturemonitor/laws.FnExactInitPut", spec := "fnExactInitPut", apart := false }
def FnExactInitPutSaid : Prop := fnExactInitPutRow.holds Try.pinned (OpenSpec.ofChange fnExactInitPutSpec)

/-- ITS FALSE NEIGHBOUR: 'it returns false'. Refute it at one input. -/
def fnExactInitPutWrong : ChangeSpec := { name := "fnExactInitPut", fn := fun _ => fun
  | [d1, d2] => { results := [.lit (.bool false)], args := [d1, d2] }
  | _ => none }
def FnExactInitPutWrongFalsely : Prop := fnExactInitPutRow.holds Try.pinned (OpenSpec.ofChange fnExactInitPutWrong)

/-- 'laws.FnExactInitGet': WHATEVER THE INPUT: true; the input reads as it did. -/
def fnExactInitGetSpec : ChangeSpec := { name := "fnExactInitGet", fn := fun _ => fun
  | [d] => { results := [.lit (.bool true)], args := [d] }
  | _ => none }
def fnExactInitGetRow : OpenClaim := { program := "ythanldoljildnaa", sum := "2b787a36622eb235fcea4eb987c3bd4a070d904f41cf9901365e2cd60a9e0176", func := "loop.example/capturemonitor/laws.FnExactInitGet", spec := "fnExactInitGet", apart := false }
def FnExactInitGetSaid : Prop := fnExactInitGetRow.holds Try.pinned (OpenSpec.ofChange fnExactInitGetSpec)

/-- ITS FALSE NEIGHBOUR: 'it returns false'. Refute it at one input. -/
def fnExactInitGetWrong : ChangeSpec := { name := "fnExactInitGet", fn := fun _ => fun
  | [d] => { results := [.lit (.bool false)], args := [d] }
  | _ => none }
def FnExactInitGetWrongFalsely : Prop := fnExactInitGetRow.holds Try.pinned (OpenSpec.ofChange fnExactInitGetWrong)

/- THE SECOND FORM. 'bulk': how many values and letters a reading holds, each counted each time it is reached (what is shared counts as often as it is met; a slice's spare places count too). A statement '..UptoSaid' is the law's where the arguments, and the package variables that the reading takes, are together of bulk at most 1048576: NARROWER than '..Said'. Prove '..Said' where nothing that the law and all that it calls make is longer than what came in: it says more and counts as full. Else prove '..UptoSaid'. A law counts once. -/
mutual
def uptoBulk {H : Type} : DataW H → Nat
  | .lit (.string bytes) => bytes.length + 1
  | .lit _ => 1
  | .nil => 1
  | .ptr d => uptoBulk d + 1
  | .slice elems spare => uptoBulkAll elems + uptoBulkAll spare + 1
  | .agg parts => uptoBulkAll parts + 1
  | .iface _ d => uptoBulk d + 1
  | .map entries => uptoBulkEntries entries + 1
  | .held _ => 1
def uptoBulkAll {H : Type} : List (DataW H) → Nat
  | [] => 0
  | d :: r => uptoBulk d + uptoBulkAll r
def uptoBulkEntries {H : Type} : List (Lit × DataW H) → Nat
  | [] => 0
  | x :: r => uptoBulkEntry x + uptoBulkEntries r
def uptoBulkEntry {H : Type} : Lit × DataW H → Nat
  | (.string bytes, d) => bytes.length + uptoBulk d + 1
  | (_, d) => uptoBulk d + 1
 end
def uptoSmall : (H : Type) → List (DataW H) → Bool := fun _ ds => decide (uptoBulkAll ds ≤ 1048576)
def OpenSpec.upto (s : _root_.Go.ChangeSpec) : _root_.Go.OpenSpec := { _root_.Go.OpenSpec.ofChange s with cond := some uptoSmall }

/-- 'laws.FnInitPut', WHERE WHAT IT READS IS OF BULK AT MOST 1048576: true; the input reads as it did. -/
def fnInitPutUptoRow : OpenClaim := { program := "ythanldoljildnaa", sum := "2b787a36622eb235fcea4eb987c3bd4a070d904f41cf9901365e2cd60a9e0176", func := "loop.example/capturemonitor/laws.FnInitPut", spec := "fnInitPut", apart := false, narrowed := true }
def FnInitPutUptoSaid : Prop := fnInitPutUptoRow.holds Try.pinned (OpenSpec.upto fnInitPutSpec)

/-- 'laws.FnInitPutBoth', WHERE WHAT IT READS IS OF BULK AT MOST 1048576: true; the input reads as it did. -/
def fnInitPutBothUptoRow : OpenClaim := { program := "ythanldoljildnaa", sum := "2b787a36622eb235fcea4eb987c3bd4a070d904f41cf9901365e2cd60a9e0176", func := "loop.example/capturemonitor/laws.FnInitPutBoth", spec := "fnInitPutBoth", apart := false, narrowed := true }
def FnInitPutBothUptoSaid : Prop := fnInitPutBothUptoRow.holds Try.pinned (OpenSpec.upto fnInitPutBothSpec)

/-- 'laws.FnInitPutRange', WHERE WHAT IT READS IS OF BULK AT MOST 1048576: true; the input reads as it did. -/
def fnInitPutRangeUptoRow : OpenClaim := { program := "ythanldoljildnaa", sum := "2b787a36622eb235fcea4eb987c3bd4a070d904f41cf9901365e2cd60a9e0176", func := "loop.example/capturemonitor/laws.FnInitPutRange", spec := "fnInitPutRange", apart := false, narrowed := true }
def FnInitPutRangeUptoSaid : Prop := fnInitPutRangeUptoRow.holds Try.pinned (OpenSpec.upto fnInitPutRangeSpec)

/-- 'laws.FnInitGet', WHERE WHAT IT READS IS OF BULK AT MOST 1048576: true; the input reads as it did. -/
def fnInitGetUptoRow : OpenClaim := { program := "ythanldoljildnaa", sum := "2b787a36622eb235fcea4eb987c3bd4a070d904f41cf9901365e2cd60a9e0176", func := "loop.example/capturemonitor/laws.FnInitGet", spec := "fnInitGet", apart := false, narrowed := true }
def FnInitGetUptoSaid : Prop := fnInitGetUptoRow.holds Try.pinned (OpenSpec.upto fnInitGetSpec)

/-- 'laws.FnInitGetOther', WHERE WHAT IT READS IS OF BULK AT MOST 1048576: true; the input reads as it did. -/
def fnInitGetOtherUptoRow : OpenClaim := { program := "ythanldoljildnaa", sum := "2b787a36622eb235fcea4eb987c3bd4a070d904f41cf9901365e2cd60a9e0176", func := "loop.example/capturemonitor/laws.FnInitGetOther", spec := "fnInitGetOther", apart := false, narrowed := true }
def FnInitGetOtherUptoSaid : Prop := fnInitGetOtherUptoRow.holds Try.pinned (OpenSpec.upto fnInitGetOtherSpec)

/-- 'laws.FnExactInitPut', WHERE WHAT IT READS IS OF BULK AT MOST 1048576: true; the input reads as it did. -/
def fnExactInitPutUptoRow : OpenClaim := { program := "ythanldoljildnaa", sum := "2b787a36622eb235fcea4eb987c3bd4a070d904f41cf9901365e2cd60a9e0176", func := "loop.example/capturemonitor/laws.FnExactInitPut", spec := "fnExactInitPut", apart := false, narrowed := true }
def FnExactInitPutUptoSaid : Prop := fnExactInitPutUptoRow.holds Try.pinned (OpenSpec.upto fnExactInitPutSpec)

/-- 'laws.FnExactInitGet', WHERE WHAT IT READS IS OF BULK AT MOST 1048576: true; the input reads as it did. -/
def fnExactInitGetUptoRow : OpenClaim := { program := "ythanldoljildnaa", sum := "2b787a36622eb235fcea4eb987c3bd4a070d904f41cf9901365e2cd60a9e0176", func := "loop.example/capturemonitor/laws.FnExactInitGet", spec := "fnExactInitGet", apart := false, narrowed := true }
def FnExactInitGetUptoSaid : Prop := fnExactInitGetUptoRow.holds Try.pinned (OpenSpec.upto fnExactInitGetSpec)

end Rows
end Go.Proofs.Ythanldoljildnaa
