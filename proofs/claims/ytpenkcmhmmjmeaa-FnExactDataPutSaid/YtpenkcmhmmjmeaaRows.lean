/-
  No cell of these rows narrows 'for every input' (looked for: loops, veiled, ifaces, maps, wideKeys, modest, calm, conditions, laid).
  DERIVED. THE GIVEN ROWS OF THIS SEAT. 7 by the template 'for every input the law returns true; each argument reads behind the call as it read before'; 0 by the template 'total and deterministic' (their statements: YtpenkcmhmmjmeaaTotals.lean).
  GIVEN WITH THE SEED: the statements are not yours to turn. If you find one false, say at which input.
  Laid BY PROGRAM, IN A SANDBOX (cutbox-rows.mjs): the forced cells as the released guide's own fill.sh prints them over the translation f9dd4bf5ecb9dea1… (all of the seat's roots in one cut). By AI agents, Wed Nov 11 2026. No macro, syntax, notation, axiom, sorry.
-/
import Derived.Test.YtpenkcmhmmjmeaaChecked
import GoSem.Claim
import GoSem.ClaimJoined
import GoSem.ClaimMapViews
import Derived.JoinedTies
import Derived.KernelRfl
namespace Go.Proofs.Ytpenkcmhmmjmeaa
/- THE CELL 'sum', in the pinned program and in every row, IS THE sha256 OF THE DUMP (.gsa) THAT YtpenkcmhmmjmeaaProg.lean LOADS. Nothing in Lean hashes anything: it is a label: what it is worth is what the hold of that sum in a sandbox is worth. -/
noncomputable def Try.pinned : Pinned := { name := "ytpenkcmhmmjmeaa", sum := "f9dd4bf5ecb9dea19f84d77b178b4820ef10ebc2f9be0fa60acc79d3d3b494f4", checked := Try.checked }
namespace Rows
def none {H : Type} : Left H := { results := [], args := [] }

/-- 'laws.FnDataPut': WHATEVER THE INPUT: true; the input reads as it did. -/
def fnDataPutSpec : ChangeSpec := { name := "fnDataPut", fn := fun _ => fun
  | [d] => { results := [.lit (.bool true)], args := [d] }
  | _ => none }
def fnDataPutRow : OpenClaim := { program := "ytpenkcmhmmjmeaa", sum := "f9dd4bf5ecb9dea19f84d77b178b4820ef10ebc2f9be0fa60acc79d3d3b494f4", func := "loop.example/capturemonitor/laws.FnDataPut", spec := "fnDataPut", apart := false }
def FnDataPutSaid : Prop := fnDataPutRow.holds Try.pinned (OpenSpec.ofChange fnDataPutSpec)

/-- ITS FALSE NEIGHBOUR: 'it returns false'. Refute it at one input. -/
def fnDataPutWrong : ChangeSpec := { name := "fnDataPut", fn := fun _ => fun
  | [d] => { results := [.lit (.bool false)], args := [d] }
  | _ => none }
def FnDataPutWrongFalsely : Prop := fnDataPutRow.holds Try.pinned (OpenSpec.ofChange fnDataPutWrong)

/-- 'laws.FnDataPutRange': WHATEVER THE INPUT: true; the input reads as it did. -/
def fnDataPutRangeSpec : ChangeSpec := { name := "fnDataPutRange", fn := fun _ => fun
  | [d] => { results := [.lit (.bool true)], args := [d] }
  | _ => none }
def fnDataPutRangeRow : OpenClaim := { program := "ytpenkcmhmmjmeaa", sum := "f9dd4bf5ecb9dea19f84d77b178b4820ef10ebc2f9be0fa60acc79d3d3b494f4", func := "loop.example/capturemonitor/laws.FnDataPutRange", spec := "fnDataPutRange", apart := false }
def FnDataPutRangeSaid : Prop := fnDataPutRangeRow.holds Try.pinned (OpenSpec.ofChange fnDataPutRangeSpec)

/-- ITS FALSE NEIGHBOUR: 'it returns false'. Refute it at one input. -/
def fnDataPutRangeWrong : ChangeSpec := { name := "fnDataPutRange", fn := fun _ => fun
  | [d] => { results := [.lit (.bool false)], args := [d] }
  | _ => none }
def FnDataPutRangeWrongFalsely : Prop := fnDataPutRangeRow.holds Try.pinned (OpenSpec.ofChange fnDataPutRangeWrong)

/-- 'laws.FnDataGet': WHATEVER THE INPUT: true; the input reads as it did. -/
def fnDataGetSpec : ChangeSpec := { name := "fnDataGet", fn := fun _ => fun
  | [d] => { results := [.lit (.bool true)], args := [d] }
  | _ => none }
def fnDataGetRow : OpenClaim := { program := "ytpenkcmhmmjmeaa", sum := "f9dd4bf5ecb9dea19f84d77b178b4820ef10ebc2f9be0fa60acc79d3d3b494f4", func := "loop.example/capturemonitor/laws.FnDataGet", spec := "fnDataGet", apart := false }
def FnDataGetSaid : Prop := fnDataGetRow.holds Try.pinned (OpenSpec.ofChange fnDataGetSpec)

/-- ITS FALSE NEIGHBOUR: 'it returns false'. Refute it at one input. -/
def fnDataGetWrong : ChangeSpec := { name := "fnDataGet", fn := fun _ => fun
  | [d] => { results := [.lit (.bool false)], args := [d] }
  | _ => none }
def FnDataGetWrongFalsely : Prop := fnDataGetRow.holds Try.pinned (OpenSpec.ofChange fnDataGetWrong)

/-- 'laws.FnDataFlags': WHATEVER THE INPUT: true; the input reads as it did. -/
def fnDataFlagsSpec : ChangeSpec := { name := "fnDataFlags", fn := fun _ => fun
  | [d] => { results := [.lit (.bool true)], args := [d] }
  | _ => none }
def fnDataFlagsRow : OpenClaim := { program := "ytpenkcmhmmjmeaa", sum := "f9dd4bf5ecb9dea19f84d77b178b4820ef10ebc2f9be0fa60acc79d3d3b494f4", func := "loop.example/capturemonitor/laws.FnDataFlags", spec := "fnDataFlags", apart := false }
def FnDataFlagsSaid : Prop := fnDataFlagsRow.holds Try.pinned (OpenSpec.ofChange fnDataFlagsSpec)

/-- ITS FALSE NEIGHBOUR: 'it returns false'. Refute it at one input. -/
def fnDataFlagsWrong : ChangeSpec := { name := "fnDataFlags", fn := fun _ => fun
  | [d] => { results := [.lit (.bool false)], args := [d] }
  | _ => none }
def FnDataFlagsWrongFalsely : Prop := fnDataFlagsRow.holds Try.pinned (OpenSpec.ofChange fnDataFlagsWrong)

/-- 'laws.FnDataKind': WHATEVER THE INPUT: true; the input reads as it did. -/
def fnDataKindSpec : ChangeSpec := { name := "fnDataKind", fn := fun _ => fun
  | [d] => { results := [.lit (.bool true)], args := [d] }
  | _ => none }
def fnDataKindRow : OpenClaim := { program := "ytpenkcmhmmjmeaa", sum := "f9dd4bf5ecb9dea19f84d77b178b4820ef10ebc2f9be0fa60acc79d3d3b494f4", func := "loop.example/capturemonitor/laws.FnDataKind", spec := "fnDataKind", apart := false }
def FnDataKindSaid : Prop := fnDataKindRow.holds Try.pinned (OpenSpec.ofChange fnDataKindSpec)

/-- ITS FALSE NEIGHBOUR: 'it returns false'. Refute it at one input. -/
def fnDataKindWrong : ChangeSpec := { name := "fnDataKind", fn := fun _ => fun
  | [d] => { results := [.lit (.bool false)], args := [d] }
  | _ => none }
def FnDataKindWrongFalsely : Prop := fnDataKindRow.holds Try.pinned (OpenSpec.ofChange fnDataKindWrong)

/-- 'laws.FnExactDataPut': WHATEVER THE INPUT: true; the input reads as it did. -/
def fnExactDataPutSpec : ChangeSpec := { name := "fnExactDataPut", fn := fun _ => fun
  | [d] => { results := [.lit (.bool true)], args := [d] }
  | _ => none }
def fnExactDataPutRow : OpenClaim := { program := "ytpenkcmhmmjmeaa", sum := "f9dd4bf5ecb9dea19f84d77b178b4820ef10ebc2f9be0fa60acc79d3d3b494f4", func := "loop.example/capturemonitor/laws.FnExactDataPut", spec := "fnExactDataPut", apart := false }
def FnExactDataPutSaid : Prop := fnExactDataPutRow.holds Try.pinned (OpenSpec.ofChange fnExactDataPutSpec)

/-- ITS FALSE NEIGHBOUR: 'it returns false'. Refute it at one input. -/
def fnExactDataPutWrong : ChangeSpec := { name := "fnExactDataPut", fn := fun _ => fun
  | [d] => { results := [.lit (.bool false)], args := [d] }
  | _ => none }
def FnExactDataPutWrongFalsely : Prop := fnExactDataPutRow.holds Try.pinned (OpenSpec.ofChange fnExactDataPutWrong)

/-- 'laws.FnExactDataGet': WHATEVER THE INPUT: true; the input reads as it did. -/
def fnExactDataGetSpec : ChangeSpec := { name := "fnExactDataGet", fn := fun _ => fun
  | [d] => { results := [.lit (.bool true)], args := [d] }
  | _ => none }
def fnExactDataGetRow : OpenClaim := { program := "ytpenkcmhmmjmeaa", sum := "f9dd4bf5ecb9dea19f84d77b178b4820ef10ebc2f9be0fa60acc79d3d3b494f4", func := "loop.example/capturemonitor/laws.FnExactDataGet", spec := "fnExactDataGet", apart := false }
def FnExactDataGetSaid : Prop := fnExactDataGetRow.holds Try.pinned (OpenSpec.ofChange fnExactDataGetSpec)

/-- ITS FALSE NEIGHBOUR: 'it returns false'. Refute it at one input. -/
def fnExactDataGetWrong : ChangeSpec := { name := "fnExactDataGet", fn := fun _ => fun
  | [d] => { results := [.lit (.bool false)], args := [d] }
  | _ => none }
def FnExactDataGetWrongFalsely : Prop := fnExactDataGetRow.holds Try.pinned (OpenSpec.ofChange fnExactDataGetWrong)

/- THE SECOND FORM. 'bulk': how many values and letters a reading holds, each counted each time it is reached (what is shared counts as often as it is met; a slice's spare places count too). A statement '..UptoSaid' is the law's where the arguments, and the package variables that the reading takes, are together of bulk at most 1048576: NARROWER than '..Said'. Prove '..Said' where nothing that the law and all that it calls make is longer than what came in: it says more and counts as full. Else prove '..UptoSaid'. A law counts once. -/
mutual
def uptoBulk {H : Type} : DataW H → Nat
  | .lit (.string bytes) => bytes.length + 1
  | .lit _ => 1
  | .nil => 1
  | .ptr d => uptoBulk d + 1
  | .slice elems spare => uptoBulkAll elems + uptoBulkAll spare + 1
  | .agg parts => uptoBulkAll parts + 1
  | .iface _ d => uptoBulk d + 1
  | .map entries => uptoBulkEntries entries + 1
  | .held _ => 1
def uptoBulkAll {H : Type} : List (DataW H) → Nat
  | [] => 0
  | d :: r => uptoBulk d + uptoBulkAll r
def uptoBulkEntries {H : Type} : List (Lit × DataW H) → Nat
  | [] => 0
  | x :: r => uptoBulkEntry x + uptoBulkEntries r
def uptoBulkEntry {H : Type} : Lit × DataW H → Nat
  | (.string bytes, d) => bytes.length + uptoBulk d + 1
  | (_, d) => uptoBulk d + 1
 end
def uptoSmall : (H : Type) → List (DataW H) → Bool := fun _ ds => decide (uptoBulkAll ds ≤ 1048576)
def OpenSpec.upto (s : _root_.Go.ChangeSpec) : _root_.Go.OpenSpec := { _root_.Go.OpenSpec.ofChange s with cond := some uptoSmall }

/-- 'laws.FnDataPut', WHERE WHAT IT READS IS OF BULK AT MOST 1048576: true; the input reads as it did. -/
def fnDataPutUptoRow : OpenClaim := { program := "ytpenkcmhmmjmeaa", sum := "f9dd4bf5ecb9dea19f84d77b178b4820ef10ebc2f9be0fa60acc79d3d3b494f4", func := "loop.example/capturemonitor/laws.FnDataPut", spec := "fnDataPut", apart := false, narrowed := true }
def FnDataPutUptoSaid : Prop := fnDataPutUptoRow.holds Try.pinned (OpenSpec.upto fnDataPutSpec)

/-- 'laws.FnDataPutRange', WHERE WHAT IT READS IS OF BULK AT MOST 1048576: true; the input reads as it did. -/
def fnDataPutRangeUptoRow : OpenClaim := { program := "ytpenkcmhmmjmeaa", sum := "f9dd4bf5ecb9dea19f84d77b178b4820ef10ebc2f9be0fa60acc79d3d3b494f4", func := "loop.example/capturemonitor/laws.FnDataPutRange", spec := "fnDataPutRange", apart := false, narrowed := true }
def FnDataPutRangeUptoSaid : Prop := fnDataPutRangeUptoRow.holds Try.pinned (OpenSpec.upto fnDataPutRangeSpec)

/-- 'laws.FnDataGet', WHERE WHAT IT READS IS OF BULK AT MOST 1048576: true; the input reads as it did. -/
def fnDataGetUptoRow : OpenClaim := { program := "ytpenkcmhmmjmeaa", sum := "f9dd4bf5ecb9dea19f84d77b178b4820ef10ebc2f9be0fa60acc79d3d3b494f4", func := "loop.example/capturemonitor/laws.FnDataGet", spec := "fnDataGet", apart := false, narrowed := true }
def FnDataGetUptoSaid : Prop := fnDataGetUptoRow.holds Try.pinned (OpenSpec.upto fnDataGetSpec)

/-- 'laws.FnDataFlags', WHERE WHAT IT READS IS OF BULK AT MOST 1048576: true; the input reads as it did. -/
def fnDataFlagsUptoRow : OpenClaim := { program := "ytpenkcmhmmjmeaa", sum := "f9dd4bf5ecb9dea19f84d77b178b4820ef10ebc2f9be0fa60acc79d3d3b494f4", func := "loop.example/capturemonitor/laws.FnDataFlags", spec := "fnDataFlags", apart := false, narrowed := true }
def FnDataFlagsUptoSaid : Prop := fnDataFlagsUptoRow.holds Try.pinned (OpenSpec.upto fnDataFlagsSpec)

/-- 'laws.FnDataKind', WHERE WHAT IT READS IS OF BULK AT MOST 1048576: true; the input reads as it did. -/
def fnDataKindUptoRow : OpenClaim := { program := "ytpenkcmhmmjmeaa", sum := "f9dd4bf5ecb9dea19f84d77b178b4820ef10ebc2f9be0fa60acc79d3d3b494f4", func := "loop.example/capturemonitor/laws.FnDataKind", spec := "fnDataKind", apart := false, narrowed := true }
def FnDataKindUptoSaid : Prop := fnDataKindUptoRow.holds Try.pinned (OpenSpec.upto fnDataKindSpec)

/-- 'laws.FnExactDataPut', WHERE WHAT IT READS IS OF BULK AT MOST 1048576: true; the input reads as it did. -/
def fnExactDataPutUptoRow : OpenClaim := { program := "ytpenkcmhmmjmeaa", sum := "f9dd4bf5ecb9dea19f84d77b178b4820ef10ebc2f9be0fa60acc79d3d3b494f4", func := "loop.example/capturemonitor/laws.FnExactDataPut", spec := "fnExactDataPut", apart := false, narrowed := true }
def FnExactDataPutUptoSaid : Prop := fnExactDataPutUptoRow.holds Try.pinned (OpenSpec.upto fnExactDataPutSpec)

/-- 'laws.FnExactDataGet', WHERE WHAT IT READS IS OF BULK AT MOST 1048576: true; the input reads as it did. -/
def fnExactDataGetUptoRow : OpenClaim := { program := "ytpenkcmhmmjmeaa", sum := "f9dd4bf5ecb9dea19f84d77b178b4820ef10ebc2f9be0fa60acc79d3d3b494f4", func := "loop.example/capturemonitor/laws.FnExactDataGet", spec := "fnExactDataGet", apart := false, narrowed := true }
def FnExactDataGetUptoSaid : Prop := fnExactDataGetUptoRow.holds Try.pinned (OpenSpec.upto fnExactDataGetSpec)

end Rows
end Go.Proofs.Ytpenkcmhmmjmeaa
