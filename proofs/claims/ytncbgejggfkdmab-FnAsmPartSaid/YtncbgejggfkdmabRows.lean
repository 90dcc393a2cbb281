/-
  No cell of these rows narrows 'for every input' (looked for: loops, veiled, ifaces, maps, wideKeys, modest, calm, conditions, laid).
  DERIVED. THE GIVEN ROWS OF THIS SEAT. 9 by the template 'for every input the law returns true; each argument reads behind the call as it read before'; 0 by the template 'total and deterministic' (their statements: YtncbgejggfkdmabTotals.lean).
  GIVEN WITH THE SEED: the statements are not yours to turn. If you find one false, say at which input.
  Laid BY PROGRAM, IN A SANDBOX (cutbox-rows.mjs): the forced cells as the released guide's own fill.sh prints them over the translation 7c2c05c497402e1d… (all of the seat's roots in one cut). By AI agents, Wed Nov 11 2026. No macro, syntax, notation, axiom, sorry.
-/
import Derived.Test.YtncbgejggfkdmabChecked
import GoSem.Claim
import GoSem.ClaimJoined
import GoSem.ClaimMapViews
import Derived.JoinedTies
import Derived.KernelRfl
namespace Go.Proofs.Ytncbgejggfkdmab
/- THE CELL 'sum', in the pinned program and in every row, IS THE sha256 OF THE DUMP (.gsa) THAT YtncbgejggfkdmabProg.lean LOADS. Nothing in Lean hashes anything: it is a label: what it is worth is what the hold of that sum in a sandbox is worth. -/
noncomputable def Try.pinned : Pinned := { name := "ytncbgejggfkdmab", sum := "7c2c05c497402e1d2e9f43ba1ec9613d7e3a7c9aa98a7b88f9f840bd4a16d1ae", checked := Try.checked }
namespace Rows
def none {H : Type} : Left H := { results := [], args := [] }

/-- 'laws.FnAsmNew': WHATEVER THE INPUT: true; the input reads as it did. -/
def fnAsmNewSpec : ChangeSpec := { name := "fnAsmNew", fn := fun _ => fun
  | [d] => { results := [.lit (.bool true)], args := [d] }
  | _ => none }
def fnAsmNewRow : OpenClaim := { program := "ytncbgejggfkdmab", sum := "7c2c05c497402e1d2e9f43ba1ec9613d7e3a7c9aa98a7b88f9f840bd4a16d1ae", func := "loop.example/capturemonitor/laws.FnAsmNew", spec := "fnAsmNew", apart := false }
def FnAsmNewSaid : Prop := fnAsmNewRow.holds Try.pinned (OpenSpec.ofChange fnAsmNewSpec)

/-- ITS FALSE NEIGHBOUR: 'it returns false'. Refute it at one input. -/
def fnAsmNewWrong : ChangeSpec := { name := "fnAsmNew", fn := fun _ => fun
  | [d] => { results := [.lit (.bool false)], args := [d] }
  | _ => none }
def FnAsmNewWrongFalsely : Prop := fnAsmNewRow.holds Try.pinned (OpenSpec.ofChange fnAsmNewWrong)

/-- 'laws.FnAsmNewBad': WHATEVER THE INPUT: true; the input reads as it did. -/
def fnAsmNewBadSpec : ChangeSpec := { name := "fnAsmNewBad", fn := fun _ => fun
  | [d] => { results := [.lit (.bool true)], args := [d] }
  | _ => none }
def fnAsmNewBadRow : OpenClaim := { program := "ytncbgejggfkdmab", sum := "7c2c05c497402e1d2e9f43ba1ec9613d7e3a7c9aa98a7b88f9f840bd4a16d1ae", func := "loop.example/capturemonitor/laws.FnAsmNewBad", spec := "fnAsmNewBad", apart := false }
def FnAsmNewBadSaid : Prop := fnAsmNewBadRow.holds Try.pinned (OpenSpec.ofChange fnAsmNewBadSpec)

/-- ITS FALSE NEIGHBOUR: 'it returns false'. Refute it at one input. -/
def fnAsmNewBadWrong : ChangeSpec := { name := "fnAsmNewBad", fn := fun _ => fun
  | [d] => { results := [.lit (.bool false)], args := [d] }
  | _ => none }
def FnAsmNewBadWrongFalsely : Prop := fnAsmNewBadRow.holds Try.pinned (OpenSpec.ofChange fnAsmNewBadWrong)

/-- 'laws.FnAsmPart': WHATEVER THE INPUT: true; the input reads as it did. -/
def fnAsmPartSpec : ChangeSpec := { name := "fnAsmPart", fn := fun _ => fun
  | [d1, d2] => { results := [.lit (.bool true)], args := [d1, d2] }
  | _ => none }
def fnAsmPartRow : OpenClaim := { program := "ytncbgejggfkdmab", sum := "7c2c05c497402e1d2e9f43ba1ec9613d7e3a7c9aa98a7b88f9f840bd4a16d1ae", func := "loop.example/capturemonitor/laws.FnAsmPart", spec := "fnAsmPart", apart := false }
def FnAsmPartSaid : Prop := fnAsmPartRow.holds Try.pinned (OpenSpec.ofChange fnAsmPartSpec)

/-- ITS FALSE NEIGHBOUR: 'it returns false'. Refute it at one input. -/
def fnAsmPartWrong : ChangeSpec := { name := "fnAsmPart", fn := fun _ => fun
  | [d1, d2] => { results := [.lit (.bool false)], args := [d1, d2] }
  | _ => none }
def FnAsmPartWrongFalsely : Prop := fnAsmPartRow.holds Try.pinned (OpenSpec.ofChange fnAsmPartWrong)

/-- 'laws.FnAsmRun': WHATEVER THE INPUT: true; the input reads as it did. -/
def fnAsmRunSpec : ChangeSpec := { name := "fnAsmRun", fn := fun _ => fun
  | [d] => { results := [.lit (.bool true)], args := [d] }
  | _ => none }
def fnAsmRunRow : OpenClaim := { program := "ytncbgejggfkdmab", sum := "7c2c05c497402e1d2e9f43ba1ec9613d7e3a7c9aa98a7b88f9f840bd4a16d1ae", func := "loop.example/capturemonitor/laws.FnAsmRun", spec := "fnAsmRun", inPlace := ["internal/abi.NoEscape"], apart := false }
def FnAsmRunSaid : Prop := fnAsmRunRow.holds Try.pinned (OpenSpec.ofChange fnAsmRunSpec)

/-- ITS FALSE NEIGHBOUR: 'it returns false'. Refute it at one input. -/
def fnAsmRunWrong : ChangeSpec := { name := "fnAsmRun", fn := fun _ => fun
  | [d] => { results := [.lit (.bool false)], args := [d] }
  | _ => none }
def FnAsmRunWrongFalsely : Prop := fnAsmRunRow.holds Try.pinned (OpenSpec.ofChange fnAsmRunWrong)

/-- 'laws.FnAsmRunPart': WHATEVER THE INPUT: true; the input reads as it did. -/
def fnAsmRunPartSpec : ChangeSpec := { name := "fnAsmRunPart", fn := fun _ => fun
  | [d1, d2] => { results := [.lit (.bool true)], args := [d1, d2] }
  | _ => none }
def fnAsmRunPartRow : OpenClaim := { program := "ytncbgejggfkdmab", sum := "7c2c05c497402e1d2e9f43ba1ec9613d7e3a7c9aa98a7b88f9f840bd4a16d1ae", func := "loop.example/capturemonitor/laws.FnAsmRunPart", spec := "fnAsmRunPart", inPlace := ["internal/abi.NoEscape"], apart := false }
def FnAsmRunPartSaid : Prop := fnAsmRunPartRow.holds Try.pinned (OpenSpec.ofChange fnAsmRunPartSpec)

/-- ITS FALSE NEIGHBOUR: 'it returns false'. Refute it at one input. -/
def fnAsmRunPartWrong : ChangeSpec := { name := "fnAsmRunPart", fn := fun _ => fun
  | [d1, d2] => { results := [.lit (.bool false)], args := [d1, d2] }
  | _ => none }
def FnAsmRunPartWrongFalsely : Prop := fnAsmRunPartRow.holds Try.pinned (OpenSpec.ofChange fnAsmRunPartWrong)

/-- 'laws.FnAsmRunOrder': WHATEVER THE INPUT: true; the input reads as it did. -/
def fnAsmRunOrderSpec : ChangeSpec := { name := "fnAsmRunOrder", fn := fun _ => fun
  | [d] => { results := [.lit (.bool true)], args := [d] }
  | _ => none }
def fnAsmRunOrderRow : OpenClaim := { program := "ytncbgejggfkdmab", sum := "7c2c05c497402e1d2e9f43ba1ec9613d7e3a7c9aa98a7b88f9f840bd4a16d1ae", func := "loop.example/capturemonitor/laws.FnAsmRunOrder", spec := "fnAsmRunOrder", inPlace := ["internal/abi.NoEscape"], apart := false }
def FnAsmRunOrderSaid : Prop := fnAsmRunOrderRow.holds Try.pinned (OpenSpec.ofChange fnAsmRunOrderSpec)

/-- ITS FALSE NEIGHBOUR: 'it returns false'. Refute it at one input. -/
def fnAsmRunOrderWrong : ChangeSpec := { name := "fnAsmRunOrder", fn := fun _ => fun
  | [d] => { results := [.lit (.bool false)], args := [d] }
  | _ => none }
def FnAsmRunOrderWrongFalsely : Prop := fnAsmRunOrderRow.holds Try.pinned (OpenSpec.ofChange fnAsmRunOrderWrong)

/-- 'laws.FnExactAsmNew': WHATEVER THE INPUT: true; the input reads as it did. -/
def fnExactAsmNewSpec : ChangeSpec := { name := "fnExactAsmNew", fn := fun _ => fun
  | [d] => { results := [.lit (.bool true)], args := [d] }
  | _ => none }
def fnExactAsmNewRow : OpenClaim := { program := "ytncbgejggfkdmab", sum := "7c2c05c497402e1d2e9f43ba1ec9613d7e3a7c9aa98a7b88f9f840bd4a16d1ae", func := "loop.example/capturemonitor/laws.FnExactAsmNew", spec := "fnExactAsmNew", apart := false }
def FnExactAsmNewSaid : Prop := fnExactAsmNewRow.holds Try.pinned (OpenSpec.ofChange fnExactAsmNewSpec)

/-- ITS FALSE NEIGHBOUR: 'it returns false'. Refute it at one input. -/
def fnExactAsmNewWrong : ChangeSpec := { name := "fnExactAsmNew", fn := fun _ => fun
  | [d] => { results := [.lit (.bool false)], args := [d] }
  | _ => none }
def FnExactAsmNewWrongFalsely : Prop := fnExactAsmNewRow.holds Try.pinned (OpenSpec.ofChange fnExactAsmNewWrong)

/-- 'laws.FnExactAsmValid': WHATEVER THE INPUT: true; the input reads as it did. -/
def fnExactAsmValidSpec : ChangeSpec := { name := "fnExactAsmValid", fn := fun _ => fun
  | [d] => { results := [.lit (.bool true)], args := [d] }
  | _ => none }
def fnExactAsmValidRow : OpenClaim := { program := "ytncbgejggfkdmab", sum := "7c2c05c497402e1d2e9f43ba1ec9613d7e3a7c9aa98a7b88f9f840bd4a16d1ae", func := "loop.example/capturemonitor/laws.FnExactAsmValid", spec := "fnExactAsmValid", apart := false }
def FnExactAsmValidSaid : Prop := fnExactAsmValidRow.holds Try.pinned (OpenSpec.ofChange fnExactAsmValidSpec)

/-- ITS FALSE NEIGHBOUR: 'it returns false'. Refute it at one input. -/
def fnExactAsmValidWrong : ChangeSpec := { name := "fnExactAsmValid", fn := fun _ => fun
  | [d] => { results := [.lit (.bool false)], args := [d] }
  | _ => none }
def FnExactAsmValidWrongFalsely : Prop := fnExactAsmValidRow.holds Try.pinned (OpenSpec.ofChange fnExactAsmValidWrong)

/-- 'laws.FnExactAsmRun': WHATEVER THE INPUT: true; the input reads as it did. -/
def fnExactAsmRunSpec : ChangeSpec := { name := "fnExactAsmRun", fn := fun _ => fun
  | [d1, d2] => { results := [.lit (.bool true)], args := [d1, d2] }
  | _ => none }
def fnExactAsmRunRow : OpenClaim := { program := "ytncbgejggfkdmab", sum := "7c2c05c497402e1d2e9f43ba1ec9613d7e3a7c9aa98a7b88f9f840bd4a16d1ae", func := "loop.example/capturemonitor/laws.FnExactAsmRun", spec := "fnExactAsmRun", inPlace := ["internal/abi.NoEscape"], apart := false }
def FnExactAsmRunSaid : Prop := fnExactAsmRunRow.holds Try.pinned (OpenSpec.ofChange fnExactAsmRunSpec)

/-- ITS FALSE NEIGHBOUR: 'it returns false'. Refute it at one input. -/
def fnExactAsmRunWrong : ChangeSpec := { name := "fnExactAsmRun", fn := fun _ => fun
  | [d1, d2] => { results := [.lit (.bool false)], args := [d1, d2] }
  | _ => none }
def FnExactAsmRunWrongFalsely : Prop := fnExactAsmRunRow.holds Try.pinned (OpenSpec.ofChange fnExactAsmRunWrong)

/- THE SECOND FORM. 'bulk': how many values and letters a reading holds, each counted each time it is reached (what is shared counts as often as it is met; a slice's spare places count too). A statement '..UptoSaid' is the law's where the arguments, and the package variables that the reading takes, are together of bulk at most 1048576: NARROWER than '..Said'. Prove '..Said' where nothing that the law and all that it calls make is longer than what came in: it says more and counts as full. Else prove '..UptoSaid'. A law counts once. -/
mutual
def uptoBulk {H : Type} : DataW H → Nat
  | .lit (.string bytes) => bytes.length + 1
  | .lit _ => 1
  | .nil => 1
  | .ptr d => uptoBulk d + 1
  | .slice elems spare => uptoBulkAll elems + uptoBulkAll spare + 1
  | .agg parts => uptoBulkAll parts + 1
  | .iface _ d => uptoBulk d + 1
  | .map entries => uptoBulkEntries entries + 1
  | .held _ => 1
def uptoBulkAll {H : Type} : List (DataW H) → Nat
  | [] => 0
  | d :: r => uptoBulk d + uptoBulkAll r
def uptoBulkEntries {H : Type} : List (Lit × DataW H) → Nat
  | [] => 0
  | x :: r => uptoBulkEntry x + uptoBulkEntries r
def uptoBulkEntry {H : Type} : Lit × DataW H → Nat
  | (.string bytes, d) => bytes.length + uptoBulk d + 1
  | (_, d) => uptoBulk d + 1
 end
def uptoSmall : (H : Type) → List (DataW H) → Bool := fun _ ds => decide (uptoBulkAll ds ≤ 1048576)
def OpenSpec.upto (s : _root_.Go.ChangeSpec) : _root_.Go.OpenSpec := { _root_.Go.OpenSpec.ofChange s with cond := some uptoSmall }

/-- 'laws.FnAsmNew', WHERE WHAT IT READS IS OF BULK AT MOST 1048576: true; the input reads as it did. -/
def fnAsmNewUptoRow : OpenClaim := { program := "ytncbgejggfkdmab", sum := "7c2c05c497402e1d2e9f43ba1ec9613d7e3a7c9aa98a7b88f9f840bd4a16d1ae", func := "loop.example/capturemonitor/laws.FnAsmNew", spec := "fnAsmNew", apart := false, narrowed := true }
def FnAsmNewUptoSaid : Prop := fnAsmNewUptoRow.holds Try.pinned (OpenSpec.upto fnAsmNewSpec)

/-- 'laws.FnAsmNewBad', WHERE WHAT IT READS IS OF BULK AT MOST 1048576: true; the input reads as it did. -/
def fnAsmNewBadUptoRow : OpenClaim := { program := "ytncbgejggfkdmab", sum := "7c2c05c497402e1d2e9f43ba1ec9613d7e3a7c9aa98a7b88f9f840bd4a16d1ae", func := "loop.example/capturemonitor/laws.FnAsmNewBad", spec := "fnAsmNewBad", apart := false, narrowed := true }
def FnAsmNewBadUptoSaid : Prop := fnAsmNewBadUptoRow.holds Try.pinned (OpenSpec.upto fnAsmNewBadSpec)

/-- 'laws.FnAsmPart', WHERE WHAT IT READS IS OF BULK AT MOST 1048576: true; the input reads as it did. -/
def fnAsmPartUptoRow : OpenClaim := { program := "ytncbgejggfkdmab", sum := "7c2c05c497402e1d2e9f43ba1ec9613d7e3a7c9aa98a7b88f9f840bd4a16d1ae", func := "loop.example/capturemonitor/laws.FnAsmPart", spec := "fnAsmPart", apart := false, narrowed := true }
def FnAsmPartUptoSaid : Prop := fnAsmPartUptoRow.holds Try.pinned (OpenSpec.upto fnAsmPartSpec)

/-- 'laws.FnAsmRun', WHERE WHAT IT READS IS OF BULK AT MOST 1048576: true; the input reads as it did. -/
def fnAsmRunUptoRow : OpenClaim := { program := "ytncbgejggfkdmab", sum := "7c2c05c497402e1d2e9f43ba1ec9613d7e3a7c9aa98a7b88f9f840bd4a16d1ae", func := "loop.example/capturemonitor/laws.FnAsmRun", spec := "fnAsmRun", inPlace := ["internal/abi.NoEscape"], apart := false, narrowed := true }
def FnAsmRunUptoSaid : Prop := fnAsmRunUptoRow.holds Try.pinned (OpenSpec.upto fnAsmRunSpec)

/-- 'laws.FnAsmRunPart', WHERE WHAT IT READS IS OF BULK AT MOST 1048576: true; the input reads as it did. -/
def fnAsmRunPartUptoRow : OpenClaim := { program := "ytncbgejggfkdmab", sum := "7c2c05c497402e1d2e9f43ba1ec9613d7e3a7c9aa98a7b88f9f840bd4a16d1ae", func := "loop.example/capturemonitor/laws.FnAsmRunPart", spec := "fnAsmRunPart", inPlace := ["internal/abi.NoEscape"], apart := false, narrowed := true }
def FnAsmRunPartUptoSaid : Prop := fnAsmRunPartUptoRow.holds Try.pinned (OpenSpec.upto fnAsmRunPartSpec)

/-- 'laws.FnAsmRunOrder', WHERE WHAT IT READS IS OF BULK AT MOST 1048576: true; the input reads as it did. -/
def fnAsmRunOrderUptoRow : OpenClaim := { program := "ytncbgejggfkdmab", sum := "7c2c05c497402e1d2e9f43ba1ec9613d7e3a7c9aa98a7b88f9f840bd4a16d1ae", func := "loop.example/capturemonitor/laws.FnAsmRunOrder", spec := "fnAsmRunOrder", inPlace := ["internal/abi.NoEscape"], apart := false, narrowed := true }
def FnAsmRunOrderUptoSaid : Prop := fnAsmRunOrderUptoRow.holds Try.pinned (OpenSpec.upto fnAsmRunOrderSpec)

/-- 'laws.FnExactAsmNew', WHERE WHAT IT READS IS OF BULK AT MOST 1048576: true; the input reads as it did. -/
def fnExactAsmNewUptoRow : OpenClaim := { program := "ytncbgejggfkdmab", sum := "7c2c05c497402e1d2e9f43ba1ec9613d7e3a7c9aa98a7b88f9f840bd4a16d1ae", func := "loop.example/capturemonitor/laws.FnExactAsmNew", spec := "fnExactAsmNew", apart := false, narrowed := true }
def FnExactAsmNewUptoSaid : Prop := fnExactAsmNewUptoRow.holds Try.pinned (OpenSpec.upto fnExactAsmNewSpec)

/-- 'laws.FnExactAsmValid', WHERE WHAT IT READS IS OF BULK AT MOST 1048576: true; the input reads as it did. -/
def fnExactAsmValidUptoRow : OpenClaim := { program := "ytncbgejggfkdmab", sum := "7c2c05c497402e1d2e9f43ba1ec9613d7e3a7c9aa98a7b88f9f840bd4a16d1ae", func := "loop.example/capturemonitor/laws.FnExactAsmValid", spec := "fnExactAsmValid", apart := false, narrowed := true }
def FnExactAsmValidUptoSaid : Prop := fnExactAsmValidUptoRow.holds Try.pinned (OpenSpec.upto fnExactAsmValidSpec)

/-- 'laws.FnExactAsmRun', WHERE WHAT IT READS IS OF BULK AT MOST 1048576: true; the input reads as it did. -/
def fnExactAsmRunUptoRow : OpenClaim := { program := "ytncbgejggfkdmab", sum := "7c2c05c497402e1d2e9f43ba1ec9613d7e3a7c9aa98a7b88f9f840bd4a16d1ae", func := "loop.example/capturemonitor/laws.FnExactAsmRun", spec := "fnExactAsmRun", inPlace := ["internal/abi.NoEscape"], apart := false, narrowed := true }
def FnExactAsmRunUptoSaid : Prop := fnExactAsmRunUptoRow.holds Try.pinned (OpenSpec.upto fnExactAsmRunSpec)

end Rows
end Go.Proofs.Ytncbgejggfkdmab
