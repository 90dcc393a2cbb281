/-
  No cell of these rows narrows 'for every input' (looked for: loops, veiled, ifaces, maps, wideKeys, modest, calm, conditions, laid).
  DERIVED. THE GIVEN ROWS OF THIS SEAT. 10 by the template 'for every input the law returns true; each argument reads behind the call as it read before'; 0 by the template 'total and deterministic' (their statements: YtncbgejggfkdmaaTotals.lean).
  GIVEN WITH THE SEED: the statements are not yours to turn. If you find one false, say at which input.
  Laid BY PROGRAM, IN A SANDBOX (cutbox-rows.mjs): the forced cells as the released guide's own fill.sh prints them over the translation b764096365690ea3… (all of the seat's roots in one cut). By AI agents, Wed Nov 11 2026. No macro, syntax, notation, axiom, sorry.
-/
import Derived.Test.YtncbgejggfkdmaaChecked
import GoSem.Claim
import GoSem.ClaimJoined
import GoSem.ClaimMapViews
import Derived.JoinedTies
import Derived.KernelRfl
namespace Go.Proofs.Ytncbgejggfkdmaa
/- THE CELL 'sum', in the pinned program and in every row, IS THE sha256 OF THE DUMP (.gsa) THAT YtncbgejggfkdmaaProg.lean LOADS. Nothing in Lean hashes anything: it is a label: what it is worth is what the hold of that sum in a sandbox is worth. -/
noncomputable def Try.pinned : Pinned := { name := "ytncbgejggfkdmaa", sum := "b764096365690ea38d78ecfd30b72eaf6aa96173ad149b48f8caae4d08c131ec", checked := Try.checked }
namespace Rows
def none {H : Type} : Left H := { results := [], args := [] }

/-- 'laws.FnAsmAdd': WHATEVER THE INPUT: true; the input reads as it did. -/
def fnAsmAddSpec : ChangeSpec := { name := "fnAsmAdd", fn := fun _ => fun
  | [d] => { results := [.lit (.bool true)], args := [d] }
  | _ => none }
def fnAsmAddRow : OpenClaim := { program := "ytncbgejggfkdmaa", sum := "b764096365690ea38d78ecfd30b72eaf6aa96173ad149b48f8caae4d08c131ec", func := "loop.example/capturemonitor/laws.FnAsmAdd", spec := "fnAsmAdd", inPlace := ["internal/abi.NoEscape"], apart := false }
def FnAsmAddSaid : Prop := fnAsmAddRow.holds Try.pinned (OpenSpec.ofChange fnAsmAddSpec)

/-- ITS FALSE NEIGHBOUR: 'it returns false'. Refute it at one input. -/
def fnAsmAddWrong : ChangeSpec := { name := "fnAsmAdd", fn := fun _ => fun
  | [d] => { results := [.lit (.bool false)], args := [d] }
  | _ => none }
def FnAsmAddWrongFalsely : Prop := fnAsmAddRow.holds Try.pinned (OpenSpec.ofChange fnAsmAddWrong)

/-- 'laws.FnAsmBytes': WHATEVER THE INPUT: true; the input reads as it did. -/
def fnAsmBytesSpec : ChangeSpec := { name := "fnAsmBytes", fn := fun _ => fun
  | [d] => { results := [.lit (.bool true)], args := [d] }
  | _ => none }
def fnAsmBytesRow : OpenClaim := { program := "ytncbgejggfkdmaa", sum := "b764096365690ea38d78ecfd30b72eaf6aa96173ad149b48f8caae4d08c131ec", func := "loop.example/capturemonitor/laws.FnAsmBytes", spec := "fnAsmBytes", inPlace := ["internal/abi.NoEscape"], apart := false }
def FnAsmBytesSaid : Prop := fnAsmBytesRow.holds Try.pinned (OpenSpec.ofChange fnAsmBytesSpec)

/-- ITS FALSE NEIGHBOUR: 'it returns false'. Refute it at one input. -/
def fnAsmBytesWrong : ChangeSpec := { name := "fnAsmBytes", fn := fun _ => fun
  | [d] => { results := [.lit (.bool false)], args := [d] }
  | _ => none }
def FnAsmBytesWrongFalsely : Prop := fnAsmBytesRow.holds Try.pinned (OpenSpec.ofChange fnAsmBytesWrong)

/-- 'laws.FnAsmTwice': WHATEVER THE INPUT: true; the input reads as it did. -/
def fnAsmTwiceSpec : ChangeSpec := { name := "fnAsmTwice", fn := fun _ => fun
  | [d] => { results := [.lit (.bool true)], args := [d] }
  | _ => none }
def fnAsmTwiceRow : OpenClaim := { program := "ytncbgejggfkdmaa", sum := "b764096365690ea38d78ecfd30b72eaf6aa96173ad149b48f8caae4d08c131ec", func := "loop.example/capturemonitor/laws.FnAsmTwice", spec := "fnAsmTwice", inPlace := ["internal/abi.NoEscape"], apart := false }
def FnAsmTwiceSaid : Prop := fnAsmTwiceRow.holds Try.pinned (OpenSpec.ofChange fnAsmTwiceSpec)

/-- ITS FALSE NEIGHBOUR: 'it returns false'. Refute it at one input. -/
def fnAsmTwiceWrong : ChangeSpec := { name := "fnAsmTwice", fn := fun _ => fun
  | [d] => { results := [.lit (.bool false)], args := [d] }
  | _ => none }
def FnAsmTwiceWrongFalsely : Prop := fnAsmTwiceRow.holds Try.pinned (OpenSpec.ofChange fnAsmTwiceWrong)

/-- 'laws.FnAsmFull': WHATEVER THE INPUT: true; the input reads as it did. -/
def fnAsmFullSpec : ChangeSpec := { name := "fnAsmFull", fn := fun _ => fun
  | [d] => { results := [.lit (.bool true)], args := [d] }
  | _ => none }
def fnAsmFullRow : OpenClaim := { program := "ytncbgejggfkdmaa", sum := "b764096365690ea38d78ecfd30b72eaf6aa96173ad149b48f8caae4d08c131ec", func := "loop.example/capturemonitor/laws.FnAsmFull", spec := "fnAsmFull", inPlace := ["internal/abi.NoEscape"], apart := false }
def FnAsmFullSaid : Prop := fnAsmFullRow.holds Try.pinned (OpenSpec.ofChange fnAsmFullSpec)

/-- ITS FALSE NEIGHBOUR: 'it returns false'. Refute it at one input. -/
def fnAsmFullWrong : ChangeSpec := { name := "fnAsmFull", fn := fun _ => fun
  | [d] => { results := [.lit (.bool false)], args := [d] }
  | _ => none }
def FnAsmFullWrongFalsely : Prop := fnAsmFullRow.holds Try.pinned (OpenSpec.ofChange fnAsmFullWrong)

/-- 'laws.FnAsmAgain': WHATEVER THE INPUT: true; the input reads as it did. -/
def fnAsmAgainSpec : ChangeSpec := { name := "fnAsmAgain", fn := fun _ => fun
  | [d] => { results := [.lit (.bool true)], args := [d] }
  | _ => none }
def fnAsmAgainRow : OpenClaim := { program := "ytncbgejggfkdmaa", sum := "b764096365690ea38d78ecfd30b72eaf6aa96173ad149b48f8caae4d08c131ec", func := "loop.example/capturemonitor/laws.FnAsmAgain", spec := "fnAsmAgain", inPlace := ["internal/abi.NoEscape"], apart := false }
def FnAsmAgainSaid : Prop := fnAsmAgainRow.holds Try.pinned (OpenSpec.ofChange fnAsmAgainSpec)

/-- ITS FALSE NEIGHBOUR: 'it returns false'. Refute it at one input. -/
def fnAsmAgainWrong : ChangeSpec := { name := "fnAsmAgain", fn := fun _ => fun
  | [d] => { results := [.lit (.bool false)], args := [d] }
  | _ => none }
def FnAsmAgainWrongFalsely : Prop := fnAsmAgainRow.holds Try.pinned (OpenSpec.ofChange fnAsmAgainWrong)

/-- 'laws.FnAsmWait': WHATEVER THE INPUT: true; the input reads as it did. -/
def fnAsmWaitSpec : ChangeSpec := { name := "fnAsmWait", fn := fun _ => fun
  | [d] => { results := [.lit (.bool true)], args := [d] }
  | _ => none }
def fnAsmWaitRow : OpenClaim := { program := "ytncbgejggfkdmaa", sum := "b764096365690ea38d78ecfd30b72eaf6aa96173ad149b48f8caae4d08c131ec", func := "loop.example/capturemonitor/laws.FnAsmWait", spec := "fnAsmWait", inPlace := ["internal/abi.NoEscape"], apart := false }
def FnAsmWaitSaid : Prop := fnAsmWaitRow.holds Try.pinned (OpenSpec.ofChange fnAsmWaitSpec)

/-- ITS FALSE NEIGHBOUR: 'it returns false'. Refute it at one input. -/
def fnAsmWaitWrong : ChangeSpec := { name := "fnAsmWait", fn := fun _ => fun
  | [d] => { results := [.lit (.bool false)], args := [d] }
  | _ => none }
def FnAsmWaitWrongFalsely : Prop := fnAsmWaitRow.holds Try.pinned (OpenSpec.ofChange fnAsmWaitWrong)

/-- 'laws.FnAsmNext': WHATEVER THE INPUT: true; the input reads as it did. -/
def fnAsmNextSpec : ChangeSpec := { name := "fnAsmNext", fn := fun _ => fun
  | [d] => { results := [.lit (.bool true)], args := [d] }
  | _ => none }
def fnAsmNextRow : OpenClaim := { program := "ytncbgejggfkdmaa", sum := "b764096365690ea38d78ecfd30b72eaf6aa96173ad149b48f8caae4d08c131ec", func := "loop.example/capturemonitor/laws.FnAsmNext", spec := "fnAsmNext", inPlace := ["internal/abi.NoEscape"], apart := false }
def FnAsmNextSaid : Prop := fnAsmNextRow.holds Try.pinned (OpenSpec.ofChange fnAsmNextSpec)

/-- ITS FALSE NEIGHBOUR: 'it returns false'. Refute it at one input. -/
def fnAsmNextWrong : ChangeSpec := { name := "fnAsmNext", fn := fun _ => fun
  | [d] => { results := [.lit (.bool false)], args := [d] }
  | _ => none }
def FnAsmNextWrongFalsely : Prop := fnAsmNextRow.holds Try.pinned (OpenSpec.ofChange fnAsmNextWrong)

/-- 'laws.FnAsmOrder': WHATEVER THE INPUT: true; the input reads as it did. -/
def fnAsmOrderSpec : ChangeSpec := { name := "fnAsmOrder", fn := fun _ => fun
  | [d] => { results := [.lit (.bool true)], args := [d] }
  | _ => none }
def fnAsmOrderRow : OpenClaim := { program := "ytncbgejggfkdmaa", sum := "b764096365690ea38d78ecfd30b72eaf6aa96173ad149b48f8caae4d08c131ec", func := "loop.example/capturemonitor/laws.FnAsmOrder", spec := "fnAsmOrder", inPlace := ["internal/abi.NoEscape"], apart := false }
def FnAsmOrderSaid : Prop := fnAsmOrderRow.holds Try.pinned (OpenSpec.ofChange fnAsmOrderSpec)

/-- ITS FALSE NEIGHBOUR: 'it returns false'. Refute it at one input. -/
def fnAsmOrderWrong : ChangeSpec := { name := "fnAsmOrder", fn := fun _ => fun
  | [d] => { results := [.lit (.bool false)], args := [d] }
  | _ => none }
def FnAsmOrderWrongFalsely : Prop := fnAsmOrderRow.holds Try.pinned (OpenSpec.ofChange fnAsmOrderWrong)

/-- 'laws.FnAsmLoose': WHATEVER THE INPUT: true; the input reads as it did. -/
def fnAsmLooseSpec : ChangeSpec := { name := "fnAsmLoose", fn := fun _ => fun
  | [d] => { results := [.lit (.bool true)], args := [d] }
  | _ => none }
def fnAsmLooseRow : OpenClaim := { program := "ytncbgejggfkdmaa", sum := "b764096365690ea38d78ecfd30b72eaf6aa96173ad149b48f8caae4d08c131ec", func := "loop.example/capturemonitor/laws.FnAsmLoose", spec := "fnAsmLoose", inPlace := ["internal/abi.NoEscape"], apart := false }
def FnAsmLooseSaid : Prop := fnAsmLooseRow.holds Try.pinned (OpenSpec.ofChange fnAsmLooseSpec)

/-- ITS FALSE NEIGHBOUR: 'it returns false'. Refute it at one input. -/
def fnAsmLooseWrong : ChangeSpec := { name := "fnAsmLoose", fn := fun _ => fun
  | [d] => { results := [.lit (.bool false)], args := [d] }
  | _ => none }
def FnAsmLooseWrongFalsely : Prop := fnAsmLooseRow.holds Try.pinned (OpenSpec.ofChange fnAsmLooseWrong)

/-- 'laws.FnExactAsmAdd': WHATEVER THE INPUT: true; the input reads as it did. -/
def fnExactAsmAddSpec : ChangeSpec := { name := "fnExactAsmAdd", fn := fun _ => fun
  | [d1, d2] => { results := [.lit (.bool true)], args := [d1, d2] }
  | _ => none }
def fnExactAsmAddRow : OpenClaim := { program := "ytncbgejggfkdmaa", sum := "b764096365690ea38d78ecfd30b72eaf6aa96173ad149b48f8caae4d08c131ec", func := "loop.example/capturemonitor/laws.FnExactAsmAdd", spec := "fnExactAsmAdd", inPlace := ["internal/abi.NoEscape"], apart := false }
def FnExactAsmAddSaid : Prop := fnExactAsmAddRow.holds Try.pinned (OpenSpec.ofChange fnExactAsmAddSpec)

/-- ITS FALSE NEIGHBOUR: 'it returns false'. Refute it at one input. -/
def fnExactAsmAddWrong : ChangeSpec := { name := "fnExactAsmAdd", fn := fun _ => fun
  | [d1, d2] => { results := [.lit (.bool false)], args := [d1, d2] }
  | _ => none }
def FnExactAsmAddWrongFalsely : Prop := fnExactAsmAddRow.holds Try.pinned (OpenSpec.ofChange fnExactAsmAddWrong)

/- THE SECOND FORM. 'bulk': how many values and letters a reading holds, each counted each time it is reached (what is shared counts as often as it is met; a slice's spare places count too). A statement '..UptoSaid' is the law's where the arguments, and the package variables that the reading takes, are together of bulk at most 1048576: NARROWER than '..Said'. Prove '..Said' where nothing that the law and all that it calls make is longer than what came in: it says more and counts as full. Else prove '..UptoSaid'. A law counts once. -/
mutual
def uptoBulk {H : Type} : DataW H → Nat
  | .lit (.string bytes) => bytes.length + 1
  | .lit _ => 1
  | .nil => 1
  | .ptr d => uptoBulk d + 1
  | .slice elems spare => uptoBulkAll elems + uptoBulkAll spare + 1
  | .agg parts => uptoBulkAll parts + 1
  | .iface _ d => uptoBulk d + 1
  | .map entries => uptoBulkEntries entries + 1
  | .held _ => 1
def uptoBulkAll {H : Type} : List (DataW H) → Nat
  | [] => 0
  | d :: r => uptoBulk d + uptoBulkAll r
def uptoBulkEntries {H : Type} : List (Lit × DataW H) → Nat
  | [] => 0
  | x :: r => uptoBulkEntry x + uptoBulkEntries r
def uptoBulkEntry {H : Type} : Lit × DataW H → Nat
  | (.string bytes, d) => bytes.length + uptoBulk d + 1
  | (_, d) => uptoBulk d + 1
 end
def uptoSmall : (H : Type) → List (DataW H) → Bool := fun _ ds => decide (uptoBulkAll ds ≤ 1048576)
def OpenSpec.upto (s : _root_.Go.ChangeSpec) : _root_.Go.OpenSpec := { _root_.Go.OpenSpec.ofChange s with cond := some uptoSmall }

/-- 'laws.FnAsmAdd', WHERE WHAT IT READS IS OF BULK AT MOST 1048576: true; the input reads as it did. -/
def fnAsmAddUptoRow : OpenClaim := { program := "ytncbgejggfkdmaa", sum := "b764096365690ea38d78ecfd30b72eaf6aa96173ad149b48f8caae4d08c131ec", func := "loop.example/capturemonitor/laws.FnAsmAdd", spec := "fnAsmAdd", inPlace := ["internal/abi.NoEscape"], apart := false, narrowed := true }
def FnAsmAddUptoSaid : Prop := fnAsmAddUptoRow.holds Try.pinned (OpenSpec.upto fnAsmAddSpec)

/-- 'laws.FnAsmBytes', WHERE WHAT IT READS IS OF BULK AT MOST 1048576: true; the input reads as it did. -/
def fnAsmBytesUptoRow : OpenClaim := { program := "ytncbgejggfkdmaa", sum := "b764096365690ea38d78ecfd30b72eaf6aa96173ad149b48f8caae4d08c131ec", func := "loop.example/capturemonitor/laws.FnAsmBytes", spec := "fnAsmBytes", inPlace := ["internal/abi.NoEscape"], apart := false, narrowed := true }
def FnAsmBytesUptoSaid : Prop := fnAsmBytesUptoRow.holds Try.pinned (OpenSpec.upto fnAsmBytesSpec)

/-- 'laws.FnAsmTwice', WHERE WHAT IT READS IS OF BULK AT MOST 1048576: true; the input reads as it did. -/
def fnAsmTwiceUptoRow : OpenClaim := { program := "ytncbgejggfkdmaa", sum := "b764096365690ea38d78ecfd30b72eaf6aa96173ad149b48f8caae4d08c131ec", func := "loop.example/capturemonitor/laws.FnAsmTwice", spec := "fnAsmTwice", inPlace := ["internal/abi.NoEscape"], apart := false, narrowed := true }
def FnAsmTwiceUptoSaid : Prop := fnAsmTwiceUptoRow.holds Try.pinned (OpenSpec.upto fnAsmTwiceSpec)

/-- 'laws.FnAsmFull', WHERE WHAT IT READS IS OF BULK AT MOST 1048576: true; the input reads as it did. -/
def fnAsmFullUptoRow : OpenClaim := { program := "ytncbgejggfkdmaa", sum := "b764096365690ea38d78ecfd30b72eaf6aa96173ad149b48f8caae4d08c131ec", func := "loop.example/capturemonitor/laws.FnAsmFull", spec := "fnAsmFull", inPlace := ["internal/abi.NoEscape"], apart := false, narrowed := true }
def FnAsmFullUptoSaid : Prop := fnAsmFullUptoRow.holds Try.pinned (OpenSpec.upto fnAsmFullSpec)

/-- 'laws.FnAsmAgain', WHERE WHAT IT READS IS OF BULK AT MOST 1048576: true; the input reads as it did. -/
def fnAsmAgainUptoRow : OpenClaim := { program := "ytncbgejggfkdmaa", sum := "b764096365690ea38d78ecfd30b72eaf6aa96173ad149b48f8caae4d08c131ec", func := "loop.example/capturemonitor/laws.FnAsmAgain", spec := "fnAsmAgain", inPlace := ["internal/abi.NoEscape"], apart := false, narrowed := true }
def FnAsmAgainUptoSaid : Prop := fnAsmAgainUptoRow.holds Try.pinned (OpenSpec.upto fnAsmAgainSpec)

/-- 'laws.FnAsmWait', WHERE WHAT IT READS IS OF BULK AT MOST 1048576: true; the input reads as it did. -/
def fnAsmWaitUptoRow : OpenClaim := { program := "ytncbgejggfkdmaa", sum := "b764096365690ea38d78ecfd30b72eaf6aa96173ad149b48f8caae4d08c131ec", func := "loop.example/capturemonitor/laws.FnAsmWait", spec := "fnAsmWait", inPlace := ["internal/abi.NoEscape"], apart := false, narrowed := true }
def FnAsmWaitUptoSaid : Prop := fnAsmWaitUptoRow.holds Try.pinned (OpenSpec.upto fnAsmWaitSpec)

/-- 'laws.FnAsmNext', WHERE WHAT IT READS IS OF BULK AT MOST 1048576: true; the input reads as it did. -/
def fnAsmNextUptoRow : OpenClaim := { program := "ytncbgejggfkdmaa", sum := "b764096365690ea38d78ecfd30b72eaf6aa96173ad149b48f8caae4d08c131ec", func := "loop.example/capturemonitor/laws.FnAsmNext", spec := "fnAsmNext", inPlace := ["internal/abi.NoEscape"], apart := false, narrowed := true }
def FnAsmNextUptoSaid : Prop := fnAsmNextUptoRow.holds Try.pinned (OpenSpec.upto fnAsmNextSpec)

/-- 'laws.FnAsmOrder', WHERE WHAT IT READS IS OF BULK AT MOST 1048576: true; the input reads as it did. -/
def fnAsmOrderUptoRow : OpenClaim := { program := "ytncbgejggfkdmaa", sum := "b764096365690ea38d78ecfd30b72eaf6aa96173ad149b48f8caae4d08c131ec", func := "loop.example/capturemonitor/laws.FnAsmOrder", spec := "fnAsmOrder", inPlace := ["internal/abi.NoEscape"], apart := false, narrowed := true }
def FnAsmOrderUptoSaid : Prop := fnAsmOrderUptoRow.holds Try.pinned (OpenSpec.upto fnAsmOrderSpec)

/-- 'laws.FnAsmLoose', WHERE WHAT IT READS IS OF BULK AT MOST 1048576: true; the input reads as it did. -/
def fnAsmLooseUptoRow : OpenClaim := { program := "ytncbgejggfkdmaa", sum := "b764096365690ea38d78ecfd30b72eaf6aa96173ad149b48f8caae4d08c131ec", func := "loop.example/capturemonitor/laws.FnAsmLoose", spec := "fnAsmLoose", inPlace := ["internal/abi.NoEscape"], apart := false, narrowed := true }
def FnAsmLooseUptoSaid : Prop := fnAsmLooseUptoRow.holds Try.pinned (OpenSpec.upto fnAsmLooseSpec)

/-- 'laws.FnExactAsmAdd', WHERE WHAT IT READS IS OF BULK AT MOST 1048576: true; the input reads as it did. -/
def fnExactAsmAddUptoRow : OpenClaim := { program := "ytncbgejggfkdmaa", sum := "b764096365690ea38d78ecfd30b72eaf6aa96173ad149b48f8caae4d08c131ec", func := "loop.example/capturemonitor/laws.FnExactAsmAdd", spec := "fnExactAsmAdd", inPlace := ["internal/abi.NoEscape"], apart := false, narrowed := true }
def FnExactAsmAddUptoSaid : Prop := fnExactAsmAddUptoRow.holds Try.pinned (OpenSpec.upto fnExactAsmAddSpec)

end Rows
end Go.Proofs.Ytncbgejggfkdmaa
