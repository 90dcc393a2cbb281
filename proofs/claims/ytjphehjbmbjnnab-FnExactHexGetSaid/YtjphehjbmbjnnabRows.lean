/-
  No cell of these rows narrows 'for every input' (looked for: loops, veiled, ifaces, maps, wideKeys, modest, calm, conditions, laid).
  DERIVED. THE GIVEN ROWS OF THIS SEAT. 8 by the template 'for every input the law returns true; each argument reads behind the call as it read before'; 0 by the template 'total and deterministic' (their statements: YtjphehjbmbjnnabTotals.lean).
  GIVEN WITH THE SEED: the statements are not yours to turn. If you find one false, say at which input.
  Laid BY PROGRAM, IN A SANDBOX (cutbox-rows.mjs): the forced cells as the released guide's own fill.sh prints them over the translation d6a6aee0a621ba9c… (all of the seat's roots in one cut). By AI agents, Wed Nov 11 2026. No macro, syntax, notation, axiom, sorry.
-/
import Derived.Test.YtjphehjbmbjnnabChecked
import GoSem.Claim
import GoSem.ClaimJoined
import GoSem.ClaimMapViews
import Derived.JoinedTies
import Derived.KernelRfl
namespace Go.Proofs.Ytjphehjbmbjnnab
/- THE CELL 'sum', in the pinned program and in every row, IS THE sha256 OF THE DUMP (.gsa) THAT YtjphehjbmbjnnabProg.lean LOADS. Nothing in Lean hashes anything: it is a label: what it is worth is what the hold of that sum in a sandbox is worth. -/
noncomputable def Try.pinned : Pinned := { name := "ytjphehjbmbjnnab", sum := "d6a6aee0a621ba9cf6a251ee2c4fbeea05da188ca6b9a94af98654a364067a14", checked := Try.checked }
namespace Rows
def none {H : Type} : Left H := { results := [], args := [] }

/-- 'laws.FnExactLongGet': WHATEVER THE INPUT: true; the input reads as it did. -/
def fnExactLongGetSpec : ChangeSpec := { name := "fnExactLongGet", fn := fun _ => fun
  | [d1, d2] => { results := [.lit (.bool true)], args := [d1, d2] }
  | _ => none }
def fnExactLongGetRow : OpenClaim := { program := "ytjphehjbmbjnnab", sum := "d6a6aee0a621ba9cf6a251ee2c4fbeea05da188ca6b9a94af98654a364067a14", func := "loop.example/capturemonitor/laws.FnExactLongGet", spec := "fnExactLongGet", apart := false }
def FnExactLongGetSaid : Prop := fnExactLongGetRow.holds Try.pinned (OpenSpec.ofChange fnExactLongGetSpec)

/-- ITS FALSE NEIGHBOUR: 'it returns false'. Refute it at one input. -/
def fnExactLongGetWrong : ChangeSpec := { name := "fnExactLongGet", fn := fun _ => fun
  | [d1, d2] => { results := [.lit (.bool false)], args := [d1, d2] }
  | _ => none }
def FnExactLongGetWrongFalsely : Prop := fnExactLongGetRow.holds Try.pinned (OpenSpec.ofChange fnExactLongGetWrong)

/-- 'laws.FnHexPut': WHATEVER THE INPUT: true; the input reads as it did. -/
def fnHexPutSpec : ChangeSpec := { name := "fnHexPut", fn := fun _ => fun
  | [d] => { results := [.lit (.bool true)], args := [d] }
  | _ => none }
def fnHexPutRow : OpenClaim := { program := "ytjphehjbmbjnnab", sum := "d6a6aee0a621ba9cf6a251ee2c4fbeea05da188ca6b9a94af98654a364067a14", func := "loop.example/capturemonitor/laws.FnHexPut", spec := "fnHexPut", inPlace := ["internal/abi.NoEscape", "internal/bytealg.IndexByteString"], apart := false }
def FnHexPutSaid : Prop := fnHexPutRow.holds Try.pinned (OpenSpec.ofChange fnHexPutSpec)

/-- ITS FALSE NEIGHBOUR: 'it returns false'. Refute it at one input. -/
def fnHexPutWrong : ChangeSpec := { name := "fnHexPut", fn := fun _ => fun
  | [d] => { results := [.lit (.bool false)], args := [d] }
  | _ => none }
def FnHexPutWrongFalsely : Prop := fnHexPutRow.holds Try.pinned (OpenSpec.ofChange fnHexPutWrong)

/-- 'laws.FnHexPutLong': WHATEVER THE INPUT: true; the input reads as it did. -/
def fnHexPutLongSpec : ChangeSpec := { name := "fnHexPutLong", fn := fun _ => fun
  | [d] => { results := [.lit (.bool true)], args := [d] }
  | _ => none }
def fnHexPutLongRow : OpenClaim := { program := "ytjphehjbmbjnnab", sum := "d6a6aee0a621ba9cf6a251ee2c4fbeea05da188ca6b9a94af98654a364067a14", func := "loop.example/capturemonitor/laws.FnHexPutLong", spec := "fnHexPutLong", inPlace := ["internal/abi.NoEscape"], apart := false }
def FnHexPutLongSaid : Prop := fnHexPutLongRow.holds Try.pinned (OpenSpec.ofChange fnHexPutLongSpec)

/-- ITS FALSE NEIGHBOUR: 'it returns false'. Refute it at one input. -/
def fnHexPutLongWrong : ChangeSpec := { name := "fnHexPutLong", fn := fun _ => fun
  | [d] => { results := [.lit (.bool false)], args := [d] }
  | _ => none }
def FnHexPutLongWrongFalsely : Prop := fnHexPutLongRow.holds Try.pinned (OpenSpec.ofChange fnHexPutLongWrong)

/-- 'laws.FnHexGet': WHATEVER THE INPUT: true; the input reads as it did. -/
def fnHexGetSpec : ChangeSpec := { name := "fnHexGet", fn := fun _ => fun
  | [d] => { results := [.lit (.bool true)], args := [d] }
  | _ => none }
def fnHexGetRow : OpenClaim := { program := "ytjphehjbmbjnnab", sum := "d6a6aee0a621ba9cf6a251ee2c4fbeea05da188ca6b9a94af98654a364067a14", func := "loop.example/capturemonitor/laws.FnHexGet", spec := "fnHexGet", inPlace := ["internal/bytealg.IndexByteString", "internal/abi.NoEscape"], apart := false }
def FnHexGetSaid : Prop := fnHexGetRow.holds Try.pinned (OpenSpec.ofChange fnHexGetSpec)

/-- ITS FALSE NEIGHBOUR: 'it returns false'. Refute it at one input. -/
def fnHexGetWrong : ChangeSpec := { name := "fnHexGet", fn := fun _ => fun
  | [d] => { results := [.lit (.bool false)], args := [d] }
  | _ => none }
def FnHexGetWrongFalsely : Prop := fnHexGetRow.holds Try.pinned (OpenSpec.ofChange fnHexGetWrong)

/-- 'laws.FnHexGetOdd': WHATEVER THE INPUT: true; the input reads as it did. -/
def fnHexGetOddSpec : ChangeSpec := { name := "fnHexGetOdd", fn := fun _ => fun
  | [d] => { results := [.lit (.bool true)], args := [d] }
  | _ => none }
def fnHexGetOddRow : OpenClaim := { program := "ytjphehjbmbjnnab", sum := "d6a6aee0a621ba9cf6a251ee2c4fbeea05da188ca6b9a94af98654a364067a14", func := "loop.example/capturemonitor/laws.FnHexGetOdd", spec := "fnHexGetOdd", inPlace := ["internal/bytealg.IndexByteString", "internal/abi.NoEscape"], apart := false }
def FnHexGetOddSaid : Prop := fnHexGetOddRow.holds Try.pinned (OpenSpec.ofChange fnHexGetOddSpec)

/-- ITS FALSE NEIGHBOUR: 'it returns false'. Refute it at one input. -/
def fnHexGetOddWrong : ChangeSpec := { name := "fnHexGetOdd", fn := fun _ => fun
  | [d] => { results := [.lit (.bool false)], args := [d] }
  | _ => none }
def FnHexGetOddWrongFalsely : Prop := fnHexGetOddRow.holds Try.pinned (OpenSpec.ofChange fnHexGetOddWrong)

/-- 'laws.FnHexJoin': WHATEVER THE INPUT: true; the input reads as it did. -/
def fnHexJoinSpec : ChangeSpec := { name := "fnHexJoin", fn := fun _ => fun
  | [d1, d2] => { results := [.lit (.bool true)], args := [d1, d2] }
  | _ => none }
def fnHexJoinRow : OpenClaim := { program := "ytjphehjbmbjnnab", sum := "d6a6aee0a621ba9cf6a251ee2c4fbeea05da188ca6b9a94af98654a364067a14", func := "loop.example/capturemonitor/laws.FnHexJoin", spec := "fnHexJoin", inPlace := ["internal/abi.NoEscape"], apart := false }
def FnHexJoinSaid : Prop := fnHexJoinRow.holds Try.pinned (OpenSpec.ofChange fnHexJoinSpec)

/-- ITS FALSE NEIGHBOUR: 'it returns false'. Refute it at one input. -/
def fnHexJoinWrong : ChangeSpec := { name := "fnHexJoin", fn := fun _ => fun
  | [d1, d2] => { results := [.lit (.bool false)], args := [d1, d2] }
  | _ => none }
def FnHexJoinWrongFalsely : Prop := fnHexJoinRow.holds Try.pinned (OpenSpec.ofChange fnHexJoinWrong)

/-- 'laws.FnExactHexPut': WHATEVER THE INPUT: true; the input reads as it did. -/
def fnExactHexPutSpec : ChangeSpec := { name := "fnExactHexPut", fn := fun _ => fun
  | [d] => { results := [.lit (.bool true)], args := [d] }
  | _ => none }
def fnExactHexPutRow : OpenClaim := { program := "ytjphehjbmbjnnab", sum := "d6a6aee0a621ba9cf6a251ee2c4fbeea05da188ca6b9a94af98654a364067a14", func := "loop.example/capturemonitor/laws.FnExactHexPut", spec := "fnExactHexPut", inPlace := ["internal/abi.NoEscape"], apart := false }
def FnExactHexPutSaid : Prop := fnExactHexPutRow.holds Try.pinned (OpenSpec.ofChange fnExactHexPutSpec)

/-- ITS FALSE NEIGHBOUR: 'it returns false'. Refute it at one input. -/
def fnExactHexPutWrong : ChangeSpec := { name := "fnExactHexPut", fn := fun _ => fun
  | [d] => { results := [.lit (.bool false)], args := [d] }
  | _ => none }
def FnExactHexPutWrongFalsely : Prop := fnExactHexPutRow.holds Try.pinned (OpenSpec.ofChange fnExactHexPutWrong)

/-- 'laws.FnExactHexGet': WHATEVER THE INPUT: true; the input reads as it did. -/
def fnExactHexGetSpec : ChangeSpec := { name := "fnExactHexGet", fn := fun _ => fun
  | [d] => { results := [.lit (.bool true)], args := [d] }
  | _ => none }
def fnExactHexGetRow : OpenClaim := { program := "ytjphehjbmbjnnab", sum := "d6a6aee0a621ba9cf6a251ee2c4fbeea05da188ca6b9a94af98654a364067a14", func := "loop.example/capturemonitor/laws.FnExactHexGet", spec := "fnExactHexGet", inPlace := ["internal/bytealg.IndexByteString", "internal/abi.NoEscape"], apart := false }
def FnExactHexGetSaid : Prop := fnExactHexGetRow.holds Try.pinned (OpenSpec.ofChange fnExactHexGetSpec)

/-- ITS FALSE NEIGHBOUR: 'it returns false'. Refute it at one input. -/
def fnExactHexGetWrong : ChangeSpec := { name := "fnExactHexGet", fn := fun _ => fun
  | [d] => { results := [.lit (.bool false)], args := [d] }
  | _ => none }
def FnExactHexGetWrongFalsely : Prop := fnExactHexGetRow.holds Try.pinned (OpenSpec.ofChange fnExactHexGetWrong)

/- THE SECOND FORM. 'bulk': how many values and letters a reading holds, each counted each time it is reached (what is shared counts as often as it is met; a slice's spare places count too). A statement '..UptoSaid' is the law's where the arguments, and the package variables that the reading takes, are together of bulk at most 1048576: NARROWER than '..Said'. Prove '..Said' where nothing that the law and all that it calls make is longer than what came in: it says more and counts as full. Else prove '..UptoSaid'. A law counts once. -/
mutual
def uptoBulk {H : Type} : DataW H → Nat
  | .lit (.string bytes) => bytes.length + 1
  | .lit _ => 1
  | .nil => 1
  | .ptr d => uptoBulk d + 1
  | .slice elems spare => uptoBulkAll elems + uptoBulkAll spare + 1
  | .agg parts => uptoBulkAll parts + 1
  | .iface _ d => uptoBulk d + 1
  | .map entries => uptoBulkEntries entries + 1
  | .held _ => 1
def uptoBulkAll {H : Type} : List (DataW H) → Nat
  | [] => 0
  | d :: r => uptoBulk d + uptoBulkAll r
def uptoBulkEntries {H : Type} : List (Lit × DataW H) → Nat
  | [] => 0
  | x :: r => uptoBulkEntry x + uptoBulkEntries r
def uptoBulkEntry {H : Type} : Lit × DataW H → Nat
  | (.string bytes, d) => bytes.length + uptoBulk d + 1
  | (_, d) => uptoBulk d + 1
 end
def uptoSmall : (H : Type) → List (DataW H) → Bool := fun _ ds => decide (uptoBulkAll ds ≤ 1048576)
def OpenSpec.upto (s : _root_.Go.ChangeSpec) : _root_.Go.OpenSpec := { _root_.Go.OpenSpec.ofChange s with cond := some uptoSmall }

/-- 'laws.FnExactLongGet', WHERE WHAT IT READS IS OF BULK AT MOST 1048576: true; the input reads as it did. -/
def fnExactLongGetUptoRow : OpenClaim := { program := "ytjphehjbmbjnnab", sum := "d6a6aee0a621ba9cf6a251ee2c4fbeea05da188ca6b9a94af98654a364067a14", func := "loop.example/capturemonitor/laws.FnExactLongGet", spec := "fnExactLongGet", apart := false, narrowed := true }
def FnExactLongGetUptoSaid : Prop := fnExactLongGetUptoRow.holds Try.pinned (OpenSpec.upto fnExactLongGetSpec)

/-- 'laws.FnHexPut', WHERE WHAT IT READS IS OF BULK AT MOST 1048576: true; the input reads as it did. -/
def fnHexPutUptoRow : OpenClaim := { program := "ytjphehjbmbjnnab", sum := "d6a6aee0a621ba9cf6a251ee2c4fbeea05da188ca6b9a94af98654a364067a14", func := "loop.example/capturemonitor/laws.FnHexPut", spec := "fnHexPut", inPlace := ["internal/abi.NoEscape", "internal/bytealg.IndexByteString"], apart := false, narrowed := true }
def FnHexPutUptoSaid : Prop := fnHexPutUptoRow.holds Try.pinned (OpenSpec.upto fnHexPutSpec)

/-- 'laws.FnHexPutLong', WHERE WHAT IT READS IS OF BULK AT MOST 1048576: true; the input reads as it did. -/
def fnHexPutLongUptoRow : OpenClaim := { program := "ytjphehjbmbjnnab", sum := "d6a6aee0a621ba9cf6a251ee2c4fbeea05da188ca6b9a94af98654a364067a14", func := "loop.example/capturemonitor/laws.FnHexPutLong", spec := "fnHexPutLong", inPlace := ["internal/abi.NoEscape"], apart := false, narrowed := true }
def FnHexPutLongUptoSaid : Prop := fnHexPutLongUptoRow.holds Try.pinned (OpenSpec.upto fnHexPutLongSpec)

/-- 'laws.FnHexGet', WHERE WHAT IT READS IS OF BULK AT MOST 1048576: true; the input reads as it did. -/
def fnHexGetUptoRow : OpenClaim := { program := "ytjphehjbmbjnnab", sum := "d6a6aee0a621ba9cf6a251ee2c4fbeea05da188ca6b9a94af98654a364067a14", func := "loop.example/capturemonitor/laws.FnHexGet", spec := "fnHexGet", inPlace := ["internal/bytealg.IndexByteString", "internal/abi.NoEscape"], apart := false, narrowed := true }
def FnHexGetUptoSaid : Prop := fnHexGetUptoRow.holds Try.pinned (OpenSpec.upto fnHexGetSpec)

/-- 'laws.FnHexGetOdd', WHERE WHAT IT READS IS OF BULK AT MOST 1048576: true; the input reads as it did. -/
def fnHexGetOddUptoRow : OpenClaim := { program := "ytjphehjbmbjnnab", sum := "d6a6aee0a621ba9cf6a251ee2c4fbeea05da188ca6b9a94af98654a364067a14", func := "loop.example/capturemonitor/laws.FnHexGetOdd", spec := "fnHexGetOdd", inPlace := ["internal/bytealg.IndexByteString", "internal/abi.NoEscape"], apart := false, narrowed := true }
def FnHexGetOddUptoSaid : Prop := fnHexGetOddUptoRow.holds Try.pinned (OpenSpec.upto fnHexGetOddSpec)

/-- 'laws.FnHexJoin', WHERE WHAT IT READS IS OF BULK AT MOST 1048576: true; the input reads as it did. -/
def fnHexJoinUptoRow : OpenClaim := { program := "ytjphehjbmbjnnab", sum := "d6a6aee0a621ba9cf6a251ee2c4fbeea05da188ca6b9a94af98654a364067a14", func := "loop.example/capturemonitor/laws.FnHexJoin", spec := "fnHexJoin", inPlace := ["internal/abi.NoEscape"], apart := false, narrowed := true }
def FnHexJoinUptoSaid : Prop := fnHexJoinUptoRow.holds Try.pinned (OpenSpec.upto fnHexJoinSpec)

/-- 'laws.FnExactHexPut', WHERE WHAT IT READS IS OF BULK AT MOST 1048576: true; the input reads as it did. -/
def fnExactHexPutUptoRow : OpenClaim := { program := "ytjphehjbmbjnnab", sum := "d6a6aee0a621ba9cf6a251ee2c4fbeea05da188ca6b9a94af98654a364067a14", func := "loop.example/capturemonitor/laws.FnExactHexPut", spec := "fnExactHexPut", inPlace := ["internal/abi.NoEscape"], apart := false, narrowed := true }
def FnExactHexPutUptoSaid : Prop := fnExactHexPutUptoRow.holds Try.pinned (OpenSpec.upto fnExactHexPutSpec)

/-- 'laws.FnExactHexGet', WHERE WHAT IT READS IS OF BULK AT MOST 1048576: true; the input reads as it did. -/
def fnExactHexGetUptoRow : OpenClaim := { program := "ytjphehjbmbjnnab", sum := "d6a6aee0a621ba9cf6a251ee2c4fbeea05da188ca6b9a94af98654a364067a14", func := "loop.example/capturemonitor/laws.FnExactHexGet", spec := "fnExactHexGet", inPlace := ["internal/bytealg.IndexByteString", "internal/abi.NoEscape"], apart := false, narrowed := true }
def FnExactHexGetUptoSaid : Prop := fnExactHexGetUptoRow.holds Try.pinned (OpenSpec.upto fnExactHexGetSpec)

end Rows
end Go.Proofs.Ytjphehjbmbjnnab
