/-
  No cell of these rows narrows 'for every input' (looked for: loops, veiled, ifaces, maps, wideKeys, modest, calm, conditions, laid).
  DERIVED. THE GIVEN ROWS OF THIS SEAT. 6 by the template 'for every input the law returns true; each argument reads behind the call as it read before'; 0 by the template 'total and deterministic' (their statements: YtmmgngdebjndbabTotals.lean).
  GIVEN WITH THE SEED: the statements are not yours to turn. If you find one false, say at which input.
  Laid BY PROGRAM, IN A SANDBOX (cutbox-rows.mjs): the forced cells as the released guide's own fill.sh prints them over the translation 7a363144e17ee736… (all of the seat's roots in one cut). By AI agents, Wed Nov 11 2026. No macro, syntax, notation, axiom, sorry.
-/
import Derived.Test.YtmmgngdebjndbabChecked
import GoSem.Claim
import GoSem.ClaimJoined
import GoSem.ClaimMapViews
import Derived.JoinedTies
import Derived.KernelRfl
namespace Go.Proofs.Ytmmgngdebjndbab
/- THE CELL 'sum', in the pinned program and in every row, IS THE sha256 OF THE DUMP (.gsa) THAT YtmmgngdebjndbabProg.lean LOADS. Nothing in Lean hashes anything: it is a label: what it is worth is what the hold of that sum in a sandbox is worth. -/
noncomputable def Try.pinned : Pinned := { name := "ytmmgngdebjndbab", sum := "7a363144e17ee736df3442640f9f34f75d5047c64508ca5c7414891572803409", checked := Try.checked }
namespace Rows
def none {H : Type} : Left H := { results := [], args := [] }

/-- 'laws.FnSumValid': WHATEVER THE INPUT: true; the input reads as it did. -/
def fnSumValidSpec : ChangeSpec := { name := "fnSumValid", fn := fun _ => fun
  | [d] => { results := [.lit (.bool true)], args := [d] }
  | _ => none }
def fnSumValidRow : OpenClaim := { program := "ytmmgngdebjndbab", sum := "7a363144e17ee736df3442640f9f34f75d5047c64508ca5c7414891572803409", func := "loop.example/capturemonitor/laws.FnSumValid", spec := "fnSumValid", apart := false }
def FnSumValidSaid : Prop := fnSumValidRow.holds Try.pinned (OpenSpec.ofChange fnSumValidSpec)

/-- ITS FALSE NEIGHBOUR: 'it returns false'. Refute it at one input. -/
def fnSumValidWrong : ChangeSpec := { name := "fnSumValid", fn := fun _ => fun
  | [d] => { results := [.lit (.bool false)], args := [d] }
  | _ => none }
def FnSumValidWrongFalsely : Prop := fnSumValidRow.holds Try.pinned (OpenSpec.ofChange fnSumValidWrong)

/-- 'laws.FnSumNext': WHATEVER THE INPUT: true; the input reads as it did. -/
def fnSumNextSpec : ChangeSpec := { name := "fnSumNext", fn := fun _ => fun
  | [d] => { results := [.lit (.bool true)], args := [d] }
  | _ => none }
def fnSumNextRow : OpenClaim := { program := "ytmmgngdebjndbab", sum := "7a363144e17ee736df3442640f9f34f75d5047c64508ca5c7414891572803409", func := "loop.example/capturemonitor/laws.FnSumNext", spec := "fnSumNext", apart := false }
def FnSumNextSaid : Prop := fnSumNextRow.holds Try.pinned (OpenSpec.ofChange fnSumNextSpec)

/-- ITS FALSE NEIGHBOUR: 'it returns false'. Refute it at one input. -/
def fnSumNextWrong : ChangeSpec := { name := "fnSumNext", fn := fun _ => fun
  | [d] => { results := [.lit (.bool false)], args := [d] }
  | _ => none }
def FnSumNextWrongFalsely : Prop := fnSumNextRow.holds Try.pinned (OpenSpec.ofChange fnSumNextWrong)

/-- 'laws.FnSumNextJoin': WHATEVER THE INPUT: true; the input reads as it did. -/
def fnSumNextJoinSpec : ChangeSpec := { name := "fnSumNextJoin", fn := fun _ => fun
  | [d1, d2] => { results := [.lit (.bool true)], args := [d1, d2] }
  | _ => none }
def fnSumNextJoinRow : OpenClaim := { program := "ytmmgngdebjndbab", sum := "7a363144e17ee736df3442640f9f34f75d5047c64508ca5c7414891572803409", func := "loop.example/capturemonitor/laws.FnSumNextJoin", spec := "fnSumNextJoin", apart := false }
def FnSumNextJoinSaid : Prop := fnSumNextJoinRow.holds Try.pinned (OpenSpec.ofChange fnSumNextJoinSpec)

/-- ITS FALSE NEIGHBOUR: 'it returns false'. Refute it at one input. -/
def fnSumNextJoinWrong : ChangeSpec := { name := "fnSumNextJoin", fn := fun _ => fun
  | [d1, d2] => { results := [.lit (.bool false)], args := [d1, d2] }
  | _ => none }
def FnSumNextJoinWrongFalsely : Prop := fnSumNextJoinRow.holds Try.pinned (OpenSpec.ofChange fnSumNextJoinWrong)

/-- 'laws.FnSumNextByte': WHATEVER THE INPUT: true; the input reads as it did. -/
def fnSumNextByteSpec : ChangeSpec := { name := "fnSumNextByte", fn := fun _ => fun
  | [d] => { results := [.lit (.bool true)], args := [d] }
  | _ => none }
def fnSumNextByteRow : OpenClaim := { program := "ytmmgngdebjndbab", sum := "7a363144e17ee736df3442640f9f34f75d5047c64508ca5c7414891572803409", func := "loop.example/capturemonitor/laws.FnSumNextByte", spec := "fnSumNextByte", apart := false }
def FnSumNextByteSaid : Prop := fnSumNextByteRow.holds Try.pinned (OpenSpec.ofChange fnSumNextByteSpec)

/-- ITS FALSE NEIGHBOUR: 'it returns false'. Refute it at one input. -/
def fnSumNextByteWrong : ChangeSpec := { name := "fnSumNextByte", fn := fun _ => fun
  | [d] => { results := [.lit (.bool false)], args := [d] }
  | _ => none }
def FnSumNextByteWrongFalsely : Prop := fnSumNextByteRow.holds Try.pinned (OpenSpec.ofChange fnSumNextByteWrong)

/-- 'laws.FnExactSumValid': WHATEVER THE INPUT: true; the input reads as it did. -/
def fnExactSumValidSpec : ChangeSpec := { name := "fnExactSumValid", fn := fun _ => fun
  | [d] => { results := [.lit (.bool true)], args := [d] }
  | _ => none }
def fnExactSumValidRow : OpenClaim := { program := "ytmmgngdebjndbab", sum := "7a363144e17ee736df3442640f9f34f75d5047c64508ca5c7414891572803409", func := "loop.example/capturemonitor/laws.FnExactSumValid", spec := "fnExactSumValid", apart := false }
def FnExactSumValidSaid : Prop := fnExactSumValidRow.holds Try.pinned (OpenSpec.ofChange fnExactSumValidSpec)

/-- ITS FALSE NEIGHBOUR: 'it returns false'. Refute it at one input. -/
def fnExactSumValidWrong : ChangeSpec := { name := "fnExactSumValid", fn := fun _ => fun
  | [d] => { results := [.lit (.bool false)], args := [d] }
  | _ => none }
def FnExactSumValidWrongFalsely : Prop := fnExactSumValidRow.holds Try.pinned (OpenSpec.ofChange fnExactSumValidWrong)

/-- 'laws.FnExactSumNext': WHATEVER THE INPUT: true; the input reads as it did. -/
def fnExactSumNextSpec : ChangeSpec := { name := "fnExactSumNext", fn := fun _ => fun
  | [d1, d2] => { results := [.lit (.bool true)], args := [d1, d2] }
  | _ => none }
def fnExactSumNextRow : OpenClaim := { program := "ytmmgngdebjndbab", sum := "7a363144e17ee736df3442640f9f34f75d5047c64508ca5c7414891572803409", func := "loop.example/capturemonitor/laws.FnExactSumNext", spec := "fnExactSumNext", apart := false }
def FnExactSumNextSaid : Prop := fnExactSumNextRow.holds Try.pinned (OpenSpec.ofChange fnExactSumNextSpec)

/-- ITS FALSE NEIGHBOUR: 'it returns false'. Refute it at one input. -/
def fnExactSumNextWrong : ChangeSpec := { name := "fnExactSumNext", fn := fun _ => fun
  | [d1, d2] => { results := [.lit (.bool false)], args := [d1, d2] }
  | _ => none }
def FnExactSumNextWrongFalsely : Prop := fnExactSumNextRow.holds Try.pinned (OpenSpec.ofChange fnExactSumNextWrong)

/- THE SECOND FORM. 'bulk': how many values and letters a reading holds, each counted each time it is reached (what is shared counts as often as it is met; a slice's spare places count too). A statement '..UptoSaid' is the law's where the arguments, and the package variables that the reading takes, are together of bulk at most 1048576: NARROWER than '..Said'. Prove '..Said' where nothing that the law and all that it calls make is longer than what came in: it says more and counts as full. Else prove '..UptoSaid'. A law counts once. -/
mutual
def uptoBulk {H : Type} : DataW H → Nat
  | .lit (.string bytes) => bytes.length + 1
  | .lit _ => 1
  | .nil => 1
  | .ptr d => uptoBulk d + 1
  | .slice elems spare => uptoBulkAll elems + uptoBulkAll spare + 1
  | .agg parts => uptoBulkAll parts + 1
  | .iface _ d => uptoBulk d + 1
  | .map entries => uptoBulkEntries entries + 1
  | .held _ => 1
def uptoBulkAll {H : Type} : List (DataW H) → Nat
  | [] => 0
  | d :: r => uptoBulk d + uptoBulkAll r
def uptoBulkEntries {H : Type} : List (Lit × DataW H) → Nat
  | [] => 0
  | x :: r => uptoBulkEntry x + uptoBulkEntries r
def uptoBulkEntry {H : Type} : Lit × DataW H → Nat
  | (.string bytes, d) => bytes.length + uptoBulk d + 1
  | (_, d) => uptoBulk d + 1
 end
def uptoSmall : (H : Type) → List (DataW H) → Bool := fun _ ds => decide (uptoBulkAll ds ≤ 1048576)
def OpenSpec.upto (s : _root_.Go.ChangeSpec) : _root_.Go.OpenSpec := { _root_.Go.OpenSpec.ofChange s with cond := some uptoSmall }

/-- 'laws.FnSumValid', WHERE WHAT IT READS IS OF BULK AT MOST 1048576: true; the input reads as it did. -/
def fnSumValidUptoRow : OpenClaim := { program := "ytmmgngdebjndbab", sum := "7a363144e17ee736df3442640f9f34f75d5047c64508ca5c7414891572803409", func := "loop.example/capturemonitor/laws.FnSumValid", spec := "fnSumValid", apart := false, narrowed := true }
def FnSumValidUptoSaid : Prop := fnSumValidUptoRow.holds Try.pinned (OpenSpec.upto fnSumValidSpec)

/-- 'laws.FnSumNext', WHERE WHAT IT READS IS OF BULK AT MOST 1048576: true; the input reads as it did. -/
def fnSumNextUptoRow : OpenClaim := { program := "ytmmgngdebjndbab", sum := "7a363144e17ee736df3442640f9f34f75d5047c64508ca5c7414891572803409", func := "loop.example/capturemonitor/laws.FnSumNext", spec := "fnSumNext", apart := false, narrowed := true }
def FnSumNextUptoSaid : Prop := fnSumNextUptoRow.holds Try.pinned (OpenSpec.upto fnSumNextSpec)

/-- 'laws.FnSumNextJoin', WHERE WHAT IT READS IS OF BULK AT MOST 1048576: true; the input reads as it did. -/
def fnSumNextJoinUptoRow : OpenClaim := { program := "ytmmgngdebjndbab", sum := "7a363144e17ee736df3442640f9f34f75d5047c64508ca5c7414891572803409", func := "loop.example/capturemonitor/laws.FnSumNextJoin", spec := "fnSumNextJoin", apart := false, narrowed := true }
def FnSumNextJoinUptoSaid : Prop := fnSumNextJoinUptoRow.holds Try.pinned (OpenSpec.upto fnSumNextJoinSpec)

/-- 'laws.FnSumNextByte', WHERE WHAT IT READS IS OF BULK AT MOST 1048576: true; the input reads as it did. -/
def fnSumNextByteUptoRow : OpenClaim := { program := "ytmmgngdebjndbab", sum := "7a363144e17ee736df3442640f9f34f75d5047c64508ca5c7414891572803409", func := "loop.example/capturemonitor/laws.FnSumNextByte", spec := "fnSumNextByte", apart := false, narrowed := true }
def FnSumNextByteUptoSaid : Prop := fnSumNextByteUptoRow.holds Try.pinned (OpenSpec.upto fnSumNextByteSpec)

/-- 'laws.FnExactSumValid', WHERE WHAT IT READS IS OF BULK AT MOST 1048576: true; the input reads as it did. -/
def fnExactSumValidUptoRow : OpenClaim := { program := "ytmmgngdebjndbab", sum := "7a363144e17ee736df3442640f9f34f75d5047c64508ca5c7414891572803409", func := "loop.example/capturemonitor/laws.FnExactSumValid", spec := "fnExactSumValid", apart := false, narrowed := true }
def FnExactSumValidUptoSaid : Prop := fnExactSumValidUptoRow.holds Try.pinned (OpenSpec.upto fnExactSumValidSpec)

/-- 'laws.FnExactSumNext', WHERE WHAT IT READS IS OF BULK AT MOST 1048576: true; the input reads as it did. -/
def fnExactSumNextUptoRow : OpenClaim := { program := "ytmmgngdebjndbab", sum := "7a363144e17ee736df3442640f9f34f75d5047c64508ca5c7414891572803409", func := "loop.example/capturemonitor/laws.FnExactSumNext", spec := "fnExactSumNext", apart := false, narrowed := true }
def FnExactSumNextUptoSaid : Prop := fnExactSumNextUptoRow.holds Try.pinned (OpenSpec.upto fnExactSumNextSpec)

end Rows
end Go.Proofs.Ytmmgngdebjndbab
