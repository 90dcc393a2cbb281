/-
  No cell of these rows narrows 'for every input' (looked for: loops, veiled, ifaces, maps, wideKeys, modest, calm, conditions, laid).
  DERIVED. THE GIVEN ROWS OF THIS SEAT. 9 by the template 'for every input the law returns true; each argument reads behind the call as it read before'; 0 by the template 'total and deterministic' (their statements: YtpdoegococcblaaTotals.lean).
  GIVEN WITH THE SEED: the statements are not yours to turn. If you find one false, say at which input.
  Laid BY PROGRAM, IN A SANDBOX (cutbox-rows.mjs): the forced cells as the released guide's own fill.sh prints them over the translation c7b3615c0e0a9d62… (all of the seat's roots in one cut). By AI agents, Wed Nov 11 2026. No macro, syntax, notation, axiom, sorry.
-/
import Derived.Test.YtpdoegococcblaaChecked
import GoSem.Claim
import GoSem.ClaimJoined
import GoSem.ClaimMapViews
import Derived.JoinedTies
import Derived.KernelRfl
namespace Go.Proofs.Ytpdoegococcblaa
/- THE CELL 'sum', in the pinned program and in every row, IS THE sha256 OF THE DUMP (.gsa) THAT YtpdoegococcblaaProg.lean LOADS. Nothing in Lean hashes anything: it is a label: what it is worth is what the hold of that sum in a sandbox is worth. -/
noncomputable def Try.pinned : Pinned := { name := "ytpdoegococcblaa", sum := "c7b3615c0e0a9d6233c8d0a9e621599a56f2452c85eafb16ca9da8c954288893", checked := Try.checked }
namespace Rows
def none {H : Type} : Left H := { results := [], args := [] }

/-- 'laws.FnSidePart': WHATEVER THE INPUT: true; the input reads as it did. -/
def fnSidePartSpec : ChangeSpec := { name := "fnSidePart", fn := fun _ => fun
  | [d] => { results := [.lit (.bool true)], args := [d] }
  | _ => none }
def fnSidePartRow : OpenClaim := { program := "ytpdoegococcblaa", sum := "c7b3615c0e0a9d6233c8d0a9e621599a56f2452c85eafb16ca9da8c954288893", func := "loop.example/capturemonitor/laws.FnSidePart", spec := "fnSidePart", apart := false }
def FnSidePartSaid : Prop := fnSidePartRow.holds Try.pinned (OpenSpec.ofChange fnSidePartSpec)

/-- ITS FALSE NEIGHBOUR: 'it returns false'. Refute it at one input. -/
def fnSidePartWrong : ChangeSpec := { name := "fnSidePart", fn := fun _ => fun
  | [d] => { results := [.lit (.bool false)], args := [d] }
  | _ => none }
def FnSidePartWrongFalsely : Prop := fnSidePartRow.holds Try.pinned (OpenSpec.ofChange fnSidePartWrong)

/-- 'laws.FnSideTsn': WHATEVER THE INPUT: true; the input reads as it did. -/
def fnSideTsnSpec : ChangeSpec := { name := "fnSideTsn", fn := fun _ => fun
  | [d] => { results := [.lit (.bool true)], args := [d] }
  | _ => none }
def fnSideTsnRow : OpenClaim := { program := "ytpdoegococcblaa", sum := "c7b3615c0e0a9d6233c8d0a9e621599a56f2452c85eafb16ca9da8c954288893", func := "loop.example/capturemonitor/laws.FnSideTsn", spec := "fnSideTsn", apart := false }
def FnSideTsnSaid : Prop := fnSideTsnRow.holds Try.pinned (OpenSpec.ofChange fnSideTsnSpec)

/-- ITS FALSE NEIGHBOUR: 'it returns false'. Refute it at one input. -/
def fnSideTsnWrong : ChangeSpec := { name := "fnSideTsn", fn := fun _ => fun
  | [d] => { results := [.lit (.bool false)], args := [d] }
  | _ => none }
def FnSideTsnWrongFalsely : Prop := fnSideTsnRow.holds Try.pinned (OpenSpec.ofChange fnSideTsnWrong)

/-- 'laws.FnExactSideValid': WHATEVER THE INPUT: true; the input reads as it did. -/
def fnExactSideValidSpec : ChangeSpec := { name := "fnExactSideValid", fn := fun _ => fun
  | [d] => { results := [.lit (.bool true)], args := [d] }
  | _ => none }
def fnExactSideValidRow : OpenClaim := { program := "ytpdoegococcblaa", sum := "c7b3615c0e0a9d6233c8d0a9e621599a56f2452c85eafb16ca9da8c954288893", func := "loop.example/capturemonitor/laws.FnExactSideValid", spec := "fnExactSideValid", apart := false }
def FnExactSideValidSaid : Prop := fnExactSideValidRow.holds Try.pinned (OpenSpec.ofChange fnExactSideValidSpec)

/-- ITS FALSE NEIGHBOUR: 'it returns false'. Refute it at one input. -/
def fnExactSideValidWrong : ChangeSpec := { name := "fnExactSideValid", fn := fun _ => fun
  | [d] => { results := [.lit (.bool false)], args := [d] }
  | _ => none }
def FnExactSideValidWrongFalsely : Prop := fnExactSideValidRow.holds Try.pinned (OpenSpec.ofChange fnExactSideValidWrong)

/-- 'laws.FnExactSideSaid': WHATEVER THE INPUT: true; the input reads as it did. -/
def fnExactSideSaidSpec : ChangeSpec := { name := "fnExactSideSaid", fn := fun _ => fun
  | [d] => { results := [.lit (.bool true)], args := [d] }
  | _ => none }
def fnExactSideSaidRow : OpenClaim := { program := "ytpdoegococcblaa", sum := "c7b3615c0e0a9d6233c8d0a9e621599a56f2452c85eafb16ca9da8c954288893", func := "loop.example/capturemonitor/laws.FnExactSideSaid", spec := "fnExactSideSaid", apart := false }
def FnExactSideSaidSaid : Prop := fnExactSideSaidRow.holds Try.pinned (OpenSpec.ofChange fnExactSideSaidSpec)

/-- ITS FALSE NEIGHBOUR: 'it returns false'. Refute it at one input. -/
def fnExactSideSaidWrong : ChangeSpec := { name := "fnExactSideSaid", fn := fun _ => fun
  | [d] => { results := [.lit (.bool false)], args := [d] }
  | _ => none }
def FnExactSideSaidWrongFalsely : Prop := fnExactSideSaidRow.holds Try.pinned (OpenSpec.ofChange fnExactSideSaidWrong)

/-- 'laws.FnExactSideKnown': WHATEVER THE INPUT: true; the input reads as it did. -/
def fnExactSideKnownSpec : ChangeSpec := { name := "fnExactSideKnown", fn := fun _ => fun
  | [d] => { results := [.lit (.bool true)], args := [d] }
  | _ => none }
def fnExactSideKnownRow : OpenClaim := { program := "ytpdoegococcblaa", sum := "c7b3615c0e0a9d6233c8d0a9e621599a56f2452c85eafb16ca9da8c954288893", func := "loop.example/capturemonitor/laws.FnExactSideKnown", spec := "fnExactSideKnown", apart := false }
def FnExactSideKnownSaid : Prop := fnExactSideKnownRow.holds Try.pinned (OpenSpec.ofChange fnExactSideKnownSpec)

/-- ITS FALSE NEIGHBOUR: 'it returns false'. Refute it at one input. -/
def fnExactSideKnownWrong : ChangeSpec := { name := "fnExactSideKnown", fn := fun _ => fun
  | [d] => { results := [.lit (.bool false)], args := [d] }
  | _ => none }
def FnExactSideKnownWrongFalsely : Prop := fnExactSideKnownRow.holds Try.pinned (OpenSpec.ofChange fnExactSideKnownWrong)

/-- 'laws.FnRuleName': WHATEVER THE INPUT: true; the input reads as it did. -/
def fnRuleNameSpec : ChangeSpec := { name := "fnRuleName", fn := fun _ => fun
  | [d] => { results := [.lit (.bool true)], args := [d] }
  | _ => none }
def fnRuleNameRow : OpenClaim := { program := "ytpdoegococcblaa", sum := "c7b3615c0e0a9d6233c8d0a9e621599a56f2452c85eafb16ca9da8c954288893", func := "loop.example/capturemonitor/laws.FnRuleName", spec := "fnRuleName", apart := false }
def FnRuleNameSaid : Prop := fnRuleNameRow.holds Try.pinned (OpenSpec.ofChange fnRuleNameSpec)

/-- ITS FALSE NEIGHBOUR: 'it returns false'. Refute it at one input. -/
def fnRuleNameWrong : ChangeSpec := { name := "fnRuleName", fn := fun _ => fun
  | [d] => { results := [.lit (.bool false)], args := [d] }
  | _ => none }
def FnRuleNameWrongFalsely : Prop := fnRuleNameRow.holds Try.pinned (OpenSpec.ofChange fnRuleNameWrong)

/-- 'laws.FnExactRuleName': WHATEVER THE INPUT: true; the input reads as it did. -/
def fnExactRuleNameSpec : ChangeSpec := { name := "fnExactRuleName", fn := fun _ => fun
  | [d] => { results := [.lit (.bool true)], args := [d] }
  | _ => none }
def fnExactRuleNameRow : OpenClaim := { program := "ytpdoegococcblaa", sum := "c7b3615c0e0a9d6233c8d0a9e621599a56f2452c85eafb16ca9da8c954288893", func := "loop.example/capturemonitor/laws.FnExactRuleName", spec := "fnExactRuleName", apart := false }
def FnExactRuleNameSaid : Prop := fnExactRuleNameRow.holds Try.pinned (OpenSpec.ofChange fnExactRuleNameSpec)

/-- ITS FALSE NEIGHBOUR: 'it returns false'. Refute it at one input. -/
def fnExactRuleNameWrong : ChangeSpec := { name := "fnExactRuleName", fn := fun _ => fun
  | [d] => { results := [.lit (.bool false)], args := [d] }
  | _ => none }
def FnExactRuleNameWrongFalsely : Prop := fnExactRuleNameRow.holds Try.pinned (OpenSpec.ofChange fnExactRuleNameWrong)

/-- 'laws.FnAssocValid': WHATEVER THE INPUT: true; the input reads as it did. -/
def fnAssocValidSpec : ChangeSpec := { name := "fnAssocValid", fn := fun _ => fun
  | [d] => { results := [.lit (.bool true)], args := [d] }
  | _ => none }
def fnAssocValidRow : OpenClaim := { program := "ytpdoegococcblaa", sum := "c7b3615c0e0a9d6233c8d0a9e621599a56f2452c85eafb16ca9da8c954288893", func := "loop.example/capturemonitor/laws.FnAssocValid", spec := "fnAssocValid", apart := false }
def FnAssocValidSaid : Prop := fnAssocValidRow.holds Try.pinned (OpenSpec.ofChange fnAssocValidSpec)

/-- ITS FALSE NEIGHBOUR: 'it returns false'. Refute it at one input. -/
def fnAssocValidWrong : ChangeSpec := { name := "fnAssocValid", fn := fun _ => fun
  | [d] => { results := [.lit (.bool false)], args := [d] }
  | _ => none }
def FnAssocValidWrongFalsely : Prop := fnAssocValidRow.holds Try.pinned (OpenSpec.ofChange fnAssocValidWrong)

/-- 'laws.FnExactAssocValid': WHATEVER THE INPUT: true; the input reads as it did. -/
def fnExactAssocValidSpec : ChangeSpec := { name := "fnExactAssocValid", fn := fun _ => fun
  | [d] => { results := [.lit (.bool true)], args := [d] }
  | _ => none }
def fnExactAssocValidRow : OpenClaim := { program := "ytpdoegococcblaa", sum := "c7b3615c0e0a9d6233c8d0a9e621599a56f2452c85eafb16ca9da8c954288893", func := "loop.example/capturemonitor/laws.FnExactAssocValid", spec := "fnExactAssocValid", apart := false }
def FnExactAssocValidSaid : Prop := fnExactAssocValidRow.holds Try.pinned (OpenSpec.ofChange fnExactAssocValidSpec)

/-- ITS FALSE NEIGHBOUR: 'it returns false'. Refute it at one input. -/
def fnExactAssocValidWrong : ChangeSpec := { name := "fnExactAssocValid", fn := fun _ => fun
  | [d] => { results := [.lit (.bool false)], args := [d] }
  | _ => none }
def FnExactAssocValidWrongFalsely : Prop := fnExactAssocValidRow.holds Try.pinned (OpenSpec.ofChange fnExactAssocValidWrong)

/- THE SECOND FORM. 'bulk': how many values and letters a reading holds, each counted each time it is reached (what is shared counts as often as it is met; a slice's spare places count too). A statement '..UptoSaid' is the law's where the arguments, and the package variables that the reading takes, are together of bulk at most 1048576: NARROWER than '..Said'. Prove '..Said' where nothing that the law and all that it calls make is longer than what came in: it says more and counts as full. Else prove '..UptoSaid'. A law counts once. -/
mutual
def uptoBulk {H : Type} : DataW H → Nat
  | .lit (.string bytes) => bytes.length + 1
  | .lit _ => 1
  | .nil => 1
  | .ptr d => uptoBulk d + 1
  | .slice elems spare => uptoBulkAll elems + uptoBulkAll spare + 1
  | .agg parts => uptoBulkAll parts + 1
  | .iface _ d => uptoBulk d + 1
  | .map entries => uptoBulkEntries entries + 1
  | .held _ => 1
def uptoBulkAll {H : Type} : List (DataW H) → Nat
  | [] => 0
  | d :: r => uptoBulk d + uptoBulkAll r
def uptoBulkEntries {H : Type} : List (Lit × DataW H) → Nat
  | [] => 0
  | x :: r => uptoBulkEntry x + uptoBulkEntries r
def uptoBulkEntry {H : Type} : Lit × DataW H → Nat
  | (.string bytes, d) => bytes.length + uptoBulk d + 1
  | (_, d) => uptoBulk d + 1
 end
def uptoSmall : (H : Type) → List (DataW H) → Bool := fun _ ds => decide (uptoBulkAll ds ≤ 1048576)
def OpenSpec.upto (s : _root_.Go.ChangeSpec) : _root_.Go.OpenSpec := { _root_.Go.OpenSpec.ofChange s with cond := some uptoSmall }

/-- 'laws.FnSidePart', WHERE WHAT IT READS IS OF BULK AT MOST 1048576: true; the input reads as it did. -/
def fnSidePartUptoRow : OpenClaim := { program := "ytpdoegococcblaa", sum := "c7b3615c0e0a9d6233c8d0a9e621599a56f2452c85eafb16ca9da8c954288893", func := "loop.example/capturemonitor/laws.FnSidePart", spec := "fnSidePart", apart := false, narrowed := true }
def FnSidePartUptoSaid : Prop := fnSidePartUptoRow.holds Try.pinned (OpenSpec.upto fnSidePartSpec)

/-- 'laws.FnSideTsn', WHERE WHAT IT READS IS OF BULK AT MOST 1048576: true; the input reads as it did. -/
def fnSideTsnUptoRow : OpenClaim := { program := "ytpdoegococcblaa", sum := "c7b3615c0e0a9d6233c8d0a9e621599a56f2452c85eafb16ca9da8c954288893", func := "loop.example/capturemonitor/laws.FnSideTsn", spec := "fnSideTsn", apart := false, narrowed := true }
def FnSideTsnUptoSaid : Prop := fnSideTsnUptoRow.holds Try.pinned (OpenSpec.upto fnSideTsnSpec)

/-- 'laws.FnExactSideValid', WHERE WHAT IT READS IS OF BULK AT MOST 1048576: true; the input reads as it did. -/
def fnExactSideValidUptoRow : OpenClaim := { program := "ytpdoegococcblaa", sum := "c7b3615c0e0a9d6233c8d0a9e621599a56f2452c85eafb16ca9da8c954288893", func := "loop.example/capturemonitor/laws.FnExactSideValid", spec := "fnExactSideValid", apart := false, narrowed := true }
def FnExactSideValidUptoSaid : Prop := fnExactSideValidUptoRow.holds Try.pinned (OpenSpec.upto fnExactSideValidSpec)

/-- 'laws.FnExactSideSaid', WHERE WHAT IT READS IS OF BULK AT MOST 1048576: true; the input reads as it did. -/
def fnExactSideSaidUptoRow : OpenClaim := { program := "ytpdoegococcblaa", sum := "c7b3615c0e0a9d6233c8d0a9e621599a56f2452c85eafb16ca9da8c954288893", func := "loop.example/capturemonitor/laws.FnExactSideSaid", spec := "fnExactSideSaid", apart := false, narrowed := true }
def FnExactSideSaidUptoSaid : Prop := fnExactSideSaidUptoRow.holds Try.pinned (OpenSpec.upto fnExactSideSaidSpec)

/-- 'laws.FnExactSideKnown', WHERE WHAT IT READS IS OF BULK AT MOST 1048576: true; the input reads as it did. -/
def fnExactSideKnownUptoRow : OpenClaim := { program := "ytpdoegococcblaa", sum := "c7b3615c0e0a9d6233c8d0a9e621599a56f2452c85eafb16ca9da8c954288893", func := "loop.example/capturemonitor/laws.FnExactSideKnown", spec := "fnExactSideKnown", apart := false, narrowed := true }
def FnExactSideKnownUptoSaid : Prop := fnExactSideKnownUptoRow.holds Try.pinned (OpenSpec.upto fnExactSideKnownSpec)

/-- 'laws.FnRuleName', WHERE WHAT IT READS IS OF BULK AT MOST 1048576: true; the input reads as it did. -/
def fnRuleNameUptoRow : OpenClaim := { program := "ytpdoegococcblaa", sum := "c7b3615c0e0a9d6233c8d0a9e621599a56f2452c85eafb16ca9da8c954288893", func := "loop.example/capturemonitor/laws.FnRuleName", spec := "fnRuleName", apart := false, narrowed := true }
def FnRuleNameUptoSaid : Prop := fnRuleNameUptoRow.holds Try.pinned (OpenSpec.upto fnRuleNameSpec)

/-- 'laws.FnExactRuleName', WHERE WHAT IT READS IS OF BULK AT MOST 1048576: true; the input reads as it did. -/
def fnExactRuleNameUptoRow : OpenClaim := { program := "ytpdoegococcblaa", sum := "c7b3615c0e0a9d6233c8d0a9e621599a56f2452c85eafb16ca9da8c954288893", func := "loop.example/capturemonitor/laws.FnExactRuleName", spec := "fnExactRuleName", apart := false, narrowed := true }
def FnExactRuleNameUptoSaid : Prop := fnExactRuleNameUptoRow.holds Try.pinned (OpenSpec.upto fnExactRuleNameSpec)

/-- 'laws.FnAssocValid', WHERE WHAT IT READS IS OF BULK AT MOST 1048576: true; the input reads as it did. -/
def fnAssocValidUptoRow : OpenClaim := { program := "ytpdoegococcblaa", sum := "c7b3615c0e0a9d6233c8d0a9e621599a56f2452c85eafb16ca9da8c954288893", func := "loop.example/capturemonitor/laws.FnAssocValid", spec := "fnAssocValid", apart := false, narrowed := true }
def FnAssocValidUptoSaid : Prop := fnAssocValidUptoRow.holds Try.pinned (OpenSpec.upto fnAssocValidSpec)

/-- 'laws.FnExactAssocValid', WHERE WHAT IT READS IS OF BULK AT MOST 1048576: true; the input reads as it did. -/
def fnExactAssocValidUptoRow : OpenClaim := { program := "ytpdoegococcblaa", sum := "c7b3615c0e0a9d6233c8d0a9e621599a56f2452c85eafb16ca9da8c954288893", func := "loop.example/capturemonitor/laws.FnExactAssocValid", spec := "fnExactAssocValid", apart := false, narrowed := true }
def FnExactAssocValidUptoSaid : Prop := fnExactAssocValidUptoRow.holds Try.pinned (OpenSpec.upto fnExactAssocValidSpec)

end Rows
end Go.Proofs.Ytpdoegococcblaa
