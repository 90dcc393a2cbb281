/-
  No cell of these rows narrows 'for every input' (looked for: loops, veiled, ifaces, maps, wideKeys, modest, calm, conditions, laid).
  DERIVED. THE GIVEN ROWS OF THIS SEAT. 4 by the template 'for every input the law returns true; each argument reads behind the call as it read before'; 0 by the template 'total and deterministic' (their statements: YtifphigdklkpjaaTotals.lean).
  GIVEN WITH THE SEED: the statements are not yours to turn. If you find one false, say at which input.
  Laid BY PROGRAM, IN A SANDBOX (cutbox-rows.mjs): the forced cells as the released guide's own fill.sh prints them over the translation 5de2706fbcfa248a… (all of the seat's roots in one cut). By AI agents, Wed Nov 11 2026. No macro, syntax, notation, axiom, sorry.
-/
import Derived.Test.YtifphigdklkpjaaChecked
import GoSem.Claim
import GoSem.ClaimJoined
import GoSem.ClaimMapViews
import Derived.JoinedTies
import Derived.KernelRfl
namespace Go.Proofs.Ytifphigdklkpjaa
/- THE CELL 'sum', in the pinned program and in every row, IS THE sha256 OF THE DUMP (.gsa) THAT YtifphigdklkpjaaProg.lean LOADS. Nothing in Lean hashes anything: it is a label: what it is worth is what the hold of that sum in a sandbox is worth. -/
noncomputable def Try.pinned : Pinned := { name := "ytifphigdklkpjaa", sum := "5de2706fbcfa248a17ceac34a1f841ee1b44eea4de0eec774b0f97b42877040a", checked := Try.checked }
namespace Rows
def none {H : Type} : Left H := { results := [], args := [] }

/-- 'laws.FnSackGet': WHATEVER THE INPUT: true; the input reads as it did. -/
def fnSackGetSpec : ChangeSpec := { name := "fnSackGet", fn := fun _ => fun
  | [d] => { results := [.lit (.bool true)], args := [d] }
  | _ => none }
def fnSackGetRow : OpenClaim := { program := "ytifphigdklkpjaa", sum := "5de2706fbcfa248a17ceac34a1f841ee1b44eea4de0eec774b0f97b42877040a", func := "loop.example/capturemonitor/laws.FnSackGet", spec := "fnSackGet", unfollowed := true, recurses := true, apart := false }
def FnSackGetSaid : Prop := fnSackGetRow.holds Try.pinned (OpenSpec.ofChange fnSackGetSpec)

/-- ITS FALSE NEIGHBOUR: 'it returns false'. Refute it at one input. -/
def fnSackGetWrong : ChangeSpec := { name := "fnSackGet", fn := fun _ => fun
  | [d] => { results := [.lit (.bool false)], args := [d] }
  | _ => none }
def FnSackGetWrongFalsely : Prop := fnSackGetRow.holds Try.pinned (OpenSpec.ofChange fnSackGetWrong)

/-- 'laws.FnSackPart': WHATEVER THE INPUT: true; the input reads as it did. -/
def fnSackPartSpec : ChangeSpec := { name := "fnSackPart", fn := fun _ => fun
  | [d1, d2] => { results := [.lit (.bool true)], args := [d1, d2] }
  | _ => none }
def fnSackPartRow : OpenClaim := { program := "ytifphigdklkpjaa", sum := "5de2706fbcfa248a17ceac34a1f841ee1b44eea4de0eec774b0f97b42877040a", func := "loop.example/capturemonitor/laws.FnSackPart", spec := "fnSackPart", apart := false }
def FnSackPartSaid : Prop := fnSackPartRow.holds Try.pinned (OpenSpec.ofChange fnSackPartSpec)

/-- ITS FALSE NEIGHBOUR: 'it returns false'. Refute it at one input. -/
def fnSackPartWrong : ChangeSpec := { name := "fnSackPart", fn := fun _ => fun
  | [d1, d2] => { results := [.lit (.bool false)], args := [d1, d2] }
  | _ => none }
def FnSackPartWrongFalsely : Prop := fnSackPartRow.holds Try.pinned (OpenSpec.ofChange fnSackPartWrong)

/-- 'laws.FnSackTouch': WHATEVER THE INPUT: true; the input reads as it did. -/
def fnSackTouchSpec : ChangeSpec := { name := "fnSackTouch", fn := fun _ => fun
  | [d] => { results := [.lit (.bool true)], args := [d] }
  | _ => none }
def fnSackTouchRow : OpenClaim := { program := "ytifphigdklkpjaa", sum := "5de2706fbcfa248a17ceac34a1f841ee1b44eea4de0eec774b0f97b42877040a", func := "loop.example/capturemonitor/laws.FnSackTouch", spec := "fnSackTouch", apart := false }
def FnSackTouchSaid : Prop := fnSackTouchRow.holds Try.pinned (OpenSpec.ofChange fnSackTouchSpec)

/-- ITS FALSE NEIGHBOUR: 'it returns false'. Refute it at one input. -/
def fnSackTouchWrong : ChangeSpec := { name := "fnSackTouch", fn := fun _ => fun
  | [d] => { results := [.lit (.bool false)], args := [d] }
  | _ => none }
def FnSackTouchWrongFalsely : Prop := fnSackTouchRow.holds Try.pinned (OpenSpec.ofChange fnSackTouchWrong)

/-- 'laws.FnExactSackGet': WHATEVER THE INPUT: true; the input reads as it did. -/
def fnExactSackGetSpec : ChangeSpec := { name := "fnExactSackGet", fn := fun _ => fun
  | [d] => { results := [.lit (.bool true)], args := [d] }
  | _ => none }
def fnExactSackGetRow : OpenClaim := { program := "ytifphigdklkpjaa", sum := "5de2706fbcfa248a17ceac34a1f841ee1b44eea4de0eec774b0f97b42877040a", func := "loop.example/capturemonitor/laws.FnExactSackGet", spec := "fnExactSackGet", unfollowed := true, recurses := true, apart := false }
def FnExactSackGetSaid : Prop := fnExactSackGetRow.holds Try.pinned (OpenSpec.ofChange fnExactSackGetSpec)

/-- ITS FALSE NEIGHBOUR: 'it returns false'. Refute it at one input. -/
def fnExactSackGetWrong : ChangeSpec := { name := "fnExactSackGet", fn := fun _ => fun
  | [d] => { results := [.lit (.bool false)], args := [d] }
  | _ => none }
def FnExactSackGetWrongFalsely : Prop := fnExactSackGetRow.holds Try.pinned (OpenSpec.ofChange fnExactSackGetWrong)

/- THE SECOND FORM. 'bulk': how many values and letters a reading holds, each counted each time it is reached (what is shared counts as often as it is met; a slice's spare places count too). A statement '..UptoSaid' is the law's where the arguments, and the package variables that the reading takes, are together of bulk at most 1048576: NARROWER than '..Said'. Prove '..Said' where nothing that the law and all that it calls make is longer than what came in: it says more and counts as full. Else prove '..UptoSaid'. A law counts once. -/
mutual
def uptoBulk {H : Type} : DataW H → Nat
  | .lit (.string bytes) => bytes.length + 1
  | .lit _ => 1
  | .nil => 1
  | .ptr d => uptoBulk d + 1
  | .slice elems spare => uptoBulkAll elems + uptoBulkAll spare + 1
  | .agg parts => uptoBulkAll parts + 1
  | .iface _ d => uptoBulk d + 1
  | .map entries => uptoBulkEntries entries + 1
  | .held _ => 1
def uptoBulkAll {H : Type} : List (DataW H) → Nat
  | [] => 0
  | d :: r => uptoBulk d + uptoBulkAll r
def uptoBulkEntries {H : Type} : List (Lit × DataW H) → Nat
  | [] => 0
  | x :: r => uptoBulkEntry x + uptoBulkEntries r
def uptoBulkEntry {H : Type} : Lit × DataW H → Nat
  | (.string bytes, d) => bytes.length + uptoBulk d + 1
  | (_, d) => uptoBulk d + 1
 end
def uptoSmall : (H : Type) → List (DataW H) → Bool := fun _ ds => decide (uptoBulkAll ds ≤ 1048576)
def OpenSpec.upto (s : _root_.Go.ChangeSpec) : _root_.Go.OpenSpec := { _root_.Go.OpenSpec.ofChange s with cond := some uptoSmall }

/-- 'laws.FnSackGet', WHERE WHAT IT READS IS OF BULK AT MOST 1048576: true; the input reads as it did. -/
def fnSackGetUptoRow : OpenClaim := { program := "ytifphigdklkpjaa", sum := "5de2706fbcfa248a17ceac34a1f841ee1b44eea4de0eec774b0f97b42877040a", func := "loop.example/capturemonitor/laws.FnSackGet", spec := "fnSackGet", unfollowed := true, recurses := true, apart := false, narrowed := true }
def FnSackGetUptoSaid : Prop := fnSackGetUptoRow.holds Try.pinned (OpenSpec.upto fnSackGetSpec)

/-- 'laws.FnSackPart', WHERE WHAT IT READS IS OF BULK AT MOST 1048576: true; the input reads as it did. -/
def fnSackPartUptoRow : OpenClaim := { program := "ytifphigdklkpjaa", sum := "5de2706fbcfa248a17ceac34a1f841ee1b44eea4de0eec774b0f97b42877040a", func := "loop.example/capturemonitor/laws.FnSackPart", spec := "fnSackPart", apart := false, narrowed := true }
def FnSackPartUptoSaid : Prop := fnSackPartUptoRow.holds Try.pinned (OpenSpec.upto fnSackPartSpec)

/-- 'laws.FnSackTouch', WHERE WHAT IT READS IS OF BULK AT MOST 1048576: true; the input reads as it did. -/
def fnSackTouchUptoRow : OpenClaim := { program := "ytifphigdklkpjaa", sum := "5de2706fbcfa248a17ceac34a1f841ee1b44eea4de0eec774b0f97b42877040a", func := "loop.example/capturemonitor/laws.FnSackTouch", spec := "fnSackTouch", apart := false, narrowed := true }
def FnSackTouchUptoSaid : Prop := fnSackTouchUptoRow.holds Try.pinned (OpenSpec.upto fnSackTouchSpec)

/-- 'laws.FnExactSackGet', WHERE WHAT IT READS IS OF BULK AT MOST 1048576: true; the input reads as it did. -/
def fnExactSackGetUptoRow : OpenClaim := { program := "ytifphigdklkpjaa", sum := "5de2706fbcfa248a17ceac34a1f841ee1b44eea4de0eec774b0f97b42877040a", func := "loop.example/capturemonitor/laws.FnExactSackGet", spec := "fnExactSackGet", unfollowed := true, recurses := true, apart := false, narrowed := true }
def FnExactSackGetUptoSaid : Prop := fnExactSackGetUptoRow.holds Try.pinned (OpenSpec.upto fnExactSackGetSpec)

end Rows
end Go.Proofs.Ytifphigdklkpjaa
