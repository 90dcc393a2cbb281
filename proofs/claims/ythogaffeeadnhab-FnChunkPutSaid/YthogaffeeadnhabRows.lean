/-
  No cell of these rows narrows 'for every input' (looked for: loops, veiled, ifaces, maps, wideKeys, modest, calm, conditions, laid).
  DERIVED. THE GIVEN ROWS OF THIS SEAT. 5 by the template 'for every input the law returns true; each argument reads behind the call as it read before'; 0 by the template 'total and deterministic' (their statements: YthogaffeeadnhabTotals.lean).
  GIVEN WITH THE SEED: the statements are not yours to turn. If you find one false, say at which input.
  Laid BY PROGRAM, IN A SANDBOX (cutbox-rows.mjs): the forced cells as the released guide's own fill.sh prints them over the translation 6127d32f44ccaade… (all of the seat's roots in one cut). By AI agents, Wed Nov 11 2026. No macro, syntax, notation, axiom, sorry.
-/
import Derived.Test.YthogaffeeadnhabChecked
import GoSem.Claim
import GoSem.ClaimJoined
import GoSem.ClaimMapViews
import Derived.JoinedTies
import Derived.KernelRfl
namespace Go.Proofs.Ythogaffeeadnhab
/- THE CELL 'sum', in the pinned program and in every row, IS THE sha256 OF THE DUMP (.gsa) THAT YthogaffeeadnhabProg.lean LOADS. Nothing in Lean hashes anything: it is a label: what it is worth is what the hold of that sum in a sandbox is worth. -/
noncomputable def Try.pinned : Pinned := { name := "ythogaffeeadnhab", sum := "6127d32f44ccaadefe9ee17f2e50535757fc9ad443d94f6ce830cb9faa602409", checked := Try.checked }
namespace Rows
def none {H : Type} : Left H := { results := [], args := [] }

/-- 'laws.FnChunkPut': WHATEVER THE INPUT: true; the input reads as it did. -/
def fnChunkPutSpec : ChangeSpec := { name := "fnChunkPut", fn := fun _ => fun
  | [d] => { results := [.lit (.bool true)], args := [d] }
  | _ => none }
def fnChunkPutRow : OpenClaim := { program := "ythogaffeeadnhab", sum := "6127d32f44ccaadefe9ee17f2e50535757fc9ad443d94f6ce830cb9faa602409", func := "loop.example/capturemonitor/laws.FnChunkPut", spec := "fnChunkPut", unfollowed := true, recurses := true, apart := false }
def FnChunkPutSaid : Prop := fnChunkPutRow.holds Try.pinned (OpenSpec.ofChange fnChunkPutSpec)

/-- ITS FALSE NEIGHBOUR: 'it returns false'. Refute it at one input. -/
def fnChunkPutWrong : ChangeSpec := { name := "fnChunkPut", fn := fun _ => fun
  | [d] => { results := [.lit (.bool false)], args := [d] }
  | _ => none }
def FnChunkPutWrongFalsely : Prop := fnChunkPutRow.holds Try.pinned (OpenSpec.ofChange fnChunkPutWrong)

/-- 'laws.FnChunkPutBad': WHATEVER THE INPUT: true; the input reads as it did. -/
def fnChunkPutBadSpec : ChangeSpec := { name := "fnChunkPutBad", fn := fun _ => fun
  | [d] => { results := [.lit (.bool true)], args := [d] }
  | _ => none }
def fnChunkPutBadRow : OpenClaim := { program := "ythogaffeeadnhab", sum := "6127d32f44ccaadefe9ee17f2e50535757fc9ad443d94f6ce830cb9faa602409", func := "loop.example/capturemonitor/laws.FnChunkPutBad", spec := "fnChunkPutBad", unfollowed := true, recurses := true, apart := false }
def FnChunkPutBadSaid : Prop := fnChunkPutBadRow.holds Try.pinned (OpenSpec.ofChange fnChunkPutBadSpec)

/-- ITS FALSE NEIGHBOUR: 'it returns false'. Refute it at one input. -/
def fnChunkPutBadWrong : ChangeSpec := { name := "fnChunkPutBad", fn := fun _ => fun
  | [d] => { results := [.lit (.bool false)], args := [d] }
  | _ => none }
def FnChunkPutBadWrongFalsely : Prop := fnChunkPutBadRow.holds Try.pinned (OpenSpec.ofChange fnChunkPutBadWrong)

/-- 'laws.FnChunkBody': WHATEVER THE INPUT: true; the input reads as it did. -/
def fnChunkBodySpec : ChangeSpec := { name := "fnChunkBody", fn := fun _ => fun
  | [d] => { results := [.lit (.bool true)], args := [d] }
  | _ => none }
def fnChunkBodyRow : OpenClaim := { program := "ythogaffeeadnhab", sum := "6127d32f44ccaadefe9ee17f2e50535757fc9ad443d94f6ce830cb9faa602409", func := "loop.example/capturemonitor/laws.FnChunkBody", spec := "fnChunkBody", apart := false }
def FnChunkBodySaid : Prop := fnChunkBodyRow.holds Try.pinned (OpenSpec.ofChange fnChunkBodySpec)

/-- ITS FALSE NEIGHBOUR: 'it returns false'. Refute it at one input. -/
def fnChunkBodyWrong : ChangeSpec := { name := "fnChunkBody", fn := fun _ => fun
  | [d] => { results := [.lit (.bool false)], args := [d] }
  | _ => none }
def FnChunkBodyWrongFalsely : Prop := fnChunkBodyRow.holds Try.pinned (OpenSpec.ofChange fnChunkBodyWrong)

/-- 'laws.FnExactChunkValid': WHATEVER THE INPUT: true; the input reads as it did. -/
def fnExactChunkValidSpec : ChangeSpec := { name := "fnExactChunkValid", fn := fun _ => fun
  | [d] => { results := [.lit (.bool true)], args := [d] }
  | _ => none }
def fnExactChunkValidRow : OpenClaim := { program := "ythogaffeeadnhab", sum := "6127d32f44ccaadefe9ee17f2e50535757fc9ad443d94f6ce830cb9faa602409", func := "loop.example/capturemonitor/laws.FnExactChunkValid", spec := "fnExactChunkValid", apart := false }
def FnExactChunkValidSaid : Prop := fnExactChunkValidRow.holds Try.pinned (OpenSpec.ofChange fnExactChunkValidSpec)

/-- ITS FALSE NEIGHBOUR: 'it returns false'. Refute it at one input. -/
def fnExactChunkValidWrong : ChangeSpec := { name := "fnExactChunkValid", fn := fun _ => fun
  | [d] => { results := [.lit (.bool false)], args := [d] }
  | _ => none }
def FnExactChunkValidWrongFalsely : Prop := fnExactChunkValidRow.holds Try.pinned (OpenSpec.ofChange fnExactChunkValidWrong)

/-- 'laws.FnExactChunkPut': WHATEVER THE INPUT: true; the input reads as it did. -/
def fnExactChunkPutSpec : ChangeSpec := { name := "fnExactChunkPut", fn := fun _ => fun
  | [d] => { results := [.lit (.bool true)], args := [d] }
  | _ => none }
def fnExactChunkPutRow : OpenClaim := { program := "ythogaffeeadnhab", sum := "6127d32f44ccaadefe9ee17f2e50535757fc9ad443d94f6ce830cb9faa602409", func := "loop.example/capturemonitor/laws.FnExactChunkPut", spec := "fnExactChunkPut", unfollowed := true, recurses := true, apart := false }
def FnExactChunkPutSaid : Prop := fnExactChunkPutRow.holds Try.pinned (OpenSpec.ofChange fnExactChunkPutSpec)

/-- ITS FALSE NEIGHBOUR: 'it returns false'. Refute it at one input. -/
def fnExactChunkPutWrong : ChangeSpec := { name := "fnExactChunkPut", fn := fun _ => fun
  | [d] => { results := [.lit (.bool false)], args := [d] }
  | _ => none }
def FnExactChunkPutWrongFalsely : Prop := fnExactChunkPutRow.holds Try.pinned (OpenSpec.ofChange fnExactChunkPutWrong)

/- THE SECOND FORM. 'bulk': how many values and letters a reading holds, each counted each time it is reached (what is shared counts as often as it is met; a slice's spare places count too). A statement '..UptoSaid' is the law's where the arguments, and the package variables that the reading takes, are together of bulk at most 1048576: NARROWER than '..Said'. Prove '..Said' where nothing that the law and all that it calls make is longer than what came in: it says more and counts as full. Else prove '..UptoSaid'. A law counts once. -/
mutual
def uptoBulk {H : Type} : DataW H → Nat
  | .lit (.string bytes) => bytes.length + 1
  | .lit _ => 1
  | .nil => 1
  | .ptr d => uptoBulk d + 1
  | .slice elems spare => uptoBulkAll elems + uptoBulkAll spare + 1
  | .agg parts => uptoBulkAll parts + 1
  | .iface _ d => uptoBulk d + 1
  | .map entries => uptoBulkEntries entries + 1
  | .held _ => 1
def uptoBulkAll {H : Type} : List (DataW H) → Nat
  | [] => 0
  | d :: r => uptoBulk d + uptoBulkAll r
def uptoBulkEntries {H : Type} : List (Lit × DataW H) → Nat
  | [] => 0
  | x :: r => uptoBulkEntry x + uptoBulkEntries r
def uptoBulkEntry {H : Type} : Lit × DataW H → Nat
  | (.string bytes, d) => bytes.length + uptoBulk d + 1
  | (_, d) => uptoBulk d + 1
 end
def uptoSmall : (H : Type) → List (DataW H) → Bool := fun _ ds => decide (uptoBulkAll ds ≤ 1048576)
def OpenSpec.upto (s : _root_.Go.ChangeSpec) : _root_.Go.OpenSpec := { _root_.Go.OpenSpec.ofChange s with cond := some uptoSmall }

/-- 'laws.FnChunkPut', WHERE WHAT IT READS IS OF BULK AT MOST 1048576: true; the input reads as it did. -/
def fnChunkPutUptoRow : OpenClaim := { program := "ythogaffeeadnhab", sum := "6127d32f44ccaadefe9ee17f2e50535757fc9ad443d94f6ce830cb9faa602409", func := "loop.example/capturemonitor/laws.FnChunkPut", spec := "fnChunkPut", unfollowed := true, recurses := true, apart := false, narrowed := true }
def FnChunkPutUptoSaid : Prop := fnChunkPutUptoRow.holds Try.pinned (OpenSpec.upto fnChunkPutSpec)

/-- 'laws.FnChunkPutBad', WHERE WHAT IT READS IS OF BULK AT MOST 1048576: true; the input reads as it did. -/
def fnChunkPutBadUptoRow : OpenClaim := { program := "ythogaffeeadnhab", sum := "6127d32f44ccaadefe9ee17f2e50535757fc9ad443d94f6ce830cb9faa602409", func := "loop.example/capturemonitor/laws.FnChunkPutBad", spec := "fnChunkPutBad", unfollowed := true, recurses := true, apart := false, narrowed := true }
def FnChunkPutBadUptoSaid : Prop := fnChunkPutBadUptoRow.holds Try.pinned (OpenSpec.upto fnChunkPutBadSpec)

/-- 'laws.FnChunkBody', WHERE WHAT IT READS IS OF BULK AT MOST 1048576: true; the input reads as it did. -/
def fnChunkBodyUptoRow : OpenClaim := { program := "ythogaffeeadnhab", sum := "6127d32f44ccaadefe9ee17f2e50535757fc9ad443d94f6ce830cb9faa602409", func := "loop.example/capturemonitor/laws.FnChunkBody", spec := "fnChunkBody", apart := false, narrowed := true }
def FnChunkBodyUptoSaid : Prop := fnChunkBodyUptoRow.holds Try.pinned (OpenSpec.upto fnChunkBodySpec)

/-- 'laws.FnExactChunkValid', WHERE WHAT IT READS IS OF BULK AT MOST 1048576: true; the input reads as it did. -/
def fnExactChunkValidUptoRow : OpenClaim := { program := "ythogaffeeadnhab", sum := "6127d32f44ccaadefe9ee17f2e50535757fc9ad443d94f6ce830cb9faa602409", func := "loop.example/capturemonitor/laws.FnExactChunkValid", spec := "fnExactChunkValid", apart := false, narrowed := true }
def FnExactChunkValidUptoSaid : Prop := fnExactChunkValidUptoRow.holds Try.pinned (OpenSpec.upto fnExactChunkValidSpec)

/-- 'laws.FnExactChunkPut', WHERE WHAT IT READS IS OF BULK AT MOST 1048576: true; the input reads as it did. -/
def fnExactChunkPutUptoRow : OpenClaim := { program := "ythogaffeeadnhab", sum := "6127d32f44ccaadefe9ee17f2e50535757fc9ad443d94f6ce830cb9faa602409", func := "loop.example/capturemonitor/laws.FnExactChunkPut", spec := "fnExactChunkPut", unfollowed := true, recurses := true, apart := false, narrowed := true }
def FnExactChunkPutUptoSaid : Prop := fnExactChunkPutUptoRow.holds Try.pinned (OpenSpec.upto fnExactChunkPutSpec)

end Rows
end Go.Proofs.Ythogaffeeadnhab
