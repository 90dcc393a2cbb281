/-
  NARROWER THAN 'FOR EVERY INPUT', by the rows' own cells (each row's printed sentence says how): FnChunkName: laid · FnChunkNameOther: laid · FnExactChunkName: laid.
  DERIVED. THE GIVEN ROWS OF THIS SEAT. 3 by the template 'for every input the law returns true; each argument reads behind the call as it read before'; 0 by the template 'total and deterministic' (their statements: YthogaffeeadnhabDoorTotals.lean).
  GIVEN WITH THE SEED: the statements are not yours to turn. If you find one false, say at which input.
  Laid BY PROGRAM, IN A SANDBOX (cutbox-rows.mjs): the forced cells as the released guide's own fill.sh prints them over the translation e31744aa3126619e… (all of the seat's roots in one cut). By AI agents, Wed Nov 11 2026. No macro, syntax, notation, axiom, sorry.
-/
import Derived.Test.YthogaffeeadnhabDoorChecked
import GoSem.Claim
import GoSem.ClaimJoined
import GoSem.ClaimMapViews
import Derived.JoinedTies
import Derived.KernelRfl
namespace Go.Proofs.YthogaffeeadnhabDoor
/- THE CELL 'sum', in the pinned program and in every row, IS THE sha256 OF THE DUMP (.gsa) THAT YthogaffeeadnhabDoorProg.lean LOADS. Nothing in Lean hashes anything: it is a label: what it is worth is what the hold of that sum in a sandbox is worth. -/
noncomputable def Tryd.pinned : Pinned := { name := "ythogaffeeadnhabdoor", sum := "e31744aa3126619e3ef78040a8d6191b191045a41b9fd9d48f0e5784c4aaa972", checked := Tryd.checked }
namespace Rows
def none {H : Type} : Left H := { results := [], args := [] }

/- WHAT THE LISTED PACKAGE-LEVEL VARIABLES READ AS WHEN THE CALL BEGINS. Each datum BY PROGRAM (the guide's laid-datum.mjs) off the statement by which the dump's own 'gosem.cut.vars' lays the variable. In a bare row this is a premise. The card (YthogaffeeadnhabDoorCards.lean) ties it to the program's text. -/
def laid_loop_example_capturemonitor_impl_chunkNames {H : Type} : DataW H := .agg [.lit (.string [100, 97, 116, 97]), .lit (.string [105, 110, 105, 116]), .lit (.string [105, 110, 105, 116, 97, 99, 107]), .lit (.string [115, 97, 99, 107]), .lit (.string [98, 101, 97, 116]), .lit (.string [98, 101, 97, 116, 97, 99, 107]), .lit (.string [97, 98, 111, 114, 116]), .lit (.string [115, 104, 117, 116]), .lit (.string [115, 104, 117, 116, 97, 99, 107]), .lit (.string [101, 114, 114, 111, 114]), .lit (.string [99, 111, 111, 107, 105, 101]), .lit (.string [99, 111, 111, 107, 105, 101, 97, 99, 107]), .lit (.string []), .lit (.string []), .lit (.string [115, 104, 117, 116, 100, 111, 110, 101])]

/-- 'laws.FnChunkName': WHATEVER THE INPUT: true; the input reads as it did. -/
def fnChunkNameSpec : ChangeSpec := { name := "fnChunkName", vars := ["loop.example/capturemonitor/impl.chunkNames"], fn := fun _ => fun
  | [d, g1] => { results := [.lit (.bool true)], args := [d], vars := [g1] }
  | _ => none }
def fnChunkNameRow : OpenClaim := { program := "ythogaffeeadnhabdoor", sum := "e31744aa3126619e3ef78040a8d6191b191045a41b9fd9d48f0e5784c4aaa972", func := "loop.example/capturemonitor/laws.FnChunkName", spec := "fnChunkName", named := ["loop.example/capturemonitor/impl.chunkNames"], apart := false, laid := [("loop.example/capturemonitor/impl.chunkNames", laid_loop_example_capturemonitor_impl_chunkNames)] }
def FnChunkNameSaid : Prop := fnChunkNameRow.holds Tryd.pinned (OpenSpec.ofChange fnChunkNameSpec)

/-- ITS FALSE NEIGHBOUR: 'it returns false'. Refute it at one input. -/
def fnChunkNameWrong : ChangeSpec := { name := "fnChunkName", vars := ["loop.example/capturemonitor/impl.chunkNames"], fn := fun _ => fun
  | [d, g1] => { results := [.lit (.bool false)], args := [d], vars := [g1] }
  | _ => none }
def FnChunkNameWrongFalsely : Prop := fnChunkNameRow.holds Tryd.pinned (OpenSpec.ofChange fnChunkNameWrong)

/-- 'laws.FnChunkNameOther': WHATEVER THE INPUT: true; the input reads as it did. -/
def fnChunkNameOtherSpec : ChangeSpec := { name := "fnChunkNameOther", vars := ["loop.example/capturemonitor/impl.chunkNames"], fn := fun _ => fun
  | [d, g1] => { results := [.lit (.bool true)], args := [d], vars := [g1] }
  | _ => none }
def fnChunkNameOtherRow : OpenClaim := { program := "ythogaffeeadnhabdoor", sum := "e31744aa3126619e3ef78040a8d6191b191045a41b9fd9d48f0e5784c4aaa972", func := "loop.example/capturemonitor/laws.FnChunkNameOther", spec := "fnChunkNameOther", named := ["loop.example/capturemonitor/impl.chunkNames"], apart := false, laid := [("loop.example/capturemonitor/impl.chunkNames", laid_loop_example_capturemonitor_impl_chunkNames)] }
def FnChunkNameOtherSaid : Prop := fnChunkNameOtherRow.holds Tryd.pinned (OpenSpec.ofChange fnChunkNameOtherSpec)

/-- ITS FALSE NEIGHBOUR: 'it returns false'. Refute it at one input. -/
def fnChunkNameOtherWrong : ChangeSpec := { name := "fnChunkNameOther", vars := ["loop.example/capturemonitor/impl.chunkNames"], fn := fun _ => fun
  | [d, g1] => { results := [.lit (.bool false)], args := [d], vars := [g1] }
  | _ => none }
def FnChunkNameOtherWrongFalsely : Prop := fnChunkNameOtherRow.holds Tryd.pinned (OpenSpec.ofChange fnChunkNameOtherWrong)

/-- 'laws.FnExactChunkName': WHATEVER THE INPUT: true; the input reads as it did. -/
def fnExactChunkNameSpec : ChangeSpec := { name := "fnExactChunkName", vars := ["loop.example/capturemonitor/impl.chunkNames"], fn := fun _ => fun
  | [d, g1] => { results := [.lit (.bool true)], args := [d], vars := [g1] }
  | _ => none }
def fnExactChunkNameRow : OpenClaim := { program := "ythogaffeeadnhabdoor", sum := "e31744aa3126619e3ef78040a8d6191b191045a41b9fd9d48f0e5784c4aaa972", func := "loop.example/capturemonitor/laws.FnExactChunkName", spec := "fnExactChunkName", named := ["loop.example/capturemonitor/impl.chunkNames"], apart := false, laid := [("loop.example/capturemonitor/impl.chunkNames", laid_loop_example_capturemonitor_impl_chunkNames)] }
def FnExactChunkNameSaid : Prop := fnExactChunkNameRow.holds Tryd.pinned (OpenSpec.ofChange fnExactChunkNameSpec)

/-- ITS FALSE NEIGHBOUR: 'it returns false'. Refute it at one input. -/
def fnExactChunkNameWrong : ChangeSpec := { name := "fnExactChunkName", vars := ["loop.example/capturemonitor/impl.chunkNames"], fn := fun _ => fun
  | [d, g1] => { results := [.lit (.bool false)], args := [d], vars := [g1] }
  | _ => none }
def FnExactChunkNameWrongFalsely : Prop := fnExactChunkNameRow.holds Tryd.pinned (OpenSpec.ofChange fnExactChunkNameWrong)

/- THE SECOND FORM. 'bulk': how many values and letters a reading holds, each counted each time it is reached (what is shared counts as often as it is met; a slice's spare places count too). A statement '..UptoSaid' is the law's where the arguments, and the package variables that the reading takes, are together of bulk at most 1048576: NARROWER than '..Said'. Prove '..Said' where nothing that the law and all that it calls make is longer than what came in: it says more and counts as full. Else prove '..UptoSaid'. A law counts once. -/
mutual
def uptoBulk {H : Type} : DataW H → Nat
  | .lit (.string bytes) => bytes.length + 1
  | .lit _ => 1
  | .nil => 1
  | .ptr d => uptoBulk d + 1
  | .slice elems spare => uptoBulkAll elems + uptoBulkAll spare + 1
  | .agg parts => uptoBulkAll parts + 1
  | .iface _ d => uptoBulk d + 1
  | .map entries => uptoBulkEntries entries + 1
  | .held _ => 1
def uptoBulkAll {H : Type} : List (DataW H) → Nat
  | [] => 0
  | d :: r => uptoBulk d + uptoBulkAll r
def uptoBulkEntries {H : Type} : List (Lit × DataW H) → Nat
  | [] => 0
  | x :: r => uptoBulkEntry x + uptoBulkEntries r
def uptoBulkEntry {H : Type} : Lit × DataW H → Nat
  | (.string bytes, d) => bytes.length + uptoBulk d + 1
  | (_, d) => uptoBulk d + 1
 end
def uptoSmall : (H : Type) → List (DataW H) → Bool := fun _ ds => decide (uptoBulkAll ds ≤ 1048576)
def OpenSpec.upto (s : _root_.Go.ChangeSpec) : _root_.Go.OpenSpec := { _root_.Go.OpenSpec.ofChange s with cond := some uptoSmall }

/-- 'laws.FnChunkName', WHERE WHAT IT READS IS OF BULK AT MOST 1048576: true; the input reads as it did. -/
def fnChunkNameUptoRow : OpenClaim := { program := "ythogaffeeadnhabdoor", sum := "e31744aa3126619e3ef78040a8d6191b191045a41b9fd9d48f0e5784c4aaa972", func := "loop.example/capturemonitor/laws.FnChunkName", spec := "fnChunkName", named := ["loop.example/capturemonitor/impl.chunkNames"], apart := false, laid := [("loop.example/capturemonitor/impl.chunkNames", laid_loop_example_capturemonitor_impl_chunkNames)], narrowed := true }
def FnChunkNameUptoSaid : Prop := fnChunkNameUptoRow.holds Tryd.pinned (OpenSpec.upto fnChunkNameSpec)

/-- 'laws.FnChunkNameOther', WHERE WHAT IT READS IS OF BULK AT MOST 1048576: true; the input reads as it did. -/
def fnChunkNameOtherUptoRow : OpenClaim := { program := "ythogaffeeadnhabdoor", sum := "e31744aa3126619e3ef78040a8d6191b191045a41b9fd9d48f0e5784c4aaa972", func := "loop.example/capturemonitor/laws.FnChunkNameOther", spec := "fnChunkNameOther", named := ["loop.example/capturemonitor/impl.chunkNames"], apart := false, laid := [("loop.example/capturemonitor/impl.chunkNames", laid_loop_example_capturemonitor_impl_chunkNames)], narrowed := true }
def FnChunkNameOtherUptoSaid : Prop := fnChunkNameOtherUptoRow.holds Tryd.pinned (OpenSpec.upto fnChunkNameOtherSpec)

/-- 'laws.FnExactChunkName', WHERE WHAT IT READS IS OF BULK AT MOST 1048576: true; the input reads as it did. -/
def fnExactChunkNameUptoRow : OpenClaim := { program := "ythogaffeeadnhabdoor", sum := "e31744aa3126619e3ef78040a8d6191b191045a41b9fd9d48f0e5784c4aaa972", func := "loop.example/capturemonitor/laws.FnExactChunkName", spec := "fnExactChunkName", named := ["loop.example/capturemonitor/impl.chunkNames"], apart := false, laid := [("loop.example/capturemonitor/impl.chunkNames", laid_loop_example_capturemonitor_impl_chunkNames)], narrowed := true }
def FnExactChunkNameUptoSaid : Prop := fnExactChunkNameUptoRow.holds Tryd.pinned (OpenSpec.upto fnExactChunkNameSpec)

end Rows
end Go.Proofs.YthogaffeeadnhabDoor
