/-
  No cell of these rows narrows 'for every input' (looked for: loops, veiled, ifaces, maps, wideKeys, modest, calm, conditions, laid).
  DERIVED. THE GIVEN ROWS OF THIS SEAT. 7 by the template 'for every input the law returns true; each argument reads behind the call as it read before'; 0 by the template 'total and deterministic' (their statements: YtodpbjomiplphabTotals.lean).
  GIVEN WITH THE SEED: the statements are not yours to turn. If you find one false, say at which input.
  Laid BY PROGRAM, IN A SANDBOX (cutbox-rows.mjs): the forced cells as the released guide's own fill.sh prints them over the translation 4735b82d3bc2049c… (all of the seat's roots in one cut). By AI agents, Wed Nov 11 2026. No macro, syntax, notation, axiom, sorry.
-/
import Derived.Test.YtodpbjomiplphabChecked
import GoSem.Claim
import GoSem.ClaimJoined
import GoSem.ClaimMapViews
import Derived.JoinedTies
import Derived.KernelRfl
namespace Go.Proofs.Ytodpbjomiplphab
/- THE CELL 'sum', in the pinned program and in every row, IS THE sha256 OF THE DUMP (.gsa) THAT YtodpbjomiplphabProg.lean LOADS. Nothing in Lean hashes anything: it is a label: what it is worth is what the hold of that sum in a sandbox is worth. -/
noncomputable def Try.pinned : Pinned := { name := "ytodpbjomiplphab", sum := "4735b82d3bc2049c18718cd74c241c88031f024942c23d34a8e9579abd095595", checked := Try.checked }
namespace Rows
def none {H : Type} : Left H := { results := [], args := [] }

/-- 'laws.FnCaptureRest': WHATEVER THE INPUT: true; the input reads as it did. -/
def fnCaptureRestSpec : ChangeSpec := { name := "fnCaptureRest", fn := fun _ => fun
  | [d] => { results := [.lit (.bool true)], args := [d] }
  | _ => none }
def fnCaptureRestRow : OpenClaim := { program := "ytodpbjomiplphab", sum := "4735b82d3bc2049c18718cd74c241c88031f024942c23d34a8e9579abd095595", func := "loop.example/capturemonitor/laws.FnCaptureRest", spec := "fnCaptureRest", apart := false }
def FnCaptureRestSaid : Prop := fnCaptureRestRow.holds Try.pinned (OpenSpec.ofChange fnCaptureRestSpec)

/-- ITS FALSE NEIGHBOUR: 'it returns false'. Refute it at one input. -/
def fnCaptureRestWrong : ChangeSpec := { name := "fnCaptureRest", fn := fun _ => fun
  | [d] => { results := [.lit (.bool false)], args := [d] }
  | _ => none }
def FnCaptureRestWrongFalsely : Prop := fnCaptureRestRow.holds Try.pinned (OpenSpec.ofChange fnCaptureRestWrong)

/-- 'laws.FnCapturePart': WHATEVER THE INPUT: true; the input reads as it did. -/
def fnCapturePartSpec : ChangeSpec := { name := "fnCapturePart", fn := fun _ => fun
  | [d1, d2] => { results := [.lit (.bool true)], args := [d1, d2] }
  | _ => none }
def fnCapturePartRow : OpenClaim := { program := "ytodpbjomiplphab", sum := "4735b82d3bc2049c18718cd74c241c88031f024942c23d34a8e9579abd095595", func := "loop.example/capturemonitor/laws.FnCapturePart", spec := "fnCapturePart", apart := false }
def FnCapturePartSaid : Prop := fnCapturePartRow.holds Try.pinned (OpenSpec.ofChange fnCapturePartSpec)

/-- ITS FALSE NEIGHBOUR: 'it returns false'. Refute it at one input. -/
def fnCapturePartWrong : ChangeSpec := { name := "fnCapturePart", fn := fun _ => fun
  | [d1, d2] => { results := [.lit (.bool false)], args := [d1, d2] }
  | _ => none }
def FnCapturePartWrongFalsely : Prop := fnCapturePartRow.holds Try.pinned (OpenSpec.ofChange fnCapturePartWrong)

/-- 'laws.FnCaptureTimes': WHATEVER THE INPUT: true; the input reads as it did. -/
def fnCaptureTimesSpec : ChangeSpec := { name := "fnCaptureTimes", fn := fun _ => fun
  | [d] => { results := [.lit (.bool true)], args := [d] }
  | _ => none }
def fnCaptureTimesRow : OpenClaim := { program := "ytodpbjomiplphab", sum := "4735b82d3bc2049c18718cd74c241c88031f024942c23d34a8e9579abd095595", func := "loop.example/capturemonitor/laws.FnCaptureTimes", spec := "fnCaptureTimes", apart := false }
def FnCaptureTimesSaid : Prop := fnCaptureTimesRow.holds Try.pinned (OpenSpec.ofChange fnCaptureTimesSpec)

/-- ITS FALSE NEIGHBOUR: 'it returns false'. Refute it at one input. -/
def fnCaptureTimesWrong : ChangeSpec := { name := "fnCaptureTimes", fn := fun _ => fun
  | [d] => { results := [.lit (.bool false)], args := [d] }
  | _ => none }
def FnCaptureTimesWrongFalsely : Prop := fnCaptureTimesRow.holds Try.pinned (OpenSpec.ofChange fnCaptureTimesWrong)

/-- 'laws.FnExactCaptureValid': WHATEVER THE INPUT: true; the input reads as it did. -/
def fnExactCaptureValidSpec : ChangeSpec := { name := "fnExactCaptureValid", fn := fun _ => fun
  | [d] => { results := [.lit (.bool true)], args := [d] }
  | _ => none }
def fnExactCaptureValidRow : OpenClaim := { program := "ytodpbjomiplphab", sum := "4735b82d3bc2049c18718cd74c241c88031f024942c23d34a8e9579abd095595", func := "loop.example/capturemonitor/laws.FnExactCaptureValid", spec := "fnExactCaptureValid", apart := false }
def FnExactCaptureValidSaid : Prop := fnExactCaptureValidRow.holds Try.pinned (OpenSpec.ofChange fnExactCaptureValidSpec)

/-- ITS FALSE NEIGHBOUR: 'it returns false'. Refute it at one input. -/
def fnExactCaptureValidWrong : ChangeSpec := { name := "fnExactCaptureValid", fn := fun _ => fun
  | [d] => { results := [.lit (.bool false)], args := [d] }
  | _ => none }
def FnExactCaptureValidWrongFalsely : Prop := fnExactCaptureValidRow.holds Try.pinned (OpenSpec.ofChange fnExactCaptureValidWrong)

/-- 'laws.FnExactCapturePut': WHATEVER THE INPUT: true; the input reads as it did. -/
def fnExactCapturePutSpec : ChangeSpec := { name := "fnExactCapturePut", fn := fun _ => fun
  | [d] => { results := [.lit (.bool true)], args := [d] }
  | _ => none }
def fnExactCapturePutRow : OpenClaim := { program := "ytodpbjomiplphab", sum := "4735b82d3bc2049c18718cd74c241c88031f024942c23d34a8e9579abd095595", func := "loop.example/capturemonitor/laws.FnExactCapturePut", spec := "fnExactCapturePut", inPlace := ["internal/abi.NoEscape"], apart := false }
def FnExactCapturePutSaid : Prop := fnExactCapturePutRow.holds Try.pinned (OpenSpec.ofChange fnExactCapturePutSpec)

/-- ITS FALSE NEIGHBOUR: 'it returns false'. Refute it at one input. -/
def fnExactCapturePutWrong : ChangeSpec := { name := "fnExactCapturePut", fn := fun _ => fun
  | [d] => { results := [.lit (.bool false)], args := [d] }
  | _ => none }
def FnExactCapturePutWrongFalsely : Prop := fnExactCapturePutRow.holds Try.pinned (OpenSpec.ofChange fnExactCapturePutWrong)

/-- 'laws.FnExactCaptureGet': WHATEVER THE INPUT: true; the input reads as it did. -/
def fnExactCaptureGetSpec : ChangeSpec := { name := "fnExactCaptureGet", fn := fun _ => fun
  | [d] => { results := [.lit (.bool true)], args := [d] }
  | _ => none }
def fnExactCaptureGetRow : OpenClaim := { program := "ytodpbjomiplphab", sum := "4735b82d3bc2049c18718cd74c241c88031f024942c23d34a8e9579abd095595", func := "loop.example/capturemonitor/laws.FnExactCaptureGet", spec := "fnExactCaptureGet", apart := false }
def FnExactCaptureGetSaid : Prop := fnExactCaptureGetRow.holds Try.pinned (OpenSpec.ofChange fnExactCaptureGetSpec)

/-- ITS FALSE NEIGHBOUR: 'it returns false'. Refute it at one input. -/
def fnExactCaptureGetWrong : ChangeSpec := { name := "fnExactCaptureGet", fn := fun _ => fun
  | [d] => { results := [.lit (.bool false)], args := [d] }
  | _ => none }
def FnExactCaptureGetWrongFalsely : Prop := fnExactCaptureGetRow.holds Try.pinned (OpenSpec.ofChange fnExactCaptureGetWrong)

/-- 'laws.FnExactCaptureBegin': WHATEVER THE INPUT: true; the input reads as it did. -/
def fnExactCaptureBeginSpec : ChangeSpec := { name := "fnExactCaptureBegin", fn := fun _ => fun
  | [d] => { results := [.lit (.bool true)], args := [d] }
  | _ => none }
def fnExactCaptureBeginRow : OpenClaim := { program := "ytodpbjomiplphab", sum := "4735b82d3bc2049c18718cd74c241c88031f024942c23d34a8e9579abd095595", func := "loop.example/capturemonitor/laws.FnExactCaptureBegin", spec := "fnExactCaptureBegin", apart := false }
def FnExactCaptureBeginSaid : Prop := fnExactCaptureBeginRow.holds Try.pinned (OpenSpec.ofChange fnExactCaptureBeginSpec)

/-- ITS FALSE NEIGHBOUR: 'it returns false'. Refute it at one input. -/
def fnExactCaptureBeginWrong : ChangeSpec := { name := "fnExactCaptureBegin", fn := fun _ => fun
  | [d] => { results := [.lit (.bool false)], args := [d] }
  | _ => none }
def FnExactCaptureBeginWrongFalsely : Prop := fnExactCaptureBeginRow.holds Try.pinned (OpenSpec.ofChange fnExactCaptureBeginWrong)

/- THE SECOND FORM. 'bulk': how many values and letters a reading holds, each counted each time it is reached (what is shared counts as often as it is met; a slice's spare places count too). A statement '..UptoSaid' is the law's where the arguments, and the package variables that the reading takes, are together of bulk at most 1048576: NARROWER than '..Said'. Prove '..Said' where nothing that the law and all that it calls make is longer than what came in: it says more and counts as full. Else prove '..UptoSaid'. A law counts once. -/
mutual
def uptoBulk {H : Type} : DataW H → Nat
  | .lit (.string bytes) => bytes.length + 1
  | .lit _ => 1
  | .nil => 1
  | .ptr d => uptoBulk d + 1
  | .slice elems spare => uptoBulkAll elems + uptoBulkAll spare + 1
  | .agg parts => uptoBulkAll parts + 1
  | .iface _ d => uptoBulk d + 1
  | .map entries => uptoBulkEntries entries + 1
  | .held _ => 1
def uptoBulkAll {H : Type} : List (DataW H) → Nat
  | [] => 0
  | d :: r => uptoBulk d + uptoBulkAll r
def uptoBulkEntries {H : Type} : List (Lit × DataW H) → Nat
  | [] => 0
  | x :: r => uptoBulkEntry x + uptoBulkEntries r
def uptoBulkEntry {H : Type} : Lit × DataW H → Nat
  | (.string bytes, d) => bytes.length + uptoBulk d + 1
  | (_, d) => uptoBulk d + 1
 end
def uptoSmall : (H : Type) → List (DataW H) → Bool := fun _ ds => decide (uptoBulkAll ds ≤ 1048576)
def OpenSpec.upto (s : _root_.Go.ChangeSpec) : _root_.Go.OpenSpec := { _root_.Go.OpenSpec.ofChange s with cond := some uptoSmall }

/-- 'laws.FnCaptureRest', WHERE WHAT IT READS IS OF BULK AT MOST 1048576: true; the input reads as it did. -/
def fnCaptureRestUptoRow : OpenClaim := { program := "ytodpbjomiplphab", sum := "4735b82d3bc2049c18718cd74c241c88031f024942c23d34a8e9579abd095595", func := "loop.example/capturemonitor/laws.FnCaptureRest", spec := "fnCaptureRest", apart := false, narrowed := true }
def FnCaptureRestUptoSaid : Prop := fnCaptureRestUptoRow.holds Try.pinned (OpenSpec.upto fnCaptureRestSpec)

/-- 'laws.FnCapturePart', WHERE WHAT IT READS IS OF BULK AT MOST 1048576: true; the input reads as it did. -/
def fnCapturePartUptoRow : OpenClaim := { program := "ytodpbjomiplphab", sum := "4735b82d3bc2049c18718cd74c241c88031f024942c23d34a8e9579abd095595", func := "loop.example/capturemonitor/laws.FnCapturePart", spec := "fnCapturePart", apart := false, narrowed := true }
def FnCapturePartUptoSaid : Prop := fnCapturePartUptoRow.holds Try.pinned (OpenSpec.upto fnCapturePartSpec)

/-- 'laws.FnCaptureTimes', WHERE WHAT IT READS IS OF BULK AT MOST 1048576: true; the input reads as it did. -/
def fnCaptureTimesUptoRow : OpenClaim := { program := "ytodpbjomiplphab", sum := "4735b82d3bc2049c18718cd74c241c88031f024942c23d34a8e9579abd095595", func := "loop.example/capturemonitor/laws.FnCaptureTimes", spec := "fnCaptureTimes", apart := false, narrowed := true }
def FnCaptureTimesUptoSaid : Prop := fnCaptureTimesUptoRow.holds Try.pinned (OpenSpec.upto fnCaptureTimesSpec)

/-- 'laws.FnExactCaptureValid', WHERE WHAT IT READS IS OF BULK AT MOST 1048576: true; the input reads as it did. -/
def fnExactCaptureValidUptoRow : OpenClaim := { program := "ytodpbjomiplphab", sum := "4735b82d3bc2049c18718cd74c241c88031f024942c23d34a8e9579abd095595", func := "loop.example/capturemonitor/laws.FnExactCaptureValid", spec := "fnExactCaptureValid", apart := false, narrowed := true }
def FnExactCaptureValidUptoSaid : Prop := fnExactCaptureValidUptoRow.holds Try.pinned (OpenSpec.upto fnExactCaptureValidSpec)

/-- 'laws.FnExactCapturePut', WHERE WHAT IT READS IS OF BULK AT MOST 1048576: true; the input reads as it did. -/
def fnExactCapturePutUptoRow : OpenClaim := { program := "ytodpbjomiplphab", sum := "4735b82d3bc2049c18718cd74c241c88031f024942c23d34a8e9579abd095595", func := "loop.example/capturemonitor/laws.FnExactCapturePut", spec := "fnExactCapturePut", inPlace := ["internal/abi.NoEscape"], apart := false, narrowed := true }
def FnExactCapturePutUptoSaid : Prop := fnExactCapturePutUptoRow.holds Try.pinned (OpenSpec.upto fnExactCapturePutSpec)

/-- 'laws.FnExactCaptureGet', WHERE WHAT IT READS IS OF BULK AT MOST 1048576: true; the input reads as it did. -/
def fnExactCaptureGetUptoRow : OpenClaim := { program := "ytodpbjomiplphab", sum := "4735b82d3bc2049c18718cd74c241c88031f024942c23d34a8e9579abd095595", func := "loop.example/capturemonitor/laws.FnExactCaptureGet", spec := "fnExactCaptureGet", apart := false, narrowed := true }
def FnExactCaptureGetUptoSaid : Prop := fnExactCaptureGetUptoRow.holds Try.pinned (OpenSpec.upto fnExactCaptureGetSpec)

/-- 'laws.FnExactCaptureBegin', WHERE WHAT IT READS IS OF BULK AT MOST 1048576: true; the input reads as it did. -/
def fnExactCaptureBeginUptoRow : OpenClaim := { program := "ytodpbjomiplphab", sum := "4735b82d3bc2049c18718cd74c241c88031f024942c23d34a8e9579abd095595", func := "loop.example/capturemonitor/laws.FnExactCaptureBegin", spec := "fnExactCaptureBegin", apart := false, narrowed := true }
def FnExactCaptureBeginUptoSaid : Prop := fnExactCaptureBeginUptoRow.holds Try.pinned (OpenSpec.upto fnExactCaptureBeginSpec)

end Rows
end Go.Proofs.Ytodpbjomiplphab
