/-
  No cell of these rows narrows 'for every input' (looked for: loops, veiled, ifaces, maps, wideKeys, modest, calm, conditions, laid).
  DERIVED. THE GIVEN ROWS OF THIS SEAT. 8 by the template 'for every input the law returns true; each argument reads behind the call as it read before'; 0 by the template 'total and deterministic' (their statements: YtodpbjomiplphaaTotals.lean).
  GIVEN WITH THE SEED: the statements are not yours to turn. If you find one false, say at which input.
  Laid BY PROGRAM, IN A SANDBOX (cutbox-rows.mjs): the forced cells as the released guide's own fill.sh prints them over the translation 6f7b3a22c134ae6e… (all of the seat's roots in one cut). By AI agents, Wed Nov 11 2026. No macro, syntax, notation, axiom, sorry.
-/
import Derived.Test.YtodpbjomiplphaaChecked
import GoSem.Claim
import GoSem.ClaimJoined
import GoSem.ClaimMapViews
import Derived.JoinedTies
import Derived.KernelRfl
namespace Go.Proofs.Ytodpbjomiplphaa
/- THE CELL 'sum', in the pinned program and in every row, IS THE sha256 OF THE DUMP (.gsa) THAT YtodpbjomiplphaaProg.lean LOADS. Nothing in Lean hashes anything: it is a label: what it is worth is what the hold of that sum in a sandbox is worth. -/
noncomputable def Try.pinned : Pinned := { name := "ytodpbjomiplphaa", sum := "6f7b3a22c134ae6e7643ec07d664afa8585e79857bfdf79ab273950aa0797f3b", checked := Try.checked }
namespace Rows
def none {H : Type} : Left H := { results := [], args := [] }

/-- 'laws.FnCapturePut': WHATEVER THE INPUT: true; the input reads as it did. -/
def fnCapturePutSpec : ChangeSpec := { name := "fnCapturePut", fn := fun _ => fun
  | [d] => { results := [.lit (.bool true)], args := [d] }
  | _ => none }
def fnCapturePutRow : OpenClaim := { program := "ytodpbjomiplphaa", sum := "6f7b3a22c134ae6e7643ec07d664afa8585e79857bfdf79ab273950aa0797f3b", func := "loop.example/capturemonitor/laws.FnCapturePut", spec := "fnCapturePut", inPlace := ["internal/abi.NoEscape"], apart := false }
def FnCapturePutSaid : Prop := fnCapturePutRow.holds Try.pinned (OpenSpec.ofChange fnCapturePutSpec)

/-- ITS FALSE NEIGHBOUR: 'it returns false'. Refute it at one input. -/
def fnCapturePutWrong : ChangeSpec := { name := "fnCapturePut", fn := fun _ => fun
  | [d] => { results := [.lit (.bool false)], args := [d] }
  | _ => none }
def FnCapturePutWrongFalsely : Prop := fnCapturePutRow.holds Try.pinned (OpenSpec.ofChange fnCapturePutWrong)

/-- 'laws.FnCapturePutBad': WHATEVER THE INPUT: true; the input reads as it did. -/
def fnCapturePutBadSpec : ChangeSpec := { name := "fnCapturePutBad", fn := fun _ => fun
  | [d] => { results := [.lit (.bool true)], args := [d] }
  | _ => none }
def fnCapturePutBadRow : OpenClaim := { program := "ytodpbjomiplphaa", sum := "6f7b3a22c134ae6e7643ec07d664afa8585e79857bfdf79ab273950aa0797f3b", func := "loop.example/capturemonitor/laws.FnCapturePutBad", spec := "fnCapturePutBad", inPlace := ["internal/abi.NoEscape"], apart := false }
def FnCapturePutBadSaid : Prop := fnCapturePutBadRow.holds Try.pinned (OpenSpec.ofChange fnCapturePutBadSpec)

/-- ITS FALSE NEIGHBOUR: 'it returns false'. Refute it at one input. -/
def fnCapturePutBadWrong : ChangeSpec := { name := "fnCapturePutBad", fn := fun _ => fun
  | [d] => { results := [.lit (.bool false)], args := [d] }
  | _ => none }
def FnCapturePutBadWrongFalsely : Prop := fnCapturePutBadRow.holds Try.pinned (OpenSpec.ofChange fnCapturePutBadWrong)

/-- 'laws.FnCaptureSize': WHATEVER THE INPUT: true; the input reads as it did. -/
def fnCaptureSizeSpec : ChangeSpec := { name := "fnCaptureSize", fn := fun _ => fun
  | [d] => { results := [.lit (.bool true)], args := [d] }
  | _ => none }
def fnCaptureSizeRow : OpenClaim := { program := "ytodpbjomiplphaa", sum := "6f7b3a22c134ae6e7643ec07d664afa8585e79857bfdf79ab273950aa0797f3b", func := "loop.example/capturemonitor/laws.FnCaptureSize", spec := "fnCaptureSize", inPlace := ["internal/abi.NoEscape"], apart := false }
def FnCaptureSizeSaid : Prop := fnCaptureSizeRow.holds Try.pinned (OpenSpec.ofChange fnCaptureSizeSpec)

/-- ITS FALSE NEIGHBOUR: 'it returns false'. Refute it at one input. -/
def fnCaptureSizeWrong : ChangeSpec := { name := "fnCaptureSize", fn := fun _ => fun
  | [d] => { results := [.lit (.bool false)], args := [d] }
  | _ => none }
def FnCaptureSizeWrongFalsely : Prop := fnCaptureSizeRow.holds Try.pinned (OpenSpec.ofChange fnCaptureSizeWrong)

/-- 'laws.FnCaptureGet': WHATEVER THE INPUT: true; the input reads as it did. -/
def fnCaptureGetSpec : ChangeSpec := { name := "fnCaptureGet", fn := fun _ => fun
  | [d] => { results := [.lit (.bool true)], args := [d] }
  | _ => none }
def fnCaptureGetRow : OpenClaim := { program := "ytodpbjomiplphaa", sum := "6f7b3a22c134ae6e7643ec07d664afa8585e79857bfdf79ab273950aa0797f3b", func := "loop.example/capturemonitor/laws.FnCaptureGet", spec := "fnCaptureGet", inPlace := ["internal/abi.NoEscape"], apart := false }
def FnCaptureGetSaid : Prop := fnCaptureGetRow.holds Try.pinned (OpenSpec.ofChange fnCaptureGetSpec)

/-- ITS FALSE NEIGHBOUR: 'it returns false'. Refute it at one input. -/
def fnCaptureGetWrong : ChangeSpec := { name := "fnCaptureGet", fn := fun _ => fun
  | [d] => { results := [.lit (.bool false)], args := [d] }
  | _ => none }
def FnCaptureGetWrongFalsely : Prop := fnCaptureGetRow.holds Try.pinned (OpenSpec.ofChange fnCaptureGetWrong)

/-- 'laws.FnCaptureBegin': WHATEVER THE INPUT: true; the input reads as it did. -/
def fnCaptureBeginSpec : ChangeSpec := { name := "fnCaptureBegin", fn := fun _ => fun
  | [d] => { results := [.lit (.bool true)], args := [d] }
  | _ => none }
def fnCaptureBeginRow : OpenClaim := { program := "ytodpbjomiplphaa", sum := "6f7b3a22c134ae6e7643ec07d664afa8585e79857bfdf79ab273950aa0797f3b", func := "loop.example/capturemonitor/laws.FnCaptureBegin", spec := "fnCaptureBegin", inPlace := ["internal/abi.NoEscape"], apart := false }
def FnCaptureBeginSaid : Prop := fnCaptureBeginRow.holds Try.pinned (OpenSpec.ofChange fnCaptureBeginSpec)

/-- ITS FALSE NEIGHBOUR: 'it returns false'. Refute it at one input. -/
def fnCaptureBeginWrong : ChangeSpec := { name := "fnCaptureBegin", fn := fun _ => fun
  | [d] => { results := [.lit (.bool false)], args := [d] }
  | _ => none }
def FnCaptureBeginWrongFalsely : Prop := fnCaptureBeginRow.holds Try.pinned (OpenSpec.ofChange fnCaptureBeginWrong)

/-- 'laws.FnCaptureBeginAll': WHATEVER THE INPUT: true; the input reads as it did. -/
def fnCaptureBeginAllSpec : ChangeSpec := { name := "fnCaptureBeginAll", fn := fun _ => fun
  | [d] => { results := [.lit (.bool true)], args := [d] }
  | _ => none }
def fnCaptureBeginAllRow : OpenClaim := { program := "ytodpbjomiplphaa", sum := "6f7b3a22c134ae6e7643ec07d664afa8585e79857bfdf79ab273950aa0797f3b", func := "loop.example/capturemonitor/laws.FnCaptureBeginAll", spec := "fnCaptureBeginAll", apart := false }
def FnCaptureBeginAllSaid : Prop := fnCaptureBeginAllRow.holds Try.pinned (OpenSpec.ofChange fnCaptureBeginAllSpec)

/-- ITS FALSE NEIGHBOUR: 'it returns false'. Refute it at one input. -/
def fnCaptureBeginAllWrong : ChangeSpec := { name := "fnCaptureBeginAll", fn := fun _ => fun
  | [d] => { results := [.lit (.bool false)], args := [d] }
  | _ => none }
def FnCaptureBeginAllWrongFalsely : Prop := fnCaptureBeginAllRow.holds Try.pinned (OpenSpec.ofChange fnCaptureBeginAllWrong)

/-- 'laws.FnCaptureWord': WHATEVER THE INPUT: true; the input reads as it did. -/
def fnCaptureWordSpec : ChangeSpec := { name := "fnCaptureWord", fn := fun _ => fun
  | [d] => { results := [.lit (.bool true)], args := [d] }
  | _ => none }
def fnCaptureWordRow : OpenClaim := { program := "ytodpbjomiplphaa", sum := "6f7b3a22c134ae6e7643ec07d664afa8585e79857bfdf79ab273950aa0797f3b", func := "loop.example/capturemonitor/laws.FnCaptureWord", spec := "fnCaptureWord", apart := false }
def FnCaptureWordSaid : Prop := fnCaptureWordRow.holds Try.pinned (OpenSpec.ofChange fnCaptureWordSpec)

/-- ITS FALSE NEIGHBOUR: 'it returns false'. Refute it at one input. -/
def fnCaptureWordWrong : ChangeSpec := { name := "fnCaptureWord", fn := fun _ => fun
  | [d] => { results := [.lit (.bool false)], args := [d] }
  | _ => none }
def FnCaptureWordWrongFalsely : Prop := fnCaptureWordRow.holds Try.pinned (OpenSpec.ofChange fnCaptureWordWrong)

/-- 'laws.FnCaptureCut': WHATEVER THE INPUT: true; the input reads as it did. -/
def fnCaptureCutSpec : ChangeSpec := { name := "fnCaptureCut", fn := fun _ => fun
  | [d1, d2] => { results := [.lit (.bool true)], args := [d1, d2] }
  | _ => none }
def fnCaptureCutRow : OpenClaim := { program := "ytodpbjomiplphaa", sum := "6f7b3a22c134ae6e7643ec07d664afa8585e79857bfdf79ab273950aa0797f3b", func := "loop.example/capturemonitor/laws.FnCaptureCut", spec := "fnCaptureCut", inPlace := ["internal/abi.NoEscape"], apart := false }
def FnCaptureCutSaid : Prop := fnCaptureCutRow.holds Try.pinned (OpenSpec.ofChange fnCaptureCutSpec)

/-- ITS FALSE NEIGHBOUR: 'it returns false'. Refute it at one input. -/
def fnCaptureCutWrong : ChangeSpec := { name := "fnCaptureCut", fn := fun _ => fun
  | [d1, d2] => { results := [.lit (.bool false)], args := [d1, d2] }
  | _ => none }
def FnCaptureCutWrongFalsely : Prop := fnCaptureCutRow.holds Try.pinned (OpenSpec.ofChange fnCaptureCutWrong)

/- THE SECOND FORM. 'bulk': how many values and letters a reading holds, each counted each time it is reached (what is shared counts as often as it is met; a slice's spare places count too). A statement '..UptoSaid' is the law's where the arguments, and the package variables that the reading takes, are together of bulk at most 1048576: NARROWER than '..Said'. Prove '..Said' where nothing that the law and all that it calls make is longer than what came in: it says more and counts as full. Else prove '..UptoSaid'. A law counts once. -/
mutual
def uptoBulk {H : Type} : DataW H → Nat
  | .lit (.string bytes) => bytes.length + 1
  | .lit _ => 1
  | .nil => 1
  | .ptr d => uptoBulk d + 1
  | .slice elems spare => uptoBulkAll elems + uptoBulkAll spare + 1
  | .agg parts => uptoBulkAll parts + 1
  | .iface _ d => uptoBulk d + 1
  | .map entries => uptoBulkEntries entries + 1
  | .held _ => 1
def uptoBulkAll {H : Type} : List (DataW H) → Nat
  | [] => 0
  | d :: r => uptoBulk d + uptoBulkAll r
def uptoBulkEntries {H : Type} : List (Lit × DataW H) → Nat
  | [] => 0
  | x :: r => uptoBulkEntry x + uptoBulkEntries r
def uptoBulkEntry {H : Type} : Lit × DataW H → Nat
  | (.string bytes, d) => bytes.length + uptoBulk d + 1
  | (_, d) => uptoBulk d + 1
 end
def uptoSmall : (H : Type) → List (DataW H) → Bool := fun _ ds => decide (uptoBulkAll ds ≤ 1048576)
def OpenSpec.upto (s : _root_.Go.ChangeSpec) : _root_.Go.OpenSpec := { _root_.Go.OpenSpec.ofChange s with cond := some uptoSmall }

/-- 'laws.FnCapturePut', WHERE WHAT IT READS IS OF BULK AT MOST 1048576: true; the input reads as it did. -/
def fnCapturePutUptoRow : OpenClaim := { program := "ytodpbjomiplphaa", sum := "6f7b3a22c134ae6e7643ec07d664afa8585e79857bfdf79ab273950aa0797f3b", func := "loop.example/capturemonitor/laws.FnCapturePut", spec := "fnCapturePut", inPlace := ["internal/abi.NoEscape"], apart := false, narrowed := true }
def FnCapturePutUptoSaid : Prop := fnCapturePutUptoRow.holds Try.pinned (OpenSpec.upto fnCapturePutSpec)

/-- 'laws.FnCapturePutBad', WHERE WHAT IT READS IS OF BULK AT MOST 1048576: true; the input reads as it did. -/
def fnCapturePutBadUptoRow : OpenClaim := { program := "ytodpbjomiplphaa", sum := "6f7b3a22c134ae6e7643ec07d664afa8585e79857bfdf79ab273950aa0797f3b", func := "loop.example/capturemonitor/laws.FnCapturePutBad", spec := "fnCapturePutBad", inPlace := ["internal/abi.NoEscape"], apart := false, narrowed := true }
def FnCapturePutBadUptoSaid : Prop := fnCapturePutBadUptoRow.holds Try.pinned (OpenSpec.upto fnCapturePutBadSpec)

/-- 'laws.FnCaptureSize', WHERE WHAT IT READS IS OF BULK AT MOST 1048576: true; the input reads as it did. -/
def fnCaptureSizeUptoRow : OpenClaim := { program := "ytodpbjomiplphaa", sum := "6f7b3a22c134ae6e7643ec07d664afa8585e79857bfdf79ab273950aa0797f3b", func := "loop.example/capturemonitor/laws.FnCaptureSize", spec := "fnCaptureSize", inPlace := ["internal/abi.NoEscape"], apart := false, narrowed := true }
def FnCaptureSizeUptoSaid : Prop := fnCaptureSizeUptoRow.holds Try.pinned (OpenSpec.upto fnCaptureSizeSpec)

/-- 'laws.FnCaptureGet', WHERE WHAT IT READS IS OF BULK AT MOST 1048576: true; the input reads as it did. -/
def fnCaptureGetUptoRow : OpenClaim := { program := "ytodpbjomiplphaa", sum := "6f7b3a22c134ae6e7643ec07d664afa8585e79857bfdf79ab273950aa0797f3b", func := "loop.example/capturemonitor/laws.FnCaptureGet", spec := "fnCaptureGet", inPlace := ["internal/abi.NoEscape"], apart := false, narrowed := true }
def FnCaptureGetUptoSaid : Prop := fnCaptureGetUptoRow.holds Try.pinned (OpenSpec.upto fnCaptureGetSpec)

/-- 'laws.FnCaptureBegin', WHERE WHAT IT READS IS OF BULK AT MOST 1048576: true; the input reads as it did. -/
def fnCaptureBeginUptoRow : OpenClaim := { program := "ytodpbjomiplphaa", sum := "6f7b3a22c134ae6e7643ec07d664afa8585e79857bfdf79ab273950aa0797f3b", func := "loop.example/capturemonitor/laws.FnCaptureBegin", spec := "fnCaptureBegin", inPlace := ["internal/abi.NoEscape"], apart := false, narrowed := true }
def FnCaptureBeginUptoSaid : Prop := fnCaptureBeginUptoRow.holds Try.pinned (OpenSpec.upto fnCaptureBeginSpec)

/-- 'laws.FnCaptureBeginAll', WHERE WHAT IT READS IS OF BULK AT MOST 1048576: true; the input reads as it did. -/
def fnCaptureBeginAllUptoRow : OpenClaim := { program := "ytodpbjomiplphaa", sum := "6f7b3a22c134ae6e7643ec07d664afa8585e79857bfdf79ab273950aa0797f3b", func := "loop.example/capturemonitor/laws.FnCaptureBeginAll", spec := "fnCaptureBeginAll", apart := false, narrowed := true }
def FnCaptureBeginAllUptoSaid : Prop := fnCaptureBeginAllUptoRow.holds Try.pinned (OpenSpec.upto fnCaptureBeginAllSpec)

/-- 'laws.FnCaptureWord', WHERE WHAT IT READS IS OF BULK AT MOST 1048576: true; the input reads as it did. -/
def fnCaptureWordUptoRow : OpenClaim := { program := "ytodpbjomiplphaa", sum := "6f7b3a22c134ae6e7643ec07d664afa8585e79857bfdf79ab273950aa0797f3b", func := "loop.example/capturemonitor/laws.FnCaptureWord", spec := "fnCaptureWord", apart := false, narrowed := true }
def FnCaptureWordUptoSaid : Prop := fnCaptureWordUptoRow.holds Try.pinned (OpenSpec.upto fnCaptureWordSpec)

/-- 'laws.FnCaptureCut', WHERE WHAT IT READS IS OF BULK AT MOST 1048576: true; the input reads as it did. -/
def fnCaptureCutUptoRow : OpenClaim := { program := "ytodpbjomiplphaa", sum := "6f7b3a22c134ae6e7643ec07d664afa8585e79857bfdf79ab273950aa0797f3b", func := "loop.example/capturemonitor/laws.FnCaptureCut", spec := "fnCaptureCut", inPlace := ["internal/abi.NoEscape"], apart := false, narrowed := true }
def FnCaptureCutUptoSaid : Prop := fnCaptureCutUptoRow.holds Try.pinned (OpenSpec.upto fnCaptureCutSpec)

end Rows
end Go.Proofs.Ytodpbjomiplphaa
