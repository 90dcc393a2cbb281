/-
  No cell of these rows narrows 'for every input' (looked for: loops, veiled, ifaces, maps, wideKeys, modest, calm, conditions, laid).
  DERIVED. THE GIVEN ROWS OF THIS SEAT. 8 by the template 'for every input the law returns true; each argument reads behind the call as it read before'; 0 by the template 'total and deterministic' (their statements: YthogaffeeadnhaaTotals.lean).
  GIVEN WITH THE SEED: the statements are not yours to turn. If you find one false, say at which input.
  Laid BY PROGRAM, IN A SANDBOX (cutbox-rows.mjs): the forced cells as the released guide's own fill.sh prints them over the translation 9282a27b845bc712… (all of the seat's roots in one cut). By AI agents, Wed Nov 11 2026. No macro, syntax, notation, axiom, sorry.
-/
import Derived.Test.YthogaffeeadnhaaChecked
import GoSem.Claim
import GoSem.ClaimJoined
import GoSem.ClaimMapViews
import Derived.JoinedTies
import Derived.KernelRfl
namespace Go.Proofs.Ythogaffeeadnhaa
/- THE CELL 'sum', in the pinned program and in every row, IS THE sha256 OF THE DUMP (.gsa) THAT YthogaffeeadnhaaProg.lean LOADS. Nothing in Lean hashes anything: it is a label: what it is worth is what the hold of that sum in a sandbox is worth. -/
noncomputable def Try.pinned : Pinned := { name := "ythogaffeeadnhaa", sum := "9282a27b845bc7125bb25845da16d7cd3e8d462603f752d456b2af532ff38559", checked := Try.checked }
namespace Rows
def none {H : Type} : Left H := { results := [], args := [] }

/-- 'laws.FnChunkGet': WHATEVER THE INPUT: true; the input reads as it did. -/
def fnChunkGetSpec : ChangeSpec := { name := "fnChunkGet", fn := fun _ => fun
  | [d] => { results := [.lit (.bool true)], args := [d] }
  | _ => none }
def fnChunkGetRow : OpenClaim := { program := "ythogaffeeadnhaa", sum := "9282a27b845bc7125bb25845da16d7cd3e8d462603f752d456b2af532ff38559", func := "loop.example/capturemonitor/laws.FnChunkGet", spec := "fnChunkGet", inPlace := ["internal/abi.NoEscape", "internal/bytealg.MakeNoZero"], unfollowed := true, recurses := true, apart := false }
def FnChunkGetSaid : Prop := fnChunkGetRow.holds Try.pinned (OpenSpec.ofChange fnChunkGetSpec)

/-- ITS FALSE NEIGHBOUR: 'it returns false'. Refute it at one input. -/
def fnChunkGetWrong : ChangeSpec := { name := "fnChunkGet", fn := fun _ => fun
  | [d] => { results := [.lit (.bool false)], args := [d] }
  | _ => none }
def FnChunkGetWrongFalsely : Prop := fnChunkGetRow.holds Try.pinned (OpenSpec.ofChange fnChunkGetWrong)

/-- 'laws.FnChunkGetCut': WHATEVER THE INPUT: true; the input reads as it did. -/
def fnChunkGetCutSpec : ChangeSpec := { name := "fnChunkGetCut", fn := fun _ => fun
  | [d] => { results := [.lit (.bool true)], args := [d] }
  | _ => none }
def fnChunkGetCutRow : OpenClaim := { program := "ythogaffeeadnhaa", sum := "9282a27b845bc7125bb25845da16d7cd3e8d462603f752d456b2af532ff38559", func := "loop.example/capturemonitor/laws.FnChunkGetCut", spec := "fnChunkGetCut", inPlace := ["internal/abi.NoEscape", "internal/bytealg.MakeNoZero"], apart := false }
def FnChunkGetCutSaid : Prop := fnChunkGetCutRow.holds Try.pinned (OpenSpec.ofChange fnChunkGetCutSpec)

/-- ITS FALSE NEIGHBOUR: 'it returns false'. Refute it at one input. -/
def fnChunkGetCutWrong : ChangeSpec := { name := "fnChunkGetCut", fn := fun _ => fun
  | [d] => { results := [.lit (.bool false)], args := [d] }
  | _ => none }
def FnChunkGetCutWrongFalsely : Prop := fnChunkGetCutRow.holds Try.pinned (OpenSpec.ofChange fnChunkGetCutWrong)

/-- 'laws.FnChunkGetMore': WHATEVER THE INPUT: true; the input reads as it did. -/
def fnChunkGetMoreSpec : ChangeSpec := { name := "fnChunkGetMore", fn := fun _ => fun
  | [d] => { results := [.lit (.bool true)], args := [d] }
  | _ => none }
def fnChunkGetMoreRow : OpenClaim := { program := "ythogaffeeadnhaa", sum := "9282a27b845bc7125bb25845da16d7cd3e8d462603f752d456b2af532ff38559", func := "loop.example/capturemonitor/laws.FnChunkGetMore", spec := "fnChunkGetMore", inPlace := ["internal/abi.NoEscape", "internal/bytealg.MakeNoZero"], apart := false }
def FnChunkGetMoreSaid : Prop := fnChunkGetMoreRow.holds Try.pinned (OpenSpec.ofChange fnChunkGetMoreSpec)

/-- ITS FALSE NEIGHBOUR: 'it returns false'. Refute it at one input. -/
def fnChunkGetMoreWrong : ChangeSpec := { name := "fnChunkGetMore", fn := fun _ => fun
  | [d] => { results := [.lit (.bool false)], args := [d] }
  | _ => none }
def FnChunkGetMoreWrongFalsely : Prop := fnChunkGetMoreRow.holds Try.pinned (OpenSpec.ofChange fnChunkGetMoreWrong)

/-- 'laws.FnChunkGetMove': WHATEVER THE INPUT: true; the input reads as it did. -/
def fnChunkGetMoveSpec : ChangeSpec := { name := "fnChunkGetMove", fn := fun _ => fun
  | [d] => { results := [.lit (.bool true)], args := [d] }
  | _ => none }
def fnChunkGetMoveRow : OpenClaim := { program := "ythogaffeeadnhaa", sum := "9282a27b845bc7125bb25845da16d7cd3e8d462603f752d456b2af532ff38559", func := "loop.example/capturemonitor/laws.FnChunkGetMove", spec := "fnChunkGetMove", inPlace := ["internal/abi.NoEscape", "internal/bytealg.MakeNoZero"], apart := false }
def FnChunkGetMoveSaid : Prop := fnChunkGetMoveRow.holds Try.pinned (OpenSpec.ofChange fnChunkGetMoveSpec)

/-- ITS FALSE NEIGHBOUR: 'it returns false'. Refute it at one input. -/
def fnChunkGetMoveWrong : ChangeSpec := { name := "fnChunkGetMove", fn := fun _ => fun
  | [d] => { results := [.lit (.bool false)], args := [d] }
  | _ => none }
def FnChunkGetMoveWrongFalsely : Prop := fnChunkGetMoveRow.holds Try.pinned (OpenSpec.ofChange fnChunkGetMoveWrong)

/-- 'laws.FnChunkPad': WHATEVER THE INPUT: true; the input reads as it did. -/
def fnChunkPadSpec : ChangeSpec := { name := "fnChunkPad", fn := fun _ => fun
  | [d] => { results := [.lit (.bool true)], args := [d] }
  | _ => none }
def fnChunkPadRow : OpenClaim := { program := "ythogaffeeadnhaa", sum := "9282a27b845bc7125bb25845da16d7cd3e8d462603f752d456b2af532ff38559", func := "loop.example/capturemonitor/laws.FnChunkPad", spec := "fnChunkPad", inPlace := ["internal/abi.NoEscape", "internal/bytealg.MakeNoZero"], apart := false }
def FnChunkPadSaid : Prop := fnChunkPadRow.holds Try.pinned (OpenSpec.ofChange fnChunkPadSpec)

/-- ITS FALSE NEIGHBOUR: 'it returns false'. Refute it at one input. -/
def fnChunkPadWrong : ChangeSpec := { name := "fnChunkPad", fn := fun _ => fun
  | [d] => { results := [.lit (.bool false)], args := [d] }
  | _ => none }
def FnChunkPadWrongFalsely : Prop := fnChunkPadRow.holds Try.pinned (OpenSpec.ofChange fnChunkPadWrong)

/-- 'laws.FnChunkTwo': WHATEVER THE INPUT: true; the input reads as it did. -/
def fnChunkTwoSpec : ChangeSpec := { name := "fnChunkTwo", fn := fun _ => fun
  | [d1, d2] => { results := [.lit (.bool true)], args := [d1, d2] }
  | _ => none }
def fnChunkTwoRow : OpenClaim := { program := "ythogaffeeadnhaa", sum := "9282a27b845bc7125bb25845da16d7cd3e8d462603f752d456b2af532ff38559", func := "loop.example/capturemonitor/laws.FnChunkTwo", spec := "fnChunkTwo", inPlace := ["internal/abi.NoEscape", "internal/bytealg.MakeNoZero"], unfollowed := true, recurses := true, apart := false }
def FnChunkTwoSaid : Prop := fnChunkTwoRow.holds Try.pinned (OpenSpec.ofChange fnChunkTwoSpec)

/-- ITS FALSE NEIGHBOUR: 'it returns false'. Refute it at one input. -/
def fnChunkTwoWrong : ChangeSpec := { name := "fnChunkTwo", fn := fun _ => fun
  | [d1, d2] => { results := [.lit (.bool false)], args := [d1, d2] }
  | _ => none }
def FnChunkTwoWrongFalsely : Prop := fnChunkTwoRow.holds Try.pinned (OpenSpec.ofChange fnChunkTwoWrong)

/-- 'laws.FnExactChunkGet': WHATEVER THE INPUT: true; the input reads as it did. -/
def fnExactChunkGetSpec : ChangeSpec := { name := "fnExactChunkGet", fn := fun _ => fun
  | [d1, d2] => { results := [.lit (.bool true)], args := [d1, d2] }
  | _ => none }
def fnExactChunkGetRow : OpenClaim := { program := "ythogaffeeadnhaa", sum := "9282a27b845bc7125bb25845da16d7cd3e8d462603f752d456b2af532ff38559", func := "loop.example/capturemonitor/laws.FnExactChunkGet", spec := "fnExactChunkGet", inPlace := ["internal/abi.NoEscape", "internal/bytealg.MakeNoZero"], apart := false }
def FnExactChunkGetSaid : Prop := fnExactChunkGetRow.holds Try.pinned (OpenSpec.ofChange fnExactChunkGetSpec)

/-- ITS FALSE NEIGHBOUR: 'it returns false'. Refute it at one input. -/
def fnExactChunkGetWrong : ChangeSpec := { name := "fnExactChunkGet", fn := fun _ => fun
  | [d1, d2] => { results := [.lit (.bool false)], args := [d1, d2] }
  | _ => none }
def FnExactChunkGetWrongFalsely : Prop := fnExactChunkGetRow.holds Try.pinned (OpenSpec.ofChange fnExactChunkGetWrong)

/-- 'laws.FnChunkPutGet': WHATEVER THE INPUT: true; the input reads as it did. -/
def fnChunkPutGetSpec : ChangeSpec := { name := "fnChunkPutGet", fn := fun _ => fun
  | [d] => { results := [.lit (.bool true)], args := [d] }
  | _ => none }
def fnChunkPutGetRow : OpenClaim := { program := "ythogaffeeadnhaa", sum := "9282a27b845bc7125bb25845da16d7cd3e8d462603f752d456b2af532ff38559", func := "loop.example/capturemonitor/laws.FnChunkPutGet", spec := "fnChunkPutGet", inPlace := ["internal/abi.NoEscape", "internal/bytealg.MakeNoZero"], unfollowed := true, recurses := true, apart := false }
def FnChunkPutGetSaid : Prop := fnChunkPutGetRow.holds Try.pinned (OpenSpec.ofChange fnChunkPutGetSpec)

/-- ITS FALSE NEIGHBOUR: 'it returns false'. Refute it at one input. -/
def fnChunkPutGetWrong : ChangeSpec := { name := "fnChunkPutGet", fn := fun _ => fun
  | [d] => { results := [.lit (.bool false)], args := [d] }
  | _ => none }
def FnChunkPutGetWrongFalsely : Prop := fnChunkPutGetRow.holds Try.pinned (OpenSpec.ofChange fnChunkPutGetWrong)

/- THE SECOND FORM. 'bulk': how many values and letters a reading holds, each counted each time it is reached (what is shared counts as often as it is met; a slice's spare places count too). A statement '..UptoSaid' is the law's where the arguments, and the package variables that the reading takes, are together of bulk at most 1048576: NARROWER than '..Said'. Prove '..Said' where nothing that the law and all that it calls make is longer than what came in: it says more and counts as full. Else prove '..UptoSaid'. A law counts once. -/
mutual
def uptoBulk {H : Type} : DataW H → Nat
  | .lit (.string bytes) => bytes.length + 1
  | .lit _ => 1
  | .nil => 1
  | .ptr d => uptoBulk d + 1
  | .slice elems spare => uptoBulkAll elems + uptoBulkAll spare + 1
  | .agg parts => uptoBulkAll parts + 1
  | .iface _ d => uptoBulk d + 1
  | .map entries => uptoBulkEntries entries + 1
  | .held _ => 1
def uptoBulkAll {H : Type} : List (DataW H) → Nat
  | [] => 0
  | d :: r => uptoBulk d + uptoBulkAll r
def uptoBulkEntries {H : Type} : List (Lit × DataW H) → Nat
  | [] => 0
  | x :: r => uptoBulkEntry x + uptoBulkEntries r
def uptoBulkEntry {H : Type} : Lit × DataW H → Nat
  | (.string bytes, d) => bytes.length + uptoBulk d + 1
  | (_, d) => uptoBulk d + 1
 end
def uptoSmall : (H : Type) → List (DataW H) → Bool := fun _ ds => decide (uptoBulkAll ds ≤ 1048576)
def OpenSpec.upto (s : _root_.Go.ChangeSpec) : _root_.Go.OpenSpec := { _root_.Go.OpenSpec.ofChange s with cond := some uptoSmall }

/-- 'laws.FnChunkGet', WHERE WHAT IT READS IS OF BULK AT MOST 1048576: true; the input reads as it did. -/
def fnChunkGetUptoRow : OpenClaim := { program := "ythogaffeeadnhaa", sum := "9282a27b845bc7125bb25845da16d7cd3e8d462603f752d456b2af532ff38559", func := "loop.example/capturemonitor/laws.FnChunkGet", spec := "fnChunkGet", inPlace := ["internal/abi.NoEscape", "internal/bytealg.MakeNoZero"], unfollowed := true, recurses := true, apart := false, narrowed := true }
def FnChunkGetUptoSaid : Prop := fnChunkGetUptoRow.holds Try.pinned (OpenSpec.upto fnChunkGetSpec)

/-- 'laws.FnChunkGetCut', WHERE WHAT IT READS IS OF BULK AT MOST 1048576: true; the input reads as it did. -/
def fnChunkGetCutUptoRow : OpenClaim := { program := "ythogaffeeadnhaa", sum := "9282a27b845bc7125bb25845da16d7cd3e8d462603f752d456b2af532ff38559", func := "loop.example/capturemonitor/laws.FnChunkGetCut", spec := "fnChunkGetCut", inPlace := ["internal/abi.NoEscape", "internal/bytealg.MakeNoZero"], apart := false, narrowed := true }
def FnChunkGetCutUptoSaid : Prop := fnChunkGetCutUptoRow.holds Try.pinned (OpenSpec.upto fnChunkGetCutSpec)

/-- 'laws.FnChunkGetMore', WHERE WHAT IT READS IS OF BULK AT MOST 1048576: true; the input reads as it did. -/
def fnChunkGetMoreUptoRow : OpenClaim := { program := "ythogaffeeadnhaa", sum := "9282a27b845bc7125bb25845da16d7cd3e8d462603f752d456b2af532ff38559", func := "loop.example/capturemonitor/laws.FnChunkGetMore", spec := "fnChunkGetMore", inPlace := ["internal/abi.NoEscape", "internal/bytealg.MakeNoZero"], apart := false, narrowed := true }
def FnChunkGetMoreUptoSaid : Prop := fnChunkGetMoreUptoRow.holds Try.pinned (OpenSpec.upto fnChunkGetMoreSpec)

/-- 'laws.FnChunkGetMove', WHERE WHAT IT READS IS OF BULK AT MOST 1048576: true; the input reads as it did. -/
def fnChunkGetMoveUptoRow : OpenClaim := { program := "ythogaffeeadnhaa", sum := "9282a27b845bc7125bb25845da16d7cd3e8d462603f752d456b2af532ff38559", func := "loop.example/capturemonitor/laws.FnChunkGetMove", spec := "fnChunkGetMove", inPlace := ["internal/abi.NoEscape", "internal/bytealg.MakeNoZero"], apart := false, narrowed := true }
def FnChunkGetMoveUptoSaid : Prop := fnChunkGetMoveUptoRow.holds Try.pinned (OpenSpec.upto fnChunkGetMoveSpec)

/-- 'laws.FnChunkPad', WHERE WHAT IT READS IS OF BULK AT MOST 1048576: true; the input reads as it did. -/
def fnChunkPadUptoRow : OpenClaim := { program := "ythogaffeeadnhaa", sum := "9282a27b845bc7125bb25845da16d7cd3e8d462603f752d456b2af532ff38559", func := "loop.example/capturemonitor/laws.FnChunkPad", spec := "fnChunkPad", inPlace := ["internal/abi.NoEscape", "internal/bytealg.MakeNoZero"], apart := false, narrowed := true }
def FnChunkPadUptoSaid : Prop := fnChunkPadUptoRow.holds Try.pinned (OpenSpec.upto fnChunkPadSpec)

/-- 'laws.FnChunkTwo', WHERE WHAT IT READS IS OF BULK AT MOST 1048576: true; the input reads as it did. -/
def fnChunkTwoUptoRow : OpenClaim := { program := "ythogaffeeadnhaa", sum := "9282a27b845bc7125bb25845da16d7cd3e8d462603f752d456b2af532ff38559", func := "loop.example/capturemonitor/laws.FnChunkTwo", spec := "fnChunkTwo", inPlace := ["internal/abi.NoEscape", "internal/bytealg.MakeNoZero"], unfollowed := true, recurses := true, apart := false, narrowed := true }
def FnChunkTwoUptoSaid : Prop := fnChunkTwoUptoRow.holds Try.pinned (OpenSpec.upto fnChunkTwoSpec)

/-- 'laws.FnExactChunkGet', WHERE WHAT IT READS IS OF BULK AT MOST 1048576: true; the input reads as it did. -/
def fnExactChunkGetUptoRow : OpenClaim := { program := "ythogaffeeadnhaa", sum := "9282a27b845bc7125bb25845da16d7cd3e8d462603f752d456b2af532ff38559", func := "loop.example/capturemonitor/laws.FnExactChunkGet", spec := "fnExactChunkGet", inPlace := ["internal/abi.NoEscape", "internal/bytealg.MakeNoZero"], apart := false, narrowed := true }
def FnExactChunkGetUptoSaid : Prop := fnExactChunkGetUptoRow.holds Try.pinned (OpenSpec.upto fnExactChunkGetSpec)

/-- 'laws.FnChunkPutGet', WHERE WHAT IT READS IS OF BULK AT MOST 1048576: true; the input reads as it did. -/
def fnChunkPutGetUptoRow : OpenClaim := { program := "ythogaffeeadnhaa", sum := "9282a27b845bc7125bb25845da16d7cd3e8d462603f752d456b2af532ff38559", func := "loop.example/capturemonitor/laws.FnChunkPutGet", spec := "fnChunkPutGet", inPlace := ["internal/abi.NoEscape", "internal/bytealg.MakeNoZero"], unfollowed := true, recurses := true, apart := false, narrowed := true }
def FnChunkPutGetUptoSaid : Prop := fnChunkPutGetUptoRow.holds Try.pinned (OpenSpec.upto fnChunkPutGetSpec)

end Rows
end Go.Proofs.Ythogaffeeadnhaa
