/-
  No cell of these rows narrows 'for every input' (looked for: loops, veiled, ifaces, maps, wideKeys, modest, calm, conditions, laid).
  DERIVED. THE GIVEN ROWS OF THIS SEAT. 10 by the template 'for every input the law returns true; each argument reads behind the call as it read before'; 0 by the template 'total and deterministic' (their statements: YtbbfppjokmipeaaTotals.lean).
  GIVEN WITH THE SEED: the statements are not yours to turn. If you find one false, say at which input.
  Laid BY PROGRAM, IN A SANDBOX (cutbox-rows.mjs): the forced cells as the released guide's own fill.sh prints them over the translation 16539fd1c3134b0a… (all of the seat's roots in one cut). By AI agents, Wed Nov 11 2026. No macro, syntax, notation, axiom, sorry.
-/
import Derived.Test.YtbbfppjokmipeaaChecked
import GoSem.Claim
import GoSem.ClaimJoined
import GoSem.ClaimMapViews
import Derived.JoinedTies
import Derived.KernelRfl
namespace Go.Proofs.Ytbbfppjokmipeaa
/- THE CELL 'sum', in the pinned program and in every row, IS THE sha256 OF THE DUMP (.gsa) THAT YtbbfppjokmipeaaProg.lean LOADS. Nothing in Lean hashes anything: it is a label: what it is worth is what the hold of that sum in a sandbox is worth. -/
noncomputable def Try.pinned : Pinned := { name := "ytbbfppjokmipeaa", sum := "16539fd1c3134b0a39aa9548cec83f82123cf36f2ed6d1723e99ef3769f00bd9", checked := Try.checked }
namespace Rows
def none {H : Type} : Left H := { results := [], args := [] }

/-- 'laws.FnSerialAdd': WHATEVER THE INPUT: true; the input reads as it did. -/
def fnSerialAddSpec : ChangeSpec := { name := "fnSerialAdd", fn := fun _ => fun
  | [d] => { results := [.lit (.bool true)], args := [d] }
  | _ => none }
def fnSerialAddRow : OpenClaim := { program := "ytbbfppjokmipeaa", sum := "16539fd1c3134b0a39aa9548cec83f82123cf36f2ed6d1723e99ef3769f00bd9", func := "loop.example/capturemonitor/laws.FnSerialAdd", spec := "fnSerialAdd", apart := false }
def FnSerialAddSaid : Prop := fnSerialAddRow.holds Try.pinned (OpenSpec.ofChange fnSerialAddSpec)

/-- ITS FALSE NEIGHBOUR: 'it returns false'. Refute it at one input. -/
def fnSerialAddWrong : ChangeSpec := { name := "fnSerialAdd", fn := fun _ => fun
  | [d] => { results := [.lit (.bool false)], args := [d] }
  | _ => none }
def FnSerialAddWrongFalsely : Prop := fnSerialAddRow.holds Try.pinned (OpenSpec.ofChange fnSerialAddWrong)

/-- 'laws.FnSerialAddSize': WHATEVER THE INPUT: true; the input reads as it did. -/
def fnSerialAddSizeSpec : ChangeSpec := { name := "fnSerialAddSize", fn := fun _ => fun
  | [d] => { results := [.lit (.bool true)], args := [d] }
  | _ => none }
def fnSerialAddSizeRow : OpenClaim := { program := "ytbbfppjokmipeaa", sum := "16539fd1c3134b0a39aa9548cec83f82123cf36f2ed6d1723e99ef3769f00bd9", func := "loop.example/capturemonitor/laws.FnSerialAddSize", spec := "fnSerialAddSize", apart := false }
def FnSerialAddSizeSaid : Prop := fnSerialAddSizeRow.holds Try.pinned (OpenSpec.ofChange fnSerialAddSizeSpec)

/-- ITS FALSE NEIGHBOUR: 'it returns false'. Refute it at one input. -/
def fnSerialAddSizeWrong : ChangeSpec := { name := "fnSerialAddSize", fn := fun _ => fun
  | [d] => { results := [.lit (.bool false)], args := [d] }
  | _ => none }
def FnSerialAddSizeWrongFalsely : Prop := fnSerialAddSizeRow.holds Try.pinned (OpenSpec.ofChange fnSerialAddSizeWrong)

/-- 'laws.FnSerialAddSum': WHATEVER THE INPUT: true; the input reads as it did. -/
def fnSerialAddSumSpec : ChangeSpec := { name := "fnSerialAddSum", fn := fun _ => fun
  | [d1, d2] => { results := [.lit (.bool true)], args := [d1, d2] }
  | _ => none }
def fnSerialAddSumRow : OpenClaim := { program := "ytbbfppjokmipeaa", sum := "16539fd1c3134b0a39aa9548cec83f82123cf36f2ed6d1723e99ef3769f00bd9", func := "loop.example/capturemonitor/laws.FnSerialAddSum", spec := "fnSerialAddSum", apart := false }
def FnSerialAddSumSaid : Prop := fnSerialAddSumRow.holds Try.pinned (OpenSpec.ofChange fnSerialAddSumSpec)

/-- ITS FALSE NEIGHBOUR: 'it returns false'. Refute it at one input. -/
def fnSerialAddSumWrong : ChangeSpec := { name := "fnSerialAddSum", fn := fun _ => fun
  | [d1, d2] => { results := [.lit (.bool false)], args := [d1, d2] }
  | _ => none }
def FnSerialAddSumWrongFalsely : Prop := fnSerialAddSumRow.holds Try.pinned (OpenSpec.ofChange fnSerialAddSumWrong)

/-- 'laws.FnSerialAddBad': WHATEVER THE INPUT: true; the input reads as it did. -/
def fnSerialAddBadSpec : ChangeSpec := { name := "fnSerialAddBad", fn := fun _ => fun
  | [d] => { results := [.lit (.bool true)], args := [d] }
  | _ => none }
def fnSerialAddBadRow : OpenClaim := { program := "ytbbfppjokmipeaa", sum := "16539fd1c3134b0a39aa9548cec83f82123cf36f2ed6d1723e99ef3769f00bd9", func := "loop.example/capturemonitor/laws.FnSerialAddBad", spec := "fnSerialAddBad", apart := false }
def FnSerialAddBadSaid : Prop := fnSerialAddBadRow.holds Try.pinned (OpenSpec.ofChange fnSerialAddBadSpec)

/-- ITS FALSE NEIGHBOUR: 'it returns false'. Refute it at one input. -/
def fnSerialAddBadWrong : ChangeSpec := { name := "fnSerialAddBad", fn := fun _ => fun
  | [d] => { results := [.lit (.bool false)], args := [d] }
  | _ => none }
def FnSerialAddBadWrongFalsely : Prop := fnSerialAddBadRow.holds Try.pinned (OpenSpec.ofChange fnSerialAddBadWrong)

/-- 'laws.FnExactSerialAdd': WHATEVER THE INPUT: true; the input reads as it did. -/
def fnExactSerialAddSpec : ChangeSpec := { name := "fnExactSerialAdd", fn := fun _ => fun
  | [d1, d2] => { results := [.lit (.bool true)], args := [d1, d2] }
  | _ => none }
def fnExactSerialAddRow : OpenClaim := { program := "ytbbfppjokmipeaa", sum := "16539fd1c3134b0a39aa9548cec83f82123cf36f2ed6d1723e99ef3769f00bd9", func := "loop.example/capturemonitor/laws.FnExactSerialAdd", spec := "fnExactSerialAdd", apart := false }
def FnExactSerialAddSaid : Prop := fnExactSerialAddRow.holds Try.pinned (OpenSpec.ofChange fnExactSerialAddSpec)

/-- ITS FALSE NEIGHBOUR: 'it returns false'. Refute it at one input. -/
def fnExactSerialAddWrong : ChangeSpec := { name := "fnExactSerialAdd", fn := fun _ => fun
  | [d1, d2] => { results := [.lit (.bool false)], args := [d1, d2] }
  | _ => none }
def FnExactSerialAddWrongFalsely : Prop := fnExactSerialAddRow.holds Try.pinned (OpenSpec.ofChange fnExactSerialAddWrong)

/-- 'laws.FnSerialDiff': WHATEVER THE INPUT: true; the input reads as it did. -/
def fnSerialDiffSpec : ChangeSpec := { name := "fnSerialDiff", fn := fun _ => fun
  | [d] => { results := [.lit (.bool true)], args := [d] }
  | _ => none }
def fnSerialDiffRow : OpenClaim := { program := "ytbbfppjokmipeaa", sum := "16539fd1c3134b0a39aa9548cec83f82123cf36f2ed6d1723e99ef3769f00bd9", func := "loop.example/capturemonitor/laws.FnSerialDiff", spec := "fnSerialDiff", unfollowed := true, recurses := true, apart := false }
def FnSerialDiffSaid : Prop := fnSerialDiffRow.holds Try.pinned (OpenSpec.ofChange fnSerialDiffSpec)

/-- ITS FALSE NEIGHBOUR: 'it returns false'. Refute it at one input. -/
def fnSerialDiffWrong : ChangeSpec := { name := "fnSerialDiff", fn := fun _ => fun
  | [d] => { results := [.lit (.bool false)], args := [d] }
  | _ => none }
def FnSerialDiffWrongFalsely : Prop := fnSerialDiffRow.holds Try.pinned (OpenSpec.ofChange fnSerialDiffWrong)

/-- 'laws.FnSerialDiffBack': WHATEVER THE INPUT: true; the input reads as it did. -/
def fnSerialDiffBackSpec : ChangeSpec := { name := "fnSerialDiffBack", fn := fun _ => fun
  | [d] => { results := [.lit (.bool true)], args := [d] }
  | _ => none }
def fnSerialDiffBackRow : OpenClaim := { program := "ytbbfppjokmipeaa", sum := "16539fd1c3134b0a39aa9548cec83f82123cf36f2ed6d1723e99ef3769f00bd9", func := "loop.example/capturemonitor/laws.FnSerialDiffBack", spec := "fnSerialDiffBack", unfollowed := true, recurses := true, apart := false }
def FnSerialDiffBackSaid : Prop := fnSerialDiffBackRow.holds Try.pinned (OpenSpec.ofChange fnSerialDiffBackSpec)

/-- ITS FALSE NEIGHBOUR: 'it returns false'. Refute it at one input. -/
def fnSerialDiffBackWrong : ChangeSpec := { name := "fnSerialDiffBack", fn := fun _ => fun
  | [d] => { results := [.lit (.bool false)], args := [d] }
  | _ => none }
def FnSerialDiffBackWrongFalsely : Prop := fnSerialDiffBackRow.holds Try.pinned (OpenSpec.ofChange fnSerialDiffBackWrong)

/-- 'laws.FnSerialDiffAdd': WHATEVER THE INPUT: true; the input reads as it did. -/
def fnSerialDiffAddSpec : ChangeSpec := { name := "fnSerialDiffAdd", fn := fun _ => fun
  | [d1, d2] => { results := [.lit (.bool true)], args := [d1, d2] }
  | _ => none }
def fnSerialDiffAddRow : OpenClaim := { program := "ytbbfppjokmipeaa", sum := "16539fd1c3134b0a39aa9548cec83f82123cf36f2ed6d1723e99ef3769f00bd9", func := "loop.example/capturemonitor/laws.FnSerialDiffAdd", spec := "fnSerialDiffAdd", unfollowed := true, recurses := true, apart := false }
def FnSerialDiffAddSaid : Prop := fnSerialDiffAddRow.holds Try.pinned (OpenSpec.ofChange fnSerialDiffAddSpec)

/-- ITS FALSE NEIGHBOUR: 'it returns false'. Refute it at one input. -/
def fnSerialDiffAddWrong : ChangeSpec := { name := "fnSerialDiffAdd", fn := fun _ => fun
  | [d1, d2] => { results := [.lit (.bool false)], args := [d1, d2] }
  | _ => none }
def FnSerialDiffAddWrongFalsely : Prop := fnSerialDiffAddRow.holds Try.pinned (OpenSpec.ofChange fnSerialDiffAddWrong)

/-- 'laws.FnSerialDiffMove': WHATEVER THE INPUT: true; the input reads as it did. -/
def fnSerialDiffMoveSpec : ChangeSpec := { name := "fnSerialDiffMove", fn := fun _ => fun
  | [d1, d2] => { results := [.lit (.bool true)], args := [d1, d2] }
  | _ => none }
def fnSerialDiffMoveRow : OpenClaim := { program := "ytbbfppjokmipeaa", sum := "16539fd1c3134b0a39aa9548cec83f82123cf36f2ed6d1723e99ef3769f00bd9", func := "loop.example/capturemonitor/laws.FnSerialDiffMove", spec := "fnSerialDiffMove", unfollowed := true, recurses := true, apart := false }
def FnSerialDiffMoveSaid : Prop := fnSerialDiffMoveRow.holds Try.pinned (OpenSpec.ofChange fnSerialDiffMoveSpec)

/-- ITS FALSE NEIGHBOUR: 'it returns false'. Refute it at one input. -/
def fnSerialDiffMoveWrong : ChangeSpec := { name := "fnSerialDiffMove", fn := fun _ => fun
  | [d1, d2] => { results := [.lit (.bool false)], args := [d1, d2] }
  | _ => none }
def FnSerialDiffMoveWrongFalsely : Prop := fnSerialDiffMoveRow.holds Try.pinned (OpenSpec.ofChange fnSerialDiffMoveWrong)

/-- 'laws.FnSerialDiffBad': WHATEVER THE INPUT: true; the input reads as it did. -/
def fnSerialDiffBadSpec : ChangeSpec := { name := "fnSerialDiffBad", fn := fun _ => fun
  | [d] => { results := [.lit (.bool true)], args := [d] }
  | _ => none }
def fnSerialDiffBadRow : OpenClaim := { program := "ytbbfppjokmipeaa", sum := "16539fd1c3134b0a39aa9548cec83f82123cf36f2ed6d1723e99ef3769f00bd9", func := "loop.example/capturemonitor/laws.FnSerialDiffBad", spec := "fnSerialDiffBad", unfollowed := true, recurses := true, apart := false }
def FnSerialDiffBadSaid : Prop := fnSerialDiffBadRow.holds Try.pinned (OpenSpec.ofChange fnSerialDiffBadSpec)

/-- ITS FALSE NEIGHBOUR: 'it returns false'. Refute it at one input. -/
def fnSerialDiffBadWrong : ChangeSpec := { name := "fnSerialDiffBad", fn := fun _ => fun
  | [d] => { results := [.lit (.bool false)], args := [d] }
  | _ => none }
def FnSerialDiffBadWrongFalsely : Prop := fnSerialDiffBadRow.holds Try.pinned (OpenSpec.ofChange fnSerialDiffBadWrong)

/- THE SECOND FORM. 'bulk': how many values and letters a reading holds, each counted each time it is reached (what is shared counts as often as it is met; a slice's spare places count too). A statement '..UptoSaid' is the law's where the arguments, and the package variables that the reading takes, are together of bulk at most 1048576: NARROWER than '..Said'. Prove '..Said' where nothing that the law and all that it calls make is longer than what came in: it says more and counts as full. Else prove '..UptoSaid'. A law counts once. -/
mutual
def uptoBulk {H : Type} : DataW H → Nat
  | .lit (.string bytes) => bytes.length + 1
  | .lit _ => 1
  | .nil => 1
  | .ptr d => uptoBulk d + 1
  | .slice elems spare => uptoBulkAll elems + uptoBulkAll spare + 1
  | .agg parts => uptoBulkAll parts + 1
  | .iface _ d => uptoBulk d + 1
  | .map entries => uptoBulkEntries entries + 1
  | .held _ => 1
def uptoBulkAll {H : Type} : List (DataW H) → Nat
  | [] => 0
  | d :: r => uptoBulk d + uptoBulkAll r
def uptoBulkEntries {H : Type} : List (Lit × DataW H) → Nat
  | [] => 0
  | x :: r => uptoBulkEntry x + uptoBulkEntries r
def uptoBulkEntry {H : Type} : Lit × DataW H → Nat
  | (.string bytes, d) => bytes.length + uptoBulk d + 1
  | (_, d) => uptoBulk d + 1
 end
def uptoSmall : (H : Type) → List (DataW H) → Bool := fun _ ds => decide (uptoBulkAll ds ≤ 1048576)
def OpenSpec.upto (s : _root_.Go.ChangeSpec) : _root_.Go.OpenSpec := { _root_.Go.OpenSpec.ofChange s with cond := some uptoSmall }

/-- 'laws.FnSerialAdd', WHERE WHAT IT READS IS OF BULK AT MOST 1048576: true; the input reads as it did. -/
def fnSerialAddUptoRow : OpenClaim := { program := "ytbbfppjokmipeaa", sum := "16539fd1c3134b0a39aa9548cec83f82123cf36f2ed6d1723e99ef3769f00bd9", func := "loop.example/capturemonitor/laws.FnSerialAdd", spec := "fnSerialAdd", apart := false, narrowed := true }
def FnSerialAddUptoSaid : Prop := fnSerialAddUptoRow.holds Try.pinned (OpenSpec.upto fnSerialAddSpec)

/-- 'laws.FnSerialAddSize', WHERE WHAT IT READS IS OF BULK AT MOST 1048576: true; the input reads as it did. -/
def fnSerialAddSizeUptoRow : OpenClaim := { program := "ytbbfppjokmipeaa", sum := "16539fd1c3134b0a39aa9548cec83f82123cf36f2ed6d1723e99ef3769f00bd9", func := "loop.example/capturemonitor/laws.FnSerialAddSize", spec := "fnSerialAddSize", apart := false, narrowed := true }
def FnSerialAddSizeUptoSaid : Prop := fnSerialAddSizeUptoRow.holds Try.pinned (OpenSpec.upto fnSerialAddSizeSpec)

/-- 'laws.FnSerialAddSum', WHERE WHAT IT READS IS OF BULK AT MOST 1048576: true; the input reads as it did. -/
def fnSerialAddSumUptoRow : OpenClaim := { program := "ytbbfppjokmipeaa", sum := "16539fd1c3134b0a39aa9548cec83f82123cf36f2ed6d1723e99ef3769f00bd9", func := "loop.example/capturemonitor/laws.FnSerialAddSum", spec := "fnSerialAddSum", apart := false, narrowed := true }
def FnSerialAddSumUptoSaid : Prop := fnSerialAddSumUptoRow.holds Try.pinned (OpenSpec.upto fnSerialAddSumSpec)

/-- 'laws.FnSerialAddBad', WHERE WHAT IT READS IS OF BULK AT MOST 1048576: true; the input reads as it did. -/
def fnSerialAddBadUptoRow : OpenClaim := { program := "ytbbfppjokmipeaa", sum := "16539fd1c3134b0a39aa9548cec83f82123cf36f2ed6d1723e99ef3769f00bd9", func := "loop.example/capturemonitor/laws.FnSerialAddBad", spec := "fnSerialAddBad", apart := false, narrowed := true }
def FnSerialAddBadUptoSaid : Prop := fnSerialAddBadUptoRow.holds Try.pinned (OpenSpec.upto fnSerialAddBadSpec)

/-- 'laws.FnExactSerialAdd', WHERE WHAT IT READS IS OF BULK AT MOST 1048576: true; the input reads as it did. -/
def fnExactSerialAddUptoRow : OpenClaim := { program := "ytbbfppjokmipeaa", sum := "16539fd1c3134b0a39aa9548cec83f82123cf36f2ed6d1723e99ef3769f00bd9", func := "loop.example/capturemonitor/laws.FnExactSerialAdd", spec := "fnExactSerialAdd", apart := false, narrowed := true }
def FnExactSerialAddUptoSaid : Prop := fnExactSerialAddUptoRow.holds Try.pinned (OpenSpec.upto fnExactSerialAddSpec)

/-- 'laws.FnSerialDiff', WHERE WHAT IT READS IS OF BULK AT MOST 1048576: true; the input reads as it did. -/
def fnSerialDiffUptoRow : OpenClaim := { program := "ytbbfppjokmipeaa", sum := "16539fd1c3134b0a39aa9548cec83f82123cf36f2ed6d1723e99ef3769f00bd9", func := "loop.example/capturemonitor/laws.FnSerialDiff", spec := "fnSerialDiff", unfollowed := true, recurses := true, apart := false, narrowed := true }
def FnSerialDiffUptoSaid : Prop := fnSerialDiffUptoRow.holds Try.pinned (OpenSpec.upto fnSerialDiffSpec)

/-- 'laws.FnSerialDiffBack', WHERE WHAT IT READS IS OF BULK AT MOST 1048576: true; the input reads as it did. -/
def fnSerialDiffBackUptoRow : OpenClaim := { program := "ytbbfppjokmipeaa", sum := "16539fd1c3134b0a39aa9548cec83f82123cf36f2ed6d1723e99ef3769f00bd9", func := "loop.example/capturemonitor/laws.FnSerialDiffBack", spec := "fnSerialDiffBack", unfollowed := true, recurses := true, apart := false, narrowed := true }
def FnSerialDiffBackUptoSaid : Prop := fnSerialDiffBackUptoRow.holds Try.pinned (OpenSpec.upto fnSerialDiffBackSpec)

/-- 'laws.FnSerialDiffAdd', WHERE WHAT IT READS IS OF BULK AT MOST 1048576: true; the input reads as it did. -/
def fnSerialDiffAddUptoRow : OpenClaim := { program := "ytbbfppjokmipeaa", sum := "16539fd1c3134b0a39aa9548cec83f82123cf36f2ed6d1723e99ef3769f00bd9", func := "loop.example/capturemonitor/laws.FnSerialDiffAdd", spec := "fnSerialDiffAdd", unfollowed := true, recurses := true, apart := false, narrowed := true }
def FnSerialDiffAddUptoSaid : Prop := fnSerialDiffAddUptoRow.holds Try.pinned (OpenSpec.upto fnSerialDiffAddSpec)

/-- 'laws.FnSerialDiffMove', WHERE WHAT IT READS IS OF BULK AT MOST 1048576: true; the input reads as it did. -/
def fnSerialDiffMoveUptoRow : OpenClaim := { program := "ytbbfppjokmipeaa", sum := "16539fd1c3134b0a39aa9548cec83f82123cf36f2ed6d1723e99ef3769f00bd9", func := "loop.example/capturemonitor/laws.FnSerialDiffMove", spec := "fnSerialDiffMove", unfollowed := true, recurses := true, apart := false, narrowed := true }
def FnSerialDiffMoveUptoSaid : Prop := fnSerialDiffMoveUptoRow.holds Try.pinned (OpenSpec.upto fnSerialDiffMoveSpec)

/-- 'laws.FnSerialDiffBad', WHERE WHAT IT READS IS OF BULK AT MOST 1048576: true; the input reads as it did. -/
def fnSerialDiffBadUptoRow : OpenClaim := { program := "ytbbfppjokmipeaa", sum := "16539fd1c3134b0a39aa9548cec83f82123cf36f2ed6d1723e99ef3769f00bd9", func := "loop.example/capturemonitor/laws.FnSerialDiffBad", spec := "fnSerialDiffBad", unfollowed := true, recurses := true, apart := false, narrowed := true }
def FnSerialDiffBadUptoSaid : Prop := fnSerialDiffBadUptoRow.holds Try.pinned (OpenSpec.upto fnSerialDiffBadSpec)

end Rows
end Go.Proofs.Ytbbfppjokmipeaa
