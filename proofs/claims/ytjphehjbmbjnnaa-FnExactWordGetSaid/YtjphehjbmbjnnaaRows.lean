/-
  No cell of these rows narrows 'for every input' (looked for: loops, veiled, ifaces, maps, wideKeys, modest, calm, conditions, laid).
  DERIVED. THE GIVEN ROWS OF THIS SEAT. 12 by the template 'for every input the law returns true; each argument reads behind the call as it read before'; 0 by the template 'total and deterministic' (their statements: YtjphehjbmbjnnaaTotals.lean).
  GIVEN WITH THE SEED: the statements are not yours to turn. If you find one false, say at which input.
  Laid BY PROGRAM, IN A SANDBOX (cutbox-rows.mjs): the forced cells as the released guide's own fill.sh prints them over the translation 1941cb785c8622bd… (all of the seat's roots in one cut). By AI agents, Wed Nov 11 2026. No macro, syntax, notation, axiom, sorry.
-/
import Derived.Test.YtjphehjbmbjnnaaChecked
import GoSem.Claim
import GoSem.ClaimJoined
import GoSem.ClaimMapViews
import Derived.JoinedTies
import Derived.KernelRfl
namespace Go.Proofs.Ytjphehjbmbjnnaa
/- THE CELL 'sum', in the pinned program and in every row, IS THE sha256 OF THE DUMP (.gsa) THAT YtjphehjbmbjnnaaProg.lean LOADS. Nothing in Lean hashes anything: it is a label: what it is worth is what the hold of that sum in a sandbox is worth. -/
noncomputable def Try.pinned : Pinned := { name := "ytjphehjbmbjnnaa", sum := "1941cb785c8622bd2d55d11e2c561265b22d26b4bc1679dd8b5d163ca4583ae2", checked := Try.checked }
namespace Rows
def none {H : Type} : Left H := { results := [], args := [] }

/-- 'laws.FnWordPut': WHATEVER THE INPUT: true; the input reads as it did. -/
def fnWordPutSpec : ChangeSpec := { name := "fnWordPut", fn := fun _ => fun
  | [d] => { results := [.lit (.bool true)], args := [d] }
  | _ => none }
def fnWordPutRow : OpenClaim := { program := "ytjphehjbmbjnnaa", sum := "1941cb785c8622bd2d55d11e2c561265b22d26b4bc1679dd8b5d163ca4583ae2", func := "loop.example/capturemonitor/laws.FnWordPut", spec := "fnWordPut", apart := false }
def FnWordPutSaid : Prop := fnWordPutRow.holds Try.pinned (OpenSpec.ofChange fnWordPutSpec)

/-- ITS FALSE NEIGHBOUR: 'it returns false'. Refute it at one input. -/
def fnWordPutWrong : ChangeSpec := { name := "fnWordPut", fn := fun _ => fun
  | [d] => { results := [.lit (.bool false)], args := [d] }
  | _ => none }
def FnWordPutWrongFalsely : Prop := fnWordPutRow.holds Try.pinned (OpenSpec.ofChange fnWordPutWrong)

/-- 'laws.FnWordPutRange': WHATEVER THE INPUT: true; the input reads as it did. -/
def fnWordPutRangeSpec : ChangeSpec := { name := "fnWordPutRange", fn := fun _ => fun
  | [d] => { results := [.lit (.bool true)], args := [d] }
  | _ => none }
def fnWordPutRangeRow : OpenClaim := { program := "ytjphehjbmbjnnaa", sum := "1941cb785c8622bd2d55d11e2c561265b22d26b4bc1679dd8b5d163ca4583ae2", func := "loop.example/capturemonitor/laws.FnWordPutRange", spec := "fnWordPutRange", apart := false }
def FnWordPutRangeSaid : Prop := fnWordPutRangeRow.holds Try.pinned (OpenSpec.ofChange fnWordPutRangeSpec)

/-- ITS FALSE NEIGHBOUR: 'it returns false'. Refute it at one input. -/
def fnWordPutRangeWrong : ChangeSpec := { name := "fnWordPutRange", fn := fun _ => fun
  | [d] => { results := [.lit (.bool false)], args := [d] }
  | _ => none }
def FnWordPutRangeWrongFalsely : Prop := fnWordPutRangeRow.holds Try.pinned (OpenSpec.ofChange fnWordPutRangeWrong)

/-- 'laws.FnWordGet': WHATEVER THE INPUT: true; the input reads as it did. -/
def fnWordGetSpec : ChangeSpec := { name := "fnWordGet", fn := fun _ => fun
  | [d] => { results := [.lit (.bool true)], args := [d] }
  | _ => none }
def fnWordGetRow : OpenClaim := { program := "ytjphehjbmbjnnaa", sum := "1941cb785c8622bd2d55d11e2c561265b22d26b4bc1679dd8b5d163ca4583ae2", func := "loop.example/capturemonitor/laws.FnWordGet", spec := "fnWordGet", apart := false }
def FnWordGetSaid : Prop := fnWordGetRow.holds Try.pinned (OpenSpec.ofChange fnWordGetSpec)

/-- ITS FALSE NEIGHBOUR: 'it returns false'. Refute it at one input. -/
def fnWordGetWrong : ChangeSpec := { name := "fnWordGet", fn := fun _ => fun
  | [d] => { results := [.lit (.bool false)], args := [d] }
  | _ => none }
def FnWordGetWrongFalsely : Prop := fnWordGetRow.holds Try.pinned (OpenSpec.ofChange fnWordGetWrong)

/-- 'laws.FnWordGetPlace': WHATEVER THE INPUT: true; the input reads as it did. -/
def fnWordGetPlaceSpec : ChangeSpec := { name := "fnWordGetPlace", fn := fun _ => fun
  | [d] => { results := [.lit (.bool true)], args := [d] }
  | _ => none }
def fnWordGetPlaceRow : OpenClaim := { program := "ytjphehjbmbjnnaa", sum := "1941cb785c8622bd2d55d11e2c561265b22d26b4bc1679dd8b5d163ca4583ae2", func := "loop.example/capturemonitor/laws.FnWordGetPlace", spec := "fnWordGetPlace", apart := false }
def FnWordGetPlaceSaid : Prop := fnWordGetPlaceRow.holds Try.pinned (OpenSpec.ofChange fnWordGetPlaceSpec)

/-- ITS FALSE NEIGHBOUR: 'it returns false'. Refute it at one input. -/
def fnWordGetPlaceWrong : ChangeSpec := { name := "fnWordGetPlace", fn := fun _ => fun
  | [d] => { results := [.lit (.bool false)], args := [d] }
  | _ => none }
def FnWordGetPlaceWrongFalsely : Prop := fnWordGetPlaceRow.holds Try.pinned (OpenSpec.ofChange fnWordGetPlaceWrong)

/-- 'laws.FnWordGetMove': WHATEVER THE INPUT: true; the input reads as it did. -/
def fnWordGetMoveSpec : ChangeSpec := { name := "fnWordGetMove", fn := fun _ => fun
  | [d1, d2] => { results := [.lit (.bool true)], args := [d1, d2] }
  | _ => none }
def fnWordGetMoveRow : OpenClaim := { program := "ytjphehjbmbjnnaa", sum := "1941cb785c8622bd2d55d11e2c561265b22d26b4bc1679dd8b5d163ca4583ae2", func := "loop.example/capturemonitor/laws.FnWordGetMove", spec := "fnWordGetMove", apart := false }
def FnWordGetMoveSaid : Prop := fnWordGetMoveRow.holds Try.pinned (OpenSpec.ofChange fnWordGetMoveSpec)

/-- ITS FALSE NEIGHBOUR: 'it returns false'. Refute it at one input. -/
def fnWordGetMoveWrong : ChangeSpec := { name := "fnWordGetMove", fn := fun _ => fun
  | [d1, d2] => { results := [.lit (.bool false)], args := [d1, d2] }
  | _ => none }
def FnWordGetMoveWrongFalsely : Prop := fnWordGetMoveRow.holds Try.pinned (OpenSpec.ofChange fnWordGetMoveWrong)

/-- 'laws.FnLongPut': WHATEVER THE INPUT: true; the input reads as it did. -/
def fnLongPutSpec : ChangeSpec := { name := "fnLongPut", fn := fun _ => fun
  | [d] => { results := [.lit (.bool true)], args := [d] }
  | _ => none }
def fnLongPutRow : OpenClaim := { program := "ytjphehjbmbjnnaa", sum := "1941cb785c8622bd2d55d11e2c561265b22d26b4bc1679dd8b5d163ca4583ae2", func := "loop.example/capturemonitor/laws.FnLongPut", spec := "fnLongPut", apart := false }
def FnLongPutSaid : Prop := fnLongPutRow.holds Try.pinned (OpenSpec.ofChange fnLongPutSpec)

/-- ITS FALSE NEIGHBOUR: 'it returns false'. Refute it at one input. -/
def fnLongPutWrong : ChangeSpec := { name := "fnLongPut", fn := fun _ => fun
  | [d] => { results := [.lit (.bool false)], args := [d] }
  | _ => none }
def FnLongPutWrongFalsely : Prop := fnLongPutRow.holds Try.pinned (OpenSpec.ofChange fnLongPutWrong)

/-- 'laws.FnLongPutRange': WHATEVER THE INPUT: true; the input reads as it did. -/
def fnLongPutRangeSpec : ChangeSpec := { name := "fnLongPutRange", fn := fun _ => fun
  | [d] => { results := [.lit (.bool true)], args := [d] }
  | _ => none }
def fnLongPutRangeRow : OpenClaim := { program := "ytjphehjbmbjnnaa", sum := "1941cb785c8622bd2d55d11e2c561265b22d26b4bc1679dd8b5d163ca4583ae2", func := "loop.example/capturemonitor/laws.FnLongPutRange", spec := "fnLongPutRange", apart := false }
def FnLongPutRangeSaid : Prop := fnLongPutRangeRow.holds Try.pinned (OpenSpec.ofChange fnLongPutRangeSpec)

/-- ITS FALSE NEIGHBOUR: 'it returns false'. Refute it at one input. -/
def fnLongPutRangeWrong : ChangeSpec := { name := "fnLongPutRange", fn := fun _ => fun
  | [d] => { results := [.lit (.bool false)], args := [d] }
  | _ => none }
def FnLongPutRangeWrongFalsely : Prop := fnLongPutRangeRow.holds Try.pinned (OpenSpec.ofChange fnLongPutRangeWrong)

/-- 'laws.FnLongWords': WHATEVER THE INPUT: true; the input reads as it did. -/
def fnLongWordsSpec : ChangeSpec := { name := "fnLongWords", fn := fun _ => fun
  | [d] => { results := [.lit (.bool true)], args := [d] }
  | _ => none }
def fnLongWordsRow : OpenClaim := { program := "ytjphehjbmbjnnaa", sum := "1941cb785c8622bd2d55d11e2c561265b22d26b4bc1679dd8b5d163ca4583ae2", func := "loop.example/capturemonitor/laws.FnLongWords", spec := "fnLongWords", apart := false }
def FnLongWordsSaid : Prop := fnLongWordsRow.holds Try.pinned (OpenSpec.ofChange fnLongWordsSpec)

/-- ITS FALSE NEIGHBOUR: 'it returns false'. Refute it at one input. -/
def fnLongWordsWrong : ChangeSpec := { name := "fnLongWords", fn := fun _ => fun
  | [d] => { results := [.lit (.bool false)], args := [d] }
  | _ => none }
def FnLongWordsWrongFalsely : Prop := fnLongWordsRow.holds Try.pinned (OpenSpec.ofChange fnLongWordsWrong)

/-- 'laws.FnLongGet': WHATEVER THE INPUT: true; the input reads as it did. -/
def fnLongGetSpec : ChangeSpec := { name := "fnLongGet", fn := fun _ => fun
  | [d] => { results := [.lit (.bool true)], args := [d] }
  | _ => none }
def fnLongGetRow : OpenClaim := { program := "ytjphehjbmbjnnaa", sum := "1941cb785c8622bd2d55d11e2c561265b22d26b4bc1679dd8b5d163ca4583ae2", func := "loop.example/capturemonitor/laws.FnLongGet", spec := "fnLongGet", apart := false }
def FnLongGetSaid : Prop := fnLongGetRow.holds Try.pinned (OpenSpec.ofChange fnLongGetSpec)

/-- ITS FALSE NEIGHBOUR: 'it returns false'. Refute it at one input. -/
def fnLongGetWrong : ChangeSpec := { name := "fnLongGet", fn := fun _ => fun
  | [d] => { results := [.lit (.bool false)], args := [d] }
  | _ => none }
def FnLongGetWrongFalsely : Prop := fnLongGetRow.holds Try.pinned (OpenSpec.ofChange fnLongGetWrong)

/-- 'laws.FnExactWordPut': WHATEVER THE INPUT: true; the input reads as it did. -/
def fnExactWordPutSpec : ChangeSpec := { name := "fnExactWordPut", fn := fun _ => fun
  | [d] => { results := [.lit (.bool true)], args := [d] }
  | _ => none }
def fnExactWordPutRow : OpenClaim := { program := "ytjphehjbmbjnnaa", sum := "1941cb785c8622bd2d55d11e2c561265b22d26b4bc1679dd8b5d163ca4583ae2", func := "loop.example/capturemonitor/laws.FnExactWordPut", spec := "fnExactWordPut", apart := false }
def FnExactWordPutSaid : Prop := fnExactWordPutRow.holds Try.pinned (OpenSpec.ofChange fnExactWordPutSpec)

/-- ITS FALSE NEIGHBOUR: 'it returns false'. Refute it at one input. -/
def fnExactWordPutWrong : ChangeSpec := { name := "fnExactWordPut", fn := fun _ => fun
  | [d] => { results := [.lit (.bool false)], args := [d] }
  | _ => none }
def FnExactWordPutWrongFalsely : Prop := fnExactWordPutRow.holds Try.pinned (OpenSpec.ofChange fnExactWordPutWrong)

/-- 'laws.FnExactWordGet': WHATEVER THE INPUT: true; the input reads as it did. -/
def fnExactWordGetSpec : ChangeSpec := { name := "fnExactWordGet", fn := fun _ => fun
  | [d1, d2] => { results := [.lit (.bool true)], args := [d1, d2] }
  | _ => none }
def fnExactWordGetRow : OpenClaim := { program := "ytjphehjbmbjnnaa", sum := "1941cb785c8622bd2d55d11e2c561265b22d26b4bc1679dd8b5d163ca4583ae2", func := "loop.example/capturemonitor/laws.FnExactWordGet", spec := "fnExactWordGet", apart := false }
def FnExactWordGetSaid : Prop := fnExactWordGetRow.holds Try.pinned (OpenSpec.ofChange fnExactWordGetSpec)

/-- ITS FALSE NEIGHBOUR: 'it returns false'. Refute it at one input. -/
def fnExactWordGetWrong : ChangeSpec := { name := "fnExactWordGet", fn := fun _ => fun
  | [d1, d2] => { results := [.lit (.bool false)], args := [d1, d2] }
  | _ => none }
def FnExactWordGetWrongFalsely : Prop := fnExactWordGetRow.holds Try.pinned (OpenSpec.ofChange fnExactWordGetWrong)

/-- 'laws.FnExactLongPut': WHATEVER THE INPUT: true; the input reads as it did. -/
def fnExactLongPutSpec : ChangeSpec := { name := "fnExactLongPut", fn := fun _ => fun
  | [d] => { results := [.lit (.bool true)], args := [d] }
  | _ => none }
def fnExactLongPutRow : OpenClaim := { program := "ytjphehjbmbjnnaa", sum := "1941cb785c8622bd2d55d11e2c561265b22d26b4bc1679dd8b5d163ca4583ae2", func := "loop.example/capturemonitor/laws.FnExactLongPut", spec := "fnExactLongPut", apart := false }
def FnExactLongPutSaid : Prop := fnExactLongPutRow.holds Try.pinned (OpenSpec.ofChange fnExactLongPutSpec)

/-- ITS FALSE NEIGHBOUR: 'it returns false'. Refute it at one input. -/
def fnExactLongPutWrong : ChangeSpec := { name := "fnExactLongPut", fn := fun _ => fun
  | [d] => { results := [.lit (.bool false)], args := [d] }
  | _ => none }
def FnExactLongPutWrongFalsely : Prop := fnExactLongPutRow.holds Try.pinned (OpenSpec.ofChange fnExactLongPutWrong)

/- THE SECOND FORM. 'bulk': how many values and letters a reading holds, each counted each time it is reached (what is shared counts as often as it is met; a slice's spare places count too). A statement '..UptoSaid' is the law's where the arguments, and the package variables that the reading takes, are together of bulk at most 1048576: NARROWER than '..Said'. Prove '..Said' where nothing that the law and all that it calls make is longer than what came in: it says more and counts as full. Else prove '..UptoSaid'. A law counts once. -/
mutual
def uptoBulk {H : Type} : DataW H → Nat
  | .lit (.string bytes) => bytes.length + 1
  | .lit _ => 1
  | .nil => 1
  | .ptr d => uptoBulk d + 1
  | .slice elems spare => uptoBulkAll elems + uptoBulkAll spare + 1
  | .agg parts => uptoBulkAll parts + 1
  | .iface _ d => uptoBulk d + 1
  | .map entries => uptoBulkEntries entries + 1
  | .held _ => 1
def uptoBulkAll {H : Type} : List (DataW H) → Nat
  | [] => 0
  | d :: r => uptoBulk d + uptoBulkAll r
def uptoBulkEntries {H : Type} : List (Lit × DataW H) → Nat
  | [] => 0
  | x :: r => uptoBulkEntry x + uptoBulkEntries r
def uptoBulkEntry {H : Type} : Lit × DataW H → Nat
  | (.string bytes, d) => bytes.length + uptoBulk d + 1
  | (_, d) => uptoBulk d + 1
 end
def uptoSmall : (H : Type) → List (DataW H) → Bool := fun _ ds => decide (uptoBulkAll ds ≤ 1048576)
def OpenSpec.upto (s : _root_.Go.ChangeSpec) : _root_.Go.OpenSpec := { _root_.Go.OpenSpec.ofChange s with cond := some uptoSmall }

/-- 'laws.FnWordPut', WHERE WHAT IT READS IS OF BULK AT MOST 1048576: true; the input reads as it did. -/
def fnWordPutUptoRow : OpenClaim := { program := "ytjphehjbmbjnnaa", sum := "1941cb785c8622bd2d55d11e2c561265b22d26b4bc1679dd8b5d163ca4583ae2", func := "loop.example/capturemonitor/laws.FnWordPut", spec := "fnWordPut", apart := false, narrowed := true }
def FnWordPutUptoSaid : Prop := fnWordPutUptoRow.holds Try.pinned (OpenSpec.upto fnWordPutSpec)

/-- 'laws.FnWordPutRange', WHERE WHAT IT READS IS OF BULK AT MOST 1048576: true; the input reads as it did. -/
def fnWordPutRangeUptoRow : OpenClaim := { program := "ytjphehjbmbjnnaa", sum := "1941cb785c8622bd2d55d11e2c561265b22d26b4bc1679dd8b5d163ca4583ae2", func := "loop.example/capturemonitor/laws.FnWordPutRange", spec := "fnWordPutRange", apart := false, narrowed := true }
def FnWordPutRangeUptoSaid : Prop := fnWordPutRangeUptoRow.holds Try.pinned (OpenSpec.upto fnWordPutRangeSpec)

/-- 'laws.FnWordGet', WHERE WHAT IT READS IS OF BULK AT MOST 1048576: true; the input reads as it did. -/
def fnWordGetUptoRow : OpenClaim := { program := "ytjphehjbmbjnnaa", sum := "1941cb785c8622bd2d55d11e2c561265b22d26b4bc1679dd8b5d163ca4583ae2", func := "loop.example/capturemonitor/laws.FnWordGet", spec := "fnWordGet", apart := false, narrowed := true }
def FnWordGetUptoSaid : Prop := fnWordGetUptoRow.holds Try.pinned (OpenSpec.upto fnWordGetSpec)

/-- 'laws.FnWordGetPlace', WHERE WHAT IT READS IS OF BULK AT MOST 1048576: true; the input reads as it did. -/
def fnWordGetPlaceUptoRow : OpenClaim := { program := "ytjphehjbmbjnnaa", sum := "1941cb785c8622bd2d55d11e2c561265b22d26b4bc1679dd8b5d163ca4583ae2", func := "loop.example/capturemonitor/laws.FnWordGetPlace", spec := "fnWordGetPlace", apart := false, narrowed := true }
def FnWordGetPlaceUptoSaid : Prop := fnWordGetPlaceUptoRow.holds Try.pinned (OpenSpec.upto fnWordGetPlaceSpec)

/-- 'laws.FnWordGetMove', WHERE WHAT IT READS IS OF BULK AT MOST 1048576: true; the input reads as it did. -/
def fnWordGetMoveUptoRow : OpenClaim := { program := "ytjphehjbmbjnnaa", sum := "1941cb785c8622bd2d55d11e2c561265b22d26b4bc1679dd8b5d163ca4583ae2", func := "loop.example/capturemonitor/laws.FnWordGetMove", spec := "fnWordGetMove", apart := false, narrowed := true }
def FnWordGetMoveUptoSaid : Prop := fnWordGetMoveUptoRow.holds Try.pinned (OpenSpec.upto fnWordGetMoveSpec)

/-- 'laws.FnLongPut', WHERE WHAT IT READS IS OF BULK AT MOST 1048576: true; the input reads as it did. -/
def fnLongPutUptoRow : OpenClaim := { program := "ytjphehjbmbjnnaa", sum := "1941cb785c8622bd2d55d11e2c561265b22d26b4bc1679dd8b5d163ca4583ae2", func := "loop.example/capturemonitor/laws.FnLongPut", spec := "fnLongPut", apart := false, narrowed := true }
def FnLongPutUptoSaid : Prop := fnLongPutUptoRow.holds Try.pinned (OpenSpec.upto fnLongPutSpec)

/-- 'laws.FnLongPutRange', WHERE WHAT IT READS IS OF BULK AT MOST 1048576: true; the input reads as it did. -/
def fnLongPutRangeUptoRow : OpenClaim := { program := "ytjphehjbmbjnnaa", sum := "1941cb785c8622bd2d55d11e2c561265b22d26b4bc1679dd8b5d163ca4583ae2", func := "loop.example/capturemonitor/laws.FnLongPutRange", spec := "fnLongPutRange", apart := false, narrowed := true }
def FnLongPutRangeUptoSaid : Prop := fnLongPutRangeUptoRow.holds Try.pinned (OpenSpec.upto fnLongPutRangeSpec)

/-- 'laws.FnLongWords', WHERE WHAT IT READS IS OF BULK AT MOST 1048576: true; the input reads as it did. -/
def fnLongWordsUptoRow : OpenClaim := { program := "ytjphehjbmbjnnaa", sum := "1941cb785c8622bd2d55d11e2c561265b22d26b4bc1679dd8b5d163ca4583ae2", func := "loop.example/capturemonitor/laws.FnLongWords", spec := "fnLongWords", apart := false, narrowed := true }
def FnLongWordsUptoSaid : Prop := fnLongWordsUptoRow.holds Try.pinned (OpenSpec.upto fnLongWordsSpec)

/-- 'laws.FnLongGet', WHERE WHAT IT READS IS OF BULK AT MOST 1048576: true; the input reads as it did. -/
def fnLongGetUptoRow : OpenClaim := { program := "ytjphehjbmbjnnaa", sum := "1941cb785c8622bd2d55d11e2c561265b22d26b4bc1679dd8b5d163ca4583ae2", func := "loop.example/capturemonitor/laws.FnLongGet", spec := "fnLongGet", apart := false, narrowed := true }
def FnLongGetUptoSaid : Prop := fnLongGetUptoRow.holds Try.pinned (OpenSpec.upto fnLongGetSpec)

/-- 'laws.FnExactWordPut', WHERE WHAT IT READS IS OF BULK AT MOST 1048576: true; the input reads as it did. -/
def fnExactWordPutUptoRow : OpenClaim := { program := "ytjphehjbmbjnnaa", sum := "1941cb785c8622bd2d55d11e2c561265b22d26b4bc1679dd8b5d163ca4583ae2", func := "loop.example/capturemonitor/laws.FnExactWordPut", spec := "fnExactWordPut", apart := false, narrowed := true }
def FnExactWordPutUptoSaid : Prop := fnExactWordPutUptoRow.holds Try.pinned (OpenSpec.upto fnExactWordPutSpec)

/-- 'laws.FnExactWordGet', WHERE WHAT IT READS IS OF BULK AT MOST 1048576: true; the input reads as it did. -/
def fnExactWordGetUptoRow : OpenClaim := { program := "ytjphehjbmbjnnaa", sum := "1941cb785c8622bd2d55d11e2c561265b22d26b4bc1679dd8b5d163ca4583ae2", func := "loop.example/capturemonitor/laws.FnExactWordGet", spec := "fnExactWordGet", apart := false, narrowed := true }
def FnExactWordGetUptoSaid : Prop := fnExactWordGetUptoRow.holds Try.pinned (OpenSpec.upto fnExactWordGetSpec)

/-- 'laws.FnExactLongPut', WHERE WHAT IT READS IS OF BULK AT MOST 1048576: true; the input reads as it did. -/
def fnExactLongPutUptoRow : OpenClaim := { program := "ytjphehjbmbjnnaa", sum := "1941cb785c8622bd2d55d11e2c561265b22d26b4bc1679dd8b5d163ca4583ae2", func := "loop.example/capturemonitor/laws.FnExactLongPut", spec := "fnExactLongPut", apart := false, narrowed := true }
def FnExactLongPutUptoSaid : Prop := fnExactLongPutUptoRow.holds Try.pinned (OpenSpec.upto fnExactLongPutSpec)

end Rows
end Go.Proofs.Ytjphehjbmbjnnaa
