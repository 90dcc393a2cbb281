/-
  No cell of these rows narrows 'for every input' (looked for: loops, veiled, ifaces, maps, wideKeys, modest, calm, conditions, laid).
  DERIVED. THE GIVEN ROWS OF THIS SEAT. 10 by the template 'for every input the law returns true; each argument reads behind the call as it read before'; 0 by the template 'total and deterministic' (their statements: YtbbfppjokmipeabTotals.lean).
  GIVEN WITH THE SEED: the statements are not yours to turn. If you find one false, say at which input.
  Laid BY PROGRAM, IN A SANDBOX (cutbox-rows.mjs): the forced cells as the released guide's own fill.sh prints them over the translation a97b51222b8c37a0… (all of the seat's roots in one cut). By AI agents, Wed Nov 11 2026. No macro, syntax, notation, axiom, sorry.
-/
import Derived.Test.YtbbfppjokmipeabChecked
import GoSem.Claim
import GoSem.ClaimJoined
import GoSem.ClaimMapViews
import Derived.JoinedTies
import Derived.KernelRfl
namespace Go.Proofs.Ytbbfppjokmipeab
/- THE CELL 'sum', in the pinned program and in every row, IS THE sha256 OF THE DUMP (.gsa) THAT YtbbfppjokmipeabProg.lean LOADS. Nothing in Lean hashes anything: it is a label: what it is worth is what the hold of that sum in a sandbox is worth. -/
noncomputable def Try.pinned : Pinned := { name := "ytbbfppjokmipeab", sum := "a97b51222b8c37a0a642defc71a7efc2437c457280e4e1e70670aeae5b4b2d93", checked := Try.checked }
namespace Rows
def none {H : Type} : Left H := { results := [], args := [] }

/-- 'laws.FnExactSerialDiff': WHATEVER THE INPUT: true; the input reads as it did. -/
def fnExactSerialDiffSpec : ChangeSpec := { name := "fnExactSerialDiff", fn := fun _ => fun
  | [d1, d2] => { results := [.lit (.bool true)], args := [d1, d2] }
  | _ => none }
def fnExactSerialDiffRow : OpenClaim := { program := "ytbbfppjokmipeab", sum := "a97b51222b8c37a0a642defc71a7efc2437c457280e4e1e70670aeae5b4b2d93", func := "loop.example/capturemonitor/laws.FnExactSerialDiff", spec := "fnExactSerialDiff", unfollowed := true, recurses := true, apart := false }
def FnExactSerialDiffSaid : Prop := fnExactSerialDiffRow.holds Try.pinned (OpenSpec.ofChange fnExactSerialDiffSpec)

/-- ITS FALSE NEIGHBOUR: 'it returns false'. Refute it at one input. -/
def fnExactSerialDiffWrong : ChangeSpec := { name := "fnExactSerialDiff", fn := fun _ => fun
  | [d1, d2] => { results := [.lit (.bool false)], args := [d1, d2] }
  | _ => none }
def FnExactSerialDiffWrongFalsely : Prop := fnExactSerialDiffRow.holds Try.pinned (OpenSpec.ofChange fnExactSerialDiffWrong)

/-- 'laws.FnSerialLess': WHATEVER THE INPUT: true; the input reads as it did. -/
def fnSerialLessSpec : ChangeSpec := { name := "fnSerialLess", fn := fun _ => fun
  | [d] => { results := [.lit (.bool true)], args := [d] }
  | _ => none }
def fnSerialLessRow : OpenClaim := { program := "ytbbfppjokmipeab", sum := "a97b51222b8c37a0a642defc71a7efc2437c457280e4e1e70670aeae5b4b2d93", func := "loop.example/capturemonitor/laws.FnSerialLess", spec := "fnSerialLess", unfollowed := true, recurses := true, apart := false }
def FnSerialLessSaid : Prop := fnSerialLessRow.holds Try.pinned (OpenSpec.ofChange fnSerialLessSpec)

/-- ITS FALSE NEIGHBOUR: 'it returns false'. Refute it at one input. -/
def fnSerialLessWrong : ChangeSpec := { name := "fnSerialLess", fn := fun _ => fun
  | [d] => { results := [.lit (.bool false)], args := [d] }
  | _ => none }
def FnSerialLessWrongFalsely : Prop := fnSerialLessRow.holds Try.pinned (OpenSpec.ofChange fnSerialLessWrong)

/-- 'laws.FnSerialLessHalf': WHATEVER THE INPUT: true; the input reads as it did. -/
def fnSerialLessHalfSpec : ChangeSpec := { name := "fnSerialLessHalf", fn := fun _ => fun
  | [d] => { results := [.lit (.bool true)], args := [d] }
  | _ => none }
def fnSerialLessHalfRow : OpenClaim := { program := "ytbbfppjokmipeab", sum := "a97b51222b8c37a0a642defc71a7efc2437c457280e4e1e70670aeae5b4b2d93", func := "loop.example/capturemonitor/laws.FnSerialLessHalf", spec := "fnSerialLessHalf", unfollowed := true, recurses := true, apart := false }
def FnSerialLessHalfSaid : Prop := fnSerialLessHalfRow.holds Try.pinned (OpenSpec.ofChange fnSerialLessHalfSpec)

/-- ITS FALSE NEIGHBOUR: 'it returns false'. Refute it at one input. -/
def fnSerialLessHalfWrong : ChangeSpec := { name := "fnSerialLessHalf", fn := fun _ => fun
  | [d] => { results := [.lit (.bool false)], args := [d] }
  | _ => none }
def FnSerialLessHalfWrongFalsely : Prop := fnSerialLessHalfRow.holds Try.pinned (OpenSpec.ofChange fnSerialLessHalfWrong)

/-- 'laws.FnSerialLessAdd': WHATEVER THE INPUT: true; the input reads as it did. -/
def fnSerialLessAddSpec : ChangeSpec := { name := "fnSerialLessAdd", fn := fun _ => fun
  | [d1, d2] => { results := [.lit (.bool true)], args := [d1, d2] }
  | _ => none }
def fnSerialLessAddRow : OpenClaim := { program := "ytbbfppjokmipeab", sum := "a97b51222b8c37a0a642defc71a7efc2437c457280e4e1e70670aeae5b4b2d93", func := "loop.example/capturemonitor/laws.FnSerialLessAdd", spec := "fnSerialLessAdd", unfollowed := true, recurses := true, apart := false }
def FnSerialLessAddSaid : Prop := fnSerialLessAddRow.holds Try.pinned (OpenSpec.ofChange fnSerialLessAddSpec)

/-- ITS FALSE NEIGHBOUR: 'it returns false'. Refute it at one input. -/
def fnSerialLessAddWrong : ChangeSpec := { name := "fnSerialLessAdd", fn := fun _ => fun
  | [d1, d2] => { results := [.lit (.bool false)], args := [d1, d2] }
  | _ => none }
def FnSerialLessAddWrongFalsely : Prop := fnSerialLessAddRow.holds Try.pinned (OpenSpec.ofChange fnSerialLessAddWrong)

/-- 'laws.FnExactSerialLess': WHATEVER THE INPUT: true; the input reads as it did. -/
def fnExactSerialLessSpec : ChangeSpec := { name := "fnExactSerialLess", fn := fun _ => fun
  | [d1, d2] => { results := [.lit (.bool true)], args := [d1, d2] }
  | _ => none }
def fnExactSerialLessRow : OpenClaim := { program := "ytbbfppjokmipeab", sum := "a97b51222b8c37a0a642defc71a7efc2437c457280e4e1e70670aeae5b4b2d93", func := "loop.example/capturemonitor/laws.FnExactSerialLess", spec := "fnExactSerialLess", unfollowed := true, recurses := true, apart := false }
def FnExactSerialLessSaid : Prop := fnExactSerialLessRow.holds Try.pinned (OpenSpec.ofChange fnExactSerialLessSpec)

/-- ITS FALSE NEIGHBOUR: 'it returns false'. Refute it at one input. -/
def fnExactSerialLessWrong : ChangeSpec := { name := "fnExactSerialLess", fn := fun _ => fun
  | [d1, d2] => { results := [.lit (.bool false)], args := [d1, d2] }
  | _ => none }
def FnExactSerialLessWrongFalsely : Prop := fnExactSerialLessRow.holds Try.pinned (OpenSpec.ofChange fnExactSerialLessWrong)

/-- 'laws.FnSerialLast': WHATEVER THE INPUT: true; the input reads as it did. -/
def fnSerialLastSpec : ChangeSpec := { name := "fnSerialLast", fn := fun _ => fun
  | [d] => { results := [.lit (.bool true)], args := [d] }
  | _ => none }
def fnSerialLastRow : OpenClaim := { program := "ytbbfppjokmipeab", sum := "a97b51222b8c37a0a642defc71a7efc2437c457280e4e1e70670aeae5b4b2d93", func := "loop.example/capturemonitor/laws.FnSerialLast", spec := "fnSerialLast", unfollowed := true, recurses := true, apart := false }
def FnSerialLastSaid : Prop := fnSerialLastRow.holds Try.pinned (OpenSpec.ofChange fnSerialLastSpec)

/-- ITS FALSE NEIGHBOUR: 'it returns false'. Refute it at one input. -/
def fnSerialLastWrong : ChangeSpec := { name := "fnSerialLast", fn := fun _ => fun
  | [d] => { results := [.lit (.bool false)], args := [d] }
  | _ => none }
def FnSerialLastWrongFalsely : Prop := fnSerialLastRow.holds Try.pinned (OpenSpec.ofChange fnSerialLastWrong)

/-- 'laws.FnExactSerialLast': WHATEVER THE INPUT: true; the input reads as it did. -/
def fnExactSerialLastSpec : ChangeSpec := { name := "fnExactSerialLast", fn := fun _ => fun
  | [d1, d2] => { results := [.lit (.bool true)], args := [d1, d2] }
  | _ => none }
def fnExactSerialLastRow : OpenClaim := { program := "ytbbfppjokmipeab", sum := "a97b51222b8c37a0a642defc71a7efc2437c457280e4e1e70670aeae5b4b2d93", func := "loop.example/capturemonitor/laws.FnExactSerialLast", spec := "fnExactSerialLast", unfollowed := true, recurses := true, apart := false }
def FnExactSerialLastSaid : Prop := fnExactSerialLastRow.holds Try.pinned (OpenSpec.ofChange fnExactSerialLastSpec)

/-- ITS FALSE NEIGHBOUR: 'it returns false'. Refute it at one input. -/
def fnExactSerialLastWrong : ChangeSpec := { name := "fnExactSerialLast", fn := fun _ => fun
  | [d1, d2] => { results := [.lit (.bool false)], args := [d1, d2] }
  | _ => none }
def FnExactSerialLastWrongFalsely : Prop := fnExactSerialLastRow.holds Try.pinned (OpenSpec.ofChange fnExactSerialLastWrong)

/-- 'laws.FnSerialIn': WHATEVER THE INPUT: true; the input reads as it did. -/
def fnSerialInSpec : ChangeSpec := { name := "fnSerialIn", fn := fun _ => fun
  | [d] => { results := [.lit (.bool true)], args := [d] }
  | _ => none }
def fnSerialInRow : OpenClaim := { program := "ytbbfppjokmipeab", sum := "a97b51222b8c37a0a642defc71a7efc2437c457280e4e1e70670aeae5b4b2d93", func := "loop.example/capturemonitor/laws.FnSerialIn", spec := "fnSerialIn", unfollowed := true, recurses := true, apart := false }
def FnSerialInSaid : Prop := fnSerialInRow.holds Try.pinned (OpenSpec.ofChange fnSerialInSpec)

/-- ITS FALSE NEIGHBOUR: 'it returns false'. Refute it at one input. -/
def fnSerialInWrong : ChangeSpec := { name := "fnSerialIn", fn := fun _ => fun
  | [d] => { results := [.lit (.bool false)], args := [d] }
  | _ => none }
def FnSerialInWrongFalsely : Prop := fnSerialInRow.holds Try.pinned (OpenSpec.ofChange fnSerialInWrong)

/-- 'laws.FnSerialInEnds': WHATEVER THE INPUT: true; the input reads as it did. -/
def fnSerialInEndsSpec : ChangeSpec := { name := "fnSerialInEnds", fn := fun _ => fun
  | [d] => { results := [.lit (.bool true)], args := [d] }
  | _ => none }
def fnSerialInEndsRow : OpenClaim := { program := "ytbbfppjokmipeab", sum := "a97b51222b8c37a0a642defc71a7efc2437c457280e4e1e70670aeae5b4b2d93", func := "loop.example/capturemonitor/laws.FnSerialInEnds", spec := "fnSerialInEnds", unfollowed := true, recurses := true, apart := false }
def FnSerialInEndsSaid : Prop := fnSerialInEndsRow.holds Try.pinned (OpenSpec.ofChange fnSerialInEndsSpec)

/-- ITS FALSE NEIGHBOUR: 'it returns false'. Refute it at one input. -/
def fnSerialInEndsWrong : ChangeSpec := { name := "fnSerialInEnds", fn := fun _ => fun
  | [d] => { results := [.lit (.bool false)], args := [d] }
  | _ => none }
def FnSerialInEndsWrongFalsely : Prop := fnSerialInEndsRow.holds Try.pinned (OpenSpec.ofChange fnSerialInEndsWrong)

/-- 'laws.FnExactSerialIn': WHATEVER THE INPUT: true; the input reads as it did. -/
def fnExactSerialInSpec : ChangeSpec := { name := "fnExactSerialIn", fn := fun _ => fun
  | [d1, d2, d3] => { results := [.lit (.bool true)], args := [d1, d2, d3] }
  | _ => none }
def fnExactSerialInRow : OpenClaim := { program := "ytbbfppjokmipeab", sum := "a97b51222b8c37a0a642defc71a7efc2437c457280e4e1e70670aeae5b4b2d93", func := "loop.example/capturemonitor/laws.FnExactSerialIn", spec := "fnExactSerialIn", unfollowed := true, recurses := true, apart := false }
def FnExactSerialInSaid : Prop := fnExactSerialInRow.holds Try.pinned (OpenSpec.ofChange fnExactSerialInSpec)

/-- ITS FALSE NEIGHBOUR: 'it returns false'. Refute it at one input. -/
def fnExactSerialInWrong : ChangeSpec := { name := "fnExactSerialIn", fn := fun _ => fun
  | [d1, d2, d3] => { results := [.lit (.bool false)], args := [d1, d2, d3] }
  | _ => none }
def FnExactSerialInWrongFalsely : Prop := fnExactSerialInRow.holds Try.pinned (OpenSpec.ofChange fnExactSerialInWrong)

/- THE SECOND FORM. 'bulk': how many values and letters a reading holds, each counted each time it is reached (what is shared counts as often as it is met; a slice's spare places count too). A statement '..UptoSaid' is the law's where the arguments, and the package variables that the reading takes, are together of bulk at most 1048576: NARROWER than '..Said'. Prove '..Said' where nothing that the law and all that it calls make is longer than what came in: it says more and counts as full. Else prove '..UptoSaid'. A law counts once. -/
mutual
def uptoBulk {H : Type} : DataW H → Nat
  | .lit (.string bytes) => bytes.length + 1
  | .lit _ => 1
  | .nil => 1
  | .ptr d => uptoBulk d + 1
  | .slice elems spare => uptoBulkAll elems + uptoBulkAll spare + 1
  | .agg parts => uptoBulkAll parts + 1
  | .iface _ d => uptoBulk d + 1
  | .map entries => uptoBulkEntries entries + 1
  | .held _ => 1
def uptoBulkAll {H : Type} : List (DataW H) → Nat
  | [] => 0
  | d :: r => uptoBulk d + uptoBulkAll r
def uptoBulkEntries {H : Type} : List (Lit × DataW H) → Nat
  | [] => 0
  | x :: r => uptoBulkEntry x + uptoBulkEntries r
def uptoBulkEntry {H : Type} : Lit × DataW H → Nat
  | (.string bytes, d) => bytes.length + uptoBulk d + 1
  | (_, d) => uptoBulk d + 1
 end
def uptoSmall : (H : Type) → List (DataW H) → Bool := fun _ ds => decide (uptoBulkAll ds ≤ 1048576)
def OpenSpec.upto (s : _root_.Go.ChangeSpec) : _root_.Go.OpenSpec := { _root_.Go.OpenSpec.ofChange s with cond := some uptoSmall }

/-- 'laws.FnExactSerialDiff', WHERE WHAT IT READS IS OF BULK AT MOST 1048576: true; the input reads as it did. -/
def fnExactSerialDiffUptoRow : OpenClaim := { program := "ytbbfppjokmipeab", sum := "a97b51222b8c37a0a642defc71a7efc2437c457280e4e1e70670aeae5b4b2d93", func := "loop.example/capturemonitor/laws.FnExactSerialDiff", spec := "fnExactSerialDiff", unfollowed := true, recurses := true, apart := false, narrowed := true }
def FnExactSerialDiffUptoSaid : Prop := fnExactSerialDiffUptoRow.holds Try.pinned (OpenSpec.upto fnExactSerialDiffSpec)

/-- 'laws.FnSerialLess', WHERE WHAT IT READS IS OF BULK AT MOST 1048576: true; the input reads as it did. -/
def fnSerialLessUptoRow : OpenClaim := { program := "ytbbfppjokmipeab", sum := "a97b51222b8c37a0a642defc71a7efc2437c457280e4e1e70670aeae5b4b2d93", func := "loop.example/capturemonitor/laws.FnSerialLess", spec := "fnSerialLess", unfollowed := true, recurses := true, apart := false, narrowed := true }
def FnSerialLessUptoSaid : Prop := fnSerialLessUptoRow.holds Try.pinned (OpenSpec.upto fnSerialLessSpec)

/-- 'laws.FnSerialLessHalf', WHERE WHAT IT READS IS OF BULK AT MOST 1048576: true; the input reads as it did. -/
def fnSerialLessHalfUptoRow : OpenClaim := { program := "ytbbfppjokmipeab", sum := "a97b51222b8c37a0a642defc71a7efc2437c457280e4e1e70670aeae5b4b2d93", func := "loop.example/capturemonitor/laws.FnSerialLessHalf", spec := "fnSerialLessHalf", unfollowed := true, recurses := true, apart := false, narrowed := true }
def FnSerialLessHalfUptoSaid : Prop := fnSerialLessHalfUptoRow.holds Try.pinned (OpenSpec.upto fnSerialLessHalfSpec)

/-- 'laws.FnSerialLessAdd', WHERE WHAT IT READS IS OF BULK AT MOST 1048576: true; the input reads as it did. -/
def fnSerialLessAddUptoRow : OpenClaim := { program := "ytbbfppjokmipeab", sum := "a97b51222b8c37a0a642defc71a7efc2437c457280e4e1e70670aeae5b4b2d93", func := "loop.example/capturemonitor/laws.FnSerialLessAdd", spec := "fnSerialLessAdd", unfollowed := true, recurses := true, apart := false, narrowed := true }
def FnSerialLessAddUptoSaid : Prop := fnSerialLessAddUptoRow.holds Try.pinned (OpenSpec.upto fnSerialLessAddSpec)

/-- 'laws.FnExactSerialLess', WHERE WHAT IT READS IS OF BULK AT MOST 1048576: true; the input reads as it did. -/
def fnExactSerialLessUptoRow : OpenClaim := { program := "ytbbfppjokmipeab", sum := "a97b51222b8c37a0a642defc71a7efc2437c457280e4e1e70670aeae5b4b2d93", func := "loop.example/capturemonitor/laws.FnExactSerialLess", spec := "fnExactSerialLess", unfollowed := true, recurses := true, apart := false, narrowed := true }
def FnExactSerialLessUptoSaid : Prop := fnExactSerialLessUptoRow.holds Try.pinned (OpenSpec.upto fnExactSerialLessSpec)

/-- 'laws.FnSerialLast', WHERE WHAT IT READS IS OF BULK AT MOST 1048576: true; the input reads as it did. -/
def fnSerialLastUptoRow : OpenClaim := { program := "ytbbfppjokmipeab", sum := "a97b51222b8c37a0a642defc71a7efc2437c457280e4e1e70670aeae5b4b2d93", func := "loop.example/capturemonitor/laws.FnSerialLast", spec := "fnSerialLast", unfollowed := true, recurses := true, apart := false, narrowed := true }
def FnSerialLastUptoSaid : Prop := fnSerialLastUptoRow.holds Try.pinned (OpenSpec.upto fnSerialLastSpec)

/-- 'laws.FnExactSerialLast', WHERE WHAT IT READS IS OF BULK AT MOST 1048576: true; the input reads as it did. -/
def fnExactSerialLastUptoRow : OpenClaim := { program := "ytbbfppjokmipeab", sum := "a97b51222b8c37a0a642defc71a7efc2437c457280e4e1e70670aeae5b4b2d93", func := "loop.example/capturemonitor/laws.FnExactSerialLast", spec := "fnExactSerialLast", unfollowed := true, recurses := true, apart := false, narrowed := true }
def FnExactSerialLastUptoSaid : Prop := fnExactSerialLastUptoRow.holds Try.pinned (OpenSpec.upto fnExactSerialLastSpec)

/-- 'laws.FnSerialIn', WHERE WHAT IT READS IS OF BULK AT MOST 1048576: true; the input reads as it did. -/
def fnSerialInUptoRow : OpenClaim := { program := "ytbbfppjokmipeab", sum := "a97b51222b8c37a0a642defc71a7efc2437c457280e4e1e70670aeae5b4b2d93", func := "loop.example/capturemonitor/laws.FnSerialIn", spec := "fnSerialIn", unfollowed := true, recurses := true, apart := false, narrowed := true }
def FnSerialInUptoSaid : Prop := fnSerialInUptoRow.holds Try.pinned (OpenSpec.upto fnSerialInSpec)

/-- 'laws.FnSerialInEnds', WHERE WHAT IT READS IS OF BULK AT MOST 1048576: true; the input reads as it did. -/
def fnSerialInEndsUptoRow : OpenClaim := { program := "ytbbfppjokmipeab", sum := "a97b51222b8c37a0a642defc71a7efc2437c457280e4e1e70670aeae5b4b2d93", func := "loop.example/capturemonitor/laws.FnSerialInEnds", spec := "fnSerialInEnds", unfollowed := true, recurses := true, apart := false, narrowed := true }
def FnSerialInEndsUptoSaid : Prop := fnSerialInEndsUptoRow.holds Try.pinned (OpenSpec.upto fnSerialInEndsSpec)

/-- 'laws.FnExactSerialIn', WHERE WHAT IT READS IS OF BULK AT MOST 1048576: true; the input reads as it did. -/
def fnExactSerialInUptoRow : OpenClaim := { program := "ytbbfppjokmipeab", sum := "a97b51222b8c37a0a642defc71a7efc2437c457280e4e1e70670aeae5b4b2d93", func := "loop.example/capturemonitor/laws.FnExactSerialIn", spec := "fnExactSerialIn", unfollowed := true, recurses := true, apart := false, narrowed := true }
def FnExactSerialInUptoSaid : Prop := fnExactSerialInUptoRow.holds Try.pinned (OpenSpec.upto fnExactSerialInSpec)

end Rows
end Go.Proofs.Ytbbfppjokmipeab
