/-
  No cell of these rows narrows 'for every input' (looked for: loops, veiled, ifaces, maps, wideKeys, modest, calm, conditions, laid).
  DERIVED. THE GIVEN ROWS OF THIS SEAT. 12 by the template 'for every input the law returns true; each argument reads behind the call as it read before'; 0 by the template 'total and deterministic' (their statements: YtcjabomcndahbaaTotals.lean).
  GIVEN WITH THE SEED: the statements are not yours to turn. If you find one false, say at which input.
  Laid BY PROGRAM, IN A SANDBOX (cutbox-rows.mjs): the forced cells as the released guide's own fill.sh prints them over the translation 70bc425b28109617… (all of the seat's roots in one cut). By AI agents, Wed Nov 11 2026. No macro, syntax, notation, axiom, sorry.
-/
import Derived.Test.YtcjabomcndahbaaChecked
import GoSem.Claim
import GoSem.ClaimJoined
import GoSem.ClaimMapViews
import Derived.JoinedTies
import Derived.KernelRfl
namespace Go.Proofs.Ytcjabomcndahbaa
/- THE CELL 'sum', in the pinned program and in every row, IS THE sha256 OF THE DUMP (.gsa) THAT YtcjabomcndahbaaProg.lean LOADS. Nothing in Lean hashes anything: it is a label: what it is worth is what the hold of that sum in a sandbox is worth. -/
noncomputable def Try.pinned : Pinned := { name := "ytcjabomcndahbaa", sum := "70bc425b2810961765f4753463df59a40d49fe1826629f95925d083eba42c2f9", checked := Try.checked }
namespace Rows
def none {H : Type} : Left H := { results := [], args := [] }

/-- 'laws.FnSeenNew': WHATEVER THE INPUT: true; the input reads as it did. -/
def fnSeenNewSpec : ChangeSpec := { name := "fnSeenNew", fn := fun _ => fun
  | [d] => { results := [.lit (.bool true)], args := [d] }
  | _ => none }
def fnSeenNewRow : OpenClaim := { program := "ytcjabomcndahbaa", sum := "70bc425b2810961765f4753463df59a40d49fe1826629f95925d083eba42c2f9", func := "loop.example/capturemonitor/laws.FnSeenNew", spec := "fnSeenNew", unfollowed := true, recurses := true, apart := false }
def FnSeenNewSaid : Prop := fnSeenNewRow.holds Try.pinned (OpenSpec.ofChange fnSeenNewSpec)

/-- ITS FALSE NEIGHBOUR: 'it returns false'. Refute it at one input. -/
def fnSeenNewWrong : ChangeSpec := { name := "fnSeenNew", fn := fun _ => fun
  | [d] => { results := [.lit (.bool false)], args := [d] }
  | _ => none }
def FnSeenNewWrongFalsely : Prop := fnSeenNewRow.holds Try.pinned (OpenSpec.ofChange fnSeenNewWrong)

/-- 'laws.FnSeenNewBad': WHATEVER THE INPUT: true; the input reads as it did. -/
def fnSeenNewBadSpec : ChangeSpec := { name := "fnSeenNewBad", fn := fun _ => fun
  | [d] => { results := [.lit (.bool true)], args := [d] }
  | _ => none }
def fnSeenNewBadRow : OpenClaim := { program := "ytcjabomcndahbaa", sum := "70bc425b2810961765f4753463df59a40d49fe1826629f95925d083eba42c2f9", func := "loop.example/capturemonitor/laws.FnSeenNewBad", spec := "fnSeenNewBad", apart := false }
def FnSeenNewBadSaid : Prop := fnSeenNewBadRow.holds Try.pinned (OpenSpec.ofChange fnSeenNewBadSpec)

/-- ITS FALSE NEIGHBOUR: 'it returns false'. Refute it at one input. -/
def fnSeenNewBadWrong : ChangeSpec := { name := "fnSeenNewBad", fn := fun _ => fun
  | [d] => { results := [.lit (.bool false)], args := [d] }
  | _ => none }
def FnSeenNewBadWrongFalsely : Prop := fnSeenNewBadRow.holds Try.pinned (OpenSpec.ofChange fnSeenNewBadWrong)

/-- 'laws.FnSeenHas': WHATEVER THE INPUT: true; the input reads as it did. -/
def fnSeenHasSpec : ChangeSpec := { name := "fnSeenHas", fn := fun _ => fun
  | [d] => { results := [.lit (.bool true)], args := [d] }
  | _ => none }
def fnSeenHasRow : OpenClaim := { program := "ytcjabomcndahbaa", sum := "70bc425b2810961765f4753463df59a40d49fe1826629f95925d083eba42c2f9", func := "loop.example/capturemonitor/laws.FnSeenHas", spec := "fnSeenHas", unfollowed := true, recurses := true, apart := false }
def FnSeenHasSaid : Prop := fnSeenHasRow.holds Try.pinned (OpenSpec.ofChange fnSeenHasSpec)

/-- ITS FALSE NEIGHBOUR: 'it returns false'. Refute it at one input. -/
def fnSeenHasWrong : ChangeSpec := { name := "fnSeenHas", fn := fun _ => fun
  | [d] => { results := [.lit (.bool false)], args := [d] }
  | _ => none }
def FnSeenHasWrongFalsely : Prop := fnSeenHasRow.holds Try.pinned (OpenSpec.ofChange fnSeenHasWrong)

/-- 'laws.FnSeenSack': WHATEVER THE INPUT: true; the input reads as it did. -/
def fnSeenSackSpec : ChangeSpec := { name := "fnSeenSack", fn := fun _ => fun
  | [d] => { results := [.lit (.bool true)], args := [d] }
  | _ => none }
def fnSeenSackRow : OpenClaim := { program := "ytcjabomcndahbaa", sum := "70bc425b2810961765f4753463df59a40d49fe1826629f95925d083eba42c2f9", func := "loop.example/capturemonitor/laws.FnSeenSack", spec := "fnSeenSack", unfollowed := true, recurses := true, apart := false }
def FnSeenSackSaid : Prop := fnSeenSackRow.holds Try.pinned (OpenSpec.ofChange fnSeenSackSpec)

/-- ITS FALSE NEIGHBOUR: 'it returns false'. Refute it at one input. -/
def fnSeenSackWrong : ChangeSpec := { name := "fnSeenSack", fn := fun _ => fun
  | [d] => { results := [.lit (.bool false)], args := [d] }
  | _ => none }
def FnSeenSackWrongFalsely : Prop := fnSeenSackRow.holds Try.pinned (OpenSpec.ofChange fnSeenSackWrong)

/-- 'laws.FnSeenSackBack': WHATEVER THE INPUT: true; the input reads as it did. -/
def fnSeenSackBackSpec : ChangeSpec := { name := "fnSeenSackBack", fn := fun _ => fun
  | [d] => { results := [.lit (.bool true)], args := [d] }
  | _ => none }
def fnSeenSackBackRow : OpenClaim := { program := "ytcjabomcndahbaa", sum := "70bc425b2810961765f4753463df59a40d49fe1826629f95925d083eba42c2f9", func := "loop.example/capturemonitor/laws.FnSeenSackBack", spec := "fnSeenSackBack", apart := false }
def FnSeenSackBackSaid : Prop := fnSeenSackBackRow.holds Try.pinned (OpenSpec.ofChange fnSeenSackBackSpec)

/-- ITS FALSE NEIGHBOUR: 'it returns false'. Refute it at one input. -/
def fnSeenSackBackWrong : ChangeSpec := { name := "fnSeenSackBack", fn := fun _ => fun
  | [d] => { results := [.lit (.bool false)], args := [d] }
  | _ => none }
def FnSeenSackBackWrongFalsely : Prop := fnSeenSackBackRow.holds Try.pinned (OpenSpec.ofChange fnSeenSackBackWrong)

/-- 'laws.FnSackSeen': WHATEVER THE INPUT: true; the input reads as it did. -/
def fnSackSeenSpec : ChangeSpec := { name := "fnSackSeen", fn := fun _ => fun
  | [d] => { results := [.lit (.bool true)], args := [d] }
  | _ => none }
def fnSackSeenRow : OpenClaim := { program := "ytcjabomcndahbaa", sum := "70bc425b2810961765f4753463df59a40d49fe1826629f95925d083eba42c2f9", func := "loop.example/capturemonitor/laws.FnSackSeen", spec := "fnSackSeen", apart := false }
def FnSackSeenSaid : Prop := fnSackSeenRow.holds Try.pinned (OpenSpec.ofChange fnSackSeenSpec)

/-- ITS FALSE NEIGHBOUR: 'it returns false'. Refute it at one input. -/
def fnSackSeenWrong : ChangeSpec := { name := "fnSackSeen", fn := fun _ => fun
  | [d] => { results := [.lit (.bool false)], args := [d] }
  | _ => none }
def FnSackSeenWrongFalsely : Prop := fnSackSeenRow.holds Try.pinned (OpenSpec.ofChange fnSackSeenWrong)

/-- 'laws.FnSeenPart': WHATEVER THE INPUT: true; the input reads as it did. -/
def fnSeenPartSpec : ChangeSpec := { name := "fnSeenPart", fn := fun _ => fun
  | [d1, d2] => { results := [.lit (.bool true)], args := [d1, d2] }
  | _ => none }
def fnSeenPartRow : OpenClaim := { program := "ytcjabomcndahbaa", sum := "70bc425b2810961765f4753463df59a40d49fe1826629f95925d083eba42c2f9", func := "loop.example/capturemonitor/laws.FnSeenPart", spec := "fnSeenPart", apart := false }
def FnSeenPartSaid : Prop := fnSeenPartRow.holds Try.pinned (OpenSpec.ofChange fnSeenPartSpec)

/-- ITS FALSE NEIGHBOUR: 'it returns false'. Refute it at one input. -/
def fnSeenPartWrong : ChangeSpec := { name := "fnSeenPart", fn := fun _ => fun
  | [d1, d2] => { results := [.lit (.bool false)], args := [d1, d2] }
  | _ => none }
def FnSeenPartWrongFalsely : Prop := fnSeenPartRow.holds Try.pinned (OpenSpec.ofChange fnSeenPartWrong)

/-- 'laws.FnExactSeenValid': WHATEVER THE INPUT: true; the input reads as it did. -/
def fnExactSeenValidSpec : ChangeSpec := { name := "fnExactSeenValid", fn := fun _ => fun
  | [d] => { results := [.lit (.bool true)], args := [d] }
  | _ => none }
def fnExactSeenValidRow : OpenClaim := { program := "ytcjabomcndahbaa", sum := "70bc425b2810961765f4753463df59a40d49fe1826629f95925d083eba42c2f9", func := "loop.example/capturemonitor/laws.FnExactSeenValid", spec := "fnExactSeenValid", apart := false }
def FnExactSeenValidSaid : Prop := fnExactSeenValidRow.holds Try.pinned (OpenSpec.ofChange fnExactSeenValidSpec)

/-- ITS FALSE NEIGHBOUR: 'it returns false'. Refute it at one input. -/
def fnExactSeenValidWrong : ChangeSpec := { name := "fnExactSeenValid", fn := fun _ => fun
  | [d] => { results := [.lit (.bool false)], args := [d] }
  | _ => none }
def FnExactSeenValidWrongFalsely : Prop := fnExactSeenValidRow.holds Try.pinned (OpenSpec.ofChange fnExactSeenValidWrong)

/-- 'laws.FnExactSeenNew': WHATEVER THE INPUT: true; the input reads as it did. -/
def fnExactSeenNewSpec : ChangeSpec := { name := "fnExactSeenNew", fn := fun _ => fun
  | [d] => { results := [.lit (.bool true)], args := [d] }
  | _ => none }
def fnExactSeenNewRow : OpenClaim := { program := "ytcjabomcndahbaa", sum := "70bc425b2810961765f4753463df59a40d49fe1826629f95925d083eba42c2f9", func := "loop.example/capturemonitor/laws.FnExactSeenNew", spec := "fnExactSeenNew", apart := false }
def FnExactSeenNewSaid : Prop := fnExactSeenNewRow.holds Try.pinned (OpenSpec.ofChange fnExactSeenNewSpec)

/-- ITS FALSE NEIGHBOUR: 'it returns false'. Refute it at one input. -/
def fnExactSeenNewWrong : ChangeSpec := { name := "fnExactSeenNew", fn := fun _ => fun
  | [d] => { results := [.lit (.bool false)], args := [d] }
  | _ => none }
def FnExactSeenNewWrongFalsely : Prop := fnExactSeenNewRow.holds Try.pinned (OpenSpec.ofChange fnExactSeenNewWrong)

/-- 'laws.FnExactSeenHas': WHATEVER THE INPUT: true; the input reads as it did. -/
def fnExactSeenHasSpec : ChangeSpec := { name := "fnExactSeenHas", fn := fun _ => fun
  | [d1, d2] => { results := [.lit (.bool true)], args := [d1, d2] }
  | _ => none }
def fnExactSeenHasRow : OpenClaim := { program := "ytcjabomcndahbaa", sum := "70bc425b2810961765f4753463df59a40d49fe1826629f95925d083eba42c2f9", func := "loop.example/capturemonitor/laws.FnExactSeenHas", spec := "fnExactSeenHas", unfollowed := true, recurses := true, apart := false }
def FnExactSeenHasSaid : Prop := fnExactSeenHasRow.holds Try.pinned (OpenSpec.ofChange fnExactSeenHasSpec)

/-- ITS FALSE NEIGHBOUR: 'it returns false'. Refute it at one input. -/
def fnExactSeenHasWrong : ChangeSpec := { name := "fnExactSeenHas", fn := fun _ => fun
  | [d1, d2] => { results := [.lit (.bool false)], args := [d1, d2] }
  | _ => none }
def FnExactSeenHasWrongFalsely : Prop := fnExactSeenHasRow.holds Try.pinned (OpenSpec.ofChange fnExactSeenHasWrong)

/-- 'laws.FnExactSeenSack': WHATEVER THE INPUT: true; the input reads as it did. -/
def fnExactSeenSackSpec : ChangeSpec := { name := "fnExactSeenSack", fn := fun _ => fun
  | [d] => { results := [.lit (.bool true)], args := [d] }
  | _ => none }
def fnExactSeenSackRow : OpenClaim := { program := "ytcjabomcndahbaa", sum := "70bc425b2810961765f4753463df59a40d49fe1826629f95925d083eba42c2f9", func := "loop.example/capturemonitor/laws.FnExactSeenSack", spec := "fnExactSeenSack", apart := false }
def FnExactSeenSackSaid : Prop := fnExactSeenSackRow.holds Try.pinned (OpenSpec.ofChange fnExactSeenSackSpec)

/-- ITS FALSE NEIGHBOUR: 'it returns false'. Refute it at one input. -/
def fnExactSeenSackWrong : ChangeSpec := { name := "fnExactSeenSack", fn := fun _ => fun
  | [d] => { results := [.lit (.bool false)], args := [d] }
  | _ => none }
def FnExactSeenSackWrongFalsely : Prop := fnExactSeenSackRow.holds Try.pinned (OpenSpec.ofChange fnExactSeenSackWrong)

/-- 'laws.FnExactSackSeen': WHATEVER THE INPUT: true; the input reads as it did. -/
def fnExactSackSeenSpec : ChangeSpec := { name := "fnExactSackSeen", fn := fun _ => fun
  | [d] => { results := [.lit (.bool true)], args := [d] }
  | _ => none }
def fnExactSackSeenRow : OpenClaim := { program := "ytcjabomcndahbaa", sum := "70bc425b2810961765f4753463df59a40d49fe1826629f95925d083eba42c2f9", func := "loop.example/capturemonitor/laws.FnExactSackSeen", spec := "fnExactSackSeen", apart := false }
def FnExactSackSeenSaid : Prop := fnExactSackSeenRow.holds Try.pinned (OpenSpec.ofChange fnExactSackSeenSpec)

/-- ITS FALSE NEIGHBOUR: 'it returns false'. Refute it at one input. -/
def fnExactSackSeenWrong : ChangeSpec := { name := "fnExactSackSeen", fn := fun _ => fun
  | [d] => { results := [.lit (.bool false)], args := [d] }
  | _ => none }
def FnExactSackSeenWrongFalsely : Prop := fnExactSackSeenRow.holds Try.pinned (OpenSpec.ofChange fnExactSackSeenWrong)

/- THE SECOND FORM. 'bulk': how many values and letters a reading holds, each counted each time it is reached (what is shared counts as often as it is met; a slice's spare places count too). A statement '..UptoSaid' is the law's where the arguments, and the package variables that the reading takes, are together of bulk at most 1048576: NARROWER than '..Said'. Prove '..Said' where nothing that the law and all that it calls make is longer than what came in: it says more and counts as full. Else prove '..UptoSaid'. A law counts once. -/
mutual
def uptoBulk {H : Type} : DataW H → Nat
  | .lit (.string bytes) => bytes.length + 1
  | .lit _ => 1
  | .nil => 1
  | .ptr d => uptoBulk d + 1
  | .slice elems spare => uptoBulkAll elems + uptoBulkAll spare + 1
  | .agg parts => uptoBulkAll parts + 1
  | .iface _ d => uptoBulk d + 1
  | .map entries => uptoBulkEntries entries + 1
  | .held _ => 1
def uptoBulkAll {H : Type} : List (DataW H) → Nat
  | [] => 0
  | d :: r => uptoBulk d + uptoBulkAll r
def uptoBulkEntries {H : Type} : List (Lit × DataW H) → Nat
  | [] => 0
  | x :: r => uptoBulkEntry x + uptoBulkEntries r
def uptoBulkEntry {H : Type} : Lit × DataW H → Nat
  | (.string bytes, d) => bytes.length + uptoBulk d + 1
  | (_, d) => uptoBulk d + 1
 end
def uptoSmall : (H : Type) → List (DataW H) → Bool := fun _ ds => decide (uptoBulkAll ds ≤ 1048576)
def OpenSpec.upto (s : _root_.Go.ChangeSpec) : _root_.Go.OpenSpec := { _root_.Go.OpenSpec.ofChange s with cond := some uptoSmall }

/-- 'laws.FnSeenNew', WHERE WHAT IT READS IS OF BULK AT MOST 1048576: true; the input reads as it did. -/
def fnSeenNewUptoRow : OpenClaim := { program := "ytcjabomcndahbaa", sum := "70bc425b2810961765f4753463df59a40d49fe1826629f95925d083eba42c2f9", func := "loop.example/capturemonitor/laws.FnSeenNew", spec := "fnSeenNew", unfollowed := true, recurses := true, apart := false, narrowed := true }
def FnSeenNewUptoSaid : Prop := fnSeenNewUptoRow.holds Try.pinned (OpenSpec.upto fnSeenNewSpec)

/-- 'laws.FnSeenNewBad', WHERE WHAT IT READS IS OF BULK AT MOST 1048576: true; the input reads as it did. -/
def fnSeenNewBadUptoRow : OpenClaim := { program := "ytcjabomcndahbaa", sum := "70bc425b2810961765f4753463df59a40d49fe1826629f95925d083eba42c2f9", func := "loop.example/capturemonitor/laws.FnSeenNewBad", spec := "fnSeenNewBad", apart := false, narrowed := true }
def FnSeenNewBadUptoSaid : Prop := fnSeenNewBadUptoRow.holds Try.pinned (OpenSpec.upto fnSeenNewBadSpec)

/-- 'laws.FnSeenHas', WHERE WHAT IT READS IS OF BULK AT MOST 1048576: true; the input reads as it did. -/
def fnSeenHasUptoRow : OpenClaim := { program := "ytcjabomcndahbaa", sum := "70bc425b2810961765f4753463df59a40d49fe1826629f95925d083eba42c2f9", func := "loop.example/capturemonitor/laws.FnSeenHas", spec := "fnSeenHas", unfollowed := true, recurses := true, apart := false, narrowed := true }
def FnSeenHasUptoSaid : Prop := fnSeenHasUptoRow.holds Try.pinned (OpenSpec.upto fnSeenHasSpec)

/-- 'laws.FnSeenSack', WHERE WHAT IT READS IS OF BULK AT MOST 1048576: true; the input reads as it did. -/
def fnSeenSackUptoRow : OpenClaim := { program := "ytcjabomcndahbaa", sum := "70bc425b2810961765f4753463df59a40d49fe1826629f95925d083eba42c2f9", func := "loop.example/capturemonitor/laws.FnSeenSack", spec := "fnSeenSack", unfollowed := true, recurses := true, apart := false, narrowed := true }
def FnSeenSackUptoSaid : Prop := fnSeenSackUptoRow.holds Try.pinned (OpenSpec.upto fnSeenSackSpec)

/-- 'laws.FnSeenSackBack', WHERE WHAT IT READS IS OF BULK AT MOST 1048576: true; the input reads as it did. -/
def fnSeenSackBackUptoRow : OpenClaim := { program := "ytcjabomcndahbaa", sum := "70bc425b2810961765f4753463df59a40d49fe1826629f95925d083eba42c2f9", func := "loop.example/capturemonitor/laws.FnSeenSackBack", spec := "fnSeenSackBack", apart := false, narrowed := true }
def FnSeenSackBackUptoSaid : Prop := fnSeenSackBackUptoRow.holds Try.pinned (OpenSpec.upto fnSeenSackBackSpec)

/-- 'laws.FnSackSeen', WHERE WHAT IT READS IS OF BULK AT MOST 1048576: true; the input reads as it did. -/
def fnSackSeenUptoRow : OpenClaim := { program := "ytcjabomcndahbaa", sum := "70bc425b2810961765f4753463df59a40d49fe1826629f95925d083eba42c2f9", func := "loop.example/capturemonitor/laws.FnSackSeen", spec := "fnSackSeen", apart := false, narrowed := true }
def FnSackSeenUptoSaid : Prop := fnSackSeenUptoRow.holds Try.pinned (OpenSpec.upto fnSackSeenSpec)

/-- 'laws.FnSeenPart', WHERE WHAT IT READS IS OF BULK AT MOST 1048576: true; the input reads as it did. -/
def fnSeenPartUptoRow : OpenClaim := { program := "ytcjabomcndahbaa", sum := "70bc425b2810961765f4753463df59a40d49fe1826629f95925d083eba42c2f9", func := "loop.example/capturemonitor/laws.FnSeenPart", spec := "fnSeenPart", apart := false, narrowed := true }
def FnSeenPartUptoSaid : Prop := fnSeenPartUptoRow.holds Try.pinned (OpenSpec.upto fnSeenPartSpec)

/-- 'laws.FnExactSeenValid', WHERE WHAT IT READS IS OF BULK AT MOST 1048576: true; the input reads as it did. -/
def fnExactSeenValidUptoRow : OpenClaim := { program := "ytcjabomcndahbaa", sum := "70bc425b2810961765f4753463df59a40d49fe1826629f95925d083eba42c2f9", func := "loop.example/capturemonitor/laws.FnExactSeenValid", spec := "fnExactSeenValid", apart := false, narrowed := true }
def FnExactSeenValidUptoSaid : Prop := fnExactSeenValidUptoRow.holds Try.pinned (OpenSpec.upto fnExactSeenValidSpec)

/-- 'laws.FnExactSeenNew', WHERE WHAT IT READS IS OF BULK AT MOST 1048576: true; the input reads as it did. -/
def fnExactSeenNewUptoRow : OpenClaim := { program := "ytcjabomcndahbaa", sum := "70bc425b2810961765f4753463df59a40d49fe1826629f95925d083eba42c2f9", func := "loop.example/capturemonitor/laws.FnExactSeenNew", spec := "fnExactSeenNew", apart := false, narrowed := true }
def FnExactSeenNewUptoSaid : Prop := fnExactSeenNewUptoRow.holds Try.pinned (OpenSpec.upto fnExactSeenNewSpec)

/-- 'laws.FnExactSeenHas', WHERE WHAT IT READS IS OF BULK AT MOST 1048576: true; the input reads as it did. -/
def fnExactSeenHasUptoRow : OpenClaim := { program := "ytcjabomcndahbaa", sum := "70bc425b2810961765f4753463df59a40d49fe1826629f95925d083eba42c2f9", func := "loop.example/capturemonitor/laws.FnExactSeenHas", spec := "fnExactSeenHas", unfollowed := true, recurses := true, apart := false, narrowed := true }
def FnExactSeenHasUptoSaid : Prop := fnExactSeenHasUptoRow.holds Try.pinned (OpenSpec.upto fnExactSeenHasSpec)

/-- 'laws.FnExactSeenSack', WHERE WHAT IT READS IS OF BULK AT MOST 1048576: true; the input reads as it did. -/
def fnExactSeenSackUptoRow : OpenClaim := { program := "ytcjabomcndahbaa", sum := "70bc425b2810961765f4753463df59a40d49fe1826629f95925d083eba42c2f9", func := "loop.example/capturemonitor/laws.FnExactSeenSack", spec := "fnExactSeenSack", apart := false, narrowed := true }
def FnExactSeenSackUptoSaid : Prop := fnExactSeenSackUptoRow.holds Try.pinned (OpenSpec.upto fnExactSeenSackSpec)

/-- 'laws.FnExactSackSeen', WHERE WHAT IT READS IS OF BULK AT MOST 1048576: true; the input reads as it did. -/
def fnExactSackSeenUptoRow : OpenClaim := { program := "ytcjabomcndahbaa", sum := "70bc425b2810961765f4753463df59a40d49fe1826629f95925d083eba42c2f9", func := "loop.example/capturemonitor/laws.FnExactSackSeen", spec := "fnExactSackSeen", apart := false, narrowed := true }
def FnExactSackSeenUptoSaid : Prop := fnExactSackSeenUptoRow.holds Try.pinned (OpenSpec.upto fnExactSackSeenSpec)

end Rows
end Go.Proofs.Ytcjabomcndahbaa
