/-
  No cell of these rows narrows 'for every input' (looked for: loops, veiled, ifaces, maps, wideKeys, modest, calm, conditions, laid).
  DERIVED. THE GIVEN ROWS OF THIS SEAT. 8 by the template 'for every input the law returns true; each argument reads behind the call as it read before'; 0 by the template 'total and deterministic' (their statements: YtcjabomcndahbabTotals.lean).
  GIVEN WITH THE SEED: the statements are not yours to turn. If you find one false, say at which input.
  Laid BY PROGRAM, IN A SANDBOX (cutbox-rows.mjs): the forced cells as the released guide's own fill.sh prints them over the translation cc633ca9a6dba203… (all of the seat's roots in one cut). By AI agents, Wed Nov 11 2026. No macro, syntax, notation, axiom, sorry.
-/
import Derived.Test.YtcjabomcndahbabChecked
import GoSem.Claim
import GoSem.ClaimJoined
import GoSem.ClaimMapViews
import Derived.JoinedTies
import Derived.KernelRfl
namespace Go.Proofs.Ytcjabomcndahbab
/- THE CELL 'sum', in the pinned program and in every row, IS THE sha256 OF THE DUMP (.gsa) THAT YtcjabomcndahbabProg.lean LOADS. Nothing in Lean hashes anything: it is a label: what it is worth is what the hold of that sum in a sandbox is worth. -/
noncomputable def Try.pinned : Pinned := { name := "ytcjabomcndahbab", sum := "cc633ca9a6dba20352a823bb8b3c9c7be9831f45f0f00344575d9b555965f522", checked := Try.checked }
namespace Rows
def none {H : Type} : Left H := { results := [], args := [] }

/-- 'laws.FnSeenAdd': WHATEVER THE INPUT: true; the input reads as it did. -/
def fnSeenAddSpec : ChangeSpec := { name := "fnSeenAdd", fn := fun _ => fun
  | [d] => { results := [.lit (.bool true)], args := [d] }
  | _ => none }
def fnSeenAddRow : OpenClaim := { program := "ytcjabomcndahbab", sum := "cc633ca9a6dba20352a823bb8b3c9c7be9831f45f0f00344575d9b555965f522", func := "loop.example/capturemonitor/laws.FnSeenAdd", spec := "fnSeenAdd", unfollowed := true, recurses := true, apart := false }
def FnSeenAddSaid : Prop := fnSeenAddRow.holds Try.pinned (OpenSpec.ofChange fnSeenAddSpec)

/-- ITS FALSE NEIGHBOUR: 'it returns false'. Refute it at one input. -/
def fnSeenAddWrong : ChangeSpec := { name := "fnSeenAdd", fn := fun _ => fun
  | [d] => { results := [.lit (.bool false)], args := [d] }
  | _ => none }
def FnSeenAddWrongFalsely : Prop := fnSeenAddRow.holds Try.pinned (OpenSpec.ofChange fnSeenAddWrong)

/-- 'laws.FnSeenAddTwice': WHATEVER THE INPUT: true; the input reads as it did. -/
def fnSeenAddTwiceSpec : ChangeSpec := { name := "fnSeenAddTwice", fn := fun _ => fun
  | [d] => { results := [.lit (.bool true)], args := [d] }
  | _ => none }
def fnSeenAddTwiceRow : OpenClaim := { program := "ytcjabomcndahbab", sum := "cc633ca9a6dba20352a823bb8b3c9c7be9831f45f0f00344575d9b555965f522", func := "loop.example/capturemonitor/laws.FnSeenAddTwice", spec := "fnSeenAddTwice", unfollowed := true, recurses := true, apart := false }
def FnSeenAddTwiceSaid : Prop := fnSeenAddTwiceRow.holds Try.pinned (OpenSpec.ofChange fnSeenAddTwiceSpec)

/-- ITS FALSE NEIGHBOUR: 'it returns false'. Refute it at one input. -/
def fnSeenAddTwiceWrong : ChangeSpec := { name := "fnSeenAddTwice", fn := fun _ => fun
  | [d] => { results := [.lit (.bool false)], args := [d] }
  | _ => none }
def FnSeenAddTwiceWrongFalsely : Prop := fnSeenAddTwiceRow.holds Try.pinned (OpenSpec.ofChange fnSeenAddTwiceWrong)

/-- 'laws.FnSeenAddOthers': WHATEVER THE INPUT: true; the input reads as it did. -/
def fnSeenAddOthersSpec : ChangeSpec := { name := "fnSeenAddOthers", fn := fun _ => fun
  | [d] => { results := [.lit (.bool true)], args := [d] }
  | _ => none }
def fnSeenAddOthersRow : OpenClaim := { program := "ytcjabomcndahbab", sum := "cc633ca9a6dba20352a823bb8b3c9c7be9831f45f0f00344575d9b555965f522", func := "loop.example/capturemonitor/laws.FnSeenAddOthers", spec := "fnSeenAddOthers", unfollowed := true, recurses := true, apart := false }
def FnSeenAddOthersSaid : Prop := fnSeenAddOthersRow.holds Try.pinned (OpenSpec.ofChange fnSeenAddOthersSpec)

/-- ITS FALSE NEIGHBOUR: 'it returns false'. Refute it at one input. -/
def fnSeenAddOthersWrong : ChangeSpec := { name := "fnSeenAddOthers", fn := fun _ => fun
  | [d] => { results := [.lit (.bool false)], args := [d] }
  | _ => none }
def FnSeenAddOthersWrongFalsely : Prop := fnSeenAddOthersRow.holds Try.pinned (OpenSpec.ofChange fnSeenAddOthersWrong)

/-- 'laws.FnSeenAddOrder': WHATEVER THE INPUT: true; the input reads as it did. -/
def fnSeenAddOrderSpec : ChangeSpec := { name := "fnSeenAddOrder", fn := fun _ => fun
  | [d1, d2] => { results := [.lit (.bool true)], args := [d1, d2] }
  | _ => none }
def fnSeenAddOrderRow : OpenClaim := { program := "ytcjabomcndahbab", sum := "cc633ca9a6dba20352a823bb8b3c9c7be9831f45f0f00344575d9b555965f522", func := "loop.example/capturemonitor/laws.FnSeenAddOrder", spec := "fnSeenAddOrder", unfollowed := true, recurses := true, apart := false }
def FnSeenAddOrderSaid : Prop := fnSeenAddOrderRow.holds Try.pinned (OpenSpec.ofChange fnSeenAddOrderSpec)

/-- ITS FALSE NEIGHBOUR: 'it returns false'. Refute it at one input. -/
def fnSeenAddOrderWrong : ChangeSpec := { name := "fnSeenAddOrder", fn := fun _ => fun
  | [d1, d2] => { results := [.lit (.bool false)], args := [d1, d2] }
  | _ => none }
def FnSeenAddOrderWrongFalsely : Prop := fnSeenAddOrderRow.holds Try.pinned (OpenSpec.ofChange fnSeenAddOrderWrong)

/-- 'laws.FnSeenAddNext': WHATEVER THE INPUT: true; the input reads as it did. -/
def fnSeenAddNextSpec : ChangeSpec := { name := "fnSeenAddNext", fn := fun _ => fun
  | [d] => { results := [.lit (.bool true)], args := [d] }
  | _ => none }
def fnSeenAddNextRow : OpenClaim := { program := "ytcjabomcndahbab", sum := "cc633ca9a6dba20352a823bb8b3c9c7be9831f45f0f00344575d9b555965f522", func := "loop.example/capturemonitor/laws.FnSeenAddNext", spec := "fnSeenAddNext", unfollowed := true, recurses := true, apart := false }
def FnSeenAddNextSaid : Prop := fnSeenAddNextRow.holds Try.pinned (OpenSpec.ofChange fnSeenAddNextSpec)

/-- ITS FALSE NEIGHBOUR: 'it returns false'. Refute it at one input. -/
def fnSeenAddNextWrong : ChangeSpec := { name := "fnSeenAddNext", fn := fun _ => fun
  | [d] => { results := [.lit (.bool false)], args := [d] }
  | _ => none }
def FnSeenAddNextWrongFalsely : Prop := fnSeenAddNextRow.holds Try.pinned (OpenSpec.ofChange fnSeenAddNextWrong)

/-- 'laws.FnSeenAddFar': WHATEVER THE INPUT: true; the input reads as it did. -/
def fnSeenAddFarSpec : ChangeSpec := { name := "fnSeenAddFar", fn := fun _ => fun
  | [d] => { results := [.lit (.bool true)], args := [d] }
  | _ => none }
def fnSeenAddFarRow : OpenClaim := { program := "ytcjabomcndahbab", sum := "cc633ca9a6dba20352a823bb8b3c9c7be9831f45f0f00344575d9b555965f522", func := "loop.example/capturemonitor/laws.FnSeenAddFar", spec := "fnSeenAddFar", unfollowed := true, recurses := true, apart := false }
def FnSeenAddFarSaid : Prop := fnSeenAddFarRow.holds Try.pinned (OpenSpec.ofChange fnSeenAddFarSpec)

/-- ITS FALSE NEIGHBOUR: 'it returns false'. Refute it at one input. -/
def fnSeenAddFarWrong : ChangeSpec := { name := "fnSeenAddFar", fn := fun _ => fun
  | [d] => { results := [.lit (.bool false)], args := [d] }
  | _ => none }
def FnSeenAddFarWrongFalsely : Prop := fnSeenAddFarRow.holds Try.pinned (OpenSpec.ofChange fnSeenAddFarWrong)

/-- 'laws.FnSeenAddOld': WHATEVER THE INPUT: true; the input reads as it did. -/
def fnSeenAddOldSpec : ChangeSpec := { name := "fnSeenAddOld", fn := fun _ => fun
  | [d] => { results := [.lit (.bool true)], args := [d] }
  | _ => none }
def fnSeenAddOldRow : OpenClaim := { program := "ytcjabomcndahbab", sum := "cc633ca9a6dba20352a823bb8b3c9c7be9831f45f0f00344575d9b555965f522", func := "loop.example/capturemonitor/laws.FnSeenAddOld", spec := "fnSeenAddOld", unfollowed := true, recurses := true, apart := false }
def FnSeenAddOldSaid : Prop := fnSeenAddOldRow.holds Try.pinned (OpenSpec.ofChange fnSeenAddOldSpec)

/-- ITS FALSE NEIGHBOUR: 'it returns false'. Refute it at one input. -/
def fnSeenAddOldWrong : ChangeSpec := { name := "fnSeenAddOld", fn := fun _ => fun
  | [d] => { results := [.lit (.bool false)], args := [d] }
  | _ => none }
def FnSeenAddOldWrongFalsely : Prop := fnSeenAddOldRow.holds Try.pinned (OpenSpec.ofChange fnSeenAddOldWrong)

/-- 'laws.FnExactSeenAdd': WHATEVER THE INPUT: true; the input reads as it did. -/
def fnExactSeenAddSpec : ChangeSpec := { name := "fnExactSeenAdd", fn := fun _ => fun
  | [d1, d2] => { results := [.lit (.bool true)], args := [d1, d2] }
  | _ => none }
def fnExactSeenAddRow : OpenClaim := { program := "ytcjabomcndahbab", sum := "cc633ca9a6dba20352a823bb8b3c9c7be9831f45f0f00344575d9b555965f522", func := "loop.example/capturemonitor/laws.FnExactSeenAdd", spec := "fnExactSeenAdd", unfollowed := true, recurses := true, apart := false }
def FnExactSeenAddSaid : Prop := fnExactSeenAddRow.holds Try.pinned (OpenSpec.ofChange fnExactSeenAddSpec)

/-- ITS FALSE NEIGHBOUR: 'it returns false'. Refute it at one input. -/
def fnExactSeenAddWrong : ChangeSpec := { name := "fnExactSeenAdd", fn := fun _ => fun
  | [d1, d2] => { results := [.lit (.bool false)], args := [d1, d2] }
  | _ => none }
def FnExactSeenAddWrongFalsely : Prop := fnExactSeenAddRow.holds Try.pinned (OpenSpec.ofChange fnExactSeenAddWrong)

/- THE SECOND FORM. 'bulk': how many values and letters a reading holds, each counted each time it is reached (what is shared counts as often as it is met; a slice's spare places count too). A statement '..UptoSaid' is the law's where the arguments, and the package variables that the reading takes, are together of bulk at most 1048576: NARROWER than '..Said'. Prove '..Said' where nothing that the law and all that it calls make is longer than what came in: it says more and counts as full. Else prove '..UptoSaid'. A law counts once. -/
mutual
def uptoBulk {H : Type} : DataW H → Nat
  | .lit (.string bytes) => bytes.length + 1
  | .lit _ => 1
  | .nil => 1
  | .ptr d => uptoBulk d + 1
  | .slice elems spare => uptoBulkAll elems + uptoBulkAll spare + 1
  | .agg parts => uptoBulkAll parts + 1
  | .iface _ d => uptoBulk d + 1
  | .map entries => uptoBulkEntries entries + 1
  | .held _ => 1
def uptoBulkAll {H : Type} : List (DataW H) → Nat
  | [] => 0
  | d :: r => uptoBulk d + uptoBulkAll r
def uptoBulkEntries {H : Type} : List (Lit × DataW H) → Nat
  | [] => 0
  | x :: r => uptoBulkEntry x + uptoBulkEntries r
def uptoBulkEntry {H : Type} : Lit × DataW H → Nat
  | (.string bytes, d) => bytes.length + uptoBulk d + 1
  | (_, d) => uptoBulk d + 1
 end
def uptoSmall : (H : Type) → List (DataW H) → Bool := fun _ ds => decide (uptoBulkAll ds ≤ 1048576)
def OpenSpec.upto (s : _root_.Go.ChangeSpec) : _root_.Go.OpenSpec := { _root_.Go.OpenSpec.ofChange s with cond := some uptoSmall }

/-- 'laws.FnSeenAdd', WHERE WHAT IT READS IS OF BULK AT MOST 1048576: true; the input reads as it did. -/
def fnSeenAddUptoRow : OpenClaim := { program := "ytcjabomcndahbab", sum := "cc633ca9a6dba20352a823bb8b3c9c7be9831f45f0f00344575d9b555965f522", func := "loop.example/capturemonitor/laws.FnSeenAdd", spec := "fnSeenAdd", unfollowed := true, recurses := true, apart := false, narrowed := true }
def FnSeenAddUptoSaid : Prop := fnSeenAddUptoRow.holds Try.pinned (OpenSpec.upto fnSeenAddSpec)

/-- 'laws.FnSeenAddTwice', WHERE WHAT IT READS IS OF BULK AT MOST 1048576: true; the input reads as it did. -/
def fnSeenAddTwiceUptoRow : OpenClaim := { program := "ytcjabomcndahbab", sum := "cc633ca9a6dba20352a823bb8b3c9c7be9831f45f0f00344575d9b555965f522", func := "loop.example/capturemonitor/laws.FnSeenAddTwice", spec := "fnSeenAddTwice", unfollowed := true, recurses := true, apart := false, narrowed := true }
def FnSeenAddTwiceUptoSaid : Prop := fnSeenAddTwiceUptoRow.holds Try.pinned (OpenSpec.upto fnSeenAddTwiceSpec)

/-- 'laws.FnSeenAddOthers', WHERE WHAT IT READS IS OF BULK AT MOST 1048576: true; the input reads as it did. -/
def fnSeenAddOthersUptoRow : OpenClaim := { program := "ytcjabomcndahbab", sum := "cc633ca9a6dba20352a823bb8b3c9c7be9831f45f0f00344575d9b555965f522", func := "loop.example/capturemonitor/laws.FnSeenAddOthers", spec := "fnSeenAddOthers", unfollowed := true, recurses := true, apart := false, narrowed := true }
def FnSeenAddOthersUptoSaid : Prop := fnSeenAddOthersUptoRow.holds Try.pinned (OpenSpec.upto fnSeenAddOthersSpec)

/-- 'laws.FnSeenAddOrder', WHERE WHAT IT READS IS OF BULK AT MOST 1048576: true; the input reads as it did. -/
def fnSeenAddOrderUptoRow : OpenClaim := { program := "ytcjabomcndahbab", sum := "cc633ca9a6dba20352a823bb8b3c9c7be9831f45f0f00344575d9b555965f522", func := "loop.example/capturemonitor/laws.FnSeenAddOrder", spec := "fnSeenAddOrder", unfollowed := true, recurses := true, apart := false, narrowed := true }
def FnSeenAddOrderUptoSaid : Prop := fnSeenAddOrderUptoRow.holds Try.pinned (OpenSpec.upto fnSeenAddOrderSpec)

/-- 'laws.FnSeenAddNext', WHERE WHAT IT READS IS OF BULK AT MOST 1048576: true; the input reads as it did. -/
def fnSeenAddNextUptoRow : OpenClaim := { program := "ytcjabomcndahbab", sum := "cc633ca9a6dba20352a823bb8b3c9c7be9831f45f0f00344575d9b555965f522", func := "loop.example/capturemonitor/laws.FnSeenAddNext", spec := "fnSeenAddNext", unfollowed := true, recurses := true, apart := false, narrowed := true }
def FnSeenAddNextUptoSaid : Prop := fnSeenAddNextUptoRow.holds Try.pinned (OpenSpec.upto fnSeenAddNextSpec)

/-- 'laws.FnSeenAddFar', WHERE WHAT IT READS IS OF BULK AT MOST 1048576: true; the input reads as it did. -/
def fnSeenAddFarUptoRow : OpenClaim := { program := "ytcjabomcndahbab", sum := "cc633ca9a6dba20352a823bb8b3c9c7be9831f45f0f00344575d9b555965f522", func := "loop.example/capturemonitor/laws.FnSeenAddFar", spec := "fnSeenAddFar", unfollowed := true, recurses := true, apart := false, narrowed := true }
def FnSeenAddFarUptoSaid : Prop := fnSeenAddFarUptoRow.holds Try.pinned (OpenSpec.upto fnSeenAddFarSpec)

/-- 'laws.FnSeenAddOld', WHERE WHAT IT READS IS OF BULK AT MOST 1048576: true; the input reads as it did. -/
def fnSeenAddOldUptoRow : OpenClaim := { program := "ytcjabomcndahbab", sum := "cc633ca9a6dba20352a823bb8b3c9c7be9831f45f0f00344575d9b555965f522", func := "loop.example/capturemonitor/laws.FnSeenAddOld", spec := "fnSeenAddOld", unfollowed := true, recurses := true, apart := false, narrowed := true }
def FnSeenAddOldUptoSaid : Prop := fnSeenAddOldUptoRow.holds Try.pinned (OpenSpec.upto fnSeenAddOldSpec)

/-- 'laws.FnExactSeenAdd', WHERE WHAT IT READS IS OF BULK AT MOST 1048576: true; the input reads as it did. -/
def fnExactSeenAddUptoRow : OpenClaim := { program := "ytcjabomcndahbab", sum := "cc633ca9a6dba20352a823bb8b3c9c7be9831f45f0f00344575d9b555965f522", func := "loop.example/capturemonitor/laws.FnExactSeenAdd", spec := "fnExactSeenAdd", unfollowed := true, recurses := true, apart := false, narrowed := true }
def FnExactSeenAddUptoSaid : Prop := fnExactSeenAddUptoRow.holds Try.pinned (OpenSpec.upto fnExactSeenAddSpec)

end Rows
end Go.Proofs.Ytcjabomcndahbab
