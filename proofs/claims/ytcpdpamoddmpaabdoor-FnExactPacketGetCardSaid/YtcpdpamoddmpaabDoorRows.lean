/-
  NARROWER THAN 'FOR EVERY INPUT', by the rows' own cells (each row's printed sentence says how): FnPacketPut: ifaces, laid · FnPacketGet: ifaces, laid · FnPacketShort: ifaces, laid · FnPacketByte: ifaces, laid · FnPacketSwap: ifaces, laid · FnPacketCut: ifaces, laid · FnExactPacketGet: ifaces, laid.
  DERIVED. THE GIVEN ROWS OF THIS SEAT. 7 by the template 'for every input the law returns true; each argument reads behind the call as it read before'; 0 by the template 'total and deterministic' (their statements: YtcpdpamoddmpaabDoorTotals.lean).
  GIVEN WITH THE SEED: the statements are not yours to turn. If you find one false, say at which input.
  Laid BY PROGRAM, IN A SANDBOX (cutbox-rows.mjs): the forced cells as the released guide's own fill.sh prints them over the translation 8b8b035096f0db69… (all of the seat's roots in one cut). By AI agents, Wed Nov 11 2026. No macro, syntax, notation, axiom, sorry.
-/
import Derived.Test.YtcpdpamoddmpaabDoorChecked
import GoSem.Claim
import GoSem.ClaimJoined
import GoSem.ClaimMapViews
import Derived.JoinedTies
import Derived.KernelRfl
namespace Go.Proofs.YtcpdpamoddmpaabDoor
/- THE CELL 'sum', in the pinned program and in every row, IS THE sha256 OF THE DUMP (.gsa) THAT YtcpdpamoddmpaabDoorProg.lean LOADS. Nothing in Lean hashes anything: it is a label: what it is worth is what the hold of that sum in a sandbox is worth. -/
noncomputable def Tryd.pinned : Pinned := { name := "ytcpdpamoddmpaabdoor", sum := "8b8b035096f0db69cfdea96e7d47b6ecc66e196a509f57316ca668be10f0b350", checked := Tryd.checked }
namespace Rows
def none {H : Type} : Left H := { results := [], args := [] }

/- WHAT THE LISTED PACKAGE-LEVEL VARIABLES READ AS WHEN THE CALL BEGINS. Each datum BY PROGRAM (the guide's laid-datum.mjs) off the statement by which the dump's own 'gosem.cut.vars' lays the variable. In a bare row this is a premise. The card (YtcpdpamoddmpaabDoorCards.lean) ties it to the program's text. -/
def laid_loop_example_capturemonitor_impl_errPacketShort {H : Type} : DataW H := .iface "*errors.errorString" (.ptr (.agg [.lit (.string [116, 111, 111, 32, 102, 101, 119, 32, 98, 121, 116, 101, 115, 32, 102, 111, 114, 32, 97, 32, 112, 97, 99, 107, 101, 116])]))
def laid_loop_example_capturemonitor_impl_errPacketSum {H : Type} : DataW H := .iface "*errors.errorString" (.ptr (.agg [.lit (.string [116, 104, 101, 32, 99, 104, 101, 99, 107, 115, 117, 109, 32, 111, 102, 32, 116, 104, 101, 32, 112, 97, 99, 107, 101, 116, 32, 105, 115, 32, 119, 114, 111, 110, 103])]))
def laid_loop_example_capturemonitor_impl_errPacketBad {H : Type} : DataW H := .iface "*errors.errorString" (.ptr (.agg [.lit (.string [116, 104, 101, 32, 98, 121, 116, 101, 115, 32, 97, 114, 101, 32, 110, 111, 116, 32, 97, 32, 118, 97, 108, 105, 100, 32, 112, 97, 99, 107, 101, 116])]))

/-- 'laws.FnPacketPut': WHATEVER THE INPUT: true; the input reads as it did. -/
def fnPacketPutSpec : ChangeSpec := { name := "fnPacketPut", vars := ["loop.example/capturemonitor/impl.errPacketShort", "loop.example/capturemonitor/impl.errPacketSum", "loop.example/capturemonitor/impl.errPacketBad"], fn := fun _ => fun
  | [d, g1, g2, g3] => { results := [.lit (.bool true)], args := [d], vars := [g1, g2, g3] }
  | _ => none }
def fnPacketPutRow : OpenClaim := { program := "ytcpdpamoddmpaabdoor", sum := "8b8b035096f0db69cfdea96e7d47b6ecc66e196a509f57316ca668be10f0b350", func := "loop.example/capturemonitor/laws.FnPacketPut", spec := "fnPacketPut", inPlace := ["internal/abi.NoEscape", "internal/bytealg.MakeNoZero", "internal/reflectlite.TypeOf"], unfollowed := true, recurses := true, named := ["loop.example/capturemonitor/impl.errPacketShort", "loop.example/capturemonitor/impl.errPacketSum", "loop.example/capturemonitor/impl.errPacketBad"], ifaces := true, apart := false, laid := [("loop.example/capturemonitor/impl.errPacketShort", laid_loop_example_capturemonitor_impl_errPacketShort), ("loop.example/capturemonitor/impl.errPacketSum", laid_loop_example_capturemonitor_impl_errPacketSum), ("loop.example/capturemonitor/impl.errPacketBad", laid_loop_example_capturemonitor_impl_errPacketBad)] }
def FnPacketPutSaid : Prop := fnPacketPutRow.holds Tryd.pinned (OpenSpec.ofChange fnPacketPutSpec)

/-- ITS FALSE NEIGHBOUR: 'it returns false'. Refute it at one input. -/
def fnPacketPutWrong : ChangeSpec := { name := "fnPacketPut", vars := ["loop.example/capturemonitor/impl.errPacketShort", "loop.example/capturemonitor/impl.errPacketSum", "loop.example/capturemonitor/impl.errPacketBad"], fn := fun _ => fun
  | [d, g1, g2, g3] => { results := [.lit (.bool false)], args := [d], vars := [g1, g2, g3] }
  | _ => none }
def FnPacketPutWrongFalsely : Prop := fnPacketPutRow.holds Tryd.pinned (OpenSpec.ofChange fnPacketPutWrong)

/-- 'laws.FnPacketGet': WHATEVER THE INPUT: true; the input reads as it did. -/
def fnPacketGetSpec : ChangeSpec := { name := "fnPacketGet", vars := ["loop.example/capturemonitor/impl.errPacketShort", "loop.example/capturemonitor/impl.errPacketSum", "loop.example/capturemonitor/impl.errPacketBad"], fn := fun _ => fun
  | [d, g1, g2, g3] => { results := [.lit (.bool true)], args := [d], vars := [g1, g2, g3] }
  | _ => none }
def fnPacketGetRow : OpenClaim := { program := "ytcpdpamoddmpaabdoor", sum := "8b8b035096f0db69cfdea96e7d47b6ecc66e196a509f57316ca668be10f0b350", func := "loop.example/capturemonitor/laws.FnPacketGet", spec := "fnPacketGet", inPlace := ["internal/abi.NoEscape", "internal/bytealg.MakeNoZero", "internal/reflectlite.TypeOf"], unfollowed := true, recurses := true, named := ["loop.example/capturemonitor/impl.errPacketShort", "loop.example/capturemonitor/impl.errPacketSum", "loop.example/capturemonitor/impl.errPacketBad"], ifaces := true, apart := false, laid := [("loop.example/capturemonitor/impl.errPacketShort", laid_loop_example_capturemonitor_impl_errPacketShort), ("loop.example/capturemonitor/impl.errPacketSum", laid_loop_example_capturemonitor_impl_errPacketSum), ("loop.example/capturemonitor/impl.errPacketBad", laid_loop_example_capturemonitor_impl_errPacketBad)] }
def FnPacketGetSaid : Prop := fnPacketGetRow.holds Tryd.pinned (OpenSpec.ofChange fnPacketGetSpec)

/-- ITS FALSE NEIGHBOUR: 'it returns false'. Refute it at one input. -/
def fnPacketGetWrong : ChangeSpec := { name := "fnPacketGet", vars := ["loop.example/capturemonitor/impl.errPacketShort", "loop.example/capturemonitor/impl.errPacketSum", "loop.example/capturemonitor/impl.errPacketBad"], fn := fun _ => fun
  | [d, g1, g2, g3] => { results := [.lit (.bool false)], args := [d], vars := [g1, g2, g3] }
  | _ => none }
def FnPacketGetWrongFalsely : Prop := fnPacketGetRow.holds Tryd.pinned (OpenSpec.ofChange fnPacketGetWrong)

/-- 'laws.FnPacketShort': WHATEVER THE INPUT: true; the input reads as it did. -/
def fnPacketShortSpec : ChangeSpec := { name := "fnPacketShort", vars := ["loop.example/capturemonitor/impl.errPacketShort", "loop.example/capturemonitor/impl.errPacketSum", "loop.example/capturemonitor/impl.errPacketBad"], fn := fun _ => fun
  | [d, g1, g2, g3] => { results := [.lit (.bool true)], args := [d], vars := [g1, g2, g3] }
  | _ => none }
def fnPacketShortRow : OpenClaim := { program := "ytcpdpamoddmpaabdoor", sum := "8b8b035096f0db69cfdea96e7d47b6ecc66e196a509f57316ca668be10f0b350", func := "loop.example/capturemonitor/laws.FnPacketShort", spec := "fnPacketShort", inPlace := ["internal/abi.NoEscape", "internal/bytealg.MakeNoZero", "internal/reflectlite.TypeOf"], unfollowed := true, recurses := true, named := ["loop.example/capturemonitor/impl.errPacketShort", "loop.example/capturemonitor/impl.errPacketSum", "loop.example/capturemonitor/impl.errPacketBad"], ifaces := true, apart := false, laid := [("loop.example/capturemonitor/impl.errPacketShort", laid_loop_example_capturemonitor_impl_errPacketShort), ("loop.example/capturemonitor/impl.errPacketSum", laid_loop_example_capturemonitor_impl_errPacketSum), ("loop.example/capturemonitor/impl.errPacketBad", laid_loop_example_capturemonitor_impl_errPacketBad)] }
def FnPacketShortSaid : Prop := fnPacketShortRow.holds Tryd.pinned (OpenSpec.ofChange fnPacketShortSpec)

/-- ITS FALSE NEIGHBOUR: 'it returns false'. Refute it at one input. -/
def fnPacketShortWrong : ChangeSpec := { name := "fnPacketShort", vars := ["loop.example/capturemonitor/impl.errPacketShort", "loop.example/capturemonitor/impl.errPacketSum", "loop.example/capturemonitor/impl.errPacketBad"], fn := fun _ => fun
  | [d, g1, g2, g3] => { results := [.lit (.bool false)], args := [d], vars := [g1, g2, g3] }
  | _ => none }
def FnPacketShortWrongFalsely : Prop := fnPacketShortRow.holds Tryd.pinned (OpenSpec.ofChange fnPacketShortWrong)

/-- 'laws.FnPacketByte': WHATEVER THE INPUT: true; the input reads as it did. -/
def fnPacketByteSpec : ChangeSpec := { name := "fnPacketByte", vars := ["loop.example/capturemonitor/impl.errPacketShort", "loop.example/capturemonitor/impl.errPacketSum", "loop.example/capturemonitor/impl.errPacketBad"], fn := fun _ => fun
  | [d1, d2, g1, g2, g3] => { results := [.lit (.bool true)], args := [d1, d2], vars := [g1, g2, g3] }
  | _ => none }
def fnPacketByteRow : OpenClaim := { program := "ytcpdpamoddmpaabdoor", sum := "8b8b035096f0db69cfdea96e7d47b6ecc66e196a509f57316ca668be10f0b350", func := "loop.example/capturemonitor/laws.FnPacketByte", spec := "fnPacketByte", inPlace := ["internal/abi.NoEscape", "internal/bytealg.MakeNoZero", "internal/reflectlite.TypeOf"], unfollowed := true, recurses := true, named := ["loop.example/capturemonitor/impl.errPacketShort", "loop.example/capturemonitor/impl.errPacketSum", "loop.example/capturemonitor/impl.errPacketBad"], ifaces := true, apart := false, laid := [("loop.example/capturemonitor/impl.errPacketShort", laid_loop_example_capturemonitor_impl_errPacketShort), ("loop.example/capturemonitor/impl.errPacketSum", laid_loop_example_capturemonitor_impl_errPacketSum), ("loop.example/capturemonitor/impl.errPacketBad", laid_loop_example_capturemonitor_impl_errPacketBad)] }
def FnPacketByteSaid : Prop := fnPacketByteRow.holds Tryd.pinned (OpenSpec.ofChange fnPacketByteSpec)

/-- ITS FALSE NEIGHBOUR: 'it returns false'. Refute it at one input. -/
def fnPacketByteWrong : ChangeSpec := { name := "fnPacketByte", vars := ["loop.example/capturemonitor/impl.errPacketShort", "loop.example/capturemonitor/impl.errPacketSum", "loop.example/capturemonitor/impl.errPacketBad"], fn := fun _ => fun
  | [d1, d2, g1, g2, g3] => { results := [.lit (.bool false)], args := [d1, d2], vars := [g1, g2, g3] }
  | _ => none }
def FnPacketByteWrongFalsely : Prop := fnPacketByteRow.holds Tryd.pinned (OpenSpec.ofChange fnPacketByteWrong)

/-- 'laws.FnPacketSwap': WHATEVER THE INPUT: true; the input reads as it did. -/
def fnPacketSwapSpec : ChangeSpec := { name := "fnPacketSwap", vars := ["loop.example/capturemonitor/impl.errPacketShort", "loop.example/capturemonitor/impl.errPacketSum", "loop.example/capturemonitor/impl.errPacketBad"], fn := fun _ => fun
  | [d1, d2, g1, g2, g3] => { results := [.lit (.bool true)], args := [d1, d2], vars := [g1, g2, g3] }
  | _ => none }
def fnPacketSwapRow : OpenClaim := { program := "ytcpdpamoddmpaabdoor", sum := "8b8b035096f0db69cfdea96e7d47b6ecc66e196a509f57316ca668be10f0b350", func := "loop.example/capturemonitor/laws.FnPacketSwap", spec := "fnPacketSwap", inPlace := ["internal/abi.NoEscape", "internal/bytealg.MakeNoZero", "internal/reflectlite.TypeOf"], unfollowed := true, recurses := true, named := ["loop.example/capturemonitor/impl.errPacketShort", "loop.example/capturemonitor/impl.errPacketSum", "loop.example/capturemonitor/impl.errPacketBad"], ifaces := true, apart := false, laid := [("loop.example/capturemonitor/impl.errPacketShort", laid_loop_example_capturemonitor_impl_errPacketShort), ("loop.example/capturemonitor/impl.errPacketSum", laid_loop_example_capturemonitor_impl_errPacketSum), ("loop.example/capturemonitor/impl.errPacketBad", laid_loop_example_capturemonitor_impl_errPacketBad)] }
def FnPacketSwapSaid : Prop := fnPacketSwapRow.holds Tryd.pinned (OpenSpec.ofChange fnPacketSwapSpec)

/-- ITS FALSE NEIGHBOUR: 'it returns false'. Refute it at one input. -/
def fnPacketSwapWrong : ChangeSpec := { name := "fnPacketSwap", vars := ["loop.example/capturemonitor/impl.errPacketShort", "loop.example/capturemonitor/impl.errPacketSum", "loop.example/capturemonitor/impl.errPacketBad"], fn := fun _ => fun
  | [d1, d2, g1, g2, g3] => { results := [.lit (.bool false)], args := [d1, d2], vars := [g1, g2, g3] }
  | _ => none }
def FnPacketSwapWrongFalsely : Prop := fnPacketSwapRow.holds Tryd.pinned (OpenSpec.ofChange fnPacketSwapWrong)

/-- 'laws.FnPacketCut': WHATEVER THE INPUT: true; the input reads as it did. -/
def fnPacketCutSpec : ChangeSpec := { name := "fnPacketCut", vars := ["loop.example/capturemonitor/impl.errPacketShort", "loop.example/capturemonitor/impl.errPacketSum", "loop.example/capturemonitor/impl.errPacketBad"], fn := fun _ => fun
  | [d, g1, g2, g3] => { results := [.lit (.bool true)], args := [d], vars := [g1, g2, g3] }
  | _ => none }
def fnPacketCutRow : OpenClaim := { program := "ytcpdpamoddmpaabdoor", sum := "8b8b035096f0db69cfdea96e7d47b6ecc66e196a509f57316ca668be10f0b350", func := "loop.example/capturemonitor/laws.FnPacketCut", spec := "fnPacketCut", inPlace := ["internal/abi.NoEscape", "internal/bytealg.MakeNoZero", "internal/reflectlite.TypeOf"], unfollowed := true, recurses := true, named := ["loop.example/capturemonitor/impl.errPacketShort", "loop.example/capturemonitor/impl.errPacketSum", "loop.example/capturemonitor/impl.errPacketBad"], ifaces := true, apart := false, laid := [("loop.example/capturemonitor/impl.errPacketShort", laid_loop_example_capturemonitor_impl_errPacketShort), ("loop.example/capturemonitor/impl.errPacketSum", laid_loop_example_capturemonitor_impl_errPacketSum), ("loop.example/capturemonitor/impl.errPacketBad", laid_loop_example_capturemonitor_impl_errPacketBad)] }
def FnPacketCutSaid : Prop := fnPacketCutRow.holds Tryd.pinned (OpenSpec.ofChange fnPacketCutSpec)

/-- ITS FALSE NEIGHBOUR: 'it returns false'. Refute it at one input. -/
def fnPacketCutWrong : ChangeSpec := { name := "fnPacketCut", vars := ["loop.example/capturemonitor/impl.errPacketShort", "loop.example/capturemonitor/impl.errPacketSum", "loop.example/capturemonitor/impl.errPacketBad"], fn := fun _ => fun
  | [d, g1, g2, g3] => { results := [.lit (.bool false)], args := [d], vars := [g1, g2, g3] }
  | _ => none }
def FnPacketCutWrongFalsely : Prop := fnPacketCutRow.holds Tryd.pinned (OpenSpec.ofChange fnPacketCutWrong)

/-- 'laws.FnExactPacketGet': WHATEVER THE INPUT: true; the input reads as it did. -/
def fnExactPacketGetSpec : ChangeSpec := { name := "fnExactPacketGet", vars := ["loop.example/capturemonitor/impl.errPacketShort", "loop.example/capturemonitor/impl.errPacketSum", "loop.example/capturemonitor/impl.errPacketBad"], fn := fun _ => fun
  | [d, g1, g2, g3] => { results := [.lit (.bool true)], args := [d], vars := [g1, g2, g3] }
  | _ => none }
def fnExactPacketGetRow : OpenClaim := { program := "ytcpdpamoddmpaabdoor", sum := "8b8b035096f0db69cfdea96e7d47b6ecc66e196a509f57316ca668be10f0b350", func := "loop.example/capturemonitor/laws.FnExactPacketGet", spec := "fnExactPacketGet", inPlace := ["internal/abi.NoEscape", "internal/bytealg.MakeNoZero", "internal/reflectlite.TypeOf"], unfollowed := true, recurses := true, named := ["loop.example/capturemonitor/impl.errPacketShort", "loop.example/capturemonitor/impl.errPacketSum", "loop.example/capturemonitor/impl.errPacketBad"], ifaces := true, apart := false, laid := [("loop.example/capturemonitor/impl.errPacketShort", laid_loop_example_capturemonitor_impl_errPacketShort), ("loop.example/capturemonitor/impl.errPacketSum", laid_loop_example_capturemonitor_impl_errPacketSum), ("loop.example/capturemonitor/impl.errPacketBad", laid_loop_example_capturemonitor_impl_errPacketBad)] }
def FnExactPacketGetSaid : Prop := fnExactPacketGetRow.holds Tryd.pinned (OpenSpec.ofChange fnExactPacketGetSpec)

/-- ITS FALSE NEIGHBOUR: 'it returns false'. Refute it at one input. -/
def fnExactPacketGetWrong : ChangeSpec := { name := "fnExactPacketGet", vars := ["loop.example/capturemonitor/impl.errPacketShort", "loop.example/capturemonitor/impl.errPacketSum", "loop.example/capturemonitor/impl.errPacketBad"], fn := fun _ => fun
  | [d, g1, g2, g3] => { results := [.lit (.bool false)], args := [d], vars := [g1, g2, g3] }
  | _ => none }
def FnExactPacketGetWrongFalsely : Prop := fnExactPacketGetRow.holds Tryd.pinned (OpenSpec.ofChange fnExactPacketGetWrong)

/- THE SECOND FORM. 'bulk': how many values and letters a reading holds, each counted each time it is reached (what is shared counts as often as it is met; a slice's spare places count too). A statement '..UptoSaid' is the law's where the arguments, and the package variables that the reading takes, are together of bulk at most 1048576: NARROWER than '..Said'. Prove '..Said' where nothing that the law and all that it calls make is longer than what came in: it says more and counts as full. Else prove '..UptoSaid'. A law counts once. -/
mutual
def uptoBulk {H : Type} : DataW H → Nat
  | .lit (.string bytes) => bytes.length + 1
  | .lit _ => 1
  | .nil => 1
  | .ptr d => uptoBulk d + 1
  | .slice elems spare => uptoBulkAll elems + uptoBulkAll spare + 1
  | .agg parts => uptoBulkAll parts + 1
  | .iface _ d => uptoBulk d + 1
  | .map entries => uptoBulkEntries entries + 1
  | .held _ => 1
def uptoBulkAll {H : Type} : List (DataW H) → Nat
  | [] => 0
  | d :: r => uptoBulk d + uptoBulkAll r
def uptoBulkEntries {H : Type} : List (Lit × DataW H) → Nat
  | [] => 0
  | x :: r => uptoBulkEntry x + uptoBulkEntries r
def uptoBulkEntry {H : Type} : Lit × DataW H → Nat
  | (.string bytes, d) => bytes.length + uptoBulk d + 1
  | (_, d) => uptoBulk d + 1
 end
def uptoSmall : (H : Type) → List (DataW H) → Bool := fun _ ds => decide (uptoBulkAll ds ≤ 1048576)
def OpenSpec.upto (s : _root_.Go.ChangeSpec) : _root_.Go.OpenSpec := { _root_.Go.OpenSpec.ofChange s with cond := some uptoSmall }

/-- 'laws.FnPacketPut', WHERE WHAT IT READS IS OF BULK AT MOST 1048576: true; the input reads as it did. -/
def fnPacketPutUptoRow : OpenClaim := { program := "ytcpdpamoddmpaabdoor", sum := "8b8b035096f0db69cfdea96e7d47b6ecc66e196a509f57316ca668be10f0b350", func := "loop.example/capturemonitor/laws.FnPacketPut", spec := "fnPacketPut", inPlace := ["internal/abi.NoEscape", "internal/bytealg.MakeNoZero", "internal/reflectlite.TypeOf"], unfollowed := true, recurses := true, named := ["loop.example/capturemonitor/impl.errPacketShort", "loop.example/capturemonitor/impl.errPacketSum", "loop.example/capturemonitor/impl.errPacketBad"], ifaces := true, apart := false, laid := [("loop.example/capturemonitor/impl.errPacketShort", laid_loop_example_capturemonitor_impl_errPacketShort), ("loop.example/capturemonitor/impl.errPacketSum", laid_loop_example_capturemonitor_impl_errPacketSum), ("loop.example/capturemonitor/impl.errPacketBad", laid_loop_example_capturemonitor_impl_errPacketBad)], narrowed := true }
def FnPacketPutUptoSaid : Prop := fnPacketPutUptoRow.holds Tryd.pinned (OpenSpec.upto fnPacketPutSpec)

/-- 'laws.FnPacketGet', WHERE WHAT IT READS IS OF BULK AT MOST 1048576: true; the input reads as it did. -/
def fnPacketGetUptoRow : OpenClaim := { program := "ytcpdpamoddmpaabdoor", sum := "8b8b035096f0db69cfdea96e7d47b6ecc66e196a509f57316ca668be10f0b350", func := "loop.example/capturemonitor/laws.FnPacketGet", spec := "fnPacketGet", inPlace := ["internal/abi.NoEscape", "internal/bytealg.MakeNoZero", "internal/reflectlite.TypeOf"], unfollowed := true, recurses := true, named := ["loop.example/capturemonitor/impl.errPacketShort", "loop.example/capturemonitor/impl.errPacketSum", "loop.example/capturemonitor/impl.errPacketBad"], ifaces := true, apart := false, laid := [("loop.example/capturemonitor/impl.errPacketShort", laid_loop_example_capturemonitor_impl_errPacketShort), ("loop.example/capturemonitor/impl.errPacketSum", laid_loop_example_capturemonitor_impl_errPacketSum), ("loop.example/capturemonitor/impl.errPacketBad", laid_loop_example_capturemonitor_impl_errPacketBad)], narrowed := true }
def FnPacketGetUptoSaid : Prop := fnPacketGetUptoRow.holds Tryd.pinned (OpenSpec.upto fnPacketGetSpec)

/-- 'laws.FnPacketShort', WHERE WHAT IT READS IS OF BULK AT MOST 1048576: true; the input reads as it did. -/
def fnPacketShortUptoRow : OpenClaim := { program := "ytcpdpamoddmpaabdoor", sum := "8b8b035096f0db69cfdea96e7d47b6ecc66e196a509f57316ca668be10f0b350", func := "loop.example/capturemonitor/laws.FnPacketShort", spec := "fnPacketShort", inPlace := ["internal/abi.NoEscape", "internal/bytealg.MakeNoZero", "internal/reflectlite.TypeOf"], unfollowed := true, recurses := true, named := ["loop.example/capturemonitor/impl.errPacketShort", "loop.example/capturemonitor/impl.errPacketSum", "loop.example/capturemonitor/impl.errPacketBad"], ifaces := true, apart := false, laid := [("loop.example/capturemonitor/impl.errPacketShort", laid_loop_example_capturemonitor_impl_errPacketShort), ("loop.example/capturemonitor/impl.errPacketSum", laid_loop_example_capturemonitor_impl_errPacketSum), ("loop.example/capturemonitor/impl.errPacketBad", laid_loop_example_capturemonitor_impl_errPacketBad)], narrowed := true }
def FnPacketShortUptoSaid : Prop := fnPacketShortUptoRow.holds Tryd.pinned (OpenSpec.upto fnPacketShortSpec)

/-- 'laws.FnPacketByte', WHERE WHAT IT READS IS OF BULK AT MOST 1048576: true; the input reads as it did. -/
def fnPacketByteUptoRow : OpenClaim := { program := "ytcpdpamoddmpaabdoor", sum := "8b8b035096f0db69cfdea96e7d47b6ecc66e196a509f57316ca668be10f0b350", func := "loop.example/capturemonitor/laws.FnPacketByte", spec := "fnPacketByte", inPlace := ["internal/abi.NoEscape", "internal/bytealg.MakeNoZero", "internal/reflectlite.TypeOf"], unfollowed := true, recurses := true, named := ["loop.example/capturemonitor/impl.errPacketShort", "loop.example/capturemonitor/impl.errPacketSum", "loop.example/capturemonitor/impl.errPacketBad"], ifaces := true, apart := false, laid := [("loop.example/capturemonitor/impl.errPacketShort", laid_loop_example_capturemonitor_impl_errPacketShort), ("loop.example/capturemonitor/impl.errPacketSum", laid_loop_example_capturemonitor_impl_errPacketSum), ("loop.example/capturemonitor/impl.errPacketBad", laid_loop_example_capturemonitor_impl_errPacketBad)], narrowed := true }
def FnPacketByteUptoSaid : Prop := fnPacketByteUptoRow.holds Tryd.pinned (OpenSpec.upto fnPacketByteSpec)

/-- 'laws.FnPacketSwap', WHERE WHAT IT READS IS OF BULK AT MOST 1048576: true; the input reads as it did. -/
def fnPacketSwapUptoRow : OpenClaim := { program := "ytcpdpamoddmpaabdoor", sum := "8b8b035096f0db69cfdea96e7d47b6ecc66e196a509f57316ca668be10f0b350", func := "loop.example/capturemonitor/laws.FnPacketSwap", spec := "fnPacketSwap", inPlace := ["internal/abi.NoEscape", "internal/bytealg.MakeNoZero", "internal/reflectlite.TypeOf"], unfollowed := true, recurses := true, named := ["loop.example/capturemonitor/impl.errPacketShort", "loop.example/capturemonitor/impl.errPacketSum", "loop.example/capturemonitor/impl.errPacketBad"], ifaces := true, apart := false, laid := [("loop.example/capturemonitor/impl.errPacketShort", laid_loop_example_capturemonitor_impl_errPacketShort), ("loop.example/capturemonitor/impl.errPacketSum", laid_loop_example_capturemonitor_impl_errPacketSum), ("loop.example/capturemonitor/impl.errPacketBad", laid_loop_example_capturemonitor_impl_errPacketBad)], narrowed := true }
def FnPacketSwapUptoSaid : Prop := fnPacketSwapUptoRow.holds Tryd.pinned (OpenSpec.upto fnPacketSwapSpec)

/-- 'laws.FnPacketCut', WHERE WHAT IT READS IS OF BULK AT MOST 1048576: true; the input reads as it did. -/
def fnPacketCutUptoRow : OpenClaim := { program := "ytcpdpamoddmpaabdoor", sum := "8b8b035096f0db69cfdea96e7d47b6ecc66e196a509f57316ca668be10f0b350", func := "loop.example/capturemonitor/laws.FnPacketCut", spec := "fnPacketCut", inPlace := ["internal/abi.NoEscape", "internal/bytealg.MakeNoZero", "internal/reflectlite.TypeOf"], unfollowed := true, recurses := true, named := ["loop.example/capturemonitor/impl.errPacketShort", "loop.example/capturemonitor/impl.errPacketSum", "loop.example/capturemonitor/impl.errPacketBad"], ifaces := true, apart := false, laid := [("loop.example/capturemonitor/impl.errPacketShort", laid_loop_example_capturemonitor_impl_errPacketShort), ("loop.example/capturemonitor/impl.errPacketSum", laid_loop_example_capturemonitor_impl_errPacketSum), ("loop.example/capturemonitor/impl.errPacketBad", laid_loop_example_capturemonitor_impl_errPacketBad)], narrowed := true }
def FnPacketCutUptoSaid : Prop := fnPacketCutUptoRow.holds Tryd.pinned (OpenSpec.upto fnPacketCutSpec)

/-- 'laws.FnExactPacketGet', WHERE WHAT IT READS IS OF BULK AT MOST 1048576: true; the input reads as it did. -/
def fnExactPacketGetUptoRow : OpenClaim := { program := "ytcpdpamoddmpaabdoor", sum := "8b8b035096f0db69cfdea96e7d47b6ecc66e196a509f57316ca668be10f0b350", func := "loop.example/capturemonitor/laws.FnExactPacketGet", spec := "fnExactPacketGet", inPlace := ["internal/abi.NoEscape", "internal/bytealg.MakeNoZero", "internal/reflectlite.TypeOf"], unfollowed := true, recurses := true, named := ["loop.example/capturemonitor/impl.errPacketShort", "loop.example/capturemonitor/impl.errPacketSum", "loop.example/capturemonitor/impl.errPacketBad"], ifaces := true, apart := false, laid := [("loop.example/capturemonitor/impl.errPacketShort", laid_loop_example_capturemonitor_impl_errPacketShort), ("loop.example/capturemonitor/impl.errPacketSum", laid_loop_example_capturemonitor_impl_errPacketSum), ("loop.example/capturemonitor/impl.errPacketBad", laid_loop_example_capturemonitor_impl_errPacketBad)], narrowed := true }
def FnExactPacketGetUptoSaid : Prop := fnExactPacketGetUptoRow.holds Tryd.pinned (OpenSpec.upto fnExactPacketGetSpec)

end Rows
end Go.Proofs.YtcpdpamoddmpaabDoor
