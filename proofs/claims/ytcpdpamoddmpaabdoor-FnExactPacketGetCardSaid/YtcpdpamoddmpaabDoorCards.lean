/-
  DERIVED. GIVEN WITH THE SEED: THE CARDS: each row of YtcpdpamoddmpaabDoorRows.lean that lists a variable, with what it lists TIED to the program's text (the seventh form; the later family's looks); each row that meets fmt, with fmt's text TOLD by the authors' own Lean function (tested against real Go, not proved from fmt's source: count such statements apart). THE CARD IS WHAT COUNTS. Prove the row's statement (the work); the ties are given (YtcpdpamoddmpaabDoorTie.lean); close each card by the builder's one call (the guide's Derived/Test/ToyasCard.lean, 'card_holds'). Laid BY PROGRAM, IN A SANDBOX (cutbox-door.mjs). By AI agents, Wed Nov 11 2026. No macro, syntax, notation, axiom, sorry.
-/
import Derived.Test.YtcpdpamoddmpaabDoorRows
import GoSem.ClaimSeven
namespace Go.Proofs.YtcpdpamoddmpaabDoor
namespace Rows

/-- THE TIED CARD OF 'laws.FnPacketPut'. -/
def fnPacketPutCard : Claim7 := { stood := { row := fnPacketPutRow, standIns := [], harness := (true, "0fd7e3055f703075c95cf22068540b9e4bfb2aa7e5fceaa17c87fd16b58ca683"), looks := true }, kinds := [], alts := [], laidByText := true, laidKinds := [.sentinel, .sentinel, .sentinel], laidTests := true, laidLooks := .later }
def FnPacketPutCardSaid : Prop := Claim7.holds Tryd.pinned (.plain (OpenSpec.ofChange fnPacketPutSpec)) fnPacketPutCard

/-- THE TIED CARD OF 'laws.FnPacketGet'. -/
def fnPacketGetCard : Claim7 := { stood := { row := fnPacketGetRow, standIns := [], harness := (true, "0fd7e3055f703075c95cf22068540b9e4bfb2aa7e5fceaa17c87fd16b58ca683"), looks := true }, kinds := [], alts := [], laidByText := true, laidKinds := [.sentinel, .sentinel, .sentinel], laidTests := true, laidLooks := .later }
def FnPacketGetCardSaid : Prop := Claim7.holds Tryd.pinned (.plain (OpenSpec.ofChange fnPacketGetSpec)) fnPacketGetCard

/-- THE TIED CARD OF 'laws.FnPacketShort'. -/
def fnPacketShortCard : Claim7 := { stood := { row := fnPacketShortRow, standIns := [], harness := (true, "0fd7e3055f703075c95cf22068540b9e4bfb2aa7e5fceaa17c87fd16b58ca683"), looks := true }, kinds := [], alts := [], laidByText := true, laidKinds := [.sentinel, .sentinel, .sentinel], laidTests := true, laidLooks := .later }
def FnPacketShortCardSaid : Prop := Claim7.holds Tryd.pinned (.plain (OpenSpec.ofChange fnPacketShortSpec)) fnPacketShortCard

/-- THE TIED CARD OF 'laws.FnPacketByte'. -/
def fnPacketByteCard : Claim7 := { stood := { row := fnPacketByteRow, standIns := [], harness := (true, "0fd7e3055f703075c95cf22068540b9e4bfb2aa7e5fceaa17c87fd16b58ca683"), looks := true }, kinds := [], alts := [], laidByText := true, laidKinds := [.sentinel, .sentinel, .sentinel], laidTests := true, laidLooks := .later }
def FnPacketByteCardSaid : Prop := Claim7.holds Tryd.pinned (.plain (OpenSpec.ofChange fnPacketByteSpec)) fnPacketByteCard

/-- THE TIED CARD OF 'laws.FnPacketSwap'. -/
def fnPacketSwapCard : Claim7 := { stood := { row := fnPacketSwapRow, standIns := [], harness := (true, "0fd7e3055f703075c95cf22068540b9e4bfb2aa7e5fceaa17c87fd16b58ca683"), looks := true }, kinds := [], alts := [], laidByText := true, laidKinds := [.sentinel, .sentinel, .sentinel], laidTests := true, laidLooks := .later }
def FnPacketSwapCardSaid : Prop := Claim7.holds Tryd.pinned (.plain (OpenSpec.ofChange fnPacketSwapSpec)) fnPacketSwapCard

/-- THE TIED CARD OF 'laws.FnPacketCut'. -/
def fnPacketCutCard : Claim7 := { stood := { row := fnPacketCutRow, standIns := [], harness := (true, "0fd7e3055f703075c95cf22068540b9e4bfb2aa7e5fceaa17c87fd16b58ca683"), looks := true }, kinds := [], alts := [], laidByText := true, laidKinds := [.sentinel, .sentinel, .sentinel], laidTests := true, laidLooks := .later }
def FnPacketCutCardSaid : Prop := Claim7.holds Tryd.pinned (.plain (OpenSpec.ofChange fnPacketCutSpec)) fnPacketCutCard

/-- THE TIED CARD OF 'laws.FnExactPacketGet'. -/
def fnExactPacketGetCard : Claim7 := { stood := { row := fnExactPacketGetRow, standIns := [], harness := (true, "0fd7e3055f703075c95cf22068540b9e4bfb2aa7e5fceaa17c87fd16b58ca683"), looks := true }, kinds := [], alts := [], laidByText := true, laidKinds := [.sentinel, .sentinel, .sentinel], laidTests := true, laidLooks := .later }
def FnExactPacketGetCardSaid : Prop := Claim7.holds Tryd.pinned (.plain (OpenSpec.ofChange fnExactPacketGetSpec)) fnExactPacketGetCard

/-- THE SECOND FORM's CARD OF 'laws.FnPacketPut'. -/
def fnPacketPutUptoCard : Claim7 := { stood := { row := fnPacketPutUptoRow, standIns := [], harness := (true, "0fd7e3055f703075c95cf22068540b9e4bfb2aa7e5fceaa17c87fd16b58ca683"), looks := true }, kinds := [], alts := [], laidByText := true, laidKinds := [.sentinel, .sentinel, .sentinel], laidTests := true, laidLooks := .later }
def FnPacketPutUptoCardSaid : Prop := Claim7.holds Tryd.pinned (.plain (OpenSpec.upto fnPacketPutSpec)) fnPacketPutUptoCard

/-- THE SECOND FORM's CARD OF 'laws.FnPacketGet'. -/
def fnPacketGetUptoCard : Claim7 := { stood := { row := fnPacketGetUptoRow, standIns := [], harness := (true, "0fd7e3055f703075c95cf22068540b9e4bfb2aa7e5fceaa17c87fd16b58ca683"), looks := true }, kinds := [], alts := [], laidByText := true, laidKinds := [.sentinel, .sentinel, .sentinel], laidTests := true, laidLooks := .later }
def FnPacketGetUptoCardSaid : Prop := Claim7.holds Tryd.pinned (.plain (OpenSpec.upto fnPacketGetSpec)) fnPacketGetUptoCard

/-- THE SECOND FORM's CARD OF 'laws.FnPacketShort'. -/
def fnPacketShortUptoCard : Claim7 := { stood := { row := fnPacketShortUptoRow, standIns := [], harness := (true, "0fd7e3055f703075c95cf22068540b9e4bfb2aa7e5fceaa17c87fd16b58ca683"), looks := true }, kinds := [], alts := [], laidByText := true, laidKinds := [.sentinel, .sentinel, .sentinel], laidTests := true, laidLooks := .later }
def FnPacketShortUptoCardSaid : Prop := Claim7.holds Tryd.pinned (.plain (OpenSpec.upto fnPacketShortSpec)) fnPacketShortUptoCard

/-- THE SECOND FORM's CARD OF 'laws.FnPacketByte'. -/
def fnPacketByteUptoCard : Claim7 := { stood := { row := fnPacketByteUptoRow, standIns := [], harness := (true, "0fd7e3055f703075c95cf22068540b9e4bfb2aa7e5fceaa17c87fd16b58ca683"), looks := true }, kinds := [], alts := [], laidByText := true, laidKinds := [.sentinel, .sentinel, .sentinel], laidTests := true, laidLooks := .later }
def FnPacketByteUptoCardSaid : Prop := Claim7.holds Tryd.pinned (.plain (OpenSpec.upto fnPacketByteSpec)) fnPacketByteUptoCard

/-- THE SECOND FORM's CARD OF 'laws.FnPacketSwap'. -/
def fnPacketSwapUptoCard : Claim7 := { stood := { row := fnPacketSwapUptoRow, standIns := [], harness := (true, "0fd7e3055f703075c95cf22068540b9e4bfb2aa7e5fceaa17c87fd16b58ca683"), looks := true }, kinds := [], alts := [], laidByText := true, laidKinds := [.sentinel, .sentinel, .sentinel], laidTests := true, laidLooks := .later }
def FnPacketSwapUptoCardSaid : Prop := Claim7.holds Tryd.pinned (.plain (OpenSpec.upto fnPacketSwapSpec)) fnPacketSwapUptoCard

/-- THE SECOND FORM's CARD OF 'laws.FnPacketCut'. -/
def fnPacketCutUptoCard : Claim7 := { stood := { row := fnPacketCutUptoRow, standIns := [], harness := (true, "0fd7e3055f703075c95cf22068540b9e4bfb2aa7e5fceaa17c87fd16b58ca683"), looks := true }, kinds := [], alts := [], laidByText := true, laidKinds := [.sentinel, .sentinel, .sentinel], laidTests := true, laidLooks := .later }
def FnPacketCutUptoCardSaid : Prop := Claim7.holds Tryd.pinned (.plain (OpenSpec.upto fnPacketCutSpec)) fnPacketCutUptoCard

/-- THE SECOND FORM's CARD OF 'laws.FnExactPacketGet'. -/
def fnExactPacketGetUptoCard : Claim7 := { stood := { row := fnExactPacketGetUptoRow, standIns := [], harness := (true, "0fd7e3055f703075c95cf22068540b9e4bfb2aa7e5fceaa17c87fd16b58ca683"), looks := true }, kinds := [], alts := [], laidByText := true, laidKinds := [.sentinel, .sentinel, .sentinel], laidTests := true, laidLooks := .later }
def FnExactPacketGetUptoCardSaid : Prop := Claim7.holds Tryd.pinned (.plain (OpenSpec.upto fnExactPacketGetSpec)) fnExactPacketGetUptoCard
end Rows
end Go.Proofs.YtcpdpamoddmpaabDoor
