/-
  DERIVED. GIVEN WITH THE SEED: THE CARDS: each row of YthogaffeeadnhabDoorRows.lean that lists a variable, with what it lists TIED to the program's text (the seventh form; the later family's looks); each row that meets fmt, with fmt's text TOLD by the authors' own Lean function (tested against real Go, not proved from fmt's source: count such statements apart). THE CARD IS WHAT COUNTS. Prove the row's statement (the work); the ties are given (YthogaffeeadnhabDoorTie.lean); close each card by the builder's one call (the guide's Derived/Test/ToyasCard.lean, 'card_holds'). Laid BY PROGRAM, IN A SANDBOX (cutbox-door.mjs). By AI agents, Wed Nov 11 2026. No macro, syntax, notation, axiom, sorry.
-/
import Derived.Test.YthogaffeeadnhabDoorRows
import GoSem.ClaimSeven
namespace Go.Proofs.YthogaffeeadnhabDoor
namespace Rows

/-- THE TIED CARD OF 'laws.FnChunkName'. -/
def fnChunkNameCard : Claim7 := { stood := { row := fnChunkNameRow, standIns := [], harness := (true, "08335492828bd65d291f6caf70bb3fb7b77273cd5c0e39a9bc656658279fe12e"), looks := false }, kinds := [], alts := [], laidByText := true, laidKinds := [.data], laidTests := true, laidLooks := .later }
def FnChunkNameCardSaid : Prop := Claim7.holds Tryd.pinned (.plain (OpenSpec.ofChange fnChunkNameSpec)) fnChunkNameCard

/-- THE TIED CARD OF 'laws.FnChunkNameOther'. -/
def fnChunkNameOtherCard : Claim7 := { stood := { row := fnChunkNameOtherRow, standIns := [], harness := (true, "08335492828bd65d291f6caf70bb3fb7b77273cd5c0e39a9bc656658279fe12e"), looks := false }, kinds := [], alts := [], laidByText := true, laidKinds := [.data], laidTests := true, laidLooks := .later }
def FnChunkNameOtherCardSaid : Prop := Claim7.holds Tryd.pinned (.plain (OpenSpec.ofChange fnChunkNameOtherSpec)) fnChunkNameOtherCard

/-- THE TIED CARD OF 'laws.FnExactChunkName'. -/
def fnExactChunkNameCard : Claim7 := { stood := { row := fnExactChunkNameRow, standIns := [], harness := (true, "08335492828bd65d291f6caf70bb3fb7b77273cd5c0e39a9bc656658279fe12e"), looks := false }, kinds := [], alts := [], laidByText := true, laidKinds := [.data], laidTests := true, laidLooks := .later }
def FnExactChunkNameCardSaid : Prop := Claim7.holds Tryd.pinned (.plain (OpenSpec.ofChange fnExactChunkNameSpec)) fnExactChunkNameCard

/-- THE SECOND FORM's CARD OF 'laws.FnChunkName'. -/
def fnChunkNameUptoCard : Claim7 := { stood := { row := fnChunkNameUptoRow, standIns := [], harness := (true, "08335492828bd65d291f6caf70bb3fb7b77273cd5c0e39a9bc656658279fe12e"), looks := false }, kinds := [], alts := [], laidByText := true, laidKinds := [.data], laidTests := true, laidLooks := .later }
def FnChunkNameUptoCardSaid : Prop := Claim7.holds Tryd.pinned (.plain (OpenSpec.upto fnChunkNameSpec)) fnChunkNameUptoCard

/-- THE SECOND FORM's CARD OF 'laws.FnChunkNameOther'. -/
def fnChunkNameOtherUptoCard : Claim7 := { stood := { row := fnChunkNameOtherUptoRow, standIns := [], harness := (true, "08335492828bd65d291f6caf70bb3fb7b77273cd5c0e39a9bc656658279fe12e"), looks := false }, kinds := [], alts := [], laidByText := true, laidKinds := [.data], laidTests := true, laidLooks := .later }
def FnChunkNameOtherUptoCardSaid : Prop := Claim7.holds Tryd.pinned (.plain (OpenSpec.upto fnChunkNameOtherSpec)) fnChunkNameOtherUptoCard

/-- THE SECOND FORM's CARD OF 'laws.FnExactChunkName'. -/
def fnExactChunkNameUptoCard : Claim7 := { stood := { row := fnExactChunkNameUptoRow, standIns := [], harness := (true, "08335492828bd65d291f6caf70bb3fb7b77273cd5c0e39a9bc656658279fe12e"), looks := false }, kinds := [], alts := [], laidByText := true, laidKinds := [.data], laidTests := true, laidLooks := .later }
def FnExactChunkNameUptoCardSaid : Prop := Claim7.holds Tryd.pinned (.plain (OpenSpec.upto fnExactChunkNameSpec)) fnExactChunkNameUptoCard
end Rows
end Go.Proofs.YthogaffeeadnhabDoor
