/-
  DERIVED. GIVEN WITH THE SEED: THE CARDS: each row of YtnpeojlhjbdjiaaGreatDoorRows.lean that lists a variable, with what it lists TIED to the program's text (the seventh form; the later family's looks); each row that meets fmt, with fmt's text TOLD by the authors' own Lean function (tested against real Go, not proved from fmt's source: count such statements apart). THE CARD IS WHAT COUNTS. Prove the row's statement (the work); the ties are given (YtnpeojlhjbdjiaaGreatDoorTie.lean); close each card by the builder's one call (the guide's Derived/Test/ToyasCard.lean, 'card_holds'). Laid BY PROGRAM, IN A SANDBOX (cutbox-door.mjs). By AI agents, Wed Nov 11 2026. No macro, syntax, notation, axiom, sorry.
-/
import Derived.Test.YtnpeojlhjbdjiaaGreatDoorRows
import GoSem.ClaimSeven
namespace Go.Proofs.YtnpeojlhjbdjiaaGreatDoor
namespace Rows

/-- THE TIED CARD OF 'laws.FnDoors'. -/
def fnDoorsCard : Claim7 := { stood := { row := fnDoorsRow, standIns := [], harness := (true, "9f80de6052d67c7cf318b2aad1aa577a87758b32da157ade38f0926085352cfd"), looks := true }, kinds := [], alts := [], laidByText := true, laidKinds := [.handle, .sentinel, .sentinel], laidTests := true, laidLooks := .later }
def FnDoorsCardSaid : Prop := Claim7.holds Tryz.pinned (.plain (OpenSpec.ofChange fnDoorsSpec)) fnDoorsCard

/-- THE SECOND FORM's CARD OF 'laws.FnDoors'. -/
def fnDoorsUptoCard : Claim7 := { stood := { row := fnDoorsUptoRow, standIns := [], harness := (true, "9f80de6052d67c7cf318b2aad1aa577a87758b32da157ade38f0926085352cfd"), looks := true }, kinds := [], alts := [], laidByText := true, laidKinds := [.handle, .sentinel, .sentinel], laidTests := true, laidLooks := .later }
def FnDoorsUptoCardSaid : Prop := Claim7.holds Tryz.pinned (.plain (OpenSpec.upto fnDoorsSpec)) fnDoorsUptoCard
end Rows
end Go.Proofs.YtnpeojlhjbdjiaaGreatDoor
