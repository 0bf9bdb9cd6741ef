/-
  DERIVED. GIVEN WITH THE SEED: THE CARDS: each row of YtlihpaenckflhaaDoorRows.lean that lists a variable, with what it lists TIED to the program's text (the seventh form; the later family's looks); each row that meets fmt, with fmt's text TOLD by the authors' own Lean function (tested against real Go, not proved from fmt's source: count such statements apart). THE CARD IS WHAT COUNTS. Prove the row's statement (the work); the ties are given (YtlihpaenckflhaaDoorTie.lean); close each card by the builder's one call (the guide's Derived/Test/ToyasCard.lean, 'card_holds'). Laid BY PROGRAM, IN A SANDBOX (cutbox-door.mjs). By AI agents, Wed Nov 11 2026. No macro, syntax, notation, axiom, sorry.
-/
import Derived.Test.YtlihpaenckflhaaDoorRows
import GoSem.ClaimSeven
namespace Go.Proofs.YtlihpaenckflhaaDoor
namespace Rows

/-- THE TIED CARD OF 'laws.FnLevels'. -/
def fnLevelsCard : Claim7 := { stood := { row := fnLevelsRow, standIns := [], harness := (true, "dd21c7c193f8401a2dd5816cbbe490501df204494f14aafcd8ff2249114c2c38"), looks := false }, kinds := [], alts := [], laidByText := true, laidKinds := [.data, .data, .data], laidTests := true, laidLooks := .later }
def FnLevelsCardSaid : Prop := Claim7.holds Tryd.pinned (.plain (OpenSpec.ofChange fnLevelsSpec)) fnLevelsCard

/-- THE TIED CARD OF 'laws.FnExactShowLevel'. -/
def fnExactShowLevelCard : Claim7 := { stood := { row := fnExactShowLevelRow, standIns := [], harness := (true, "dd21c7c193f8401a2dd5816cbbe490501df204494f14aafcd8ff2249114c2c38"), looks := false }, kinds := [], alts := [], laidByText := true, laidKinds := [.data, .data, .data], laidTests := true, laidLooks := .later }
def FnExactShowLevelCardSaid : Prop := Claim7.holds Tryd.pinned (.plain (OpenSpec.ofChange fnExactShowLevelSpec)) fnExactShowLevelCard

/-- THE TIED CARD OF 'laws.FnExactReadLevel'. -/
def fnExactReadLevelCard : Claim7 := { stood := { row := fnExactReadLevelRow, standIns := [], harness := (true, "dd21c7c193f8401a2dd5816cbbe490501df204494f14aafcd8ff2249114c2c38"), looks := false }, kinds := [], alts := [], laidByText := true, laidKinds := [.data, .data, .data], laidTests := true, laidLooks := .later }
def FnExactReadLevelCardSaid : Prop := Claim7.holds Tryd.pinned (.plain (OpenSpec.ofChange fnExactReadLevelSpec)) fnExactReadLevelCard

/-- THE SECOND FORM's CARD OF 'laws.FnLevels'. -/
def fnLevelsUptoCard : Claim7 := { stood := { row := fnLevelsUptoRow, standIns := [], harness := (true, "dd21c7c193f8401a2dd5816cbbe490501df204494f14aafcd8ff2249114c2c38"), looks := false }, kinds := [], alts := [], laidByText := true, laidKinds := [.data, .data, .data], laidTests := true, laidLooks := .later }
def FnLevelsUptoCardSaid : Prop := Claim7.holds Tryd.pinned (.plain (OpenSpec.upto fnLevelsSpec)) fnLevelsUptoCard

/-- THE SECOND FORM's CARD OF 'laws.FnExactShowLevel'. -/
def fnExactShowLevelUptoCard : Claim7 := { stood := { row := fnExactShowLevelUptoRow, standIns := [], harness := (true, "dd21c7c193f8401a2dd5816cbbe490501df204494f14aafcd8ff2249114c2c38"), looks := false }, kinds := [], alts := [], laidByText := true, laidKinds := [.data, .data, .data], laidTests := true, laidLooks := .later }
def FnExactShowLevelUptoCardSaid : Prop := Claim7.holds Tryd.pinned (.plain (OpenSpec.upto fnExactShowLevelSpec)) fnExactShowLevelUptoCard

/-- THE SECOND FORM's CARD OF 'laws.FnExactReadLevel'. -/
def fnExactReadLevelUptoCard : Claim7 := { stood := { row := fnExactReadLevelUptoRow, standIns := [], harness := (true, "dd21c7c193f8401a2dd5816cbbe490501df204494f14aafcd8ff2249114c2c38"), looks := false }, kinds := [], alts := [], laidByText := true, laidKinds := [.data, .data, .data], laidTests := true, laidLooks := .later }
def FnExactReadLevelUptoCardSaid : Prop := Claim7.holds Tryd.pinned (.plain (OpenSpec.upto fnExactReadLevelSpec)) fnExactReadLevelUptoCard
end Rows
end Go.Proofs.YtlihpaenckflhaaDoor
