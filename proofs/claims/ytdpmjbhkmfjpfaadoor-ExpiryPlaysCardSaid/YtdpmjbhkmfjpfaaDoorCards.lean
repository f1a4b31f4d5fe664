/-
  DERIVED. GIVEN WITH THE SEED: THE CARDS: each row of YtdpmjbhkmfjpfaaDoorRows.lean that lists a variable, with what it lists TIED to the program's text (the seventh form; the later family's looks); each row that meets fmt, with fmt's text TOLD by the authors' own Lean function (tested against real Go, not proved from fmt's source: count such statements apart). THE CARD IS WHAT COUNTS. Prove the row's statement (the work); the ties are given (YtdpmjbhkmfjpfaaDoorTie.lean); close each card by the builder's one call (the guide's Derived/Test/ToyasCard.lean, 'card_holds'). Laid BY PROGRAM, IN A SANDBOX (cutbox-door.mjs). By AI agents, Wed Nov 11 2026. No macro, syntax, notation, axiom, sorry.
-/
import Derived.Test.YtdpmjbhkmfjpfaaDoorRows
import GoSem.ClaimSeven
namespace Go.Proofs.YtdpmjbhkmfjpfaaDoor
namespace Rows

/-- THE TIED CARD OF 'stockadelaw17.ExpiryPlays'. -/
def expiryPlaysCard : Claim7 := { stood := { row := expiryPlaysRow, standIns := [], harness := (true, "e1dd3712e2817723b0858a1405de78bb4561ca160f7b28c7e1729dc9f84901a3"), looks := true }, kinds := [], alts := [], laidByText := true, laidKinds := [.handle], laidTests := true, laidLooks := .later }
def ExpiryPlaysCardSaid : Prop := Claim7.holds Tryd.pinned (.plain (OpenSpec.ofChange expiryPlaysSpec)) expiryPlaysCard

/-- THE TIED CARD OF 'stockadelaw17.ExpiryFull'. -/
def expiryFullCard : Claim7 := { stood := { row := expiryFullRow, standIns := [], harness := (true, "e1dd3712e2817723b0858a1405de78bb4561ca160f7b28c7e1729dc9f84901a3"), looks := true }, kinds := [], alts := [], laidByText := true, laidKinds := [.handle], laidTests := true, laidLooks := .later }
def ExpiryFullCardSaid : Prop := Claim7.holds Tryd.pinned (.plain (OpenSpec.ofChange expiryFullSpec)) expiryFullCard

/-- THE TIED CARD OF 'stockadelaw17.ExpiryMoves'. -/
def expiryMovesCard : Claim7 := { stood := { row := expiryMovesRow, standIns := [], harness := (true, "e1dd3712e2817723b0858a1405de78bb4561ca160f7b28c7e1729dc9f84901a3"), looks := true }, kinds := [], alts := [], laidByText := true, laidKinds := [.handle], laidTests := true, laidLooks := .later }
def ExpiryMovesCardSaid : Prop := Claim7.holds Tryd.pinned (.plain (OpenSpec.ofChange expiryMovesSpec)) expiryMovesCard

/-- THE SECOND FORM's CARD OF 'stockadelaw17.ExpiryPlays'. -/
def expiryPlaysUptoCard : Claim7 := { stood := { row := expiryPlaysUptoRow, standIns := [], harness := (true, "e1dd3712e2817723b0858a1405de78bb4561ca160f7b28c7e1729dc9f84901a3"), looks := true }, kinds := [], alts := [], laidByText := true, laidKinds := [.handle], laidTests := true, laidLooks := .later }
def ExpiryPlaysUptoCardSaid : Prop := Claim7.holds Tryd.pinned (.plain (OpenSpec.upto expiryPlaysSpec)) expiryPlaysUptoCard

/-- THE SECOND FORM's CARD OF 'stockadelaw17.ExpiryFull'. -/
def expiryFullUptoCard : Claim7 := { stood := { row := expiryFullUptoRow, standIns := [], harness := (true, "e1dd3712e2817723b0858a1405de78bb4561ca160f7b28c7e1729dc9f84901a3"), looks := true }, kinds := [], alts := [], laidByText := true, laidKinds := [.handle], laidTests := true, laidLooks := .later }
def ExpiryFullUptoCardSaid : Prop := Claim7.holds Tryd.pinned (.plain (OpenSpec.upto expiryFullSpec)) expiryFullUptoCard

/-- THE SECOND FORM's CARD OF 'stockadelaw17.ExpiryMoves'. -/
def expiryMovesUptoCard : Claim7 := { stood := { row := expiryMovesUptoRow, standIns := [], harness := (true, "e1dd3712e2817723b0858a1405de78bb4561ca160f7b28c7e1729dc9f84901a3"), looks := true }, kinds := [], alts := [], laidByText := true, laidKinds := [.handle], laidTests := true, laidLooks := .later }
def ExpiryMovesUptoCardSaid : Prop := Claim7.holds Tryd.pinned (.plain (OpenSpec.upto expiryMovesSpec)) expiryMovesUptoCard
end Rows
end Go.Proofs.YtdpmjbhkmfjpfaaDoor
