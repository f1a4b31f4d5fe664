/-
  DERIVED. GIVEN WITH THE SEED: THE CARDS: each row of YtepenemhidhdpaaGreatDoorRows.lean that lists a variable, with what it lists TIED to the program's text (the seventh form; the later family's looks); each row that meets fmt, with fmt's text TOLD by the authors' own Lean function (tested against real Go, not proved from fmt's source: count such statements apart). THE CARD IS WHAT COUNTS. Prove the row's statement (the work); the ties are given (YtepenemhidhdpaaGreatDoorTie.lean); close each card by the builder's one call (the guide's Derived/Test/ToyasCard.lean, 'card_holds'). Laid BY PROGRAM, IN A SANDBOX (cutbox-door.mjs). By AI agents, Wed Nov 11 2026. No macro, syntax, notation, axiom, sorry.
-/
import Derived.Test.YtepenemhidhdpaaGreatDoorRows
import GoSem.ClaimSeven
namespace Go.Proofs.YtepenemhidhdpaaGreatDoor
namespace Rows

/-- THE TIED CARD OF 'stockadelaw14.DnsmsgTells'. -/
def dnsmsgTellsCard : Claim7 := { stood := { row := dnsmsgTellsRow, standIns := [], harness := (true, "36eedaaa23bdd61a75a29d892849d33a78a18e857ebd26395034f103403a41d9"), looks := true }, kinds := [], alts := [], laidByText := true, laidKinds := [.data, .handle, .pinned], laidTests := true, laidLooks := .later }
def DnsmsgTellsCardSaid : Prop := Claim7.holds Tryz.pinned (.plain (OpenSpec.ofChange dnsmsgTellsSpec)) dnsmsgTellsCard

/-- THE TIED CARD OF 'stockadelaw14.DnsmsgBack'. -/
def dnsmsgBackCard : Claim7 := { stood := { row := dnsmsgBackRow, standIns := [], harness := (true, "36eedaaa23bdd61a75a29d892849d33a78a18e857ebd26395034f103403a41d9"), looks := true }, kinds := [], alts := [], laidByText := true, laidKinds := [.data, .handle, .pinned], laidTests := true, laidLooks := .later }
def DnsmsgBackCardSaid : Prop := Claim7.holds Tryz.pinned (.plain (OpenSpec.ofChange dnsmsgBackSpec)) dnsmsgBackCard

/-- THE TIED CARD OF 'stockadelaw14.DnsmsgCompressed'. -/
def dnsmsgCompressedCard : Claim7 := { stood := { row := dnsmsgCompressedRow, standIns := [], harness := (true, "36eedaaa23bdd61a75a29d892849d33a78a18e857ebd26395034f103403a41d9"), looks := true }, kinds := [], alts := [], laidByText := true, laidKinds := [.data, .handle, .pinned], laidTests := true, laidLooks := .later }
def DnsmsgCompressedCardSaid : Prop := Claim7.holds Tryz.pinned (.plain (OpenSpec.ofChange dnsmsgCompressedSpec)) dnsmsgCompressedCard

/-- THE TIED CARD OF 'stockadelaw14.DnsmsgRefuses'. -/
def dnsmsgRefusesCard : Claim7 := { stood := { row := dnsmsgRefusesRow, standIns := [], harness := (true, "36eedaaa23bdd61a75a29d892849d33a78a18e857ebd26395034f103403a41d9"), looks := true }, kinds := [], alts := [], laidByText := true, laidKinds := [.data, .handle, .pinned], laidTests := true, laidLooks := .later }
def DnsmsgRefusesCardSaid : Prop := Claim7.holds Tryz.pinned (.plain (OpenSpec.ofChange dnsmsgRefusesSpec)) dnsmsgRefusesCard

/-- THE SECOND FORM's CARD OF 'stockadelaw14.DnsmsgTells'. -/
def dnsmsgTellsUptoCard : Claim7 := { stood := { row := dnsmsgTellsUptoRow, standIns := [], harness := (true, "36eedaaa23bdd61a75a29d892849d33a78a18e857ebd26395034f103403a41d9"), looks := true }, kinds := [], alts := [], laidByText := true, laidKinds := [.data, .handle, .pinned], laidTests := true, laidLooks := .later }
def DnsmsgTellsUptoCardSaid : Prop := Claim7.holds Tryz.pinned (.plain (OpenSpec.upto dnsmsgTellsSpec)) dnsmsgTellsUptoCard

/-- THE SECOND FORM's CARD OF 'stockadelaw14.DnsmsgBack'. -/
def dnsmsgBackUptoCard : Claim7 := { stood := { row := dnsmsgBackUptoRow, standIns := [], harness := (true, "36eedaaa23bdd61a75a29d892849d33a78a18e857ebd26395034f103403a41d9"), looks := true }, kinds := [], alts := [], laidByText := true, laidKinds := [.data, .handle, .pinned], laidTests := true, laidLooks := .later }
def DnsmsgBackUptoCardSaid : Prop := Claim7.holds Tryz.pinned (.plain (OpenSpec.upto dnsmsgBackSpec)) dnsmsgBackUptoCard

/-- THE SECOND FORM's CARD OF 'stockadelaw14.DnsmsgCompressed'. -/
def dnsmsgCompressedUptoCard : Claim7 := { stood := { row := dnsmsgCompressedUptoRow, standIns := [], harness := (true, "36eedaaa23bdd61a75a29d892849d33a78a18e857ebd26395034f103403a41d9"), looks := true }, kinds := [], alts := [], laidByText := true, laidKinds := [.data, .handle, .pinned], laidTests := true, laidLooks := .later }
def DnsmsgCompressedUptoCardSaid : Prop := Claim7.holds Tryz.pinned (.plain (OpenSpec.upto dnsmsgCompressedSpec)) dnsmsgCompressedUptoCard

/-- THE SECOND FORM's CARD OF 'stockadelaw14.DnsmsgRefuses'. -/
def dnsmsgRefusesUptoCard : Claim7 := { stood := { row := dnsmsgRefusesUptoRow, standIns := [], harness := (true, "36eedaaa23bdd61a75a29d892849d33a78a18e857ebd26395034f103403a41d9"), looks := true }, kinds := [], alts := [], laidByText := true, laidKinds := [.data, .handle, .pinned], laidTests := true, laidLooks := .later }
def DnsmsgRefusesUptoCardSaid : Prop := Claim7.holds Tryz.pinned (.plain (OpenSpec.upto dnsmsgRefusesSpec)) dnsmsgRefusesUptoCard
end Rows
end Go.Proofs.YtepenemhidhdpaaGreatDoor
