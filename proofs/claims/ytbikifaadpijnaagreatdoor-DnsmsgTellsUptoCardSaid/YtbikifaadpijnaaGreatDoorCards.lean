/-
  DERIVED. GIVEN WITH THE SEED: THE CARDS: each row of YtbikifaadpijnaaGreatDoorRows.lean that lists a variable, with what it lists TIED to the program's text (the seventh form; the later family's looks); each row that meets fmt, with fmt's text TOLD by the authors' own Lean function (tested against real Go, not proved from fmt's source: count such statements apart). THE CARD IS WHAT COUNTS. Prove the row's statement (the work); the ties are given (YtbikifaadpijnaaGreatDoorTie.lean); close each card by the builder's one call (the guide's Derived/Test/ToyasCard.lean, 'card_holds'). Laid BY PROGRAM, IN A SANDBOX (cutbox-door.mjs). By AI agents, Wed Nov 11 2026. No macro, syntax, notation, axiom, sorry.
-/
import Derived.Test.YtbikifaadpijnaaGreatDoorRows
import GoSem.ClaimSeven
namespace Go.Proofs.YtbikifaadpijnaaGreatDoor
namespace Rows

/-- THE TIED CARD OF 'stockadelaw14.DnsmsgTells'. -/
def dnsmsgTellsCard : Claim7 := { stood := { row := dnsmsgTellsRow, standIns := [], harness := (true, "c73bc5e2a30f660382e6a422ef17ab2baea6503aed407f118bcdc91a4c51d18d"), looks := true }, kinds := [], alts := [], laidByText := true, laidKinds := [.data, .handle, .pinned], laidTests := true, laidLooks := .later }
def DnsmsgTellsCardSaid : Prop := Claim7.holds Tryz.pinned (.plain (OpenSpec.ofChange dnsmsgTellsSpec)) dnsmsgTellsCard

/-- THE TIED CARD OF 'stockadelaw14.DnsmsgRefuses'. -/
def dnsmsgRefusesCard : Claim7 := { stood := { row := dnsmsgRefusesRow, standIns := [], harness := (true, "c73bc5e2a30f660382e6a422ef17ab2baea6503aed407f118bcdc91a4c51d18d"), looks := true }, kinds := [], alts := [], laidByText := true, laidKinds := [.data, .handle, .pinned], laidTests := true, laidLooks := .later }
def DnsmsgRefusesCardSaid : Prop := Claim7.holds Tryz.pinned (.plain (OpenSpec.ofChange dnsmsgRefusesSpec)) dnsmsgRefusesCard

/-- THE SECOND FORM's CARD OF 'stockadelaw14.DnsmsgTells'. -/
def dnsmsgTellsUptoCard : Claim7 := { stood := { row := dnsmsgTellsUptoRow, standIns := [], harness := (true, "c73bc5e2a30f660382e6a422ef17ab2baea6503aed407f118bcdc91a4c51d18d"), looks := true }, kinds := [], alts := [], laidByText := true, laidKinds := [.data, .handle, .pinned], laidTests := true, laidLooks := .later }
def DnsmsgTellsUptoCardSaid : Prop := Claim7.holds Tryz.pinned (.plain (OpenSpec.upto dnsmsgTellsSpec)) dnsmsgTellsUptoCard

/-- THE SECOND FORM's CARD OF 'stockadelaw14.DnsmsgRefuses'. -/
def dnsmsgRefusesUptoCard : Claim7 := { stood := { row := dnsmsgRefusesUptoRow, standIns := [], harness := (true, "c73bc5e2a30f660382e6a422ef17ab2baea6503aed407f118bcdc91a4c51d18d"), looks := true }, kinds := [], alts := [], laidByText := true, laidKinds := [.data, .handle, .pinned], laidTests := true, laidLooks := .later }
def DnsmsgRefusesUptoCardSaid : Prop := Claim7.holds Tryz.pinned (.plain (OpenSpec.upto dnsmsgRefusesSpec)) dnsmsgRefusesUptoCard
end Rows
end Go.Proofs.YtbikifaadpijnaaGreatDoor
