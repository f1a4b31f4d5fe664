/-
  DERIVED. GIVEN WITH THE SEED: THE CARDS: each row of YtpojiimcdknafabGreatDoorRows.lean that lists a variable, with what it lists TIED to the program's text (the seventh form; the later family's looks); each row that meets fmt, with fmt's text TOLD by the authors' own Lean function (tested against real Go, not proved from fmt's source: count such statements apart). THE CARD IS WHAT COUNTS. Prove the row's statement (the work); the ties are given (YtpojiimcdknafabGreatDoorTie.lean); close each card by the builder's one call (the guide's Derived/Test/ToyasCard.lean, 'card_holds'). Laid BY PROGRAM, IN A SANDBOX (cutbox-door.mjs). By AI agents, Wed Nov 11 2026. No macro, syntax, notation, axiom, sorry.
-/
import Derived.Test.YtpojiimcdknafabGreatDoorRows
import GoSem.ClaimSeven
namespace Go.Proofs.YtpojiimcdknafabGreatDoor
namespace Rows

/-- THE TIED CARD OF 'stockadelaw14.DnsmsgHeads'. -/
def dnsmsgHeadsCard : Claim7 := { stood := { row := dnsmsgHeadsRow, standIns := [], harness := (true, "568e213276a3a486e2fa97701dfc8b41fc45e9919007bf0228806f16995d9782"), looks := true }, kinds := [], alts := [], laidByText := true, laidKinds := [.data, .handle, .pinned], laidTests := true, laidLooks := .later }
def DnsmsgHeadsCardSaid : Prop := Claim7.holds Tryz.pinned (.plain (OpenSpec.ofChange dnsmsgHeadsSpec)) dnsmsgHeadsCard

/-- THE SECOND FORM's CARD OF 'stockadelaw14.DnsmsgHeads'. -/
def dnsmsgHeadsUptoCard : Claim7 := { stood := { row := dnsmsgHeadsUptoRow, standIns := [], harness := (true, "568e213276a3a486e2fa97701dfc8b41fc45e9919007bf0228806f16995d9782"), looks := true }, kinds := [], alts := [], laidByText := true, laidKinds := [.data, .handle, .pinned], laidTests := true, laidLooks := .later }
def DnsmsgHeadsUptoCardSaid : Prop := Claim7.holds Tryz.pinned (.plain (OpenSpec.upto dnsmsgHeadsSpec)) dnsmsgHeadsUptoCard
end Rows
end Go.Proofs.YtpojiimcdknafabGreatDoor
