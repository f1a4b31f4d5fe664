/-
  DERIVED. GIVEN WITH THE SEED: THE CARDS: each row of YtpjacgnhpcegaaaDoorRows.lean that lists a variable, with what it lists TIED to the program's text (the seventh form; the later family's looks); each row that meets fmt, with fmt's text TOLD by the authors' own Lean function (tested against real Go, not proved from fmt's source: count such statements apart). THE CARD IS WHAT COUNTS. Prove the row's statement (the work); the ties are given (YtpjacgnhpcegaaaDoorTie.lean); close each card by the builder's one call (the guide's Derived/Test/ToyasCard.lean, 'card_holds'). Laid BY PROGRAM, IN A SANDBOX (cutbox-door.mjs). By AI agents, Wed Nov 11 2026. No macro, syntax, notation, axiom, sorry.
-/
import Derived.Test.YtpjacgnhpcegaaaDoorRows
import GoSem.ClaimSeven
namespace Go.Proofs.YtpjacgnhpcegaaaDoor
namespace Rows

/-- THE TIED CARD OF 'stockadelaw02.OctetsTell'. -/
def octetsTellCard : Claim7 := { stood := { row := octetsTellRow, standIns := [], harness := (true, "5a46c971816abdc13240e52a9f63b40774520ea75ae685bd543d3250aa42979a"), looks := true }, kinds := [], alts := [], laidByText := true, laidKinds := [.handle], laidTests := true, laidLooks := .later }
def OctetsTellCardSaid : Prop := Claim7.holds Tryd.pinned (.plain (OpenSpec.ofChange octetsTellSpec)) octetsTellCard

/-- THE TIED CARD OF 'stockadelaw02.OctetsBack'. -/
def octetsBackCard : Claim7 := { stood := { row := octetsBackRow, standIns := [], harness := (true, "5a46c971816abdc13240e52a9f63b40774520ea75ae685bd543d3250aa42979a"), looks := true }, kinds := [], alts := [], laidByText := true, laidKinds := [.handle], laidTests := true, laidLooks := .later }
def OctetsBackCardSaid : Prop := Claim7.holds Tryd.pinned (.plain (OpenSpec.ofChange octetsBackSpec)) octetsBackCard

/-- THE TIED CARD OF 'stockadelaw02.OctetsEdges'. -/
def octetsEdgesCard : Claim7 := { stood := { row := octetsEdgesRow, standIns := [], harness := (true, "5a46c971816abdc13240e52a9f63b40774520ea75ae685bd543d3250aa42979a"), looks := true }, kinds := [], alts := [], laidByText := true, laidKinds := [.handle], laidTests := true, laidLooks := .later }
def OctetsEdgesCardSaid : Prop := Claim7.holds Tryd.pinned (.plain (OpenSpec.ofChange octetsEdgesSpec)) octetsEdgesCard

/-- THE SECOND FORM's CARD OF 'stockadelaw02.OctetsTell'. -/
def octetsTellUptoCard : Claim7 := { stood := { row := octetsTellUptoRow, standIns := [], harness := (true, "5a46c971816abdc13240e52a9f63b40774520ea75ae685bd543d3250aa42979a"), looks := true }, kinds := [], alts := [], laidByText := true, laidKinds := [.handle], laidTests := true, laidLooks := .later }
def OctetsTellUptoCardSaid : Prop := Claim7.holds Tryd.pinned (.plain (OpenSpec.upto octetsTellSpec)) octetsTellUptoCard

/-- THE SECOND FORM's CARD OF 'stockadelaw02.OctetsBack'. -/
def octetsBackUptoCard : Claim7 := { stood := { row := octetsBackUptoRow, standIns := [], harness := (true, "5a46c971816abdc13240e52a9f63b40774520ea75ae685bd543d3250aa42979a"), looks := true }, kinds := [], alts := [], laidByText := true, laidKinds := [.handle], laidTests := true, laidLooks := .later }
def OctetsBackUptoCardSaid : Prop := Claim7.holds Tryd.pinned (.plain (OpenSpec.upto octetsBackSpec)) octetsBackUptoCard

/-- THE SECOND FORM's CARD OF 'stockadelaw02.OctetsEdges'. -/
def octetsEdgesUptoCard : Claim7 := { stood := { row := octetsEdgesUptoRow, standIns := [], harness := (true, "5a46c971816abdc13240e52a9f63b40774520ea75ae685bd543d3250aa42979a"), looks := true }, kinds := [], alts := [], laidByText := true, laidKinds := [.handle], laidTests := true, laidLooks := .later }
def OctetsEdgesUptoCardSaid : Prop := Claim7.holds Tryd.pinned (.plain (OpenSpec.upto octetsEdgesSpec)) octetsEdgesUptoCard
end Rows
end Go.Proofs.YtpjacgnhpcegaaaDoor
