/-
  DERIVED. GIVEN WITH THE SEED: THE CARDS: each row of YtkeggeiliachgaaDoorRows.lean that lists a variable, with what it lists TIED to the program's text (the seventh form; the later family's looks); each row that meets fmt, with fmt's text TOLD by the authors' own Lean function (tested against real Go, not proved from fmt's source: count such statements apart). THE CARD IS WHAT COUNTS. Prove the row's statement (the work); the ties are given (YtkeggeiliachgaaDoorTie.lean); close each card by the builder's one call (the guide's Derived/Test/ToyasCard.lean, 'card_holds'). Laid BY PROGRAM, IN A SANDBOX (cutbox-door.mjs). By AI agents, Wed Nov 11 2026. No macro, syntax, notation, axiom, sorry.
-/
import Derived.Test.YtkeggeiliachgaaDoorRows
import GoSem.ClaimSeven
namespace Go.Proofs.YtkeggeiliachgaaDoor
namespace Rows

/-- THE TIED CARD OF 'stockadelaw09.UdpTells'. -/
def udpTellsCard : Claim7 := { stood := { row := udpTellsRow, standIns := [], harness := (true, "e049f0694bca671fd44def5477e1f5a303e9983ec9e7472ce69594b71132033f"), looks := true }, kinds := [], alts := [], laidByText := true, laidKinds := [.handle], laidTests := true, laidLooks := .later }
def UdpTellsCardSaid : Prop := Claim7.holds Tryd.pinned (.plain (OpenSpec.ofChange udpTellsSpec)) udpTellsCard

/-- THE TIED CARD OF 'stockadelaw09.UdpBack'. -/
def udpBackCard : Claim7 := { stood := { row := udpBackRow, standIns := [], harness := (true, "e049f0694bca671fd44def5477e1f5a303e9983ec9e7472ce69594b71132033f"), looks := true }, kinds := [], alts := [], laidByText := true, laidKinds := [.handle], laidTests := true, laidLooks := .later }
def UdpBackCardSaid : Prop := Claim7.holds Tryd.pinned (.plain (OpenSpec.ofChange udpBackSpec)) udpBackCard

/-- THE TIED CARD OF 'stockadelaw09.UdpLengths'. -/
def udpLengthsCard : Claim7 := { stood := { row := udpLengthsRow, standIns := [], harness := (true, "e049f0694bca671fd44def5477e1f5a303e9983ec9e7472ce69594b71132033f"), looks := true }, kinds := [], alts := [], laidByText := true, laidKinds := [.handle], laidTests := true, laidLooks := .later }
def UdpLengthsCardSaid : Prop := Claim7.holds Tryd.pinned (.plain (OpenSpec.ofChange udpLengthsSpec)) udpLengthsCard

/-- THE SECOND FORM's CARD OF 'stockadelaw09.UdpTells'. -/
def udpTellsUptoCard : Claim7 := { stood := { row := udpTellsUptoRow, standIns := [], harness := (true, "e049f0694bca671fd44def5477e1f5a303e9983ec9e7472ce69594b71132033f"), looks := true }, kinds := [], alts := [], laidByText := true, laidKinds := [.handle], laidTests := true, laidLooks := .later }
def UdpTellsUptoCardSaid : Prop := Claim7.holds Tryd.pinned (.plain (OpenSpec.upto udpTellsSpec)) udpTellsUptoCard

/-- THE SECOND FORM's CARD OF 'stockadelaw09.UdpBack'. -/
def udpBackUptoCard : Claim7 := { stood := { row := udpBackUptoRow, standIns := [], harness := (true, "e049f0694bca671fd44def5477e1f5a303e9983ec9e7472ce69594b71132033f"), looks := true }, kinds := [], alts := [], laidByText := true, laidKinds := [.handle], laidTests := true, laidLooks := .later }
def UdpBackUptoCardSaid : Prop := Claim7.holds Tryd.pinned (.plain (OpenSpec.upto udpBackSpec)) udpBackUptoCard

/-- THE SECOND FORM's CARD OF 'stockadelaw09.UdpLengths'. -/
def udpLengthsUptoCard : Claim7 := { stood := { row := udpLengthsUptoRow, standIns := [], harness := (true, "e049f0694bca671fd44def5477e1f5a303e9983ec9e7472ce69594b71132033f"), looks := true }, kinds := [], alts := [], laidByText := true, laidKinds := [.handle], laidTests := true, laidLooks := .later }
def UdpLengthsUptoCardSaid : Prop := Claim7.holds Tryd.pinned (.plain (OpenSpec.upto udpLengthsSpec)) udpLengthsUptoCard
end Rows
end Go.Proofs.YtkeggeiliachgaaDoor
