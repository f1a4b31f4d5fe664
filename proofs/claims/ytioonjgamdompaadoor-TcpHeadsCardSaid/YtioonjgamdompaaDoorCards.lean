/-
  DERIVED. GIVEN WITH THE SEED: THE CARDS: each row of YtioonjgamdompaaDoorRows.lean that lists a variable, with what it lists TIED to the program's text (the seventh form; the later family's looks); each row that meets fmt, with fmt's text TOLD by the authors' own Lean function (tested against real Go, not proved from fmt's source: count such statements apart). THE CARD IS WHAT COUNTS. Prove the row's statement (the work); the ties are given (YtioonjgamdompaaDoorTie.lean); close each card by the builder's one call (the guide's Derived/Test/ToyasCard.lean, 'card_holds'). Laid BY PROGRAM, IN A SANDBOX (cutbox-door.mjs). By AI agents, Wed Nov 11 2026. No macro, syntax, notation, axiom, sorry.
-/
import Derived.Test.YtioonjgamdompaaDoorRows
import GoSem.ClaimSeven
namespace Go.Proofs.YtioonjgamdompaaDoor
namespace Rows

/-- THE TIED CARD OF 'stockadelaw08.TcpTells'. -/
def tcpTellsCard : Claim7 := { stood := { row := tcpTellsRow, standIns := [], harness := (true, "f94d5b498990ba02c49798ca0d04e9650337dca825cbc22052ac5eb7f6ba3477"), looks := true }, kinds := [], alts := [], laidByText := true, laidKinds := [.handle], laidTests := true, laidLooks := .later }
def TcpTellsCardSaid : Prop := Claim7.holds Tryd.pinned (.plain (OpenSpec.ofChange tcpTellsSpec)) tcpTellsCard

/-- THE TIED CARD OF 'stockadelaw08.TcpBack'. -/
def tcpBackCard : Claim7 := { stood := { row := tcpBackRow, standIns := [], harness := (true, "f94d5b498990ba02c49798ca0d04e9650337dca825cbc22052ac5eb7f6ba3477"), looks := true }, kinds := [], alts := [], laidByText := true, laidKinds := [.handle], laidTests := true, laidLooks := .later }
def TcpBackCardSaid : Prop := Claim7.holds Tryd.pinned (.plain (OpenSpec.ofChange tcpBackSpec)) tcpBackCard

/-- THE TIED CARD OF 'stockadelaw08.TcpHeads'. -/
def tcpHeadsCard : Claim7 := { stood := { row := tcpHeadsRow, standIns := [], harness := (true, "f94d5b498990ba02c49798ca0d04e9650337dca825cbc22052ac5eb7f6ba3477"), looks := true }, kinds := [], alts := [], laidByText := true, laidKinds := [.handle], laidTests := true, laidLooks := .later }
def TcpHeadsCardSaid : Prop := Claim7.holds Tryd.pinned (.plain (OpenSpec.ofChange tcpHeadsSpec)) tcpHeadsCard

/-- THE SECOND FORM's CARD OF 'stockadelaw08.TcpTells'. -/
def tcpTellsUptoCard : Claim7 := { stood := { row := tcpTellsUptoRow, standIns := [], harness := (true, "f94d5b498990ba02c49798ca0d04e9650337dca825cbc22052ac5eb7f6ba3477"), looks := true }, kinds := [], alts := [], laidByText := true, laidKinds := [.handle], laidTests := true, laidLooks := .later }
def TcpTellsUptoCardSaid : Prop := Claim7.holds Tryd.pinned (.plain (OpenSpec.upto tcpTellsSpec)) tcpTellsUptoCard

/-- THE SECOND FORM's CARD OF 'stockadelaw08.TcpBack'. -/
def tcpBackUptoCard : Claim7 := { stood := { row := tcpBackUptoRow, standIns := [], harness := (true, "f94d5b498990ba02c49798ca0d04e9650337dca825cbc22052ac5eb7f6ba3477"), looks := true }, kinds := [], alts := [], laidByText := true, laidKinds := [.handle], laidTests := true, laidLooks := .later }
def TcpBackUptoCardSaid : Prop := Claim7.holds Tryd.pinned (.plain (OpenSpec.upto tcpBackSpec)) tcpBackUptoCard

/-- THE SECOND FORM's CARD OF 'stockadelaw08.TcpHeads'. -/
def tcpHeadsUptoCard : Claim7 := { stood := { row := tcpHeadsUptoRow, standIns := [], harness := (true, "f94d5b498990ba02c49798ca0d04e9650337dca825cbc22052ac5eb7f6ba3477"), looks := true }, kinds := [], alts := [], laidByText := true, laidKinds := [.handle], laidTests := true, laidLooks := .later }
def TcpHeadsUptoCardSaid : Prop := Claim7.holds Tryd.pinned (.plain (OpenSpec.upto tcpHeadsSpec)) tcpHeadsUptoCard
end Rows
end Go.Proofs.YtioonjgamdompaaDoor
