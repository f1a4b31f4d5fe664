/-
  DERIVED. GIVEN WITH THE SEED: THE CARDS: each row of YtceigepclemdmaaDoorRows.lean that lists a variable, with what it lists TIED to the program's text (the seventh form; the later family's looks); each row that meets fmt, with fmt's text TOLD by the authors' own Lean function (tested against real Go, not proved from fmt's source: count such statements apart). THE CARD IS WHAT COUNTS. Prove the row's statement (the work); the ties are given (YtceigepclemdmaaDoorTie.lean); close each card by the builder's one call (the guide's Derived/Test/ToyasCard.lean, 'card_holds'). Laid BY PROGRAM, IN A SANDBOX (cutbox-door.mjs). By AI agents, Wed Nov 11 2026. No macro, syntax, notation, axiom, sorry.
-/
import Derived.Test.YtceigepclemdmaaDoorRows
import GoSem.ClaimSeven
namespace Go.Proofs.YtceigepclemdmaaDoor
namespace Rows

/-- THE TIED CARD OF 'stockadelaw07.Ip6Tells'. -/
def ip6TellsCard : Claim7 := { stood := { row := ip6TellsRow, standIns := [], harness := (true, "99c169d5314327a0b36ad879ddf0bbf788504beda38bad812f9402a13bb5a6e6"), looks := true }, kinds := [], alts := [], laidByText := true, laidKinds := [.handle], laidTests := true, laidLooks := .later }
def Ip6TellsCardSaid : Prop := Claim7.holds Tryd.pinned (.plain (OpenSpec.ofChange ip6TellsSpec)) ip6TellsCard

/-- THE TIED CARD OF 'stockadelaw07.Ip6Heads'. -/
def ip6HeadsCard : Claim7 := { stood := { row := ip6HeadsRow, standIns := [], harness := (true, "99c169d5314327a0b36ad879ddf0bbf788504beda38bad812f9402a13bb5a6e6"), looks := true }, kinds := [], alts := [], laidByText := true, laidKinds := [.handle], laidTests := true, laidLooks := .later }
def Ip6HeadsCardSaid : Prop := Claim7.holds Tryd.pinned (.plain (OpenSpec.ofChange ip6HeadsSpec)) ip6HeadsCard

/-- THE TIED CARD OF 'stockadelaw07.Ip6Refuses'. -/
def ip6RefusesCard : Claim7 := { stood := { row := ip6RefusesRow, standIns := [], harness := (true, "99c169d5314327a0b36ad879ddf0bbf788504beda38bad812f9402a13bb5a6e6"), looks := true }, kinds := [], alts := [], laidByText := true, laidKinds := [.handle], laidTests := true, laidLooks := .later }
def Ip6RefusesCardSaid : Prop := Claim7.holds Tryd.pinned (.plain (OpenSpec.ofChange ip6RefusesSpec)) ip6RefusesCard

/-- THE SECOND FORM's CARD OF 'stockadelaw07.Ip6Tells'. -/
def ip6TellsUptoCard : Claim7 := { stood := { row := ip6TellsUptoRow, standIns := [], harness := (true, "99c169d5314327a0b36ad879ddf0bbf788504beda38bad812f9402a13bb5a6e6"), looks := true }, kinds := [], alts := [], laidByText := true, laidKinds := [.handle], laidTests := true, laidLooks := .later }
def Ip6TellsUptoCardSaid : Prop := Claim7.holds Tryd.pinned (.plain (OpenSpec.upto ip6TellsSpec)) ip6TellsUptoCard

/-- THE SECOND FORM's CARD OF 'stockadelaw07.Ip6Heads'. -/
def ip6HeadsUptoCard : Claim7 := { stood := { row := ip6HeadsUptoRow, standIns := [], harness := (true, "99c169d5314327a0b36ad879ddf0bbf788504beda38bad812f9402a13bb5a6e6"), looks := true }, kinds := [], alts := [], laidByText := true, laidKinds := [.handle], laidTests := true, laidLooks := .later }
def Ip6HeadsUptoCardSaid : Prop := Claim7.holds Tryd.pinned (.plain (OpenSpec.upto ip6HeadsSpec)) ip6HeadsUptoCard

/-- THE SECOND FORM's CARD OF 'stockadelaw07.Ip6Refuses'. -/
def ip6RefusesUptoCard : Claim7 := { stood := { row := ip6RefusesUptoRow, standIns := [], harness := (true, "99c169d5314327a0b36ad879ddf0bbf788504beda38bad812f9402a13bb5a6e6"), looks := true }, kinds := [], alts := [], laidByText := true, laidKinds := [.handle], laidTests := true, laidLooks := .later }
def Ip6RefusesUptoCardSaid : Prop := Claim7.holds Tryd.pinned (.plain (OpenSpec.upto ip6RefusesSpec)) ip6RefusesUptoCard
end Rows
end Go.Proofs.YtceigepclemdmaaDoor
