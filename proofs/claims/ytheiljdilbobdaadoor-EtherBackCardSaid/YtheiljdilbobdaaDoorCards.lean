/-
  DERIVED. GIVEN WITH THE SEED: THE CARDS: each row of YtheiljdilbobdaaDoorRows.lean that lists a variable, with what it lists TIED to the program's text (the seventh form; the later family's looks); each row that meets fmt, with fmt's text TOLD by the authors' own Lean function (tested against real Go, not proved from fmt's source: count such statements apart). THE CARD IS WHAT COUNTS. Prove the row's statement (the work); the ties are given (YtheiljdilbobdaaDoorTie.lean); close each card by the builder's one call (the guide's Derived/Test/ToyasCard.lean, 'card_holds'). Laid BY PROGRAM, IN A SANDBOX (cutbox-door.mjs). By AI agents, Wed Nov 11 2026. No macro, syntax, notation, axiom, sorry.
-/
import Derived.Test.YtheiljdilbobdaaDoorRows
import GoSem.ClaimSeven
namespace Go.Proofs.YtheiljdilbobdaaDoor
namespace Rows

/-- THE TIED CARD OF 'stockadelaw05.EtherTells'. -/
def etherTellsCard : Claim7 := { stood := { row := etherTellsRow, standIns := [], harness := (true, "0f70e56f4d6536a4742beae1604c68f3c44fe908d7fc64e941aad9d40c3de963"), looks := true }, kinds := [], alts := [], laidByText := true, laidKinds := [.handle], laidTests := true, laidLooks := .later }
def EtherTellsCardSaid : Prop := Claim7.holds Tryd.pinned (.plain (OpenSpec.ofChange etherTellsSpec)) etherTellsCard

/-- THE TIED CARD OF 'stockadelaw05.EtherBack'. -/
def etherBackCard : Claim7 := { stood := { row := etherBackRow, standIns := [], harness := (true, "0f70e56f4d6536a4742beae1604c68f3c44fe908d7fc64e941aad9d40c3de963"), looks := true }, kinds := [], alts := [], laidByText := true, laidKinds := [.handle], laidTests := true, laidLooks := .later }
def EtherBackCardSaid : Prop := Claim7.holds Tryd.pinned (.plain (OpenSpec.ofChange etherBackSpec)) etherBackCard

/-- THE TIED CARD OF 'stockadelaw05.EtherShort'. -/
def etherShortCard : Claim7 := { stood := { row := etherShortRow, standIns := [], harness := (true, "0f70e56f4d6536a4742beae1604c68f3c44fe908d7fc64e941aad9d40c3de963"), looks := true }, kinds := [], alts := [], laidByText := true, laidKinds := [.handle], laidTests := true, laidLooks := .later }
def EtherShortCardSaid : Prop := Claim7.holds Tryd.pinned (.plain (OpenSpec.ofChange etherShortSpec)) etherShortCard

/-- THE SECOND FORM's CARD OF 'stockadelaw05.EtherTells'. -/
def etherTellsUptoCard : Claim7 := { stood := { row := etherTellsUptoRow, standIns := [], harness := (true, "0f70e56f4d6536a4742beae1604c68f3c44fe908d7fc64e941aad9d40c3de963"), looks := true }, kinds := [], alts := [], laidByText := true, laidKinds := [.handle], laidTests := true, laidLooks := .later }
def EtherTellsUptoCardSaid : Prop := Claim7.holds Tryd.pinned (.plain (OpenSpec.upto etherTellsSpec)) etherTellsUptoCard

/-- THE SECOND FORM's CARD OF 'stockadelaw05.EtherBack'. -/
def etherBackUptoCard : Claim7 := { stood := { row := etherBackUptoRow, standIns := [], harness := (true, "0f70e56f4d6536a4742beae1604c68f3c44fe908d7fc64e941aad9d40c3de963"), looks := true }, kinds := [], alts := [], laidByText := true, laidKinds := [.handle], laidTests := true, laidLooks := .later }
def EtherBackUptoCardSaid : Prop := Claim7.holds Tryd.pinned (.plain (OpenSpec.upto etherBackSpec)) etherBackUptoCard

/-- THE SECOND FORM's CARD OF 'stockadelaw05.EtherShort'. -/
def etherShortUptoCard : Claim7 := { stood := { row := etherShortUptoRow, standIns := [], harness := (true, "0f70e56f4d6536a4742beae1604c68f3c44fe908d7fc64e941aad9d40c3de963"), looks := true }, kinds := [], alts := [], laidByText := true, laidKinds := [.handle], laidTests := true, laidLooks := .later }
def EtherShortUptoCardSaid : Prop := Claim7.holds Tryd.pinned (.plain (OpenSpec.upto etherShortSpec)) etherShortUptoCard
end Rows
end Go.Proofs.YtheiljdilbobdaaDoor
