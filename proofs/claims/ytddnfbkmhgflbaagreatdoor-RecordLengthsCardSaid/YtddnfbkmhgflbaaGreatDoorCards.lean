/-
  DERIVED. GIVEN WITH THE SEED: THE CARDS: each row of YtddnfbkmhgflbaaGreatDoorRows.lean that lists a variable, with what it lists TIED to the program's text (the seventh form; the later family's looks); each row that meets fmt, with fmt's text TOLD by the authors' own Lean function (tested against real Go, not proved from fmt's source: count such statements apart). THE CARD IS WHAT COUNTS. Prove the row's statement (the work); the ties are given (YtddnfbkmhgflbaaGreatDoorTie.lean); close each card by the builder's one call (the guide's Derived/Test/ToyasCard.lean, 'card_holds'). Laid BY PROGRAM, IN A SANDBOX (cutbox-door.mjs). By AI agents, Wed Nov 11 2026. No macro, syntax, notation, axiom, sorry.
-/
import Derived.Test.YtddnfbkmhgflbaaGreatDoorRows
import GoSem.ClaimSeven
namespace Go.Proofs.YtddnfbkmhgflbaaGreatDoor
namespace Rows

/-- THE TIED CARD OF 'stockadelaw13.RecordTells'. -/
def recordTellsCard : Claim7 := { stood := { row := recordTellsRow, standIns := [], harness := (true, "ffc09648ef9b448c4c7998e7d369d9fa77f5309431249b2920217b28876b28f5"), looks := true }, kinds := [], alts := [], laidByText := true, laidKinds := [.data, .handle, .pinned], laidTests := true, laidLooks := .later }
def RecordTellsCardSaid : Prop := Claim7.holds Tryz.pinned (.plain (OpenSpec.ofChange recordTellsSpec)) recordTellsCard

/-- THE TIED CARD OF 'stockadelaw13.RecordBack'. -/
def recordBackCard : Claim7 := { stood := { row := recordBackRow, standIns := [], harness := (true, "ffc09648ef9b448c4c7998e7d369d9fa77f5309431249b2920217b28876b28f5"), looks := true }, kinds := [], alts := [], laidByText := true, laidKinds := [.data, .handle, .pinned], laidTests := true, laidLooks := .later }
def RecordBackCardSaid : Prop := Claim7.holds Tryz.pinned (.plain (OpenSpec.ofChange recordBackSpec)) recordBackCard

/-- THE TIED CARD OF 'stockadelaw13.RecordLengths'. -/
def recordLengthsCard : Claim7 := { stood := { row := recordLengthsRow, standIns := [], harness := (true, "ffc09648ef9b448c4c7998e7d369d9fa77f5309431249b2920217b28876b28f5"), looks := true }, kinds := [], alts := [], laidByText := true, laidKinds := [.data, .handle, .pinned], laidTests := true, laidLooks := .later }
def RecordLengthsCardSaid : Prop := Claim7.holds Tryz.pinned (.plain (OpenSpec.ofChange recordLengthsSpec)) recordLengthsCard

/-- THE TIED CARD OF 'stockadelaw13.RecordRefuses'. -/
def recordRefusesCard : Claim7 := { stood := { row := recordRefusesRow, standIns := [], harness := (true, "ffc09648ef9b448c4c7998e7d369d9fa77f5309431249b2920217b28876b28f5"), looks := true }, kinds := [], alts := [], laidByText := true, laidKinds := [.data, .handle, .pinned], laidTests := true, laidLooks := .later }
def RecordRefusesCardSaid : Prop := Claim7.holds Tryz.pinned (.plain (OpenSpec.ofChange recordRefusesSpec)) recordRefusesCard

/-- THE TIED CARD OF 'stockadelaw13.RecordPointers'. -/
def recordPointersCard : Claim7 := { stood := { row := recordPointersRow, standIns := [], harness := (true, "ffc09648ef9b448c4c7998e7d369d9fa77f5309431249b2920217b28876b28f5"), looks := true }, kinds := [], alts := [], laidByText := true, laidKinds := [.data, .handle, .pinned], laidTests := true, laidLooks := .later }
def RecordPointersCardSaid : Prop := Claim7.holds Tryz.pinned (.plain (OpenSpec.ofChange recordPointersSpec)) recordPointersCard

/-- THE TIED CARD OF 'stockadelaw13.RecordClasses'. -/
def recordClassesCard : Claim7 := { stood := { row := recordClassesRow, standIns := [], harness := (true, "ffc09648ef9b448c4c7998e7d369d9fa77f5309431249b2920217b28876b28f5"), looks := true }, kinds := [], alts := [], laidByText := true, laidKinds := [.data, .handle, .pinned], laidTests := true, laidLooks := .later }
def RecordClassesCardSaid : Prop := Claim7.holds Tryz.pinned (.plain (OpenSpec.ofChange recordClassesSpec)) recordClassesCard

/-- THE SECOND FORM's CARD OF 'stockadelaw13.RecordTells'. -/
def recordTellsUptoCard : Claim7 := { stood := { row := recordTellsUptoRow, standIns := [], harness := (true, "ffc09648ef9b448c4c7998e7d369d9fa77f5309431249b2920217b28876b28f5"), looks := true }, kinds := [], alts := [], laidByText := true, laidKinds := [.data, .handle, .pinned], laidTests := true, laidLooks := .later }
def RecordTellsUptoCardSaid : Prop := Claim7.holds Tryz.pinned (.plain (OpenSpec.upto recordTellsSpec)) recordTellsUptoCard

/-- THE SECOND FORM's CARD OF 'stockadelaw13.RecordBack'. -/
def recordBackUptoCard : Claim7 := { stood := { row := recordBackUptoRow, standIns := [], harness := (true, "ffc09648ef9b448c4c7998e7d369d9fa77f5309431249b2920217b28876b28f5"), looks := true }, kinds := [], alts := [], laidByText := true, laidKinds := [.data, .handle, .pinned], laidTests := true, laidLooks := .later }
def RecordBackUptoCardSaid : Prop := Claim7.holds Tryz.pinned (.plain (OpenSpec.upto recordBackSpec)) recordBackUptoCard

/-- THE SECOND FORM's CARD OF 'stockadelaw13.RecordLengths'. -/
def recordLengthsUptoCard : Claim7 := { stood := { row := recordLengthsUptoRow, standIns := [], harness := (true, "ffc09648ef9b448c4c7998e7d369d9fa77f5309431249b2920217b28876b28f5"), looks := true }, kinds := [], alts := [], laidByText := true, laidKinds := [.data, .handle, .pinned], laidTests := true, laidLooks := .later }
def RecordLengthsUptoCardSaid : Prop := Claim7.holds Tryz.pinned (.plain (OpenSpec.upto recordLengthsSpec)) recordLengthsUptoCard

/-- THE SECOND FORM's CARD OF 'stockadelaw13.RecordRefuses'. -/
def recordRefusesUptoCard : Claim7 := { stood := { row := recordRefusesUptoRow, standIns := [], harness := (true, "ffc09648ef9b448c4c7998e7d369d9fa77f5309431249b2920217b28876b28f5"), looks := true }, kinds := [], alts := [], laidByText := true, laidKinds := [.data, .handle, .pinned], laidTests := true, laidLooks := .later }
def RecordRefusesUptoCardSaid : Prop := Claim7.holds Tryz.pinned (.plain (OpenSpec.upto recordRefusesSpec)) recordRefusesUptoCard

/-- THE SECOND FORM's CARD OF 'stockadelaw13.RecordPointers'. -/
def recordPointersUptoCard : Claim7 := { stood := { row := recordPointersUptoRow, standIns := [], harness := (true, "ffc09648ef9b448c4c7998e7d369d9fa77f5309431249b2920217b28876b28f5"), looks := true }, kinds := [], alts := [], laidByText := true, laidKinds := [.data, .handle, .pinned], laidTests := true, laidLooks := .later }
def RecordPointersUptoCardSaid : Prop := Claim7.holds Tryz.pinned (.plain (OpenSpec.upto recordPointersSpec)) recordPointersUptoCard

/-- THE SECOND FORM's CARD OF 'stockadelaw13.RecordClasses'. -/
def recordClassesUptoCard : Claim7 := { stood := { row := recordClassesUptoRow, standIns := [], harness := (true, "ffc09648ef9b448c4c7998e7d369d9fa77f5309431249b2920217b28876b28f5"), looks := true }, kinds := [], alts := [], laidByText := true, laidKinds := [.data, .handle, .pinned], laidTests := true, laidLooks := .later }
def RecordClassesUptoCardSaid : Prop := Claim7.holds Tryz.pinned (.plain (OpenSpec.upto recordClassesSpec)) recordClassesUptoCard
end Rows
end Go.Proofs.YtddnfbkmhgflbaaGreatDoor
