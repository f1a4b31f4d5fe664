/-
  DERIVED. GIVEN WITH THE SEED: THE CARDS: each row of YtoagfmonfgagbaaGreatDoorRows.lean that lists a variable, with what it lists TIED to the program's text (the seventh form; the later family's looks); each row that meets fmt, with fmt's text TOLD by the authors' own Lean function (tested against real Go, not proved from fmt's source: count such statements apart). THE CARD IS WHAT COUNTS. Prove the row's statement (the work); the ties are given (YtoagfmonfgagbaaGreatDoorTie.lean); close each card by the builder's one call (the guide's Derived/Test/ToyasCard.lean, 'card_holds'). Laid BY PROGRAM, IN A SANDBOX (cutbox-door.mjs). By AI agents, Wed Nov 11 2026. No macro, syntax, notation, axiom, sorry.
-/
import Derived.Test.YtoagfmonfgagbaaGreatDoorRows
import GoSem.ClaimSeven
namespace Go.Proofs.YtoagfmonfgagbaaGreatDoor
namespace Rows

/-- THE TIED CARD OF 'stockadelaw19.RuleBack'. -/
def ruleBackCard : Claim7 := { stood := { row := ruleBackRow, standIns := [], harness := (true, "979fe2ee0f95267ca2bf413f8f9ea8cb8b27d8d9d6bb6b1980f557f802b31f26"), looks := true }, kinds := [], alts := [], laidByText := true, laidKinds := [.data, .data, .data, .data, .sentinel, .sentinel, .data, .pinned], laidTests := true, laidLooks := .later }
def RuleBackCardSaid : Prop := Claim7.holds Tryz.pinned (.plain (OpenSpec.ofChange ruleBackSpec)) ruleBackCard

/-- THE TIED CARD OF 'stockadelaw19.RuleRefuses'. -/
def ruleRefusesCard : Claim7 := { stood := { row := ruleRefusesRow, standIns := [], harness := (true, "979fe2ee0f95267ca2bf413f8f9ea8cb8b27d8d9d6bb6b1980f557f802b31f26"), looks := true }, kinds := [], alts := [], laidByText := true, laidKinds := [.data, .data, .data, .data, .handle, .sentinel, .sentinel, .data, .pinned], laidTests := true, laidLooks := .later }
def RuleRefusesCardSaid : Prop := Claim7.holds Tryz.pinned (.plain (OpenSpec.ofChange ruleRefusesSpec)) ruleRefusesCard

/-- THE TIED CARD OF 'stockadelaw19.RuleMany'. -/
def ruleManyCard : Claim7 := { stood := { row := ruleManyRow, standIns := [], harness := (true, "979fe2ee0f95267ca2bf413f8f9ea8cb8b27d8d9d6bb6b1980f557f802b31f26"), looks := true }, kinds := [], alts := [], laidByText := true, laidKinds := [.data, .data, .data, .data, .handle, .sentinel, .sentinel, .data, .pinned], laidTests := true, laidLooks := .later }
def RuleManyCardSaid : Prop := Claim7.holds Tryz.pinned (.plain (OpenSpec.ofChange ruleManySpec)) ruleManyCard

/-- THE TIED CARD OF 'stockadelaw19.RuleLines'. -/
def ruleLinesCard : Claim7 := { stood := { row := ruleLinesRow, standIns := [], harness := (true, "979fe2ee0f95267ca2bf413f8f9ea8cb8b27d8d9d6bb6b1980f557f802b31f26"), looks := true }, kinds := [], alts := [], laidByText := true, laidKinds := [.data, .data, .data, .data, .sentinel, .sentinel, .data, .pinned], laidTests := true, laidLooks := .later }
def RuleLinesCardSaid : Prop := Claim7.holds Tryz.pinned (.plain (OpenSpec.ofChange ruleLinesSpec)) ruleLinesCard

/-- THE TIED CARD OF 'stockadelaw19.RulePorts'. -/
def rulePortsCard : Claim7 := { stood := { row := rulePortsRow, standIns := [], harness := (true, "979fe2ee0f95267ca2bf413f8f9ea8cb8b27d8d9d6bb6b1980f557f802b31f26"), looks := true }, kinds := [], alts := [], laidByText := true, laidKinds := [.data, .data, .data, .data, .sentinel, .sentinel, .data, .pinned], laidTests := true, laidLooks := .later }
def RulePortsCardSaid : Prop := Claim7.holds Tryz.pinned (.plain (OpenSpec.ofChange rulePortsSpec)) rulePortsCard

/-- THE TIED CARD OF 'stockadelaw19.RuleNeeds'. -/
def ruleNeedsCard : Claim7 := { stood := { row := ruleNeedsRow, standIns := [], harness := (true, "979fe2ee0f95267ca2bf413f8f9ea8cb8b27d8d9d6bb6b1980f557f802b31f26"), looks := true }, kinds := [], alts := [], laidByText := true, laidKinds := [.data, .data, .data, .data, .sentinel, .sentinel, .data, .pinned], laidTests := true, laidLooks := .later }
def RuleNeedsCardSaid : Prop := Claim7.holds Tryz.pinned (.plain (OpenSpec.ofChange ruleNeedsSpec)) ruleNeedsCard

/-- THE SECOND FORM's CARD OF 'stockadelaw19.RuleBack'. -/
def ruleBackUptoCard : Claim7 := { stood := { row := ruleBackUptoRow, standIns := [], harness := (true, "979fe2ee0f95267ca2bf413f8f9ea8cb8b27d8d9d6bb6b1980f557f802b31f26"), looks := true }, kinds := [], alts := [], laidByText := true, laidKinds := [.data, .data, .data, .data, .sentinel, .sentinel, .data, .pinned], laidTests := true, laidLooks := .later }
def RuleBackUptoCardSaid : Prop := Claim7.holds Tryz.pinned (.plain (OpenSpec.upto ruleBackSpec)) ruleBackUptoCard

/-- THE SECOND FORM's CARD OF 'stockadelaw19.RuleRefuses'. -/
def ruleRefusesUptoCard : Claim7 := { stood := { row := ruleRefusesUptoRow, standIns := [], harness := (true, "979fe2ee0f95267ca2bf413f8f9ea8cb8b27d8d9d6bb6b1980f557f802b31f26"), looks := true }, kinds := [], alts := [], laidByText := true, laidKinds := [.data, .data, .data, .data, .handle, .sentinel, .sentinel, .data, .pinned], laidTests := true, laidLooks := .later }
def RuleRefusesUptoCardSaid : Prop := Claim7.holds Tryz.pinned (.plain (OpenSpec.upto ruleRefusesSpec)) ruleRefusesUptoCard

/-- THE SECOND FORM's CARD OF 'stockadelaw19.RuleMany'. -/
def ruleManyUptoCard : Claim7 := { stood := { row := ruleManyUptoRow, standIns := [], harness := (true, "979fe2ee0f95267ca2bf413f8f9ea8cb8b27d8d9d6bb6b1980f557f802b31f26"), looks := true }, kinds := [], alts := [], laidByText := true, laidKinds := [.data, .data, .data, .data, .handle, .sentinel, .sentinel, .data, .pinned], laidTests := true, laidLooks := .later }
def RuleManyUptoCardSaid : Prop := Claim7.holds Tryz.pinned (.plain (OpenSpec.upto ruleManySpec)) ruleManyUptoCard

/-- THE SECOND FORM's CARD OF 'stockadelaw19.RuleLines'. -/
def ruleLinesUptoCard : Claim7 := { stood := { row := ruleLinesUptoRow, standIns := [], harness := (true, "979fe2ee0f95267ca2bf413f8f9ea8cb8b27d8d9d6bb6b1980f557f802b31f26"), looks := true }, kinds := [], alts := [], laidByText := true, laidKinds := [.data, .data, .data, .data, .sentinel, .sentinel, .data, .pinned], laidTests := true, laidLooks := .later }
def RuleLinesUptoCardSaid : Prop := Claim7.holds Tryz.pinned (.plain (OpenSpec.upto ruleLinesSpec)) ruleLinesUptoCard

/-- THE SECOND FORM's CARD OF 'stockadelaw19.RulePorts'. -/
def rulePortsUptoCard : Claim7 := { stood := { row := rulePortsUptoRow, standIns := [], harness := (true, "979fe2ee0f95267ca2bf413f8f9ea8cb8b27d8d9d6bb6b1980f557f802b31f26"), looks := true }, kinds := [], alts := [], laidByText := true, laidKinds := [.data, .data, .data, .data, .sentinel, .sentinel, .data, .pinned], laidTests := true, laidLooks := .later }
def RulePortsUptoCardSaid : Prop := Claim7.holds Tryz.pinned (.plain (OpenSpec.upto rulePortsSpec)) rulePortsUptoCard

/-- THE SECOND FORM's CARD OF 'stockadelaw19.RuleNeeds'. -/
def ruleNeedsUptoCard : Claim7 := { stood := { row := ruleNeedsUptoRow, standIns := [], harness := (true, "979fe2ee0f95267ca2bf413f8f9ea8cb8b27d8d9d6bb6b1980f557f802b31f26"), looks := true }, kinds := [], alts := [], laidByText := true, laidKinds := [.data, .data, .data, .data, .sentinel, .sentinel, .data, .pinned], laidTests := true, laidLooks := .later }
def RuleNeedsUptoCardSaid : Prop := Claim7.holds Tryz.pinned (.plain (OpenSpec.upto ruleNeedsSpec)) ruleNeedsUptoCard
end Rows
end Go.Proofs.YtoagfmonfgagbaaGreatDoor
