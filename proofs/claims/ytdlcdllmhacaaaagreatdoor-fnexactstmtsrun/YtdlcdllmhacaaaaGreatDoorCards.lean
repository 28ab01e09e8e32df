/-
  DERIVED. GIVEN WITH THE SEED: THE CARDS: each row of YtdlcdllmhacaaaaGreatDoorRows.lean that lists a variable, with what it lists TIED to the program's text (the seventh form; the later family's looks); each row that meets fmt, with fmt's text TOLD by the authors' own Lean function (tested against real Go, not proved from fmt's source: count such statements apart). THE CARD IS WHAT COUNTS. Prove the row's statement (the work); the ties are given (YtdlcdllmhacaaaaGreatDoorTie.lean); close each card by the builder's one call (the guide's Derived/Test/ToyasCard.lean, 'card_holds'). Laid BY PROGRAM, IN A SANDBOX (cutbox-door.mjs). By AI agents, Wed Nov 11 2026. No macro, syntax, notation, axiom, sorry.
-/
import Derived.Test.YtdlcdllmhacaaaaGreatDoorRows
import GoSem.ClaimSeven
namespace Go.Proofs.YtdlcdllmhacaaaaGreatDoor
namespace Rows

/-- THE TIED CARD OF 'laws.FnExactStmtsRun'. -/
def fnExactStmtsRunCard : Claim7 := { stood := { row := fnExactStmtsRunRow, standIns := [], harness := (true, "ef97f68793d6299e80c0ca860a649ef68f1ec5b7efa5dbfe0f331734e3650e11"), looks := true }, kinds := [], alts := [], laidByText := true, laidKinds := [.sentinel], laidTests := true, laidLooks := .later }
def FnExactStmtsRunCardSaid : Prop := Claim7.holds Tryz.pinned (.plain (OpenSpec.ofChange fnExactStmtsRunSpec)) fnExactStmtsRunCard

/-- THE TIED CARD OF 'laws.FnExactStmtsRead'. -/
def fnExactStmtsReadCard : Claim7 := { stood := { row := fnExactStmtsReadRow, standIns := [], harness := (true, "ef97f68793d6299e80c0ca860a649ef68f1ec5b7efa5dbfe0f331734e3650e11"), looks := true }, kinds := [], alts := [], laidByText := true, laidKinds := [.data, .data, .data, .data, .sentinel, .sentinel, .sentinel, .sentinel, .pinned], laidTests := true, laidLooks := .later }
def FnExactStmtsReadCardSaid : Prop := Claim7.holds Tryz.pinned (.plain (OpenSpec.ofChange fnExactStmtsReadSpec)) fnExactStmtsReadCard

/-- THE SECOND FORM's CARD OF 'laws.FnExactStmtsRun'. -/
def fnExactStmtsRunUptoCard : Claim7 := { stood := { row := fnExactStmtsRunUptoRow, standIns := [], harness := (true, "ef97f68793d6299e80c0ca860a649ef68f1ec5b7efa5dbfe0f331734e3650e11"), looks := true }, kinds := [], alts := [], laidByText := true, laidKinds := [.sentinel], laidTests := true, laidLooks := .later }
def FnExactStmtsRunUptoCardSaid : Prop := Claim7.holds Tryz.pinned (.plain (OpenSpec.upto fnExactStmtsRunSpec)) fnExactStmtsRunUptoCard

/-- THE SECOND FORM's CARD OF 'laws.FnExactStmtsRead'. -/
def fnExactStmtsReadUptoCard : Claim7 := { stood := { row := fnExactStmtsReadUptoRow, standIns := [], harness := (true, "ef97f68793d6299e80c0ca860a649ef68f1ec5b7efa5dbfe0f331734e3650e11"), looks := true }, kinds := [], alts := [], laidByText := true, laidKinds := [.data, .data, .data, .data, .sentinel, .sentinel, .sentinel, .sentinel, .pinned], laidTests := true, laidLooks := .later }
def FnExactStmtsReadUptoCardSaid : Prop := Claim7.holds Tryz.pinned (.plain (OpenSpec.upto fnExactStmtsReadSpec)) fnExactStmtsReadUptoCard
end Rows
end Go.Proofs.YtdlcdllmhacaaaaGreatDoor
