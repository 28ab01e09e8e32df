/-
  DERIVED. GIVEN WITH THE SEED: THE CARDS: each row of YtdhpbiplkjpiiaaGreatDoorRows.lean that lists a variable, with what it lists TIED to the program's text (the seventh form; the later family's looks); each row that meets fmt, with fmt's text TOLD by the authors' own Lean function (tested against real Go, not proved from fmt's source: count such statements apart). THE CARD IS WHAT COUNTS. Prove the row's statement (the work); the ties are given (YtdhpbiplkjpiiaaGreatDoorTie.lean); close each card by the builder's one call (the guide's Derived/Test/ToyasCard.lean, 'card_holds'). Laid BY PROGRAM, IN A SANDBOX (cutbox-door.mjs). By AI agents, Wed Nov 11 2026. No macro, syntax, notation, axiom, sorry.
-/
import Derived.Test.YtdhpbiplkjpiiaaGreatDoorRows
import GoSem.ClaimSeven
namespace Go.Proofs.YtdhpbiplkjpiiaaGreatDoor
namespace Rows

/-- THE TIED CARD OF 'laws.FnExactCodeRun'. -/
def fnExactCodeRunCard : Claim7 := { stood := { row := fnExactCodeRunRow, standIns := [], harness := (true, "77e712740090ed15d2621acf06dd0e9ab6dd21e3a789b9afe9108257611ee1bd"), looks := true }, kinds := [], alts := [], laidByText := true, laidKinds := [.sentinel], laidTests := true, laidLooks := .later }
def FnExactCodeRunCardSaid : Prop := Claim7.holds Tryz.pinned (.plain (OpenSpec.ofChange fnExactCodeRunSpec)) fnExactCodeRunCard

/-- THE SECOND FORM's CARD OF 'laws.FnExactCodeRun'. -/
def fnExactCodeRunUptoCard : Claim7 := { stood := { row := fnExactCodeRunUptoRow, standIns := [], harness := (true, "77e712740090ed15d2621acf06dd0e9ab6dd21e3a789b9afe9108257611ee1bd"), looks := true }, kinds := [], alts := [], laidByText := true, laidKinds := [.sentinel], laidTests := true, laidLooks := .later }
def FnExactCodeRunUptoCardSaid : Prop := Claim7.holds Tryz.pinned (.plain (OpenSpec.upto fnExactCodeRunSpec)) fnExactCodeRunUptoCard
end Rows
end Go.Proofs.YtdhpbiplkjpiiaaGreatDoor
