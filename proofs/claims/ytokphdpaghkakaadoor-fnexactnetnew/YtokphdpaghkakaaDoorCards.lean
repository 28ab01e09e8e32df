/-
  DERIVED. GIVEN WITH THE SEED: THE CARDS: each row of YtokphdpaghkakaaDoorRows.lean that lists a variable, with what it lists TIED to the program's text (the seventh form; the later family's looks); each row that meets fmt, with fmt's text TOLD by the authors' own Lean function (tested against real Go, not proved from fmt's source: count such statements apart). THE CARD IS WHAT COUNTS. Prove the row's statement (the work); the ties are given (YtokphdpaghkakaaDoorTie.lean); close each card by the builder's one call (the guide's Derived/Test/ToyasCard.lean, 'card_holds'). Laid BY PROGRAM, IN A SANDBOX (cutbox-door.mjs). By AI agents, Wed Nov 11 2026. No macro, syntax, notation, axiom, sorry.
-/
import Derived.Test.YtokphdpaghkakaaDoorRows
import GoSem.ClaimSeven
namespace Go.Proofs.YtokphdpaghkakaaDoor
namespace Rows

/-- THE TIED CARD OF 'laws.FnExactNetOrder'. -/
def fnExactNetOrderCard : Claim7 := { stood := { row := fnExactNetOrderRow, standIns := [], harness := (true, "2e36b0bced666009ed837d5de3938fe649bf05e5bf9f1be1f05c8ba5db5b848d"), looks := true }, kinds := [], alts := [], laidByText := true, laidKinds := [.data], laidTests := true, laidLooks := .later }
def FnExactNetOrderCardSaid : Prop := Claim7.holds Tryd.pinned (.plain (OpenSpec.ofChange fnExactNetOrderSpec)) fnExactNetOrderCard

/-- THE TIED CARD OF 'laws.FnExactNetNew'. -/
def fnExactNetNewCard : Claim7 := { stood := { row := fnExactNetNewRow, standIns := [], harness := (true, "2e36b0bced666009ed837d5de3938fe649bf05e5bf9f1be1f05c8ba5db5b848d"), looks := true }, kinds := [], alts := [], laidByText := true, laidKinds := [.data], laidTests := true, laidLooks := .later }
def FnExactNetNewCardSaid : Prop := Claim7.holds Tryd.pinned (.plain (OpenSpec.ofChange fnExactNetNewSpec)) fnExactNetNewCard

/-- THE TIED CARD OF 'laws.FnNetOrder'. -/
def fnNetOrderCard : Claim7 := { stood := { row := fnNetOrderRow, standIns := [], harness := (true, "2e36b0bced666009ed837d5de3938fe649bf05e5bf9f1be1f05c8ba5db5b848d"), looks := true }, kinds := [], alts := [], laidByText := true, laidKinds := [.data], laidTests := true, laidLooks := .later }
def FnNetOrderCardSaid : Prop := Claim7.holds Tryd.pinned (.plain (OpenSpec.ofChange fnNetOrderSpec)) fnNetOrderCard

/-- THE TIED CARD OF 'laws.FnExactCodeRead'. -/
def fnExactCodeReadCard : Claim7 := { stood := { row := fnExactCodeReadRow, standIns := [], harness := (true, "2e36b0bced666009ed837d5de3938fe649bf05e5bf9f1be1f05c8ba5db5b848d"), looks := true }, kinds := [], alts := [], laidByText := true, laidKinds := [.data, .data, .data, .sentinel, .sentinel, .data], laidTests := true, laidLooks := .later }
def FnExactCodeReadCardSaid : Prop := Claim7.holds Tryd.pinned (.plain (OpenSpec.ofChange fnExactCodeReadSpec)) fnExactCodeReadCard

/-- THE SECOND FORM's CARD OF 'laws.FnExactNetOrder'. -/
def fnExactNetOrderUptoCard : Claim7 := { stood := { row := fnExactNetOrderUptoRow, standIns := [], harness := (true, "2e36b0bced666009ed837d5de3938fe649bf05e5bf9f1be1f05c8ba5db5b848d"), looks := true }, kinds := [], alts := [], laidByText := true, laidKinds := [.data], laidTests := true, laidLooks := .later }
def FnExactNetOrderUptoCardSaid : Prop := Claim7.holds Tryd.pinned (.plain (OpenSpec.upto fnExactNetOrderSpec)) fnExactNetOrderUptoCard

/-- THE SECOND FORM's CARD OF 'laws.FnExactNetNew'. -/
def fnExactNetNewUptoCard : Claim7 := { stood := { row := fnExactNetNewUptoRow, standIns := [], harness := (true, "2e36b0bced666009ed837d5de3938fe649bf05e5bf9f1be1f05c8ba5db5b848d"), looks := true }, kinds := [], alts := [], laidByText := true, laidKinds := [.data], laidTests := true, laidLooks := .later }
def FnExactNetNewUptoCardSaid : Prop := Claim7.holds Tryd.pinned (.plain (OpenSpec.upto fnExactNetNewSpec)) fnExactNetNewUptoCard

/-- THE SECOND FORM's CARD OF 'laws.FnNetOrder'. -/
def fnNetOrderUptoCard : Claim7 := { stood := { row := fnNetOrderUptoRow, standIns := [], harness := (true, "2e36b0bced666009ed837d5de3938fe649bf05e5bf9f1be1f05c8ba5db5b848d"), looks := true }, kinds := [], alts := [], laidByText := true, laidKinds := [.data], laidTests := true, laidLooks := .later }
def FnNetOrderUptoCardSaid : Prop := Claim7.holds Tryd.pinned (.plain (OpenSpec.upto fnNetOrderSpec)) fnNetOrderUptoCard

/-- THE SECOND FORM's CARD OF 'laws.FnExactCodeRead'. -/
def fnExactCodeReadUptoCard : Claim7 := { stood := { row := fnExactCodeReadUptoRow, standIns := [], harness := (true, "2e36b0bced666009ed837d5de3938fe649bf05e5bf9f1be1f05c8ba5db5b848d"), looks := true }, kinds := [], alts := [], laidByText := true, laidKinds := [.data, .data, .data, .sentinel, .sentinel, .data], laidTests := true, laidLooks := .later }
def FnExactCodeReadUptoCardSaid : Prop := Claim7.holds Tryd.pinned (.plain (OpenSpec.upto fnExactCodeReadSpec)) fnExactCodeReadUptoCard
end Rows
end Go.Proofs.YtokphdpaghkakaaDoor
