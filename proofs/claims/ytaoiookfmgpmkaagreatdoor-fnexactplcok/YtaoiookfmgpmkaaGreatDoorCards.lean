/-
  DERIVED. GIVEN WITH THE SEED: THE CARDS: each row of YtaoiookfmgpmkaaGreatDoorRows.lean that lists a variable, with what it lists TIED to the program's text (the seventh form; the later family's looks); each row that meets fmt, with fmt's text TOLD by the authors' own Lean function (tested against real Go, not proved from fmt's source: count such statements apart). THE CARD IS WHAT COUNTS. Prove the row's statement (the work); the ties are given (YtaoiookfmgpmkaaGreatDoorTie.lean); close each card by the builder's one call (the guide's Derived/Test/ToyasCard.lean, 'card_holds'). Laid BY PROGRAM, IN A SANDBOX (cutbox-door.mjs). By AI agents, Wed Nov 11 2026. No macro, syntax, notation, axiom, sorry.
-/
import Derived.Test.YtaoiookfmgpmkaaGreatDoorRows
import GoSem.ClaimSeven
namespace Go.Proofs.YtaoiookfmgpmkaaGreatDoor
namespace Rows

/-- THE TIED CARD OF 'laws.FnExactPlcNew'. -/
def fnExactPlcNewCard : Claim7 := { stood := { row := fnExactPlcNewRow, standIns := [], harness := (true, "d2e86fa78a13ef09681955602353480b57aab35bbf830ee150e0dcc212293bf0"), looks := true }, kinds := [], alts := [], laidByText := true, laidKinds := [.data], laidTests := true, laidLooks := .later }
def FnExactPlcNewCardSaid : Prop := Claim7.holds Tryz.pinned (.plain (OpenSpec.ofChange fnExactPlcNewSpec)) fnExactPlcNewCard

/-- THE TIED CARD OF 'laws.FnExactPlcOk'. -/
def fnExactPlcOkCard : Claim7 := { stood := { row := fnExactPlcOkRow, standIns := [], harness := (true, "d2e86fa78a13ef09681955602353480b57aab35bbf830ee150e0dcc212293bf0"), looks := true }, kinds := [], alts := [], laidByText := true, laidKinds := [.data], laidTests := true, laidLooks := .later }
def FnExactPlcOkCardSaid : Prop := Claim7.holds Tryz.pinned (.plain (OpenSpec.ofChange fnExactPlcOkSpec)) fnExactPlcOkCard

/-- THE TIED CARD OF 'laws.FnExactPlcFall'. -/
def fnExactPlcFallCard : Claim7 := { stood := { row := fnExactPlcFallRow, standIns := [], harness := (true, "d2e86fa78a13ef09681955602353480b57aab35bbf830ee150e0dcc212293bf0"), looks := true }, kinds := [], alts := [], laidByText := true, laidKinds := [.data], laidTests := true, laidLooks := .later }
def FnExactPlcFallCardSaid : Prop := Claim7.holds Tryz.pinned (.plain (OpenSpec.ofChange fnExactPlcFallSpec)) fnExactPlcFallCard

/-- THE TIED CARD OF 'laws.FnExactNetStep'. -/
def fnExactNetStepCard : Claim7 := { stood := { row := fnExactNetStepRow, standIns := [], harness := (true, "d2e86fa78a13ef09681955602353480b57aab35bbf830ee150e0dcc212293bf0"), looks := true }, kinds := [], alts := [], laidByText := true, laidKinds := [.data], laidTests := true, laidLooks := .later }
def FnExactNetStepCardSaid : Prop := Claim7.holds Tryz.pinned (.plain (OpenSpec.ofChange fnExactNetStepSpec)) fnExactNetStepCard

/-- THE TIED CARD OF 'laws.FnExactCodeRun'. -/
def fnExactCodeRunCard : Claim7 := { stood := { row := fnExactCodeRunRow, standIns := [], harness := (true, "d2e86fa78a13ef09681955602353480b57aab35bbf830ee150e0dcc212293bf0"), looks := true }, kinds := [], alts := [], laidByText := true, laidKinds := [.sentinel], laidTests := true, laidLooks := .later }
def FnExactCodeRunCardSaid : Prop := Claim7.holds Tryz.pinned (.plain (OpenSpec.ofChange fnExactCodeRunSpec)) fnExactCodeRunCard

/-- THE SECOND FORM's CARD OF 'laws.FnExactPlcNew'. -/
def fnExactPlcNewUptoCard : Claim7 := { stood := { row := fnExactPlcNewUptoRow, standIns := [], harness := (true, "d2e86fa78a13ef09681955602353480b57aab35bbf830ee150e0dcc212293bf0"), looks := true }, kinds := [], alts := [], laidByText := true, laidKinds := [.data], laidTests := true, laidLooks := .later }
def FnExactPlcNewUptoCardSaid : Prop := Claim7.holds Tryz.pinned (.plain (OpenSpec.upto fnExactPlcNewSpec)) fnExactPlcNewUptoCard

/-- THE SECOND FORM's CARD OF 'laws.FnExactPlcOk'. -/
def fnExactPlcOkUptoCard : Claim7 := { stood := { row := fnExactPlcOkUptoRow, standIns := [], harness := (true, "d2e86fa78a13ef09681955602353480b57aab35bbf830ee150e0dcc212293bf0"), looks := true }, kinds := [], alts := [], laidByText := true, laidKinds := [.data], laidTests := true, laidLooks := .later }
def FnExactPlcOkUptoCardSaid : Prop := Claim7.holds Tryz.pinned (.plain (OpenSpec.upto fnExactPlcOkSpec)) fnExactPlcOkUptoCard

/-- THE SECOND FORM's CARD OF 'laws.FnExactPlcFall'. -/
def fnExactPlcFallUptoCard : Claim7 := { stood := { row := fnExactPlcFallUptoRow, standIns := [], harness := (true, "d2e86fa78a13ef09681955602353480b57aab35bbf830ee150e0dcc212293bf0"), looks := true }, kinds := [], alts := [], laidByText := true, laidKinds := [.data], laidTests := true, laidLooks := .later }
def FnExactPlcFallUptoCardSaid : Prop := Claim7.holds Tryz.pinned (.plain (OpenSpec.upto fnExactPlcFallSpec)) fnExactPlcFallUptoCard

/-- THE SECOND FORM's CARD OF 'laws.FnExactNetStep'. -/
def fnExactNetStepUptoCard : Claim7 := { stood := { row := fnExactNetStepUptoRow, standIns := [], harness := (true, "d2e86fa78a13ef09681955602353480b57aab35bbf830ee150e0dcc212293bf0"), looks := true }, kinds := [], alts := [], laidByText := true, laidKinds := [.data], laidTests := true, laidLooks := .later }
def FnExactNetStepUptoCardSaid : Prop := Claim7.holds Tryz.pinned (.plain (OpenSpec.upto fnExactNetStepSpec)) fnExactNetStepUptoCard

/-- THE SECOND FORM's CARD OF 'laws.FnExactCodeRun'. -/
def fnExactCodeRunUptoCard : Claim7 := { stood := { row := fnExactCodeRunUptoRow, standIns := [], harness := (true, "d2e86fa78a13ef09681955602353480b57aab35bbf830ee150e0dcc212293bf0"), looks := true }, kinds := [], alts := [], laidByText := true, laidKinds := [.sentinel], laidTests := true, laidLooks := .later }
def FnExactCodeRunUptoCardSaid : Prop := Claim7.holds Tryz.pinned (.plain (OpenSpec.upto fnExactCodeRunSpec)) fnExactCodeRunUptoCard
end Rows
end Go.Proofs.YtaoiookfmgpmkaaGreatDoor
