/-
 The closed facts of FnExactPlcOk's row, each by itself.
-/
import Derived.Test.YtaoiookfmgpmkaaGreatDoorChecked
import Derived.Test.YtaoiookfmgpmkaaGreatDoorRows
import Derived.JoinedOf
import Derived.SevenTiedAt
import Derived.Handy
import Derived.Lay
namespace Go.Proofs.YtaoiookfmgpmkaaGreatDoor.fnExactPlcOk
set_option maxRecDepth 100000
theorem fact1 : (Rows.fnExactPlcOkRow.wf (OpenSpec.ofChange Rows.fnExactPlcOkSpec)) = true := by kernel_rfl
theorem fact2 : (laidOutB Tryz.prog) = true := by kernel_rfl
theorem fact3 : (mapsRowed Tryz.prog) = true := by kernel_rfl
theorem fact4 : (Tryz.f4.params.all (Tryz.prog.readableRec ·)) = true := by kernel_rfl
theorem fact5 : (namedTie Tryz.prog Rows.fnExactPlcOkRow.named Rows.fnExactPlcOkSpec.vars) = true := by kernel_rfl
theorem fact6 : ((Rows.fnExactPlcOkRow.stops == [])) = true := by kernel_rfl
theorem fact7 : ((Tryz.prog.stops == [])) = true := by kernel_rfl
theorem fact8 : ((Rows.fnExactPlcOkRow.knobs == [])) = true := by kernel_rfl
theorem fact9 : ((Tryz.prog.stopKnobs == [])) = true := by kernel_rfl
theorem fact10 : ((Rows.fnExactPlcOkRow.inPlace == Tryz.prog.inPlace 4)) = true := by kernel_rfl
theorem fact11 : ((Rows.fnExactPlcOkRow.unfollowed == Tryz.prog.unfollowed 4)) = true := by kernel_rfl
theorem fact12 : ((Rows.fnExactPlcOkRow.recurses == Tryz.prog.recurses 4)) = true := by kernel_rfl
theorem fact13 : ((Rows.fnExactPlcOkRow.named == Tryz.prog.varsNamed 4)) = true := by kernel_rfl
theorem fact14 : ((Rows.fnExactPlcOkRow.maps == (Tryz.f4.params.toList ++ Rows.fnExactPlcOkSpec.plain.varTypes Tryz.prog).any (Tryz.prog.mapsRec ·))) = true := by kernel_rfl
theorem fact15 : ((Rows.fnExactPlcOkRow.ifaces == (Tryz.f4.params.toList ++ Rows.fnExactPlcOkSpec.plain.varTypes Tryz.prog).any (Tryz.prog.ifacesRec ·))) = true := by kernel_rfl
theorem fact16 : ((Rows.fnExactPlcOkRow.mapsOut == Tryz.prog.mapsAmong Tryz.f4.resultTypes.toList)) = true := by kernel_rfl
theorem fact17 : ((Rows.fnExactPlcOkRow.loops == (Tryz.f4.params.toList ++ Rows.fnExactPlcOkSpec.plain.varTypes Tryz.prog).any (Tryz.prog.loopsFrom ·))) = true := by kernel_rfl
theorem fact18 : ((Rows.fnExactPlcOkRow.wideKeys == (Tryz.f4.params.toList ++ Rows.fnExactPlcOkSpec.plain.varTypes Tryz.prog ++ Tryz.f4.resultTypes.toList).any (Tryz.prog.wideKeysFrom ·))) = true := by kernel_rfl
theorem fact19 : (Rows.fnExactPlcOkSpec.vars.all (Tryz.prog.varReadable ·)) = true := by kernel_rfl
theorem fact20 : (Tryz.f4.resultTypes.all (fun t => Tryz.prog.readableRec t && decide (t < Tryz.prog.types.size))) = true := by kernel_rfl
theorem fact21 : ((Rows.fnExactPlcOkRow.ifacesOut == Tryz.f4.resultTypes.toList.any (Tryz.prog.ifacesRec ·))) = true := by kernel_rfl
theorem fact22 : ((Rows.fnExactPlcOkRow.loopsOut == Tryz.f4.resultTypes.toList.any (Tryz.prog.loopsFrom ·))) = true := by kernel_rfl
theorem fact23 : ((Rows.fnExactPlcOkRow.plainKeys == Tryz.prog.plainKeys)) = true := by kernel_rfl
theorem fact24 : (Rows.fnExactPlcOkRow.shortTexts.isNone) = true := by kernel_rfl
theorem fact25 : (Tryz.prog.stopsHeard) = true := by kernel_rfl
theorem fact26 : (Tryz.prog.mayEnter) = true := by kernel_rfl
theorem fact27 : ((Rows.fnExactPlcOkRow.lifted == Tryz.prog.liftsFinal)) = true := by kernel_rfl
theorem fact28 : ((Tryz.prog.make == some Rows.fnExactPlcOkRow.make)) = true := by kernel_rfl
theorem fact29 : ((Rows.fnExactPlcOkRow.kinds == (if Rows.fnExactPlcOkRow.domain.isEmpty then [] else Tryz.f4.params.toList.map fun t => match Tryz.prog.underlying t with | some (.int k) => some k | _ => none))) = true := by kernel_rfl
theorem fact30 : ((Rows.fnExactPlcOkRow.pinned == Rows.fnExactPlcOkRow.pinnedBy)) = true := by kernel_rfl
theorem fact31 : ((Rows.fnExactPlcOkRow.veiled == (Tryz.f4.params.toList ++ Rows.fnExactPlcOkSpec.plain.varTypes Tryz.prog ++ Tryz.f4.resultTypes.toList).any (Tryz.prog.veiledRec ·))) = true := by kernel_rfl
theorem fact32 : (Rows.fnExactPlcOkRow.veiledFits Tryz.prog Tryz.f4.params.toList (Tryz.f4.params.toList ++ Rows.fnExactPlcOkSpec.plain.varTypes Tryz.prog ++ Tryz.f4.resultTypes.toList)) = true := by kernel_rfl
theorem andT {a b : Bool} (h : a = true) (k : b = true) : (a && b) = true := by rw [h, k]; rfl
theorem facts : joinedFacts Tryz.prog 4 Tryz.f4 Rows.fnExactPlcOkSpec Rows.fnExactPlcOkRow = true := andT (andT (andT (andT (andT (andT (andT (andT (andT (andT (andT (andT (andT (andT (andT (andT (andT (andT (andT (andT (andT (andT (andT (andT (andT (andT (andT (andT (andT (andT (andT fact1 fact2) fact3) fact4) fact5) fact6) fact7) fact8) fact9) fact10) fact11) fact12) fact13) fact14) fact15) fact16) fact17) fact18) fact19) fact20) fact21) fact22) fact23) fact24) fact25) fact26) fact27) fact28) fact29) fact30) fact31) fact32
theorem wfText : Rows.fnExactPlcOkRow.wfByText (OpenSpec.ofChange Rows.fnExactPlcOkSpec) = true := by kernel_rfl
theorem mainIs0 : Tryz.prog.mainIs = some (((true, "d2e86fa78a13ef09681955602353480b57aab35bbf830ee150e0dcc212293bf0") : Bool × String).1, ((true, "d2e86fa78a13ef09681955602353480b57aab35bbf830ee150e0dcc212293bf0") : Bool × String).2.toList) := by kernel_rfl
theorem looks0 : true = Tryz.prog.looks [] := by kernel_rfl
theorem named0 : Tryz.prog.funcNamed Tryz.f4.name = some 4 := by kernel_rfl
theorem goes0 : false = Rows.fnExactPlcOkRow.goesBy Tryz.prog := by kernel_rfl
end Go.Proofs.YtaoiookfmgpmkaaGreatDoor.fnExactPlcOk
