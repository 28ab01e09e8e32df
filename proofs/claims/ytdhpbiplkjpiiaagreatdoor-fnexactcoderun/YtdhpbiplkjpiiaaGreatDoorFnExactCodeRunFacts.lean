/-
  The closed facts of FnExactCodeRun's row, each by itself.
-/
import Derived.Test.YtdhpbiplkjpiiaaGreatDoorChecked
import Derived.Test.YtdhpbiplkjpiiaaGreatDoorRows
import Derived.JoinedOf
import Derived.SevenTiedAt
import Derived.Handy
import Derived.Lay
namespace Go.Proofs.YtdhpbiplkjpiiaaGreatDoor.fnExactCodeRun
set_option maxRecDepth 100000
theorem fact1 : (Rows.fnExactCodeRunRow.wf (OpenSpec.ofChange Rows.fnExactCodeRunSpec)) = true := by kernel_rfl
theorem fact2 : (laidOutB Tryz.prog) = true := by kernel_rfl
theorem fact3 : (mapsRowed Tryz.prog) = true := by kernel_rfl
theorem fact4 : (Tryz.f3.params.all (Tryz.prog.readableRec ·)) = true := by kernel_rfl
theorem fact5 : (namedTie Tryz.prog Rows.fnExactCodeRunRow.named Rows.fnExactCodeRunSpec.vars) = true := by kernel_rfl
theorem fact6 : ((Rows.fnExactCodeRunRow.stops == [])) = true := by kernel_rfl
theorem fact7 : ((Tryz.prog.stops == [])) = true := by kernel_rfl
theorem fact8 : ((Rows.fnExactCodeRunRow.knobs == [])) = true := by kernel_rfl
theorem fact9 : ((Tryz.prog.stopKnobs == [])) = true := by kernel_rfl
theorem fact10 : ((Rows.fnExactCodeRunRow.inPlace == Tryz.prog.inPlace 3)) = true := by kernel_rfl
theorem fact11 : ((Rows.fnExactCodeRunRow.unfollowed == Tryz.prog.unfollowed 3)) = true := by kernel_rfl
theorem fact12 : ((Rows.fnExactCodeRunRow.recurses == Tryz.prog.recurses 3)) = true := by kernel_rfl
theorem fact13 : ((Rows.fnExactCodeRunRow.named == Tryz.prog.varsNamed 3)) = true := by kernel_rfl
theorem fact14 : ((Rows.fnExactCodeRunRow.maps == (Tryz.f3.params.toList ++ Rows.fnExactCodeRunSpec.plain.varTypes Tryz.prog).any (Tryz.prog.mapsRec ·))) = true := by kernel_rfl
theorem fact15 : ((Rows.fnExactCodeRunRow.ifaces == (Tryz.f3.params.toList ++ Rows.fnExactCodeRunSpec.plain.varTypes Tryz.prog).any (Tryz.prog.ifacesRec ·))) = true := by kernel_rfl
theorem fact16 : ((Rows.fnExactCodeRunRow.mapsOut == Tryz.prog.mapsAmong Tryz.f3.resultTypes.toList)) = true := by kernel_rfl
theorem fact17 : ((Rows.fnExactCodeRunRow.loops == (Tryz.f3.params.toList ++ Rows.fnExactCodeRunSpec.plain.varTypes Tryz.prog).any (Tryz.prog.loopsFrom ·))) = true := by kernel_rfl
theorem fact18 : ((Rows.fnExactCodeRunRow.wideKeys == (Tryz.f3.params.toList ++ Rows.fnExactCodeRunSpec.plain.varTypes Tryz.prog ++ Tryz.f3.resultTypes.toList).any (Tryz.prog.wideKeysFrom ·))) = true := by kernel_rfl
theorem fact19 : (Rows.fnExactCodeRunSpec.vars.all (Tryz.prog.varReadable ·)) = true := by kernel_rfl
theorem fact20 : (Tryz.f3.resultTypes.all (fun t => Tryz.prog.readableRec t && decide (t < Tryz.prog.types.size))) = true := by kernel_rfl
theorem fact21 : ((Rows.fnExactCodeRunRow.ifacesOut == Tryz.f3.resultTypes.toList.any (Tryz.prog.ifacesRec ·))) = true := by kernel_rfl
theorem fact22 : ((Rows.fnExactCodeRunRow.loopsOut == Tryz.f3.resultTypes.toList.any (Tryz.prog.loopsFrom ·))) = true := by kernel_rfl
theorem fact23 : ((Rows.fnExactCodeRunRow.plainKeys == Tryz.prog.plainKeys)) = true := by kernel_rfl
theorem fact24 : (Rows.fnExactCodeRunRow.shortTexts.isNone) = true := by kernel_rfl
theorem fact25 : (Tryz.prog.stopsHeard) = true := by kernel_rfl
theorem fact26 : (Tryz.prog.mayEnter) = true := by kernel_rfl
theorem fact27 : ((Rows.fnExactCodeRunRow.lifted == Tryz.prog.liftsFinal)) = true := by kernel_rfl
theorem fact28 : ((Tryz.prog.make == some Rows.fnExactCodeRunRow.make)) = true := by kernel_rfl
theorem fact29 : ((Rows.fnExactCodeRunRow.kinds == (if Rows.fnExactCodeRunRow.domain.isEmpty then [] else Tryz.f3.params.toList.map fun t => match Tryz.prog.underlying t with | some (.int k) => some k | _ => none))) = true := by kernel_rfl
theorem fact30 : ((Rows.fnExactCodeRunRow.pinned == Rows.fnExactCodeRunRow.pinnedBy)) = true := by kernel_rfl
theorem fact31 : ((Rows.fnExactCodeRunRow.veiled == (Tryz.f3.params.toList ++ Rows.fnExactCodeRunSpec.plain.varTypes Tryz.prog ++ Tryz.f3.resultTypes.toList).any (Tryz.prog.veiledRec ·))) = true := by kernel_rfl
theorem fact32 : (Rows.fnExactCodeRunRow.veiledFits Tryz.prog Tryz.f3.params.toList (Tryz.f3.params.toList ++ Rows.fnExactCodeRunSpec.plain.varTypes Tryz.prog ++ Tryz.f3.resultTypes.toList)) = true := by kernel_rfl
theorem andT {a b : Bool} (h : a = true) (k : b = true) : (a && b) = true := by rw [h, k]; rfl
theorem facts : joinedFacts Tryz.prog 3 Tryz.f3 Rows.fnExactCodeRunSpec Rows.fnExactCodeRunRow = true := andT (andT (andT (andT (andT (andT (andT (andT (andT (andT (andT (andT (andT (andT (andT (andT (andT (andT (andT (andT (andT (andT (andT (andT (andT (andT (andT (andT (andT (andT (andT fact1 fact2) fact3) fact4) fact5) fact6) fact7) fact8) fact9) fact10) fact11) fact12) fact13) fact14) fact15) fact16) fact17) fact18) fact19) fact20) fact21) fact22) fact23) fact24) fact25) fact26) fact27) fact28) fact29) fact30) fact31) fact32
theorem wfText : Rows.fnExactCodeRunRow.wfByText (OpenSpec.ofChange Rows.fnExactCodeRunSpec) = true := by kernel_rfl
theorem mainIs0 : Tryz.prog.mainIs = some (((true, "77e712740090ed15d2621acf06dd0e9ab6dd21e3a789b9afe9108257611ee1bd") : Bool × String).1, ((true, "77e712740090ed15d2621acf06dd0e9ab6dd21e3a789b9afe9108257611ee1bd") : Bool × String).2.toList) := by kernel_rfl
theorem looks0 : true = Tryz.prog.looks [] := by kernel_rfl
theorem named0 : Tryz.prog.funcNamed Tryz.f3.name = some 3 := by kernel_rfl
theorem goes0 : false = Rows.fnExactCodeRunRow.goesBy Tryz.prog := by kernel_rfl
end Go.Proofs.YtdhpbiplkjpiiaaGreatDoor.fnExactCodeRun
