/-
 The program's PlcOk answers as chapter 9's model does, at every controller the law draws.
-/
import Derived.Test.YtaoiookfmgpmkaaGreatDoorQM17
import Derived.Test.YtaoiookfmgpmkaaGreatDoorPlcOkI
import Derived.Test.YtaoiookfmgpmkaaGreatDoorQM28
import Derived.Test.YtaoiookfmgpmkaaGreatDoorLaidForms
import Derived.Test.YtaoiookfmgpmkaaGreatDoorFnExactPlcOkFacts
import Derived.ChangeOld
import Derived.OpenVars
import Derived.ChangeVars
import Derived.Stop.LaidErr
import Derived.Test.YtaoiookfmgpmkaaGreatDoorTie
import Derived.Test.YtaoiookfmgpmkaaGreatDoorCards
import Derived.Handy
import Derived.Lay
import Derived.SevenTiedAt
namespace Go.Proofs.YtaoiookfmgpmkaaGreatDoor.fnExactPlcOk
open Go.ChangeShapes Go.WideShapes Go.ChangeAt Go.RowKit
open Go.ChangeMaps (open_string shut_string)
set_option linter.unusedVariables false

theorem own : ownKnob Tryz.prog.godebug = none := by kernel_rfl
theorem laidOut : laidOutB Tryz.prog = true := by kernel_rfl

theorem walk (w : World) (hTab : FormsAt w) (v0 : Value) (m0 : PlcD) (r0 : PI w 0 w.heap.size v0 m0) :
  Calls Tryz.prog 4 #[v0] w fun e w' => e = .returned (.bool true) ∧ Below w.heap.size w w' := by
 exact exactPlcOk_walk (fun w hT m0 lo0 hi0 d0 h0 b0 n0 => iPlcOk_any w hT lo0 hi0 m0 d0 h0 b0 n0) w hTab v0 m0 r0

set_option maxRecDepth 100000 in
theorem lifted (os : Os) (started : os.Started) (H : Type) (enc : TypeId × Value → H) :
  ReturnsInHanded {} Tryz.checked os 4 .any (fun w args => (Rows.fnExactPlcOkSpec.pre enc Tryz.prog Tryz.f4 [] false w args ∧ laidMetH Tryz.prog Rows.fnExactPlcOkRow.laid w) ∧ sizedMet enc Tryz.prog Tryz.f4 (OpenSpec.ofChange Rows.fnExactPlcOkSpec) false w args)
   (Rows.fnExactPlcOkSpec.post enc Tryz.prog Tryz.f4 false true false false) := by
 refine returnsInHanded_of_change_and (C := Tryz.checked) (X := fun w _ => laidMetH Tryz.prog Rows.fnExactPlcOkRow.laid w) (fun _ _ _ hh h => h.of_heap hh) own started (by kernel_rfl) Tryz.func4
  (ChangeSpec.witness_shaped (enc := enc) (C := Tryz.checked) (os := os) (X := fun w _ => laidMetH Tryz.prog Rows.fnExactPlcOkRow.laid w) false (World.laidAll Tryz.prog os Rows.fnExactPlcOkRow.laid) #[.agg #[.slice none 0 0, .slice none 0 0, .slice none 0 0, .int .i64 0, .slice none 0 0, .slice none 0 0, .slice none 0 0, .slice none 0 0, .slice none 0 0, .slice none 0 0, .slice none 0 0, .slice none 0 0, .slice none 0 0, .bool false, .int .i64 0]] 8 (World.laidAll_os _ _ _)
   (World.shaped_of_ZipB (by kernel_rfl) (by kernel_rfl)) (by kernel_rfl) (by kernel_rfl) (by kernel_rfl)
   (by rw [MakeChecks.laidMetH_plain _ _ _ (by kernel_rfl)]; exact laidMet_laidAll _ (by kernel_rfl) (by kernel_rfl))) ?_
 intro W base args ds gs before hval0 hW x1 x2 x3 x4
 have hval : ∀ (j : Nat) t v, Tryz.f4.params[j]? = some t → args[j]? = some v → Value.okWide Tryz.prog W .any base t v := hval0
 have hW' := hW
 obtain ⟨p, q, hA0, hV, rfl, hfz, hnd⟩ := hW
 have hA : DataW.TrodAll enc Tryz.prog W 0 (fun _ => true) true Tryz.f4.params.toList args.toList ds p := hA0
 rw [Tryz.params4] at hA hval
 obtain ⟨v0, vs0, d0, ds0, p0, q0, hargs, rfl, rfl, h0, r0_⟩ := trodAll_cons hA
 obtain ⟨rfl, rfl, rfl⟩ := trodAll_nil r0_
 obtain rfl : args = #[v0] := by cases args; simp_all
 have hV1 : DataW.TrodVars enc Tryz.prog W (fun _ => true) ["loop.example/stopgate/impl.wireForms"] gs q := hV
 have hL1 : laidMetH Tryz.prog Rows.fnExactPlcOkRow.laid W := by first | exact x1 | exact x2 | exact x3 | exact x4
 rw [MakeChecks.laidMetH_plain _ _ _ (by kernel_rfl)] at hL1
 have hT0 : FormsAt W := forms_of_head hL1
 obtain ⟨gd, rfl⟩ : ∃ gd, gs = [gd] := by obtain ⟨_, _, _, _, d, _, h, _⟩ := trodVars_one hV1; exact ⟨d, h⟩
 have k0 := h0
 have lt0 : ∀ x ∈ p0, x.block < W.heap.size := by obtain ⟨m, hm⟩ := k0; exact DataW.trod_lt m _ _ _ hm
 obtain ⟨m0, r0⟩ := pl_of_trod (hval 0 73 v0 rfl rfl) h0
 clear hA0 hval0
 refine (walk W hT0 v0 m0 r0).mono fun e W' ⟨he, bel⟩ => ?_
 subst he
 exact ⟨_, rfl, _, _, _, [], _, q, hW', trodAll_mk1 (shut_bool Tryz.underlying4 _), (trodAll_cons_mk (Below.trod laidOut (by kernel_rfl) (of_decide_eq_true (by kernel_rfl)) k0 bel lt0) trodAll_mk0), Below.trodVars laidOut bel (by kernel_rfl) hV1, bel.frame _, fun h => by cases h⟩

theorem over : Rows.fnExactPlcOkRow.holds Tryz.pinned (OpenSpec.ofChange Rows.fnExactPlcOkSpec) :=
 OpenClaim.holds_of_wide 4 Tryz.f4 rfl rfl rfl rfl rfl rfl rfl ⟨rfl, rfl, rfl, rfl, rfl⟩ rfl rfl rfl rfl rfl named0 Tryz.func4 facts
  (of_decide_eq_true (by kernel_rfl)) (by unfold Func.isWrapper; first | (rw [if_pos (by decide +kernel)]; kernel_rfl) | (rw [if_neg (by decide +kernel)]; exact ⟨rfl, rfl⟩))
  (fun os started H enc _ => lifted os started H enc)

end Go.Proofs.YtaoiookfmgpmkaaGreatDoor.fnExactPlcOk

namespace Go.Proofs.YtaoiookfmgpmkaaGreatDoor
theorem fnExactPlcOk_holds : Rows.FnExactPlcOkCardSaid :=
 Claim7.holds_tied_plain_at .later [] [.data] true (true, "d2e86fa78a13ef09681955602353480b57aab35bbf830ee150e0dcc212293bf0") true fnExactPlcOk.over (fun _ h => by cases h) fnExactPlcOk.wfText (fun _ h => by cases h) fnExactPlcOk_row_tie rfl ⟨rfl, rfl⟩ fnExactPlcOk.mainIs0 rfl
  (fun f fn hf hfn => by
   obtain rfl : f = 4 := Option.some.inj (fnExactPlcOk.named0.symm.trans hf) |>.symm
   obtain rfl : fn = Tryz.f4 := (Option.some.inj (Tryz.func4.symm.trans hfn)).symm
   exact ⟨fnExactPlcOk.looks0, fun j t ht => by
    rw [Tryz.params4] at ht
    have hm : t ∈ [73] := by simpa using Array.mem_of_getElem? ht
    have hall : ([73].all fun u => !Tryz.prog.wantsStandIn u) = true := by kernel_rfl
    exact (show Tryz.prog.wantsStandIn t = false by simpa using List.all_eq_true.1 hall t hm)⟩)
  fnExactPlcOk.goes0
#print axioms fnExactPlcOk_holds
end Go.Proofs.YtaoiookfmgpmkaaGreatDoor
