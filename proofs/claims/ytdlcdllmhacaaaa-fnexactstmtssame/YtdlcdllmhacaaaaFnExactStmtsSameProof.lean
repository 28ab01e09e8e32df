/-
  Proved: for every two lists of statements impl.StmtsSame answers as its model, the law FnExactStmtsSame returns true, and nothing that was there is written. No conditions.
-/
import Derived.Test.YtdlcdllmhacaaaaRows
import Derived.Test.YtdlcdllmhacaaaaOpenStmt
import Derived.Test.YtdlcdllmhacaaaaLawStmtsSame
import Derived.Test.YtdlcdllmhacaaaaSameC
import Derived.ChangeOld
namespace Go.Proofs.Ytdlcdllmhacaaaa.fnExactStmtsSame
open Go.ChangeShapes Go.WideShapes Go.ChangeAt Go.RowKit
open Go.ChangeMaps (open_string shut_string)
set_option linter.unusedVariables false

theorem own : ownKnob Try.prog.godebug = none := by kernel_rfl
theorem laidOut : laidOutB Try.prog = true := by kernel_rfl

theorem walk (w : World) (v0 : Value) (t0 : List StmtD) (r0 : SR w 0 w.heap.size v0 t0) (v1 : Value) (t1 : List StmtD) (r1 : SR w 0 w.heap.size v1 t1) :
    Calls Try.prog 4 #[v0, v1] w fun e w' => e = .returned (.bool true) ∧ Below w.heap.size w w' := by
  exact exactStmtsSame_walk (fun w m0 lo0 hi0 d0 m1 lo1 hi1 d1 h0 hh0 n0 h1 hh1 n1 => iStmtsSame_any w lo0 hi0 lo1 hi1 m0 m1 d0 d1 h0 h1 hh0 hh1 n0 n1) w _ t0 r0 _ t1 r1

set_option maxRecDepth 100000 in
theorem lifted (os : Os) (started : os.Started) (H : Type) (enc : TypeId × Value → H) :
    ReturnsInHanded {} Try.checked os 4 .any (Rows.fnExactStmtsSameSpec.pre6 enc Try.prog Try.f4 Rows.fnExactStmtsSameRow.domain false) (Rows.fnExactStmtsSameSpec.post enc Try.prog Try.f4 false true false false) := by
  refine returnsInHanded_of_change (C := Try.checked) own started (by kernel_rfl) Try.func4
    (ChangeSpec.witness6 (enc := enc) (C := Try.checked) false ⟨#[], #[.slice none 0 0, .slice none 0 0], []⟩ 8 (by kernel_rfl) (by kernel_rfl) (by kernel_rfl) (by kernel_rfl)) ?_
  intro W base args ds gs before hval0 hW hcnd _
  have hval : ∀ (j : Nat) t v, Try.f4.params[j]? = some t → args[j]? = some v → Value.okWide Try.prog W .any base t v := hval0
  have hW' := hW
  obtain ⟨p, q, hA0, hV, rfl, hfz, hnd⟩ := hW
  have hA : DataW.TrodAll enc Try.prog W 0 (fun _ => true) true Try.f4.params.toList args.toList ds p := hA0
  rw [Try.params4] at hA hval
  obtain ⟨v0, vs0, d0, ds0, p0, q0, hargs, rfl, rfl, h0, r0_⟩ := trodAll_cons hA
  obtain ⟨v1, vs1, d1, ds1, p1, q1, rfl, rfl, rfl, h1, r1_⟩ := trodAll_cons r0_
  obtain ⟨rfl, rfl, rfl⟩ := trodAll_nil r1_
  obtain rfl : args = #[v0, v1] := by cases args; simp_all
  obtain ⟨rfl, rfl⟩ := trodVars_none hV
  have k0 := h0
  have lt0 : ∀ x ∈ p0, x.block < W.heap.size := by obtain ⟨m, hm⟩ := k0; exact DataW.trod_lt m _ _ _ hm
  obtain ⟨sa0, sl0, sc0, rfl⟩ := okWide_slice Try.underlying22 (hval 0 22 v0 rfl rfl)
  obtain ⟨t0, r0⟩ : ∃ ss, SR W 0 W.heap.size (.slice sa0 sl0 sc0) ss := by obtain ⟨fuel, hf⟩ := h0; exact sr_of_trod fuel (by simpa [Value.cells] using hf)
  have k1 := h1
  have lt1 : ∀ x ∈ p1, x.block < W.heap.size := by obtain ⟨m, hm⟩ := k1; exact DataW.trod_lt m _ _ _ hm
  obtain ⟨sa1, sl1, sc1, rfl⟩ := okWide_slice Try.underlying22 (hval 1 22 v1 rfl rfl)
  obtain ⟨t1, r1⟩ : ∃ ss, SR W 0 W.heap.size (.slice sa1 sl1 sc1) ss := by obtain ⟨fuel, hf⟩ := h1; exact sr_of_trod fuel (by simpa [Value.cells] using hf)
  clear hA0 hval0
  refine (walk W _ t0 r0 _ t1 r1).mono fun e W' ⟨he, bel⟩ => ?_
  subst he
  exact ⟨_, rfl, _, _, _, [], _, [], hW', trodAll_mk1 (shut_bool Try.underlying4 _), (trodAll_cons_mk (Below.trod laidOut (by kernel_rfl) (of_decide_eq_true (by kernel_rfl)) k0 bel lt0) (trodAll_cons_mk (Below.trod laidOut (by kernel_rfl) (of_decide_eq_true (by kernel_rfl)) k1 bel lt1) trodAll_mk0)), rfl, bel.frame _, fun h => by cases h⟩

theorem over : Rows.fnExactStmtsSameRow.holds Try.pinned (OpenSpec.ofChange Rows.fnExactStmtsSameSpec) :=
  OpenClaim.holds_of_wide 4 Try.f4 rfl rfl rfl rfl rfl rfl rfl ⟨rfl, rfl, rfl, rfl, rfl⟩ rfl rfl rfl rfl rfl (by kernel_rfl) Try.func4 (by kernel_rfl)
    (of_decide_eq_true (by kernel_rfl)) (by unfold Func.isWrapper; first | (rw [if_pos (by decide +kernel)]; kernel_rfl) | (rw [if_neg (by decide +kernel)]; exact ⟨rfl, rfl⟩))
    (fun os started H enc _ => lifted os started H enc)

end Go.Proofs.Ytdlcdllmhacaaaa.fnExactStmtsSame

namespace Go.Proofs.Ytdlcdllmhacaaaa
theorem fnExactStmtsSame_holds : Rows.FnExactStmtsSameSaid := fnExactStmtsSame.over
#print axioms fnExactStmtsSame_holds
end Go.Proofs.Ytdlcdllmhacaaaa
