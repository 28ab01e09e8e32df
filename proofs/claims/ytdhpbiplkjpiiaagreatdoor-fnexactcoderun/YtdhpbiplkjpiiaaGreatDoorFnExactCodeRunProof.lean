/-
  At every memory, code and fuel, in whatever memory and at every schedule, the law FnExactCodeRun returns true and leaves its arguments as they were, where the listed variable reads as the text lays it.
-/
import Derived.Test.YtdhpbiplkjpiiaaGreatDoorLawCodeRun
import Derived.Test.YtdhpbiplkjpiiaaGreatDoorQC3
import Derived.Test.YtdhpbiplkjpiiaaGreatDoorFnExactCodeRunFacts
import Derived.ChangeOld
import Derived.Stop.LaidErr
import Derived.Test.YtdhpbiplkjpiiaaGreatDoorTie
import Derived.Test.YtdhpbiplkjpiiaaGreatDoorCards
import Derived.Handy
import Derived.Lay
import Derived.SevenTiedAt
namespace Go.Proofs.YtdhpbiplkjpiiaaGreatDoor.fnExactCodeRun
open Go.ChangeShapes Go.WideShapes Go.ChangeAt Go.RowKit
open Go.ChangeMaps (open_string shut_string)
set_option linter.unusedVariables false

theorem var_below {P : Program} {W W' : World} {n : String} {cs : Array Value} (hg : P.globalNamed n = some 0) (h : W.var? P n = some cs) (b : Below W.heap.size W W') (h0 : 0 < W.heap.size) : W'.var? P n = some cs := by
  unfold World.var? at h ⊢
  simp only [hg, Option.bind_some] at h ⊢
  rw [b.block 0 h0]
  exact h

theorem own : ownKnob Tryz.prog.godebug = none := by kernel_rfl
theorem laidOut : laidOutB Tryz.prog = true := by kernel_rfl

theorem gE : Tryz.prog.globalNamed "loop.example/stopgate/impl.errLong" = some 0 := by kernel_rfl
theorem gEType : (Tryz.prog.globals[0]?).map (·.type) = some 67 := by kernel_rfl
theorem cellsE : Tryz.prog.cellsOf 163 = 1 := by kernel_rfl
theorem cellsS : Tryz.prog.cellsOf 9 = 1 := by kernel_rfl
theorem star : "*" ++ "errors.errorString" = "*errors.errorString" := by decide
theorem rowE (u : TypeId) (h : Tryz.prog.typeName? 3 u = some "*errors.errorString") : u = 138 :=
  typeName_ptr_named (nm := "errors.errorString") (by rw [star]; kernel_rfl) (by kernel_rfl) (by decide) u (by rw [star]; exact h)

theorem walk (w : World) (ea : Go.Addr) (hL : LongC w ea) (v0 : Value) (m0 : MemD) (r0 : MI w 0 w.heap.size v0 m0) (v1 : Value) (c1 : List InsD) (r1 : NR w 0 w.heap.size v1 c1) (a2 : Int) (w2 : (Lit.int .i64 a2).wf = true) :
    Calls Tryz.prog 3 #[v0, v1, .int .i64 a2] w fun e w' => e = .returned (.bool true) ∧ Below w.heap.size w w' := by
  exact exactCodeRun_walk (fun w lo hi lo2 hi2 m v d ps f ea hm hh hs hh2 _ hL => iCodeRun_any w lo hi lo2 hi2 m v d ps f ea hm hh hs hh2 hL) w _ _ m0 c1 a2 ea r0 r1 hL

set_option maxRecDepth 100000 in
theorem lifted (os : Os) (started : os.Started) (H : Type) (enc : TypeId × Value → H) :
    ReturnsInHanded {} Tryz.checked os 3 .any (fun w args => (Rows.fnExactCodeRunSpec.pre enc Tryz.prog Tryz.f3 [] false w args ∧ laidMetH Tryz.prog Rows.fnExactCodeRunRow.laid w) ∧ sizedMet enc Tryz.prog Tryz.f3 (OpenSpec.ofChange Rows.fnExactCodeRunSpec) false w args)
      (Rows.fnExactCodeRunSpec.post enc Tryz.prog Tryz.f3 false true false false) := by
  refine returnsInHanded_of_change_and (C := Tryz.checked) (X := fun w _ => laidMetH Tryz.prog Rows.fnExactCodeRunRow.laid w) (fun _ _ _ hh h => h.of_heap hh) own started (by kernel_rfl) Tryz.func3
    (ChangeSpec.witness_shaped (enc := enc) (C := Tryz.checked) (os := os) (X := fun w _ => laidMetH Tryz.prog Rows.fnExactCodeRunRow.laid w) false (World.laidAll Tryz.prog os Rows.fnExactCodeRunRow.laid) #[.agg #[.slice none 0 0, .slice none 0 0, .slice none 0 0], .slice none 0 0, .int .i64 0] 8 (World.laidAll_os _ _ _)
      (World.shaped_of_ZipB (by kernel_rfl) (by kernel_rfl)) (by kernel_rfl) (by kernel_rfl) (by kernel_rfl)
      (by rw [MakeChecks.laidMetH_plain _ _ _ (by kernel_rfl)]; exact laidMet_laidAll _ (by kernel_rfl) (by kernel_rfl))) ?_
  intro W base args ds gs before hval0 hW x1 x2 x3 x4
  have hval : ∀ (j : Nat) t v, Tryz.f3.params[j]? = some t → args[j]? = some v → Value.okWide Tryz.prog W .any base t v := hval0
  have hW' := hW
  obtain ⟨p, q, hA0, hV, rfl, hfz, hnd⟩ := hW
  have hA : DataW.TrodAll enc Tryz.prog W 0 (fun _ => true) true Tryz.f3.params.toList args.toList ds p := hA0
  rw [Tryz.params3] at hA hval
  obtain ⟨v0, vs0, d0, ds0, p0, q0, hargs, rfl, rfl, h0, r0_⟩ := trodAll_cons hA
  obtain ⟨v1, vs1, d1, ds1, p1, q1, rfl, rfl, rfl, h1, r1_⟩ := trodAll_cons r0_
  obtain ⟨v2, vs2, d2, ds2, p2, q2, rfl, rfl, rfl, h2, r2_⟩ := trodAll_cons r1_
  obtain ⟨rfl, rfl, rfl⟩ := trodAll_nil r2_
  obtain rfl : args = #[v0, v1, v2] := by cases args; simp_all
  have hV1 : DataW.TrodVars enc Tryz.prog W (fun _ => true) ["loop.example/stopgate/impl.errLong"] gs q := hV
  have hL1 : laidMetH Tryz.prog Rows.fnExactCodeRunRow.laid W := by first | exact x1 | exact x2 | exact x3 | exact x4
  rw [MakeChecks.laidMetH_plain _ _ _ (by kernel_rfl)] at hL1
  obtain ⟨a0, s0, hv0, hc0, hs0, hz0⟩ := laid_sentinel hL1 gE gEType Tryz.underlying67 rowE Tryz.underlying138 Tryz.underlying163 rfl rfl Tryz.underlying9 cellsE cellsS
  obtain ⟨rfl, rfl⟩ := hV1.unique (vars_read1 enc gE gEType Tryz.underlying67 hv0 trivial _)
  have hg0 : W.cell? ⟨0, 0, none⟩ = some (.iface 138 (.pointer (some a0))) := by simpa using World.var?_cell gE hv0 0
  have hLo : LongC W a0 := ⟨World.block_lt_of_cell? _ _ hg0, hg0⟩
  have k0 := h0
  have lt0 : ∀ x ∈ p0, x.block < W.heap.size := by obtain ⟨m, hm⟩ := k0; exact DataW.trod_lt m _ _ _ hm
  obtain ⟨m0, r0⟩ := mi_of_trod (hval 0 24 v0 rfl rfl) h0
  have k1 := h1
  have lt1 : ∀ x ∈ p1, x.block < W.heap.size := by obtain ⟨m, hm⟩ := k1; exact DataW.trod_lt m _ _ _ hm
  obtain ⟨sa1, sl1, sc1, rfl⟩ := okWide_slice Tryz.underlying25 (hval 1 25 v1 rfl rfl)
  obtain ⟨c1, r1⟩ : ∃ ps, NR W 0 W.heap.size (.slice sa1 sl1 sc1) ps := by obtain ⟨fuel, hf⟩ := h1; exact nr_of_trod (by simpa [Value.cells] using hf)
  obtain ⟨a2, rfl, rfl, rfl, w2⟩ := open_int Tryz.underlying3 (hval 2 3 v2 rfl rfl) h2
  clear hA0 hval0
  refine (walk W a0 hLo v0 m0 r0 _ c1 r1 a2 w2).mono fun e W' ⟨he, bel⟩ => ?_
  subst he
  exact ⟨_, rfl, _, _, _, [], _, [.cell 0 0], hW', trodAll_mk1 (shut_bool Tryz.underlying4 _), (trodAll_cons_mk (Below.trod laidOut (by kernel_rfl) (of_decide_eq_true (by kernel_rfl)) k0 bel lt0) (trodAll_cons_mk (Below.trod laidOut (by kernel_rfl) (of_decide_eq_true (by kernel_rfl)) k1 bel lt1) (trodAll_cons_mk (shut_int Tryz.underlying3 w2) trodAll_mk0))), vars_read1 enc gE gEType Tryz.underlying67 (var_below gE hv0 bel hLo.1) trivial _, bel.frame _, fun h => by cases h⟩

theorem over : Rows.fnExactCodeRunRow.holds Tryz.pinned (OpenSpec.ofChange Rows.fnExactCodeRunSpec) :=
  OpenClaim.holds_of_wide 3 Tryz.f3 rfl rfl rfl rfl rfl rfl rfl ⟨rfl, rfl, rfl, rfl, rfl⟩ rfl rfl rfl rfl rfl named0 Tryz.func3 facts
    (of_decide_eq_true (by kernel_rfl)) (by unfold Func.isWrapper; first | (rw [if_pos (by decide +kernel)]; kernel_rfl) | (rw [if_neg (by decide +kernel)]; exact ⟨rfl, rfl⟩))
    (fun os started H enc _ => lifted os started H enc)

end Go.Proofs.YtdhpbiplkjpiiaaGreatDoor.fnExactCodeRun

namespace Go.Proofs.YtdhpbiplkjpiiaaGreatDoor
theorem fnExactCodeRun_holds : Rows.FnExactCodeRunCardSaid :=
  Claim7.holds_tied_plain_at .later [] [.sentinel] true (true, "77e712740090ed15d2621acf06dd0e9ab6dd21e3a789b9afe9108257611ee1bd") true fnExactCodeRun.over (fun _ h => by cases h) fnExactCodeRun.wfText (fun _ h => by cases h) fnExactCodeRun_row_tie rfl ⟨rfl, rfl⟩ fnExactCodeRun.mainIs0 rfl
    (fun f fn hf hfn => by
      obtain rfl : f = 3 := Option.some.inj (fnExactCodeRun.named0.symm.trans hf) |>.symm
      obtain rfl : fn = Tryz.f3 := (Option.some.inj (Tryz.func3.symm.trans hfn)).symm
      exact ⟨fnExactCodeRun.looks0, fun j t ht => by
        rw [Tryz.params3] at ht
        have hm : t ∈ [24, 25, 3] := by simpa using Array.mem_of_getElem? ht
        have hall : ([24, 25, 3].all fun u => !Tryz.prog.wantsStandIn u) = true := by kernel_rfl
        exact (show Tryz.prog.wantsStandIn t = false by simpa using List.all_eq_true.1 hall t hm)⟩)
    fnExactCodeRun.goes0
#print axioms fnExactCodeRun_holds
end Go.Proofs.YtdhpbiplkjpiiaaGreatDoor
