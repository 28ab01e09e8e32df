/-
  A memory in three arrays (impl.cells), copied out into three new lists; a memory of zeros, of the program and of the model.
-/
import Derived.Test.YtdhmioelmcdflaaImplB
import Derived.Test.YtdhmioelmcdflaaMem3
namespace Go.Proofs.Ytdhmioelmcdflaa
open Go.ChangeShapes Go.WideShapes Go.ChangeAt Go.RowKit
set_option linter.unusedVariables false
set_option maxRecDepth 100000

/-- The value of three arrays of six numbers. -/
def cv (f : Nat → Int) : Value := .agg #[.int .i64 (f 0), .int .i64 (f 1), .int .i64 (f 2), .int .i64 (f 3), .int .i64 (f 4), .int .i64 (f 5), .int .i64 (f 6), .int .i64 (f 7), .int .i64 (f 8), .int .i64 (f 9), .int .i64 (f 10), .int .i64 (f 11), .int .i64 (f 12), .int .i64 (f 13), .int .i64 (f 14), .int .i64 (f 15), .int .i64 (f 16), .int .i64 (f 17)]

def memOf (f : Nat → Int) : MemD := ⟨[f 0, f 1, f 2, f 3, f 4, f 5], [f 6, f 7, f 8, f 9, f 10, f 11], [f 12, f 13, f 14, f 15, f 16, f 17]⟩

theorem ci6 {u : World} {B off : Nat} {x0 x1 x2 x3 x4 x5 : Int} (h : ∀ j, j < 6 → u.cell? ⟨B, off + j, none⟩ = some (.int .i64 ([x0, x1, x2, x3, x4, x5].getD j 0))) : CI u B off [x0, x1, x2, x3, x4, x5] := by
  intro i x hx
  have hi : i < 6 := (List.getElem?_eq_some_iff.mp hx).1
  rw [h i hi]
  simp [List.getD, hx]

theorem six_ne (x0 x1 x2 x3 x4 x5 : Int) : [x0, x1, x2, x3, x4, x5] ≠ [] := by simp


/-- A memory of zeros. -/
def memZero : MemD := memOf fun _ => 0


theorem oi_made (u : World) (t : TypeId) : OI (u.alloc (.cells #[.int .i64 0, .int .i64 0, .int .i64 0, .int .i64 0, .int .i64 0, .int .i64 0] t)) u.heap.size (u.heap.size + 1) (.slice (some ⟨u.heap.size, 0, none⟩) 6 6) [0, 0, 0, 0, 0, 0] := by
  refine .inr ⟨u.heap.size, 0, 6, rfl, by simp, by unfold maxLen; omega, Nat.le_refl _, by omega, ci6 fun j hj => ?_, fun i => ?_⟩
  · rw [World.cell?_alloc_new]
    match j, hj with
    | 0, _ | 1, _ | 2, _ | 3, _ | 4, _ | 5, _ => rfl
  · exact World.frozen?_alloc_new _ _ _ _

theorem zeros6 : Array.map (fun x => (Value.int IntKind.i64 0).cells[x % (Value.int IntKind.i64 0).cells.size]!) (Array.range (6 * 1)) = #[.int .i64 0, .int .i64 0, .int .i64 0, .int .i64 0, .int .i64 0, .int .i64 0] := by
  first
    | kernel_rfl
    | (simp [Value.cells]; rfl)

set_option maxHeartbeats 1000000 in
theorem sMemOpen_any (w : World) :
    Calls Try.prog 90 #[] w fun e w' => ∃ m', e = .returned m' ∧ MO w' w.heap.size w'.heap.size m' memZero ∧ Below w.heap.size w w' := by
  go_enter Try.func90, Try.ntmps90
  go_wp2_with fail
  obtain ⟨u0, hu0, B0, Z0, S0⟩ : ∃ u0, w.alloc (.cells #[.slice none 0 0, .slice none 0 0, .slice none 0 0] 30) = u0 ∧ Below w.heap.size w u0 ∧ Zero 3 u0 w.heap.size ∧ u0.heap.size = w.heap.size + 1 :=
    ⟨_, rfl, (Below.refl _ _).alloc (Nat.le_refl _) _, zero3_new w _ _ _ _, by simp⟩
  rw [hu0]
  clear hu0
  refine wp_region_mem3 (Φ := fun j v u => True) 4 0 1 2 3 _ _ _ _ _ 1 2 3 4 memZero rfl rfl (by kernel_rfl) rfl rfl rfl rfl rfl rfl rfl rfl (by omega) (by simp) (by kernel_rfl) (by kernel_rfl) (by kernel_rfl) (by kernel_rfl) ?_ ?_ ?_ ?_ ?_ ?_ ?_ ?_
  · exact fun _ _ _ _ _ h => h
  · intro i o ho hin n2 n5 n8 n9
    exact absurd hin (by omega)
  · intro a u hf hr he K' hK
    clear he
    go_simp
    refine hK _ _ ((Below.refl _ _).alloc (Nat.le_refl _) _) ?_
    have e6 : (IntKind.i64.wrap 6).toNat = 6 := by decide
    have es : Try.prog.types[3].size = 1 := by kernel_rfl
    rw [e6, es, zeros6]
    show OI (u.alloc (.cells #[.int .i64 0, .int .i64 0, .int .i64 0, .int .i64 0, .int .i64 0, .int .i64 0] 3)) u.heap.size (u.alloc (.cells #[.int .i64 0, .int .i64 0, .int .i64 0, .int .i64 0, .int .i64 0, .int .i64 0] 3)).heap.size (.slice (some ⟨u.heap.size, 0, none⟩) 6 6) [0, 0, 0, 0, 0, 0]
    rw [World.size_alloc]
    exact oi_made u 3
  · intro a u hf hr he K' hK
    clear he
    go_simp
    refine hK _ _ ((Below.refl _ _).alloc (Nat.le_refl _) _) ?_
    have e6 : (IntKind.i64.wrap 6).toNat = 6 := by decide
    have es : Try.prog.types[3].size = 1 := by kernel_rfl
    rw [e6, es, zeros6]
    show OI (u.alloc (.cells #[.int .i64 0, .int .i64 0, .int .i64 0, .int .i64 0, .int .i64 0, .int .i64 0] 3)) u.heap.size (u.alloc (.cells #[.int .i64 0, .int .i64 0, .int .i64 0, .int .i64 0, .int .i64 0, .int .i64 0] 3)).heap.size (.slice (some ⟨u.heap.size, 0, none⟩) 6 6) [0, 0, 0, 0, 0, 0]
    rw [World.size_alloc]
    exact oi_made u 3
  · intro a u hf hr he K' hK
    clear he
    go_simp
    refine hK _ _ ((Below.refl _ _).alloc (Nat.le_refl _) _) ?_
    have e6 : (IntKind.i64.wrap 6).toNat = 6 := by decide
    have es : Try.prog.types[3].size = 1 := by kernel_rfl
    rw [e6, es, zeros6]
    show OI (u.alloc (.cells #[.int .i64 0, .int .i64 0, .int .i64 0, .int .i64 0, .int .i64 0, .int .i64 0] 3)) u.heap.size (u.alloc (.cells #[.int .i64 0, .int .i64 0, .int .i64 0, .int .i64 0, .int .i64 0, .int .i64 0] 3)).heap.size (.slice (some ⟨u.heap.size, 0, none⟩) 6 6) [0, 0, 0, 0, 0, 0]
    rw [World.size_alloc]
    exact oi_made u 3
  · intro a u p1 p2 p3 c1 c2 c3 hf e1 e2 e3 K' hK
    go_simp
    exact hK
  · exact fun v u => ⟨trivial, trivial, trivial, trivial⟩
  · intro a u hf hr hm hp K' hK
    have f1 : a.tmps.getD 0 undef = .pointer (some ⟨w.heap.size, 0, none⟩) := hf.at_ 0 (by kernel_rfl)
    have hm0 := hm
    obtain ⟨qa, qb, qc, e1, k1, k2, k3⟩ := hm.mi
    obtain ⟨pa, ca, rfl⟩ := k1.shape
    obtain ⟨pb, cb, rfl⟩ := k2.shape
    obtain ⟨pc, cc, rfl⟩ := k3.shape
    clear k1 k2 k3 hm
    rw [e1] at hm0
    have hzz := Z0.grow hr (by omega)
    have hBs : w.heap.size < u.heap.size := by have := hr.size; omega
    obtain ⟨u1, hu1, G1, X1, M1, S1⟩ := store3 (w0 := w) (B0.trans (hr.mono (by omega))) (by omega) hBs hzz hm0 (.inl (by omega))
    obtain ⟨z0, zf0⟩ := hzz 0 (by omega)
    obtain ⟨z1, zf1⟩ := hzz 1 (by omega)
    obtain ⟨z2, zf2⟩ := hzz 2 (by omega)
    obtain ⟨x0, y0⟩ := Option.isSome_iff_exists.mp z0
    obtain ⟨x1, y1⟩ := Option.isSome_iff_exists.mp z1
    obtain ⟨x2, y2⟩ := Option.isSome_iff_exists.mp z2
    have e1' : a.tmps.getD 4 undef = .agg #[.slice pa memZero.i.length ca, .slice pb memZero.o.length cb, .slice pc memZero.v.length cc] := e1
    have fd : a.defers = [] := hf.defers
    clear hp
    go_simp
    refine hK _ _ ?_
    obtain ⟨s0, s1, s2⟩ := X1
    have HM : Hid (MO u1 w.heap.size u1.heap.size (.agg #[.slice pa memZero.i.length ca, .slice pb memZero.o.length cb, .slice pc memZero.v.length cc]) memZero) := by
      obtain ⟨a1, a2, a3, em, g1, g2, g3, g4⟩ := M1
      exact ⟨a1, a2, a3, em, g1.wide (by omega) (by omega), g2.wide (by omega) (by omega), g3.wide (by omega) (by omega), g4⟩
    clear hu1 M1 hm0 e1 e1' y0 y1 y2 z0 z1 z2 zf0 zf1 zf2 hK hf
    go_wp2
    rw [Array.getD_eq_getD_getElem?] at f1
    exact bodyPost_ret (v := .agg #[.slice pa memZero.i.length ca, .slice pb memZero.o.length cb, .slice pc memZero.v.length cc]) (by simp [results, Try.results90, go_sem, f1, s0, s1, s2]) fd ⟨_, rfl, HM.out, G1⟩
end Go.Proofs.Ytdhmioelmcdflaa
