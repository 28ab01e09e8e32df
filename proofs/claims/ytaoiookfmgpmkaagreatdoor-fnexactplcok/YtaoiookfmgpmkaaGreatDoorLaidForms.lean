/-
 From what the row says of the program's table of forms to what our walks ask.
-/
import Derived.Test.YtaoiookfmgpmkaaGreatDoorQM17
import Derived.Test.YtaoiookfmgpmkaaGreatDoorRows
import Derived.Lib.LaidTab
import Derived.Stop.LaidErr
namespace Go.Proofs.YtaoiookfmgpmkaaGreatDoor
open Go.ChangeShapes Go.WideShapes Go.ChangeAt Go.RowKit
set_option linter.unusedVariables false
set_option maxRecDepth 100000

theorem form_of_trod {H : Type} {enc : TypeId × Value → H} {w : World} {base : Nat} {sp : Nat → Bool} {held : Bool} {n : Nat} {cs : List Value} {k : Int} {wd : List UInt8} {a b : Bool} {p : List MemPlace}
  (h : DataW.trod enc Tryz.prog w base sp held n 307 cs = some (.agg [.lit (.int .i64 k), .lit (.string wd), .lit (.bool a), .lit (.bool b)], p)) : cs = formC ⟨k, wd, a, b⟩ := by
 obtain ⟨xs, n1, hn1, hx, hl, hxl, hf⟩ := DataW.trod_struct Tryz.underlying307 h
 have hxs : xs.map (·.1) = [DataW.lit (.int .i64 k), .lit (.string wd), .lit (.bool a), .lit (.bool b)] := by
  have := congrArg Prod.fst hx
  simpa using this.symm
 have hc : Tryz.prog.cellsOf 307 = 4 := by kernel_rfl
 rw [hc] at hl
 match cs, hl with
 | [c0, c1, c2, c3], _ =>
  have g : ∀ i, i < 4 → ∃ x, xs[i]? = some x := fun i hi => ⟨xs[i]'(by rw [hxl]; exact hi), List.getElem?_eq_getElem _⟩
  obtain ⟨x0, e0⟩ := g 0 (by omega)
  obtain ⟨x1, e1⟩ := g 1 (by omega)
  obtain ⟨x2, e2⟩ := g 2 (by omega)
  obtain ⟨x3, e3⟩ := g 3 (by omega)
  have t0 : DataW.trod enc Tryz.prog w base sp held n1 3 (List.take (Tryz.prog.cellsOf 3) (List.drop 0 [c0, c1, c2, c3])) = xs[0]? := hf 0 _ rfl
  have t1 : DataW.trod enc Tryz.prog w base sp held n1 9 (List.take (Tryz.prog.cellsOf 9) (List.drop 1 [c0, c1, c2, c3])) = xs[1]? := hf 1 _ rfl
  have t2 : DataW.trod enc Tryz.prog w base sp held n1 4 (List.take (Tryz.prog.cellsOf 4) (List.drop 2 [c0, c1, c2, c3])) = xs[2]? := hf 2 _ rfl
  have t3 : DataW.trod enc Tryz.prog w base sp held n1 4 (List.take (Tryz.prog.cellsOf 4) (List.drop 3 [c0, c1, c2, c3])) = xs[3]? := hf 3 _ rfl
  rw [show Tryz.prog.cellsOf 3 = 1 by kernel_rfl, e0] at t0
  rw [show Tryz.prog.cellsOf 9 = 1 by kernel_rfl, e1] at t1
  rw [show Tryz.prog.cellsOf 4 = 1 by kernel_rfl, e2] at t2
  rw [show Tryz.prog.cellsOf 4 = 1 by kernel_rfl, e3] at t3
  obtain ⟨z0, q0, r0, _⟩ := DataW.trod_int Tryz.underlying3 t0
  obtain ⟨z1, q1, r1, _⟩ := DataW.trod_string Tryz.underlying9 t1
  obtain ⟨z2, q2, r2⟩ := DataW.trod_bool Tryz.underlying4 t2
  obtain ⟨z3, q3, r3⟩ := DataW.trod_bool Tryz.underlying4 t3
  have m0 := congrArg (·[0]?) hxs
  have m1 := congrArg (·[1]?) hxs
  have m2 := congrArg (·[2]?) hxs
  have m3 := congrArg (·[3]?) hxs
  simp only [List.getElem?_map, e0, e1, e2, e3, r0, r1, r2, r3, Option.map_some] at m0 m1 m2 m3
  simp at m0 m1 m2 m3 q0 q1 q2 q3
  subst q0 q1 q2 q3 m0 m2 m3
  unfold formC
  rw [← m1]

theorem drop_four (cs : List Value) (i : Nat) : cs.drop (i * 4) = (cs.drop (i * 4)).take 4 ++ cs.drop ((i + 1) * 4) := by
 have := (List.take_append_drop 4 (cs.drop (i * 4))).symm
 rwa [List.drop_drop, show i * 4 + 4 = (i + 1) * 4 by omega] at this

theorem forms_of_trod {H : Type} {enc : TypeId × Value → H} {w : World} {base : Nat} {sp : Nat → Bool} {held : Bool} {fuel : Nat} {cs : List Value} {p : List MemPlace}
  (h : DataW.trod enc Tryz.prog w base sp held fuel 369 cs = some (Rows.laid_loop_example_stopgate_impl_wireForms, p)) : cs = formsC := by
 cases fuel with
 | zero => simp [DataW.trod] at h
 | succ fuel =>
  have ht := Tryz.underlying369
  have hce : Tryz.prog.cellsOf 307 = 4 := by kernel_rfl
  have hct : Tryz.prog.cellsOf 369 = 32 := by kernel_rfl
  simp only [DataW.trod, ht, hce, hct] at h
  split at h
  ·rename_i hl
   obtain ⟨xs, hm, hx⟩ := Option.map_eq_some_iff.1 h
   have hxs : (DataW.agg (xs.map (·.1)) : DataW H) = Rows.laid_loop_example_stopgate_impl_wireForms := by
    have := congrArg Prod.fst hx
    simpa using this
   have part : ∀ i, i < 8 → ∃ y, xs[i]? = some y ∧ DataW.trod enc Tryz.prog w base sp held fuel 307 ((cs.drop (i * 4)).take 4) = some y := fun i hi => by
    obtain ⟨y, hy, hf⟩ := Lib.mapM_at hm i i (by simp [hi])
    exact ⟨y, hy, hf⟩
   unfold Rows.laid_loop_example_stopgate_impl_wireForms at hxs
   injection hxs with hxs
   have one : ∀ (i : Nat) (k : Int) (wd : List UInt8) (a b : Bool), i < 8 → (xs.map (·.1))[i]? = some (.agg [.lit (.int .i64 k), .lit (.string wd), .lit (.bool a), .lit (.bool b)]) → (cs.drop (i * 4)).take 4 = formC ⟨k, wd, a, b⟩ := by
    intro i k wd a b hi hd
    obtain ⟨y, hy, hf⟩ := part i hi
    rw [List.getElem?_map, hy] at hd
    have : y.1 = _ := Option.some.inj hd
    exact form_of_trod (p := y.2) (by rw [hf, ← this])
   have f0 := one 0 1 [100, 101, 108, 97, 121] true false (by omega) (by rw [hxs]; rfl)
   have f1 := one 1 2 [104, 111, 108, 100] true false (by omega) (by rw [hxs]; rfl)
   have f2 := one 2 3 [99, 111, 117, 110, 116] true true (by omega) (by rw [hxs]; rfl)
   have f3 := one 3 4 [114, 105, 115, 101] false false (by omega) (by rw [hxs]; rfl)
   have f4 := one 4 5 [108, 97, 116, 99, 104] false true (by omega) (by rw [hxs]; rfl)
   have f5 := one 5 11 [97, 110, 100] false true (by omega) (by rw [hxs]; rfl)
   have f6 := one 6 12 [111, 114] false true (by omega) (by rw [hxs]; rfl)
   have f7 := one 7 13 [120, 111, 114] false true (by omega) (by rw [hxs]; rfl)
   have hend : cs.drop ((7 + 1) * 4) = [] := List.drop_eq_nil_of_le (by omega)
   have e : cs = cs.drop (0 * 4) := rfl
   rw [e, drop_four cs 0, f0, drop_four cs (0 + 1), f1, drop_four cs (0 + 1 + 1), f2, drop_four cs (0 + 1 + 1 + 1), f3, drop_four cs (0 + 1 + 1 + 1 + 1), f4, drop_four cs (0 + 1 + 1 + 1 + 1 + 1), f5, drop_four cs (0 + 1 + 1 + 1 + 1 + 1 + 1), f6, drop_four cs (0 + 1 + 1 + 1 + 1 + 1 + 1 + 1), f7, hend]
   rfl
  ·cases h

theorem forms_of_head {W : World} {rest : List (String × DataW Unit)} (h : laidMet Tryz.prog (("loop.example/stopgate/impl.wireForms", Rows.laid_loop_example_stopgate_impl_wireForms) :: rest) W) : FormsAt W := by
 obtain ⟨ps, ⟨g', t', cs, fuel, p, q, hg', ht', hvar, hd, _, _⟩, _⟩ := h
 have hg : Tryz.prog.globalNamed "loop.example/stopgate/impl.wireForms" = some 1 := by kernel_rfl
 have hty : (Tryz.prog.globals[1]?).map (·.type) = some 369 := by kernel_rfl
 obtain rfl := Option.some.inj (hg.symm.trans hg')
 obtain rfl := Option.some.inj (hty.symm.trans ht')
 have hcs := forms_of_trod hd
 have hc : CV W 1 0 formsC := fun j v hv => by
  rw [Nat.zero_add, World.var?_cell hg hvar j, ← Array.getElem?_toList, hcs]
  exact hv
 exact ⟨World.block_lt_of_cell? W _ (hc 0 _ rfl), hc⟩
end Go.Proofs.YtaoiookfmgpmkaaGreatDoor
