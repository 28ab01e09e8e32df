/-
  A memory in three arrays (impl.cells), copied out into three new lists; a memory of zeros, of the program and of the model.
-/
import Derived.Test.YtaoiookfmgpmkaaGreatDoorImplB
import Derived.Test.YtaoiookfmgpmkaaGreatDoorMem3
namespace Go.Proofs.YtaoiookfmgpmkaaGreatDoor
open Go.ChangeShapes Go.WideShapes Go.ChangeAt Go.RowKit
set_option linter.unusedVariables false
set_option maxRecDepth 100000

/-- The value of three arrays of six numbers. -/
def cv (f : Nat → Int) : Value := .agg #[.int .i64 (f 0), .int .i64 (f 1), .int .i64 (f 2), .int .i64 (f 3), .int .i64 (f 4), .int .i64 (f 5), .int .i64 (f 6), .int .i64 (f 7), .int .i64 (f 8), .int .i64 (f 9), .int .i64 (f 10), .int .i64 (f 11), .int .i64 (f 12), .int .i64 (f 13), .int .i64 (f 14), .int .i64 (f 15), .int .i64 (f 16), .int .i64 (f 17)]

def memOf (f : Nat → Int) : MemD := ⟨[f 0, f 1, f 2, f 3, f 4, f 5], [f 6, f 7, f 8, f 9, f 10, f 11], [f 12, f 13, f 14, f 15, f 16, f 17]⟩

theorem ci6 {u : World} {B off : Nat} {x0 x1 x2 x3 x4 x5 : Int} (h : ∀ j, j < 6 → u.cell? ⟨B, off + j, none⟩ = some (.int .i64 ([x0, x1, x2, x3, x4, x5].getD j 0))) : CI u B off [x0, x1, x2, x3, x4, x5] := by
  intro i x hx
  have hi : i < 6 := (List.getElem?_eq_some_iff.mp hx).1
  rw [h i hi]
  simp [List.getD, hx]

theorem six_ne (x0 x1 x2 x3 x4 x5 : Int) : [x0, x1, x2, x3, x4, x5] ≠ [] := by simp

set_option maxHeartbeats 4000000 in
theorem cellsMem_any (w : World) (f : Nat → Int) :
    Calls Tryz.prog 113 #[cv f] w fun e w' => ∃ m', e = .returned m' ∧ MO w' w.heap.size w'.heap.size m' (memOf f) ∧ Below w.heap.size w w' := by
  unfold cv
  go_enter Tryz.func113, Tryz.ntmps113
  go_wp2_with fail
  obtain ⟨u0, hu0, B0, C0, Z0, S0⟩ : ∃ u0, (w.alloc (.cells #[.int .i64 (f 0), .int .i64 (f 1), .int .i64 (f 2), .int .i64 (f 3), .int .i64 (f 4), .int .i64 (f 5), .int .i64 (f 6), .int .i64 (f 7), .int .i64 (f 8), .int .i64 (f 9), .int .i64 (f 10), .int .i64 (f 11), .int .i64 (f 12), .int .i64 (f 13), .int .i64 (f 14), .int .i64 (f 15), .int .i64 (f 16), .int .i64 (f 17)] 157)).alloc (.cells #[.slice none 0 0, .slice none 0 0, .slice none 0 0] 51) = u0 ∧ Below w.heap.size w u0 ∧
      (∀ j v, (#[.int .i64 (f 0), .int .i64 (f 1), .int .i64 (f 2), .int .i64 (f 3), .int .i64 (f 4), .int .i64 (f 5), .int .i64 (f 6), .int .i64 (f 7), .int .i64 (f 8), .int .i64 (f 9), .int .i64 (f 10), .int .i64 (f 11), .int .i64 (f 12), .int .i64 (f 13), .int .i64 (f 14), .int .i64 (f 15), .int .i64 (f 16), .int .i64 (f 17)] : Array Value)[j]? = some v → u0.cell? ⟨w.heap.size, j, none⟩ = some v) ∧ Zero 3 u0 (w.heap.size + 1) ∧ u0.heap.size = w.heap.size + 2 :=
    ⟨_, rfl, ((Below.refl _ _).alloc (Nat.le_refl _) _).alloc (by simp) _, fun j v hv => by rw [World.cell?_alloc2_first]; exact hv, by have := zero3_new (w.alloc (.cells #[.int .i64 (f 0), .int .i64 (f 1), .int .i64 (f 2), .int .i64 (f 3), .int .i64 (f 4), .int .i64 (f 5), .int .i64 (f 6), .int .i64 (f 7), .int .i64 (f 8), .int .i64 (f 9), .int .i64 (f 10), .int .i64 (f 11), .int .i64 (f 12), .int .i64 (f 13), .int .i64 (f 14), .int .i64 (f 15), .int .i64 (f 16), .int .i64 (f 17)] 157)) (.slice none 0 0) (.slice none 0 0) (.slice none 0 0) 51; simpa using this, by simp⟩
  rw [hu0]
  clear hu0
  refine wp_region_mem3 (Φ := fun j v u => match j with
      | 0 => v = .pointer (some ⟨w.heap.size, 0, none⟩)
      | 3 => v = .pointer (some ⟨w.heap.size, 6, none⟩)
      | 6 => v = .pointer (some ⟨w.heap.size, 12, none⟩)
      | 1 => v = .slice (some ⟨w.heap.size, 0, none⟩) 6 6
      | 4 => v = .slice (some ⟨w.heap.size, 6, none⟩) 6 6
      | 7 => v = .slice (some ⟨w.heap.size, 12, none⟩) 6 6
      | _ => True) 10 2 5 8 9 _ _ _ _ _ 5 8 11 12 (memOf f) rfl rfl (by kernel_rfl) rfl rfl rfl rfl rfl rfl rfl rfl (by omega) (by simp) (by kernel_rfl) (by kernel_rfl) (by kernel_rfl) (by kernel_rfl) ?_ ?_ ?_ ?_ ?_ ?_ ?_ ?_
  · intro j v u u' hr
    match j with
    | 0 | 1 | 2 | 3 | 4 | 5 | 6 | 7 | 8 | _ + 9 => exact fun h => h
  · intro i o ho hin n2 n5 n8 n9 a u hf hr he K' hK
    have hsz' : a.tmps.size = 13 := hf.size
    have putat : ∀ (t : Nat) (v : Value), t < a.tmps.size → (a.put (some t) v).tmps.getD t undef = v := fun t v ht => by
      show (a.tmps.setIfInBounds t v).getD t undef = v
      simp [ht]
    rcases i with _ | _ | _ | _ | _ | _ | _ | _ | _ | _ | i
    · obtain rfl := Option.some.inj ho
      clear he
      have f1 : a.tmps.getD 1 undef = .pointer (some ⟨w.heap.size, 0, none⟩) := hf.at_ 1 (by kernel_rfl)
      go_simp
      exact hK _ _ (Below.refl _ _) (putat 3 _ (by omega))
    · obtain rfl := Option.some.inj ho
      have f1 : a.tmps.getD 3 undef = .pointer (some ⟨w.heap.size, 0, none⟩) := he _ (Array.mem_of_getElem? (i := 0) rfl) (by kernel_rfl) _ rfl
      clear he
      go_simp
      exact hK _ _ (Below.refl _ _) (putat 4 _ (by omega))
    · exact absurd rfl n2
    · obtain rfl := Option.some.inj ho
      clear he
      have f1 : a.tmps.getD 1 undef = .pointer (some ⟨w.heap.size, 0, none⟩) := hf.at_ 1 (by kernel_rfl)
      go_simp
      exact hK _ _ (Below.refl _ _) (putat 6 _ (by omega))
    · obtain rfl := Option.some.inj ho
      have f1 : a.tmps.getD 6 undef = .pointer (some ⟨w.heap.size, 6, none⟩) := he _ (Array.mem_of_getElem? (i := 0) rfl) (by kernel_rfl) _ rfl
      clear he
      go_simp
      exact hK _ _ (Below.refl _ _) (putat 7 _ (by omega))
    · exact absurd rfl n5
    · obtain rfl := Option.some.inj ho
      clear he
      have f1 : a.tmps.getD 1 undef = .pointer (some ⟨w.heap.size, 0, none⟩) := hf.at_ 1 (by kernel_rfl)
      go_simp
      exact hK _ _ (Below.refl _ _) (putat 9 _ (by omega))
    · obtain rfl := Option.some.inj ho
      have f1 : a.tmps.getD 9 undef = .pointer (some ⟨w.heap.size, 12, none⟩) := he _ (Array.mem_of_getElem? (i := 0) rfl) (by kernel_rfl) _ rfl
      clear he
      go_simp
      exact hK _ _ (Below.refl _ _) (putat 10 _ (by omega))
    · exact absurd rfl n8
    · exact absurd rfl n9
    · exact absurd hin (by omega)
  · intro a u hf hr he K' hK
    have f1 : a.tmps.getD 4 undef = .slice (some ⟨w.heap.size, 0, none⟩) 6 6 := he _ (Array.mem_of_getElem? (i := 0) rfl) (by kernel_rfl) _ rfl
    clear he
    have hc : CI u w.heap.size 0 [f 0, f 1, f 2, f 3, f 4, f 5] := ci6 fun j hj => by
      rw [hr.cell (p := ⟨w.heap.size, 0 + j, none⟩) (by show w.heap.size < u0.heap.size; omega)]
      refine C0 _ _ ?_
      match j, hj with
      | 0, _ | 1, _ | 2, _ | 3, _ | 4, _ | 5, _ => rfl
    go_simp
    refine (iClone_any u w.heap.size 0 6 [f 0, f 1, f 2, f 3, f 4, f 5] (six_ne _ _ _ _ _ _) (by simp) hc).mono ?_
    rintro e w1 ⟨v', rfl, ho, hb⟩
    exact hK _ _ hb ho
  · intro a u hf hr he K' hK
    have f1 : a.tmps.getD 7 undef = .slice (some ⟨w.heap.size, 6, none⟩) 6 6 := he _ (Array.mem_of_getElem? (i := 0) rfl) (by kernel_rfl) _ rfl
    clear he
    have hc : CI u w.heap.size 6 [f 6, f 7, f 8, f 9, f 10, f 11] := ci6 fun j hj => by
      rw [hr.cell (p := ⟨w.heap.size, 6 + j, none⟩) (by show w.heap.size < u0.heap.size; omega)]
      refine C0 _ _ ?_
      match j, hj with
      | 0, _ | 1, _ | 2, _ | 3, _ | 4, _ | 5, _ => rfl
    go_simp
    refine (iClone_any u w.heap.size 6 6 [f 6, f 7, f 8, f 9, f 10, f 11] (six_ne _ _ _ _ _ _) (by simp) hc).mono ?_
    rintro e w1 ⟨v', rfl, ho, hb⟩
    exact hK _ _ hb ho
  · intro a u hf hr he K' hK
    have f1 : a.tmps.getD 10 undef = .slice (some ⟨w.heap.size, 12, none⟩) 6 6 := he _ (Array.mem_of_getElem? (i := 0) rfl) (by kernel_rfl) _ rfl
    clear he
    have hc : CI u w.heap.size 12 [f 12, f 13, f 14, f 15, f 16, f 17] := ci6 fun j hj => by
      rw [hr.cell (p := ⟨w.heap.size, 12 + j, none⟩) (by show w.heap.size < u0.heap.size; omega)]
      refine C0 _ _ ?_
      match j, hj with
      | 0, _ | 1, _ | 2, _ | 3, _ | 4, _ | 5, _ => rfl
    go_simp
    refine (iClone_any u w.heap.size 12 6 [f 12, f 13, f 14, f 15, f 16, f 17] (six_ne _ _ _ _ _ _) (by simp) hc).mono ?_
    rintro e w1 ⟨v', rfl, ho, hb⟩
    exact hK _ _ hb ho
  · intro a u p1 p2 p3 c1 c2 c3 hf e1 e2 e3 K' hK
    go_simp
    exact hK
  · exact fun v u => ⟨trivial, trivial, trivial, trivial⟩
  · intro a u hf hr hm hp K' hK
    have f1 : a.tmps.getD 2 undef = .pointer (some ⟨w.heap.size + 1, 0, none⟩) := hf.at_ 2 (by kernel_rfl)
    have hm0 := hm
    obtain ⟨qa, qb, qc, e1, k1, k2, k3⟩ := hm.mi
    obtain ⟨pa, ca, rfl⟩ := k1.shape
    obtain ⟨pb, cb, rfl⟩ := k2.shape
    obtain ⟨pc, cc, rfl⟩ := k3.shape
    clear k1 k2 k3 hm
    rw [e1] at hm0
    have hzz := Z0.grow hr (by omega)
    have hBs : w.heap.size + 1 < u.heap.size := by have := hr.size; omega
    obtain ⟨u1, hu1, G1, X1, M1, S1⟩ := store3 (w0 := w) (B0.trans (hr.mono (by omega))) (by omega) hBs hzz hm0 (.inl (by omega))
    obtain ⟨z0, zf0⟩ := hzz 0 (by omega)
    obtain ⟨z1, zf1⟩ := hzz 1 (by omega)
    obtain ⟨z2, zf2⟩ := hzz 2 (by omega)
    obtain ⟨x0, y0⟩ := Option.isSome_iff_exists.mp z0
    obtain ⟨x1, y1⟩ := Option.isSome_iff_exists.mp z1
    obtain ⟨x2, y2⟩ := Option.isSome_iff_exists.mp z2
    have e1' : a.tmps.getD 12 undef = .agg #[.slice pa (memOf f).i.length ca, .slice pb (memOf f).o.length cb, .slice pc (memOf f).v.length cc] := e1
    have fd : a.defers = [] := hf.defers
    clear hp
    go_simp
    refine hK _ _ ?_
    obtain ⟨s0, s1, s2⟩ := X1
    have HM : Hid (MO u1 w.heap.size u1.heap.size (.agg #[.slice pa (memOf f).i.length ca, .slice pb (memOf f).o.length cb, .slice pc (memOf f).v.length cc]) (memOf f)) := by
      obtain ⟨a1, a2, a3, em, g1, g2, g3, g4⟩ := M1
      exact ⟨a1, a2, a3, em, g1.wide (by omega) (by omega), g2.wide (by omega) (by omega), g3.wide (by omega) (by omega), g4⟩
    clear hu1 M1 hm0 e1 e1' y0 y1 y2 z0 z1 z2 zf0 zf1 zf2 hK hf
    go_wp2
    rw [Array.getD_eq_getD_getElem?] at f1
    exact bodyPost_ret (v := .agg #[.slice pa (memOf f).i.length ca, .slice pb (memOf f).o.length cb, .slice pc (memOf f).v.length cc]) (by simp [results, Tryz.results113, go_sem, f1, s0, s1, s2]) fd ⟨_, rfl, HM.out, G1⟩

/-- A memory of zeros. -/
def memZero : MemD := memOf fun _ => 0

set_option maxHeartbeats 1000000 in
theorem iMemOpen_any (w : World) :
    Calls Tryz.prog 72 #[] w fun e w' => ∃ m', e = .returned m' ∧ MO w' w.heap.size w'.heap.size m' memZero ∧ Below w.heap.size w w' := by
  go_enter Tryz.func72, Tryz.ntmps72
  go_wp2_with fail
  refine (cellsMem_any _ fun _ => 0).mono ?_
  rintro e w1 ⟨m', rfl, hm, hb1⟩
  have hm0 := hm
  obtain ⟨qa, qb, qc, rfl, k1, k2, k3⟩ := hm.mi
  obtain ⟨pa, ca, rfl⟩ := k1.shape
  obtain ⟨pb, cb, rfl⟩ := k2.shape
  obtain ⟨pc, cc, rfl⟩ := k3.shape
  clear k1 k2 k3 hm
  have hz : Zero 3 w1 w.heap.size := (zero3_new w (.slice none 0 0) (.slice none 0 0) (.slice none 0 0) 51).grow hb1 (by simp)
  have hs1 := hb1.size
  simp only [World.size_alloc] at hs1 hm0
  obtain ⟨u1, hu1, G1, X1, M1, S1⟩ := store3 (w0 := w) (below_two ((Below.refl _ _).alloc (Nat.le_refl _) _) hb1) (Nat.le_refl _) (by omega) hz hm0 (.inl (by omega))
  obtain ⟨z0, zf0⟩ := hz 0 (by omega)
  obtain ⟨z1, zf1⟩ := hz 1 (by omega)
  obtain ⟨z2, zf2⟩ := hz 2 (by omega)
  obtain ⟨x0, y0⟩ := Option.isSome_iff_exists.mp z0
  obtain ⟨x1, y1⟩ := Option.isSome_iff_exists.mp z1
  obtain ⟨x2, y2⟩ := Option.isSome_iff_exists.mp z2
  have HU : Hid (((w1.setCell ⟨w.heap.size, 0, none⟩ (.slice pa (memOf fun _ => 0).i.length ca)).setCell ⟨w.heap.size, 1, none⟩ (.slice pb (memOf fun _ => 0).o.length cb)).setCell ⟨w.heap.size, 2, none⟩ (.slice pc (memOf fun _ => 0).v.length cc) = u1) := hu1
  have HM : Hid (MO u1 w.heap.size u1.heap.size (.agg #[.slice pa (memOf fun _ => 0).i.length ca, .slice pb (memOf fun _ => 0).o.length cb, .slice pc (memOf fun _ => 0).v.length cc]) memZero) := by
    obtain ⟨a1, a2, a3, em, g1, g2, g3, g4⟩ := M1
    exact ⟨a1, a2, a3, em, g1.wide (by omega) (by omega), g2.wide (by omega) (by omega), g3.wide (by omega) (by omega), g4⟩
  clear hu1 M1 hm0
  go_wp2
  rw [HU.out]
  obtain ⟨s0, s1, s2⟩ := X1
  exact bodyPost_ret (v := .agg #[.slice pa (memOf fun _ => 0).i.length ca, .slice pb (memOf fun _ => 0).o.length cb, .slice pc (memOf fun _ => 0).v.length cc]) (by simp [results, Tryz.results72, go_sem, s0, s1, s2]) rfl ⟨_, rfl, HM.out, G1⟩

theorem oi_made (u : World) (t : TypeId) : OI (u.alloc (.cells #[.int .i64 0, .int .i64 0, .int .i64 0, .int .i64 0, .int .i64 0, .int .i64 0] t)) u.heap.size (u.heap.size + 1) (.slice (some ⟨u.heap.size, 0, none⟩) 6 6) [0, 0, 0, 0, 0, 0] := by
  refine .inr ⟨u.heap.size, 0, 6, rfl, by simp, by unfold maxLen; omega, Nat.le_refl _, by omega, ci6 fun j hj => ?_, fun i => ?_⟩
  · rw [World.cell?_alloc_new]
    match j, hj with
    | 0, _ | 1, _ | 2, _ | 3, _ | 4, _ | 5, _ => rfl
  · exact World.frozen?_alloc_new _ _ _ _

theorem zeros6 : Array.map (fun x => (Value.int IntKind.i64 0).cells[x % (Value.int IntKind.i64 0).cells.size]!) (Array.range (6 * 1)) = #[.int .i64 0, .int .i64 0, .int .i64 0, .int .i64 0, .int .i64 0, .int .i64 0] := by
  first
    | kernel_rfl
    | (simp [Value.cells]; rfl)

set_option maxHeartbeats 1000000 in
theorem sMemOpen_any (w : World) :
    Calls Tryz.prog 60 #[] w fun e w' => ∃ m', e = .returned m' ∧ MO w' w.heap.size w'.heap.size m' memZero ∧ Below w.heap.size w w' := by
  go_enter Tryz.func60, Tryz.ntmps60
  go_wp2_with fail
  obtain ⟨u0, hu0, B0, Z0, S0⟩ : ∃ u0, w.alloc (.cells #[.slice none 0 0, .slice none 0 0, .slice none 0 0] 51) = u0 ∧ Below w.heap.size w u0 ∧ Zero 3 u0 w.heap.size ∧ u0.heap.size = w.heap.size + 1 :=
    ⟨_, rfl, (Below.refl _ _).alloc (Nat.le_refl _) _, zero3_new w _ _ _ _, by simp⟩
  rw [hu0]
  clear hu0
  refine wp_region_mem3 (Φ := fun j v u => True) 4 0 1 2 3 _ _ _ _ _ 1 2 3 4 memZero rfl rfl (by kernel_rfl) rfl rfl rfl rfl rfl rfl rfl rfl (by omega) (by simp) (by kernel_rfl) (by kernel_rfl) (by kernel_rfl) (by kernel_rfl) ?_ ?_ ?_ ?_ ?_ ?_ ?_ ?_
  · exact fun _ _ _ _ _ h => h
  · intro i o ho hin n2 n5 n8 n9
    exact absurd hin (by omega)
  · intro a u hf hr he K' hK
    clear he
    go_simp
    refine hK _ _ ((Below.refl _ _).alloc (Nat.le_refl _) _) ?_
    have e6 : (IntKind.i64.wrap 6).toNat = 6 := by decide
    have es : Tryz.prog.types[3].size = 1 := by kernel_rfl
    rw [e6, es, zeros6]
    show OI (u.alloc (.cells #[.int .i64 0, .int .i64 0, .int .i64 0, .int .i64 0, .int .i64 0, .int .i64 0] 3)) u.heap.size (u.alloc (.cells #[.int .i64 0, .int .i64 0, .int .i64 0, .int .i64 0, .int .i64 0, .int .i64 0] 3)).heap.size (.slice (some ⟨u.heap.size, 0, none⟩) 6 6) [0, 0, 0, 0, 0, 0]
    rw [World.size_alloc]
    exact oi_made u 3
  · intro a u hf hr he K' hK
    clear he
    go_simp
    refine hK _ _ ((Below.refl _ _).alloc (Nat.le_refl _) _) ?_
    have e6 : (IntKind.i64.wrap 6).toNat = 6 := by decide
    have es : Tryz.prog.types[3].size = 1 := by kernel_rfl
    rw [e6, es, zeros6]
    show OI (u.alloc (.cells #[.int .i64 0, .int .i64 0, .int .i64 0, .int .i64 0, .int .i64 0, .int .i64 0] 3)) u.heap.size (u.alloc (.cells #[.int .i64 0, .int .i64 0, .int .i64 0, .int .i64 0, .int .i64 0, .int .i64 0] 3)).heap.size (.slice (some ⟨u.heap.size, 0, none⟩) 6 6) [0, 0, 0, 0, 0, 0]
    rw [World.size_alloc]
    exact oi_made u 3
  · intro a u hf hr he K' hK
    clear he
    go_simp
    refine hK _ _ ((Below.refl _ _).alloc (Nat.le_refl _) _) ?_
    have e6 : (IntKind.i64.wrap 6).toNat = 6 := by decide
    have es : Tryz.prog.types[3].size = 1 := by kernel_rfl
    rw [e6, es, zeros6]
    show OI (u.alloc (.cells #[.int .i64 0, .int .i64 0, .int .i64 0, .int .i64 0, .int .i64 0, .int .i64 0] 3)) u.heap.size (u.alloc (.cells #[.int .i64 0, .int .i64 0, .int .i64 0, .int .i64 0, .int .i64 0, .int .i64 0] 3)).heap.size (.slice (some ⟨u.heap.size, 0, none⟩) 6 6) [0, 0, 0, 0, 0, 0]
    rw [World.size_alloc]
    exact oi_made u 3
  · intro a u p1 p2 p3 c1 c2 c3 hf e1 e2 e3 K' hK
    go_simp
    exact hK
  · exact fun v u => ⟨trivial, trivial, trivial, trivial⟩
  · intro a u hf hr hm hp K' hK
    have f1 : a.tmps.getD 0 undef = .pointer (some ⟨w.heap.size, 0, none⟩) := hf.at_ 0 (by kernel_rfl)
    have hm0 := hm
    obtain ⟨qa, qb, qc, e1, k1, k2, k3⟩ := hm.mi
    obtain ⟨pa, ca, rfl⟩ := k1.shape
    obtain ⟨pb, cb, rfl⟩ := k2.shape
    obtain ⟨pc, cc, rfl⟩ := k3.shape
    clear k1 k2 k3 hm
    rw [e1] at hm0
    have hzz := Z0.grow hr (by omega)
    have hBs : w.heap.size < u.heap.size := by have := hr.size; omega
    obtain ⟨u1, hu1, G1, X1, M1, S1⟩ := store3 (w0 := w) (B0.trans (hr.mono (by omega))) (by omega) hBs hzz hm0 (.inl (by omega))
    obtain ⟨z0, zf0⟩ := hzz 0 (by omega)
    obtain ⟨z1, zf1⟩ := hzz 1 (by omega)
    obtain ⟨z2, zf2⟩ := hzz 2 (by omega)
    obtain ⟨x0, y0⟩ := Option.isSome_iff_exists.mp z0
    obtain ⟨x1, y1⟩ := Option.isSome_iff_exists.mp z1
    obtain ⟨x2, y2⟩ := Option.isSome_iff_exists.mp z2
    have e1' : a.tmps.getD 4 undef = .agg #[.slice pa memZero.i.length ca, .slice pb memZero.o.length cb, .slice pc memZero.v.length cc] := e1
    have fd : a.defers = [] := hf.defers
    clear hp
    go_simp
    refine hK _ _ ?_
    obtain ⟨s0, s1, s2⟩ := X1
    have HM : Hid (MO u1 w.heap.size u1.heap.size (.agg #[.slice pa memZero.i.length ca, .slice pb memZero.o.length cb, .slice pc memZero.v.length cc]) memZero) := by
      obtain ⟨a1, a2, a3, em, g1, g2, g3, g4⟩ := M1
      exact ⟨a1, a2, a3, em, g1.wide (by omega) (by omega), g2.wide (by omega) (by omega), g3.wide (by omega) (by omega), g4⟩
    clear hu1 M1 hm0 e1 e1' y0 y1 y2 z0 z1 z2 zf0 zf1 zf2 hK hf
    go_wp2
    rw [Array.getD_eq_getD_getElem?] at f1
    exact bodyPost_ret (v := .agg #[.slice pa memZero.i.length ca, .slice pb memZero.o.length cb, .slice pc memZero.v.length cc]) (by simp [results, Tryz.results60, go_sem, f1, s0, s1, s2]) fd ⟨_, rfl, HM.out, G1⟩
end Go.Proofs.YtaoiookfmgpmkaaGreatDoor
