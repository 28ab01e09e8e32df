/-
  impl.cellsOf: a memory's numbers copied into three arrays, where each list has six.
-/
import Derived.Test.YtdhpbiplkjpiiaaGreatDoorQC1
namespace Go.Proofs.YtdhpbiplkjpiiaaGreatDoor
open Go.ChangeShapes Go.WideShapes Go.ChangeAt Go.RowKit
set_option linter.unusedVariables false
set_option maxRecDepth 100000

theorem box3_below {w w' : World} {B n : Nat} {x y z : Value} (h : Box3 w B x y z) (hb : Below n w w') (hB : B < n) : Box3 w' B x y z := h.below hb hB

set_option maxHeartbeats 4000000 in
theorem cellsOf_no (w : World) (lo hi : Nat) (m : Value) (d : MemD) (h : MI w lo hi m d) (hn : fits d = false) :
    Calls Tryz.prog 38 #[m] w fun e w' => e = .returned (.tuple #[cv fun _ => 0, .bool false]) ∧ Below w.heap.size w w' := by
  obtain ⟨a, b, c, rfl, ha, hb, hc⟩ := h
  have l1 : d.i.length ≤ maxLen := by obtain ⟨_, _, _, h1, h2, _⟩ := ha; omega
  have l2 : d.o.length ≤ maxLen := by obtain ⟨_, _, _, h1, h2, _⟩ := hb; omega
  have l3 : d.v.length ≤ maxLen := by obtain ⟨_, _, _, h1, h2, _⟩ := hc; omega
  unfold maxLen at l1 l2 l3
  obtain ⟨pa, ca, rfl⟩ := ha.shape
  obtain ⟨pb, cb, rfl⟩ := hb.shape
  obtain ⟨pc, cc, rfl⟩ := hc.shape
  clear ha hb hc
  simp only [fits, Bool.and_eq_false_iff, decide_eq_false_iff_not] at hn
  have hbld : ∀ w, Sem.run Tryz.prog (zeroValue 54) w = .ok (cv fun _ => 0) w := Tryz.zeroValue54
  by_cases h1 : d.i.length = 6
  · have e1 : ((d.i.length : Int) != 6) = false := by simp; omega
    by_cases h2 : d.o.length = 6
    · have e2 : ((d.o.length : Int) != 6) = false := by simp; omega
      have e3 : ((d.v.length : Int) != 6) = true := by simp; omega
      clear hn h1 h2
      go_enter Tryz.func38, Tryz.ntmps38
      go_wp2_with (refine wpList_alloc18 rfl rfl ?_)
      intro u1 g1 z1 s1
      obtain ⟨c0, c1, c2⟩ := (box3_new w (.slice pa d.i.length ca) (.slice pb d.o.length cb) (.slice pc d.v.length cc) 28).below g1 (by simp)
      have G1 := below_two ((Below.refl w.heap.size w).alloc (Nat.le_refl _) _) g1
      clear g1
      go_wp2_with (refine wpList_store18 (f := fun _ => 0) rfl _ _ rfl rfl rfl (by assumption) ?_)
      intro u2 W2 X2 Z2
      have G2 := G1.trans (W2.below fun b o e => by omega)
      have hl := run_loadVar18 X2
      clear X2 Z2 W2 z1 c0 c1 c2
      go_wp2
      refine bodyPost_ret (v := .tuple #[cv fun _ => 0, .bool false]) ?_ rfl ⟨rfl, G2⟩
      rw [results_cell_tmp rfl]
      simp [asAddr, Result.andThen, hl]
    · have e2 : ((d.o.length : Int) != 6) = true := by simp; omega
      clear hn h1 h2
      go_enter Tryz.func38, Tryz.ntmps38
      go_wp2_with (refine wpList_alloc18 rfl rfl ?_)
      intro u1 g1 z1 s1
      obtain ⟨c0, c1, c2⟩ := (box3_new w (.slice pa d.i.length ca) (.slice pb d.o.length cb) (.slice pc d.v.length cc) 28).below g1 (by simp)
      have G1 := below_two ((Below.refl w.heap.size w).alloc (Nat.le_refl _) _) g1
      clear g1
      go_wp2_with (refine wpList_store18 (f := fun _ => 0) rfl _ _ rfl rfl rfl (by assumption) ?_)
      intro u2 W2 X2 Z2
      have G2 := G1.trans (W2.below fun b o e => by omega)
      have hl := run_loadVar18 X2
      clear X2 Z2 W2 z1 c0 c1 c2
      go_wp2
      refine bodyPost_ret (v := .tuple #[cv fun _ => 0, .bool false]) ?_ rfl ⟨rfl, G2⟩
      rw [results_cell_tmp rfl]
      simp [asAddr, Result.andThen, hl]
  · have e1 : ((d.i.length : Int) != 6) = true := by simp; omega
    clear hn h1
    go_enter Tryz.func38, Tryz.ntmps38
    go_wp2_with (refine wpList_alloc18 rfl rfl ?_)
    intro u1 g1 z1 s1
    obtain ⟨c0, c1, c2⟩ := (box3_new w (.slice pa d.i.length ca) (.slice pb d.o.length cb) (.slice pc d.v.length cc) 28).below g1 (by simp)
    have G1 := below_two ((Below.refl w.heap.size w).alloc (Nat.le_refl _) _) g1
    clear g1
    go_wp2_with (refine wpList_store18 (f := fun _ => 0) rfl _ _ rfl rfl rfl (by assumption) ?_)
    intro u2 W2 X2 Z2
    have G2 := G1.trans (W2.below fun b o e => by omega)
    have hl := run_loadVar18 X2
    clear X2 Z2 W2 z1 c0 c1 c2
    go_wp2
    refine bodyPost_ret (v := .tuple #[cv fun _ => 0, .bool false]) ?_ rfl ⟨rfl, G2⟩
    rw [results_cell_tmp rfl]
    simp [asAddr, Result.andThen, hl]

theorem wanted_pos {o : Oper} {y : Nat → Option Bool} {p q : Prop} (hg : o.guard = none) (h : p) : if Region.wanted o y = true then p else q := by
  rw [if_pos (by simp [Region.wanted, hg])]; exact h

set_option maxHeartbeats 8000000 in
theorem cellsOf_six (w : World) (f : Nat → Int) (p1 p2 p3 o1 o2 o3 q1 q2 q3 : Nat) (k1 : p1 < w.heap.size) (k2 : p2 < w.heap.size) (k3 : p3 < w.heap.size)
    (c00 : w.cell? ⟨p1, o1, none⟩ = some (.int .i64 (f 0)))
    (c01 : w.cell? ⟨p1, o1 + 1, none⟩ = some (.int .i64 (f 1)))
    (c02 : w.cell? ⟨p1, o1 + 2, none⟩ = some (.int .i64 (f 2)))
    (c03 : w.cell? ⟨p1, o1 + 3, none⟩ = some (.int .i64 (f 3)))
    (c04 : w.cell? ⟨p1, o1 + 4, none⟩ = some (.int .i64 (f 4)))
    (c05 : w.cell? ⟨p1, o1 + 5, none⟩ = some (.int .i64 (f 5)))
    (c10 : w.cell? ⟨p2, o2, none⟩ = some (.int .i64 (f 6)))
    (c11 : w.cell? ⟨p2, o2 + 1, none⟩ = some (.int .i64 (f 7)))
    (c12 : w.cell? ⟨p2, o2 + 2, none⟩ = some (.int .i64 (f 8)))
    (c13 : w.cell? ⟨p2, o2 + 3, none⟩ = some (.int .i64 (f 9)))
    (c14 : w.cell? ⟨p2, o2 + 4, none⟩ = some (.int .i64 (f 10)))
    (c15 : w.cell? ⟨p2, o2 + 5, none⟩ = some (.int .i64 (f 11)))
    (c20 : w.cell? ⟨p3, o3, none⟩ = some (.int .i64 (f 12)))
    (c21 : w.cell? ⟨p3, o3 + 1, none⟩ = some (.int .i64 (f 13)))
    (c22 : w.cell? ⟨p3, o3 + 2, none⟩ = some (.int .i64 (f 14)))
    (c23 : w.cell? ⟨p3, o3 + 3, none⟩ = some (.int .i64 (f 15)))
    (c24 : w.cell? ⟨p3, o3 + 4, none⟩ = some (.int .i64 (f 16)))
    (c25 : w.cell? ⟨p3, o3 + 5, none⟩ = some (.int .i64 (f 17))) :
    Calls Tryz.prog 38 #[.agg #[.slice (some ⟨p1, o1, none⟩) 6 q1, .slice (some ⟨p2, o2, none⟩) 6 q2, .slice (some ⟨p3, o3, none⟩) 6 q3]] w fun e w' => e = .returned (.tuple #[cv f, .bool true]) ∧ Below w.heap.size w w' := by
  have hat : ∀ (w : World) (a : Option Go.Addr) (cap : Nat), (Instr.arrayAt 52 (.slice a 6 cap)).run Tryz.prog w = .ok (.pointer a) w := fun w a cap => run_arrayAt w 52 _ 6 a 6 cap Tryz.underlying52 (Nat.le_refl _)
  go_enter Tryz.func38, Tryz.ntmps38
  go_wp2_with (refine wpList_alloc18 rfl rfl ?_)
  intro u1 g1 z1 s1
  obtain ⟨d0, d1, d2⟩ := (box3_new w (.slice (some ⟨p1, o1, none⟩) 6 q1) (.slice (some ⟨p2, o2, none⟩) 6 q2) (.slice (some ⟨p3, o3, none⟩) 6 q3) 28).below g1 (by simp)
  have G1 := below_two ((Below.refl w.heap.size w).alloc (Nat.le_refl _) _) g1
  clear g1
  go_wp2_with fail
  rw [← G1.cell (p := ⟨p1, o1, none⟩) k1] at c00
  rw [← G1.cell (p := ⟨p1, o1 + 1, none⟩) k1] at c01
  rw [← G1.cell (p := ⟨p1, o1 + 2, none⟩) k1] at c02
  rw [← G1.cell (p := ⟨p1, o1 + 3, none⟩) k1] at c03
  rw [← G1.cell (p := ⟨p1, o1 + 4, none⟩) k1] at c04
  rw [← G1.cell (p := ⟨p1, o1 + 5, none⟩) k1] at c05
  rw [← G1.cell (p := ⟨p2, o2, none⟩) k2] at c10
  rw [← G1.cell (p := ⟨p2, o2 + 1, none⟩) k2] at c11
  rw [← G1.cell (p := ⟨p2, o2 + 2, none⟩) k2] at c12
  rw [← G1.cell (p := ⟨p2, o2 + 3, none⟩) k2] at c13
  rw [← G1.cell (p := ⟨p2, o2 + 4, none⟩) k2] at c14
  rw [← G1.cell (p := ⟨p2, o2 + 5, none⟩) k2] at c15
  rw [← G1.cell (p := ⟨p3, o3, none⟩) k3] at c20
  rw [← G1.cell (p := ⟨p3, o3 + 1, none⟩) k3] at c21
  rw [← G1.cell (p := ⟨p3, o3 + 2, none⟩) k3] at c22
  rw [← G1.cell (p := ⟨p3, o3 + 3, none⟩) k3] at c23
  rw [← G1.cell (p := ⟨p3, o3 + 4, none⟩) k3] at c24
  rw [← G1.cell (p := ⟨p3, o3 + 5, none⟩) k3] at c25
  refine wp_region_tail (R := fun u u' => u' = u) (Φ := fun j v u => match j with
      | 0 => v = .pointer (some ⟨w.heap.size, 0, none⟩)
      | 1 => v = .slice (some ⟨p1, o1, none⟩) 6 q1
      | 2 => v = .pointer (some ⟨p1, o1, none⟩)
      | 3 => v = .agg #[.int .i64 (f 0), .int .i64 (f 1), .int .i64 (f 2), .int .i64 (f 3), .int .i64 (f 4), .int .i64 (f 5)]
      | 4 => v = .pointer (some ⟨w.heap.size, 1, none⟩)
      | 5 => v = .slice (some ⟨p2, o2, none⟩) 6 q2
      | 6 => v = .pointer (some ⟨p2, o2, none⟩)
      | 7 => v = .agg #[.int .i64 (f 6), .int .i64 (f 7), .int .i64 (f 8), .int .i64 (f 9), .int .i64 (f 10), .int .i64 (f 11)]
      | 8 => v = .pointer (some ⟨w.heap.size, 2, none⟩)
      | 9 => v = .slice (some ⟨p3, o3, none⟩) 6 q3
      | 10 => v = .pointer (some ⟨p3, o3, none⟩)
      | 11 => v = .agg #[.int .i64 (f 12), .int .i64 (f 13), .int .i64 (f 14), .int .i64 (f 15), .int .i64 (f 16), .int .i64 (f 17)]
      | 12 => v = cv f
      | _ => True) 13 (by simp) (by kernel_rfl) (by kernel_rfl) (by kernel_rfl) (by kernel_rfl) rfl (fun a b c h1 h2 => h2.trans h1) ?_ ?_ ?_
  · rintro j v u u' rfl
    exact fun h => h
  · rintro i o ho hin a u hf rfl he K' hK
    have hsz' : a.tmps.size = 34 := hf.size
    have putat : ∀ (t : Nat) (v : Value), t < a.tmps.size → (a.put (some t) v).tmps.getD t undef = v := fun t v ht => by
      show (a.tmps.setIfInBounds t v).getD t undef = v
      simp [ht]
    rcases i with _ | _ | _ | _ | _ | _ | _ | _ | _ | _ | _ | _ | _ | i
    · obtain rfl := Option.some.inj ho
      have f1 : a.tmps.getD 1 undef = .pointer (some ⟨w.heap.size, 0, none⟩) := hf.at_ 1 (by kernel_rfl)
      clear he
      go_simp
      exact hK _ _ rfl (putat 21 _ (by omega))
    · obtain rfl := Option.some.inj ho
      have f1 : a.tmps.getD 21 undef = .pointer (some ⟨w.heap.size, 0, none⟩) := he _ (Array.mem_of_getElem? (i := 0) rfl) (by kernel_rfl) _ rfl
      clear he
      go_simp
      exact hK _ _ rfl (putat 22 _ (by omega))
    · obtain rfl := Option.some.inj ho
      have f1 : a.tmps.getD 22 undef = .slice (some ⟨p1, o1, none⟩) 6 q1 := he _ (Array.mem_of_getElem? (i := 0) rfl) (by kernel_rfl) _ rfl
      clear he
      go_simp
      exact hK _ _ rfl (putat 23 _ (by omega))
    · obtain rfl := Option.some.inj ho
      have f1 : a.tmps.getD 23 undef = .pointer (some ⟨p1, o1, none⟩) := he _ (Array.mem_of_getElem? (i := 0) rfl) (by kernel_rfl) _ rfl
      clear he
      go_simp
      exact hK _ _ rfl (putat 24 _ (by omega))
    · obtain rfl := Option.some.inj ho
      have f1 : a.tmps.getD 1 undef = .pointer (some ⟨w.heap.size, 0, none⟩) := hf.at_ 1 (by kernel_rfl)
      clear he
      go_simp
      exact hK _ _ rfl (putat 25 _ (by omega))
    · obtain rfl := Option.some.inj ho
      have f1 : a.tmps.getD 25 undef = .pointer (some ⟨w.heap.size, 1, none⟩) := he _ (Array.mem_of_getElem? (i := 0) rfl) (by kernel_rfl) _ rfl
      clear he
      go_simp
      exact hK _ _ rfl (putat 26 _ (by omega))
    · obtain rfl := Option.some.inj ho
      have f1 : a.tmps.getD 26 undef = .slice (some ⟨p2, o2, none⟩) 6 q2 := he _ (Array.mem_of_getElem? (i := 0) rfl) (by kernel_rfl) _ rfl
      clear he
      go_simp
      exact hK _ _ rfl (putat 27 _ (by omega))
    · obtain rfl := Option.some.inj ho
      have f1 : a.tmps.getD 27 undef = .pointer (some ⟨p2, o2, none⟩) := he _ (Array.mem_of_getElem? (i := 0) rfl) (by kernel_rfl) _ rfl
      clear he
      go_simp
      exact hK _ _ rfl (putat 28 _ (by omega))
    · obtain rfl := Option.some.inj ho
      have f1 : a.tmps.getD 1 undef = .pointer (some ⟨w.heap.size, 0, none⟩) := hf.at_ 1 (by kernel_rfl)
      clear he
      go_simp
      exact hK _ _ rfl (putat 29 _ (by omega))
    · obtain rfl := Option.some.inj ho
      have f1 : a.tmps.getD 29 undef = .pointer (some ⟨w.heap.size, 2, none⟩) := he _ (Array.mem_of_getElem? (i := 0) rfl) (by kernel_rfl) _ rfl
      clear he
      go_simp
      exact hK _ _ rfl (putat 30 _ (by omega))
    · obtain rfl := Option.some.inj ho
      have f1 : a.tmps.getD 30 undef = .slice (some ⟨p3, o3, none⟩) 6 q3 := he _ (Array.mem_of_getElem? (i := 0) rfl) (by kernel_rfl) _ rfl
      clear he
      go_simp
      exact hK _ _ rfl (putat 31 _ (by omega))
    · obtain rfl := Option.some.inj ho
      have f1 : a.tmps.getD 31 undef = .pointer (some ⟨p3, o3, none⟩) := he _ (Array.mem_of_getElem? (i := 0) rfl) (by kernel_rfl) _ rfl
      clear he
      go_simp
      exact hK _ _ rfl (putat 32 _ (by omega))
    · obtain rfl := Option.some.inj ho
      have f0 : a.tmps.getD 24 undef = .agg #[.int .i64 (f 0), .int .i64 (f 1), .int .i64 (f 2), .int .i64 (f 3), .int .i64 (f 4), .int .i64 (f 5)] := he _ (Array.mem_of_getElem? (i := 0) rfl) (by kernel_rfl) _ rfl
      have f1 : a.tmps.getD 28 undef = .agg #[.int .i64 (f 6), .int .i64 (f 7), .int .i64 (f 8), .int .i64 (f 9), .int .i64 (f 10), .int .i64 (f 11)] := he _ (Array.mem_of_getElem? (i := 1) rfl) (by kernel_rfl) _ rfl
      have f2 : a.tmps.getD 32 undef = .agg #[.int .i64 (f 12), .int .i64 (f 13), .int .i64 (f 14), .int .i64 (f 15), .int .i64 (f 16), .int .i64 (f 17)] := he _ (Array.mem_of_getElem? (i := 2) rfl) (by kernel_rfl) _ rfl
      have HZ : Hid (a.tmps.size = 34) := hsz'
      rw [Array.getD_eq_getD_getElem?] at f0 f1 f2
      clear hsz'
      clear he
      go_simp
      exact hK _ _ rfl (putat 33 _ (by rw [HZ.out]; omega))
    · omega
  · rintro a u hf rfl hp
    have e33 : a.tmps.getD 33 undef = cv f := hp 12 _ (by omega) rfl
    have e2 : a.tmps.getD 2 undef = .pointer (some ⟨w.heap.size + 1, 0, none⟩) := hf.at_ 2 (by kernel_rfl)
    have fd : a.defers = [] := hf.defers
    have hsz : a.tmps.size = 34 := hf.size
    have hz : Zero 18 u1.drew (w.heap.size + 1) := z1.grow (Below.drew (Below.refl _ _)) (by omega)
    intro o ho K' hK
    obtain rfl := Option.some.inj ho
    clear hp hf hat
    have HZ : Hid (a.tmps.size = 34) := hsz
    clear hsz
    refine wanted_pos rfl (wp_store18 (.tmp 2) (.tmp 33) rfl e2 e33 hz fun u2 W2 X2 Z2 => hK _ _ ?_)
    have G2 := (G1.trans (Below.drew (Below.refl _ _))).trans (W2.below fun b o e => by omega)
    have hl := run_loadVar18 X2
    clear W2 X2 Z2 hK hz
    intro o ho K' hK
    obtain rfl := Option.some.inj ho
    go_simp
    refine hK _ _ ?_
    have e2' : (a.tmps.setIfInBounds 3 (.bool true)).getD 2 undef = .pointer (some ⟨w.heap.size + 1, 0, none⟩) := by have h := getD_put_ne a 3 2 (.bool true) (by decide); exact h.trans e2
    have e3' : (a.tmps.setIfInBounds 3 (.bool true)).getD 3 undef = .bool true := getD_put_self a 3 _ (by rw [HZ.out]; decide)
    show Exit.then _ _ .normal ⟨a.tmps.setIfInBounds 3 (.bool true), []⟩ u2
    generalize a.tmps.setIfInBounds 3 (.bool true) = tm at *
    go_wp2
    refine bodyPost_ret (v := .tuple #[cv f, .bool true]) ?_ rfl ⟨rfl, G2⟩
    rw [results_cell_tmp rfl, e2', e3']
    simp [asAddr, Result.andThen, hl]
end Go.Proofs.YtdhpbiplkjpiiaaGreatDoor
