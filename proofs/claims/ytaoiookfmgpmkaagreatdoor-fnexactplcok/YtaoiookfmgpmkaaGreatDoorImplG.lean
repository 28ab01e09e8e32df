/-
  impl.cellsOk: the numbers of a memory that is ok, in three arrays; impl.MemOk.
-/
import Derived.Test.YtaoiookfmgpmkaaGreatDoorImplF
namespace Go.Proofs.YtaoiookfmgpmkaaGreatDoor
open Go.ChangeShapes Go.WideShapes Go.ChangeAt Go.RowKit
set_option linter.unusedVariables false
set_option maxRecDepth 100000

theorem yielded_at {ops : Array Oper} {a : Act} {i : Nat} {oi : Oper} {d : Tmp} {b : Bool} (hoi : ops[i]? = some oi) (hd : oi.dst = some d) (hlt : d < a.tmps.size) (hv : a.tmps.getD d undef = .bool b) : yielded ops a.tmps i = some b := by
  have h : a.tmps[d]? = some (.bool b) := by
    rw [Array.getElem?_eq_getElem hlt]
    simp [hlt] at hv
    rw [hv]
  simp [yielded, hoi, hd, h]

theorem wanted_if {o : Oper} {ops : Array Oper} {a : Act} {i : Nat} {b : Bool} {p q : Prop} (hg : o.guard = some (i, b)) (hy : yielded ops a.tmps i = some b) (h : p) : if Region.wanted o (yielded ops a.tmps) = true then p else q := by
  rw [if_pos (by simp [Region.wanted, hg, hy])]; exact h

theorem wanted_not {o : Oper} {ops : Array Oper} {a : Act} {i : Nat} {b : Bool} {p q : Prop} (hg : o.guard = some (i, b)) (hy : yielded ops a.tmps i = some (!b)) (h : q) : if Region.wanted o (yielded ops a.tmps) = true then p else q := by
  rw [if_neg (by cases b <;> simp [Region.wanted, hg, hy])]; exact h

/-- What cellsOk copies. -/
def okG (d : MemD) : Nat → Int := if memOk d then cellF d else fun _ => 0

theorem listOk_six (x0 x1 x2 x3 x4 x5 : Int) : listOk [x0, x1, x2, x3, x4, x5] = ((cutZ x0 == x0) && ((cutZ x1 == x1) && ((cutZ x2 == x2) && ((cutZ x3 == x3) && ((cutZ x4 == x4) && (cutZ x5 == x5)))))) := by
  simp [listOk]

theorem beq_comm_int (a b : Int) : (a == b) = (b == a) := by
  by_cases h : a = b
  · subst h; rfl
  · have h' : b ≠ a := fun e => h e.symm
    rw [beq_eq_false_iff_ne.mpr h, beq_eq_false_iff_ne.mpr h']

theorem memOk_fits {d : MemD} (h : fits d = true) : memOk d = sameF (cellF d) (fun j => cutZ (cellF d j)) := by
  obtain ⟨h1, h2, h3⟩ := fits_len h
  obtain ⟨e1, e2, e3⟩ := cellF_i h1 h2 h3
  have e : memOk d = (listOk d.i && listOk d.o && listOk d.v) := rfl
  rw [e, e1, e2, e3, listOk_six, listOk_six, listOk_six]
  generalize cellF d = f
  have hc : ∀ j, (cutZ (f j) == f j) = (f j == cutZ (f j)) := fun j => beq_comm_int _ _
  simp only [hc]
  simp only [sameF, List.range, List.range.loop, List.all_cons, List.all_nil, Bool.and_true, Bool.and_assoc]

theorem memOk_not {d : MemD} (h : fits d = false) : memOk d = false := by
  cases hm : memOk d with
  | false => rfl
  | true =>
    simp [memOk, listOk] at hm
    simp [fits] at h
    omega

set_option maxHeartbeats 4000000 in
theorem cellsOk_any (w : World) (lo hi : Nat) (m : Value) (d : MemD) (h : MI w lo hi m d) (hhi : hi ≤ w.heap.size) :
    Calls Tryz.prog 108 #[m] w fun e w' => e = .returned (.tuple #[cv (okG d), .bool (memOk d)]) ∧ Below w.heap.size w w' := by
  have H := h
  obtain ⟨a, b, c, rfl, ha, hb, hc⟩ := h
  clear ha hb hc
  go_enter Tryz.func108, Tryz.ntmps108
  go_wp2_with (refine wpList_alloc18 rfl rfl ?_)
  intro u1 g1 z1 s1
  obtain ⟨d0, d1, d2⟩ := (box3_new w a b c 51).below g1 (by simp)
  have G1 := below_two ((Below.refl w.heap.size w).alloc (Nat.le_refl _) _) g1
  clear g1
  go_wp2_with fail
  refine (cellsOf_any _ lo hi _ d (H.below G1 hhi) (by omega)).mono ?_
  rintro e1 u2 ⟨rfl, g2⟩
  have S2 := g2.size
  have G2 := G1.trans (g2.mono (by omega))
  have z2 := z1.grow g2 (by omega)
  clear g2 z1 d0 d1 d2 G1
  go_wp2_with (refine wpList_alloc18 rfl rfl ?_)
  intro u3 g3 z3 s3
  go_wp2_with (refine wpList_store18 rfl _ _ rfl rfl rfl (by assumption) ?_)
  intro u4 W4 V4 Z4
  have G4 := (G2.trans (g3.mono (by omega))).trans (W4.below fun b o e => by omega)
  have S4 := W4.size
  have Y4 : Zero 18 u4 (w.heap.size + 1) := fun j hj => by
    rw [W4.cell _ _ (by omega), W4.frozen, g3.cell (p := ⟨w.heap.size + 1, j, none⟩) (by show w.heap.size + 1 < u2.heap.size; omega), g3.frozen (p := ⟨w.heap.size + 1, j, none⟩) (by show w.heap.size + 1 < u2.heap.size; omega)]
    exact z2 j hj
  clear g3 z3 W4 Z4 z2 G2
  cases hf : fits d with
  | false =>
    have e1 : okG d = fun _ => 0 := by unfold okG; rw [memOk_not hf]; rfl
    have e2 := memOk_not hf
    clear V4 hf
    go_wp2_with fail
    go_quiet (fail)
    have Y5 : Zero 18 (u4.drewN nq) (w.heap.size + 1) := Y4.grow (below_drewN (Below.refl _ _) nq) (by omega)
    have G5 : Below w.heap.size w (u4.drewN nq) := below_drewN G4 nq
    generalize u4.drewN nq = u5 at *
    clear Y4 G4
    go_wp2_with (refine wpList_store18 (f := fun _ => 0) rfl _ _ rfl rfl rfl (by assumption) ?_)
    intro u6 W6 V6 Z6
    have hl := run_loadVar18 V6
    have G6 := G5.trans (W6.below fun b o e => by omega)
    clear V6 Z6 W6
    go_wp2
    refine bodyPost_ret (v := .tuple #[cv fun _ => 0, .bool false]) ?_ rfl ⟨by rw [e1, e2], G6⟩
    rw [results_cell_tmp rfl]
    simp [asAddr, Result.andThen, hl]
  | true =>
    have e1 : cellG d = cellF d := by unfold cellG; rw [hf]; rfl
    rw [e1] at V4
    have EO : Hid (memOk d = sameF (cellF d) (fun j => cutZ (cellF d j))) := memOk_fits hf
    go_wp2_with fail
    rw [e1]
    refine wp_region_dag (R := Grow) (Φ := fun j v u => match j with
        | 0 => v = .bool true
        | 1 => v = .bool false
        | 2 => v = .bool false
        | 3 => v = cv (cellF d)
        | 4 => v = cv (cellF d)
        | 5 => v = cv fun j => cutZ (cellF d j)
        | 6 => v = .bool (!memOk d)
        | 7 => v = .bool (!memOk d)
        | _ => True) (by kernel_rfl) (by kernel_rfl) (by kernel_rfl) (Below.refl _ _) grow_trans (fun j v u u' _ h => h) ?_ ?_
    · intro i o ho a' u hf' hR0 he K' hK
      have hR : Grow u4 u := (Below.drew (Below.refl _ _)).trans hR0
      have hsz' : a'.tmps.size = 21 := hf'.size
      have putat : ∀ (t : Nat) (v : Value), t < a'.tmps.size → (a'.put (some t) v).tmps.getD t undef = v := fun t v ht => by
        show (a'.tmps.setIfInBounds t v).getD t undef = v
        simp [ht]
      have V5 := V4.below hR (by omega)
      rcases i with _ | _ | _ | _ | _ | _ | _ | _ | i
      · obtain rfl := Option.some.inj ho
        have f1 : a'.tmps.getD 5 undef = .bool true := hf'.at_ 5 (by kernel_rfl)
        clear he
        go_simp
        exact hK _ _ (Below.refl _ _) (putat 11 _ (by omega))
      · obtain rfl := Option.some.inj ho
        have f1 : a'.tmps.getD 11 undef = .bool true := he _ (Array.mem_of_getElem? (i := 0) rfl) (by kernel_rfl) _ rfl
        clear he
        go_simp
        exact hK _ _ (Below.refl _ _) (putat 12 _ (by omega))
      · obtain rfl := Option.some.inj ho
        have f1 : a'.tmps.getD 12 undef = .bool false := he _ (Array.mem_of_getElem? (i := 0) rfl) (by kernel_rfl) _ rfl
        clear he
        go_simp
        exact hK _ _ (Below.refl _ _) (putat 13 _ (by omega))
      · obtain rfl := Option.some.inj ho
        have f1 : a'.tmps.getD 13 undef = .bool false := he _ (Array.mem_of_getElem? (i := 0) rfl) (by kernel_rfl) _ rfl
        have f4 : a'.tmps.getD 4 undef = .pointer (some ⟨u2.heap.size, 0, none⟩) := hf'.at_ 4 (by kernel_rfl)
        exact wanted_if rfl (yielded_at rfl rfl (by rw [hsz']; decide) f1) (wp_load18 (.tmp 4) rfl f4 V5 (hK _ _ (Below.refl _ _) (putat 14 _ (by omega))))
      · obtain rfl := Option.some.inj ho
        have f1 : a'.tmps.getD 13 undef = .bool false := he _ (Array.mem_of_getElem? (i := 0) rfl) (by kernel_rfl) _ rfl
        have f4 : a'.tmps.getD 4 undef = .pointer (some ⟨u2.heap.size, 0, none⟩) := hf'.at_ 4 (by kernel_rfl)
        exact wanted_if rfl (yielded_at rfl rfl (by rw [hsz']; decide) f1) (wp_load18 (.tmp 4) rfl f4 V5 (hK _ _ (Below.refl _ _) (putat 15 _ (by omega))))
      · obtain rfl := Option.some.inj ho
        have f0 : a'.tmps.getD 15 undef = cv (cellF d) := he _ (Array.mem_of_getElem? (i := 0) rfl) (by kernel_rfl) _ rfl
        have f1 : a'.tmps.getD 13 undef = .bool false := he _ (Array.mem_of_getElem? (i := 2) rfl) (by kernel_rfl) _ rfl
        refine wanted_if rfl (yielded_at rfl rfl (by rw [hsz']; decide) f1) ?_
        clear he f1
        go_simp
        refine (cut_any _ _).mono ?_
        rintro e u' ⟨rfl, hbu⟩
        exact hK _ _ hbu (putat 16 _ (by omega))
      · obtain rfl := Option.some.inj ho
        have f0 : a'.tmps.getD 14 undef = cv (cellF d) := he _ (Array.mem_of_getElem? (i := 0) rfl) (by kernel_rfl) _ rfl
        have f2 : a'.tmps.getD 16 undef = cv fun j => cutZ (cellF d j) := he _ (Array.mem_of_getElem? (i := 1) rfl) (by kernel_rfl) _ rfl
        have f1 : a'.tmps.getD 13 undef = .bool false := he _ (Array.mem_of_getElem? (i := 2) rfl) (by kernel_rfl) _ rfl
        have hq := neq_cells (cellF d) (fun j => cutZ (cellF d j))
        rw [← EO.out] at hq
        have hg := guard_cells .neq (.tmp 14) (.tmp 16) (cellF d) (fun j => cutZ (cellF d j))
        refine wanted_if rfl (yielded_at rfl rfl (by rw [hsz']; decide) f1) ?_
        clear he f1
        go_simp
        exact hK _ _ (Below.refl _ _) (putat 17 _ (by omega))
      · obtain rfl := Option.some.inj ho
        have f1 : a'.tmps.getD 13 undef = .bool false := he _ (Array.mem_of_getElem? (i := 0) rfl) (by kernel_rfl) _ rfl
        have f2 : a'.tmps.getD 17 undef = .bool (!memOk d) := he _ (Array.mem_of_getElem? (i := 1) rfl) (by kernel_rfl) _ rfl
        clear he
        go_simp
        exact hK _ _ (Below.refl _ _) (putat 18 _ (by omega))
      · exact absurd ho (by simp)
    · intro a' u hf' hR0 hp
      have hR : Grow u4 u := (Below.drew (Below.refl _ _)).trans hR0
      have md : a'.defers = [] := hf'.defers
      have m2 : a'.tmps.getD 2 undef = .pointer (some ⟨w.heap.size + 1, 0, none⟩) := hf'.at_ 2 (by kernel_rfl)
      have m4 : a'.tmps.getD 4 undef = .pointer (some ⟨u2.heap.size, 0, none⟩) := hf'.at_ 4 (by kernel_rfl)
      have m18 : a'.tmps.getD 18 undef = .bool (!memOk d) := hp 7 _ rfl
      have V5 := V4.below hR (by omega)
      have Y5 := Y4.grow hR (by omega)
      have G5 := G4.trans (hR.mono (by omega))
      obtain ⟨f, ea, hfv⟩ := act_lit a' 21 hf'.size
      rw [← hfv] at m2 m4 m18
      rw [md] at ea
      cases hm : memOk d with
      | false =>
        rw [hm] at m18
        simp only [List.range, List.range.loop, List.map_cons, List.map_nil, m2, m4, m18, Bool.not_false] at ea
        subst ea
        have e2 : okG d = fun _ => 0 := by unfold okG; rw [hm]; rfl
        clear hfv hf' md hp hR0 hR V4 Y4 G4 V5 EO
        go_wp2_with (refine wpList_store18 (f := fun _ => 0) rfl _ _ rfl rfl rfl (by assumption) ?_)
        intro u6 W6 V6 Z6
        have hl := run_loadVar18 V6
        have G6 := G5.trans (W6.below fun b o e => by omega)
        clear V6 Z6 W6
        go_wp2
        refine bodyPost_ret (v := .tuple #[cv fun _ => 0, .bool false]) ?_ rfl ⟨by rw [e2, hm], G6⟩
        rw [results_cell_tmp rfl]
        simp [asAddr, Result.andThen, hl]
      | true =>
        rw [hm] at m18
        simp only [List.range, List.range.loop, List.map_cons, List.map_nil, m2, m4, m18, Bool.not_true] at ea
        subst ea
        have e2 : okG d = cellF d := by unfold okG; rw [hm]; rfl
        clear hfv hf' md hp hR0 hR V4 Y4 G4 EO
        go_wp2_with (first | refine wpList_load18 rfl _ rfl rfl (by assumption) ?_ | refine wpList_store18 rfl _ _ rfl rfl rfl (by assumption) ?_)
        intro u6 W6 V6 Z6
        have hl := run_loadVar18 V6
        have G6 := G5.trans (W6.below fun b o e => by omega)
        clear V6 Z6 W6
        go_wp2
        refine bodyPost_ret (v := .tuple #[cv (cellF d), .bool true]) ?_ rfl ⟨by rw [e2, hm], G6⟩
        rw [results_cell_tmp rfl]
        simp [asAddr, Result.andThen, hl]

set_option maxHeartbeats 1000000 in
theorem iMemOk_any (w : World) (m : Value) (lo hi : Nat) (d : MemD) (h : MI w lo hi m d) (hhi : hi ≤ w.heap.size) :
    Calls Tryz.prog 96 #[m] w fun e w' => e = .returned (.bool (memOk d)) ∧ Below w.heap.size w w' := by
  have H := h
  obtain ⟨a, b, c, rfl, ha, hb, hc⟩ := h
  clear ha hb hc
  have b1 := fun o => (Below.refl w.heap.size w).alloc (Nat.le_refl _) o
  go_enter Tryz.func96, Tryz.ntmps96
  go_wp2_with fail
  refine (cellsOk_any _ lo hi _ d (H.below (b1 _) hhi) (by simp; omega)).mono ?_
  rintro e1 u2 ⟨rfl, g2⟩
  have G2 := below_two (b1 _) g2
  clear g2 b1
  have S2 := G2.size
  go_wp2_with (refine wpList_alloc18 rfl rfl ?_)
  intro u3 g3 z3 s3
  go_wp2_with (refine wpList_store18 rfl _ _ rfl rfl rfl (by assumption) ?_)
  intro u4 W4 V4 Z4
  have G4 := (G2.trans (g3.mono (by omega))).trans (W4.below fun b o e => by omega)
  clear g3 z3 W4 V4 Z4 G2
  go_wp2
  go_ret
  exact ⟨rfl, G4⟩
end Go.Proofs.YtaoiookfmgpmkaaGreatDoor
