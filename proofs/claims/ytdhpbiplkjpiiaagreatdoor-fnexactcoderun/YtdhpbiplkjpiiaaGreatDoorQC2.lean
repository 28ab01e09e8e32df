import Derived.Test.YtdhpbiplkjpiiaaGreatDoorImplE

/-
  impl.cells.cut: each of eighteen numbers cut.
-/
namespace Go.Proofs.YtdhpbiplkjpiiaaGreatDoor
open Go.ChangeShapes Go.WideShapes Go.ChangeAt Go.RowKit
set_option linter.unusedVariables false
set_option maxRecDepth 100000

/-- Numbers, those at the first k places of each array cut. -/
def cutK (f : Nat → Int) (k : Nat) (j : Nat) : Int := if j % 6 < k then cutZ (f j) else f j

/-- What holds of the three numbers of one round, as their stores come to be done. -/
structure CutJ (B k : Nat) (x y z : Int) (L : Array Bool) (a : Act) (u : World) : Prop where
  c1 : u.cell? ⟨B, k, none⟩ = some (.int .i64 (if L.getD 20 true then cutZ x else x))
  c2 : u.cell? ⟨B, 6 + k, none⟩ = some (.int .i64 (if L.getD 23 true then cutZ y else y))
  c3 : u.cell? ⟨B, 12 + k, none⟩ = some (.int .i64 (if L.getD 26 true then cutZ z else z))

theorem CutJ.other {B k : Nat} {x y z : Int} {L : Array Bool} {a a' : Act} {u : World} (h : CutJ B k x y z L a u) {i : Nat} (h1 : i ≠ 20) (h2 : i ≠ 23) (h3 : i ≠ 26) : CutJ B k x y z (L.setIfInBounds i true) a' u := by
  obtain ⟨c1, c2, c3⟩ := h
  refine ⟨?_, ?_, ?_⟩
  · rw [getD_set_ne true h1]; exact c1
  · rw [getD_set_ne true h2]; exact c2
  · rw [getD_set_ne true h3]; exact c3

/-- The cells of one round. -/
def RoundP (B k b o : Nat) : Prop := b = B ∧ (o = k ∨ o = 6 + k ∨ o = 12 + k)

set_option maxHeartbeats 8000000 in
theorem cut_any (w : World) (f : Nat → Int) :
    Calls Tryz.prog 39 #[cv f] w fun e w' => e = .returned (cv fun j => cutZ (f j)) ∧ Below w.heap.size w w' := by
  go_enter Tryz.func39, Tryz.ntmps39
  go_wp2_with (refine wpList_box18 rfl _ rfl rfl ?_)
  intro u1 g1 x1 z1 s1
  go_wp2_with (refine wpList_alloc18 rfl rfl ?_)
  intro u2 g2 z2 s2
  have G2 := below_two g1 g2
  have x2 := x1.below g2 (by omega)
  have y2 := z1.grow g2 (by omega)
  have s2' : u2.heap.size = w.heap.size + 2 := by omega
  clear g1 x1 z1 s1 g2 s2
  go_wp2_with fail
  go_loopw [4] (fun i wr => ∃ k : Nat, k ≤ 6 ∧ i = .int .i64 k ∧ Below w.heap.size w wr ∧ wr.heap.size = w.heap.size + 2 ∧ Box18 wr w.heap.size (cutK f k) ∧ Zero 18 wr w.heap.size ∧ Zero 18 wr (w.heap.size + 1)) (fun i _ => 6 - (intOf i).toNat)
  case atStart =>
    have e0 : cutK f 0 = f := by funext j; unfold cutK; rw [if_neg (by omega)]
    exact ⟨0, by omega, rfl, G2, s2', by rw [e0]; exact x2, y2, z2⟩
  case round =>
    obtain ⟨k, hk, rfl, hb, hs, hx, hy, hz⟩ := hrel
    by_cases hlt : k < 6
    · go_wp2_with fail
      obtain ⟨x, hx'⟩ : ∃ x, cutK f k k = x := ⟨_, rfl⟩
      obtain ⟨y, hy'⟩ : ∃ y, cutK f k (6 + k) = y := ⟨_, rfl⟩
      obtain ⟨z, hz'⟩ : ∃ z, cutK f k (12 + k) = z := ⟨_, rfl⟩
      have cx := hx k (by omega)
      have cy := hx (6 + k) (by omega)
      have cz := hx (12 + k) (by omega)
      rw [hx'] at cx
      rw [hy'] at cy
      rw [hz'] at cz
      have fz1 := (hy k (by omega)).2
      have fz2 := (hy (6 + k) (by omega)).2
      have fz3 := (hy (12 + k) (by omega)).2
      rw [← World.frozen?_drew] at fz1 fz2 fz3
      refine wp_region_dagC (R := Wrote (RoundP w.heap.size k)) (Φ := fun j v u => match j with
          | 0 => v = .int .i64 k
          | 1 => v = .int .i64 k
          | 2 => v = .int .i64 k
          | 3 => v = .int .i64 k
          | 4 => v = .pointer (some ⟨w.heap.size, 0, none⟩)
          | 5 => v = .pointer (some ⟨w.heap.size, k, none⟩)
          | 6 => v = .int .i64 x
          | 7 => v = .int .i64 (cutZ x)
          | 8 => v = .int .i64 k
          | 9 => v = .pointer (some ⟨w.heap.size, 6, none⟩)
          | 10 => v = .pointer (some ⟨w.heap.size, 6 + k, none⟩)
          | 11 => v = .int .i64 y
          | 12 => v = .int .i64 (cutZ y)
          | 13 => v = .int .i64 k
          | 14 => v = .pointer (some ⟨w.heap.size, 12, none⟩)
          | 15 => v = .pointer (some ⟨w.heap.size, 12 + k, none⟩)
          | 16 => v = .int .i64 z
          | 17 => v = .int .i64 (cutZ z)
          | 18 => v = .pointer (some ⟨w.heap.size, 0, none⟩)
          | 19 => v = .pointer (some ⟨w.heap.size, k, none⟩)
          | 21 => v = .pointer (some ⟨w.heap.size, 6, none⟩)
          | 22 => v = .pointer (some ⟨w.heap.size, 6 + k, none⟩)
          | 24 => v = .pointer (some ⟨w.heap.size, 12, none⟩)
          | 25 => v = .pointer (some ⟨w.heap.size, 12 + k, none⟩)
          | _ => True) (J := CutJ w.heap.size k x y z) (by kernel_rfl) (by kernel_rfl) (by kernel_rfl) (Wrote.refl _ _) (fun a b c h1 h2 => h1.trans h2) (fun j v u u' _ h => h) ⟨by simp; exact cx, by simp; exact cy, by simp; exact cz⟩ ?_ ?_
      · intro i o ho L a u hf hr hsz hL hcl hp he hj K' hK
        have hsz' : a.tmps.size = 33 := hf.size
        have putat : ∀ (t : Nat) (v : Value), t < a.tmps.size → (a.put (some t) v).tmps.getD t undef = v := fun t v ht => by
          show (a.tmps.setIfInBounds t v).getD t undef = v
          simp [ht]
        rcases i with _ | _ | _ | _ | _ | _ | _ | _ | _ | _ | _ | _ | _ | _ | _ | _ | _ | _ | _ | _ | _ | _ | _ | _ | _ | _ | _ | i
        · obtain rfl := Option.some.inj ho
          have f1 : a.tmps.getD 3 undef = .int .i64 k := hf.at_ 3 (by kernel_rfl)
          clear he hp
          go_simp
          exact hK _ _ (Wrote.refl _ _) (putat 7 _ (by omega)) (hj.other (by omega) (by omega) (by omega))
        · obtain rfl := Option.some.inj ho
          have f1 : a.tmps.getD 3 undef = .int .i64 k := hf.at_ 3 (by kernel_rfl)
          clear he hp
          go_simp
          exact hK _ _ (Wrote.refl _ _) (putat 8 _ (by omega)) (hj.other (by omega) (by omega) (by omega))
        · obtain rfl := Option.some.inj ho
          have f1 : a.tmps.getD 3 undef = .int .i64 k := hf.at_ 3 (by kernel_rfl)
          clear he hp
          go_simp
          exact hK _ _ (Wrote.refl _ _) (putat 9 _ (by omega)) (hj.other (by omega) (by omega) (by omega))
        · obtain rfl := Option.some.inj ho
          have f1 : a.tmps.getD 3 undef = .int .i64 k := hf.at_ 3 (by kernel_rfl)
          clear he hp
          go_simp
          exact hK _ _ (Wrote.refl _ _) (putat 10 _ (by omega)) (hj.other (by omega) (by omega) (by omega))
        · obtain rfl := Option.some.inj ho
          have f1 : a.tmps.getD 1 undef = .pointer (some ⟨w.heap.size, 0, none⟩) := hf.at_ 1 (by kernel_rfl)
          clear he hp
          go_simp
          exact hK _ _ (Wrote.refl _ _) (putat 11 _ (by omega)) (hj.other (by omega) (by omega) (by omega))
        · obtain rfl := Option.some.inj ho
          have f1 : a.tmps.getD 11 undef = .pointer (some ⟨w.heap.size, 0, none⟩) := hp 4 _ rfl (he _ (Array.mem_of_getElem? (i := 0) rfl) (by kernel_rfl))
          have f2 : a.tmps.getD 10 undef = .int .i64 k := hp 3 _ rfl (he _ (Array.mem_of_getElem? (i := 1) rfl) (by kernel_rfl))
          clear he hp
          go_simp
          exact hK _ _ (Wrote.refl _ _) (putat 12 _ (by omega)) (hj.other (by omega) (by omega) (by omega))
        · obtain rfl := Option.some.inj ho
          have f1 : a.tmps.getD 12 undef = .pointer (some ⟨w.heap.size, k, none⟩) := hp 5 _ rfl (he _ (Array.mem_of_getElem? (i := 0) rfl) (by kernel_rfl))
          have n1 : L.getD 20 true = false := hcl.not (j := 7) (by kernel_rfl) (hcl.not (j := 6) (by kernel_rfl) hL)
          have f2 := hj.c1
          rw [n1] at f2
          simp only [Bool.false_eq_true, if_false] at f2
          clear he hp
          go_simp
          exact hK _ _ (Wrote.refl _ _) (putat 13 _ (by omega)) (hj.other (by omega) (by omega) (by omega))
        · obtain rfl := Option.some.inj ho
          have f1 : a.tmps.getD 13 undef = .int .i64 x := hp 6 _ rfl (he _ (Array.mem_of_getElem? (i := 0) rfl) (by kernel_rfl))
          clear he hp
          go_simp
          refine (numCut_any _ _).mono ?_
          rintro e w1 ⟨rfl, rfl⟩
          exact hK _ _ (Wrote.refl _ _) (putat 14 _ (by omega)) (hj.other (by omega) (by omega) (by omega))
        · obtain rfl := Option.some.inj ho
          have f1 : a.tmps.getD 3 undef = .int .i64 k := hf.at_ 3 (by kernel_rfl)
          clear he hp
          go_simp
          exact hK _ _ (Wrote.refl _ _) (putat 15 _ (by omega)) (hj.other (by omega) (by omega) (by omega))
        · obtain rfl := Option.some.inj ho
          have f1 : a.tmps.getD 1 undef = .pointer (some ⟨w.heap.size, 0, none⟩) := hf.at_ 1 (by kernel_rfl)
          clear he hp
          go_simp
          exact hK _ _ (Wrote.refl _ _) (putat 16 _ (by omega)) (hj.other (by omega) (by omega) (by omega))
        · obtain rfl := Option.some.inj ho
          have f1 : a.tmps.getD 16 undef = .pointer (some ⟨w.heap.size, 6, none⟩) := hp 9 _ rfl (he _ (Array.mem_of_getElem? (i := 0) rfl) (by kernel_rfl))
          have f2 : a.tmps.getD 15 undef = .int .i64 k := hp 8 _ rfl (he _ (Array.mem_of_getElem? (i := 1) rfl) (by kernel_rfl))
          clear he hp
          go_simp
          exact hK _ _ (Wrote.refl _ _) (putat 17 _ (by omega)) (hj.other (by omega) (by omega) (by omega))
        · obtain rfl := Option.some.inj ho
          have f1 : a.tmps.getD 17 undef = .pointer (some ⟨w.heap.size, 6 + k, none⟩) := hp 10 _ rfl (he _ (Array.mem_of_getElem? (i := 0) rfl) (by kernel_rfl))
          have n1 : L.getD 23 true = false := hcl.not (j := 12) (by kernel_rfl) (hcl.not (j := 11) (by kernel_rfl) hL)
          have f2 := hj.c2
          rw [n1] at f2
          simp only [Bool.false_eq_true, if_false] at f2
          clear he hp
          go_simp
          exact hK _ _ (Wrote.refl _ _) (putat 18 _ (by omega)) (hj.other (by omega) (by omega) (by omega))
        · obtain rfl := Option.some.inj ho
          have f1 : a.tmps.getD 18 undef = .int .i64 y := hp 11 _ rfl (he _ (Array.mem_of_getElem? (i := 0) rfl) (by kernel_rfl))
          clear he hp
          go_simp
          refine (numCut_any _ _).mono ?_
          rintro e w1 ⟨rfl, rfl⟩
          exact hK _ _ (Wrote.refl _ _) (putat 19 _ (by omega)) (hj.other (by omega) (by omega) (by omega))
        · obtain rfl := Option.some.inj ho
          have f1 : a.tmps.getD 3 undef = .int .i64 k := hf.at_ 3 (by kernel_rfl)
          clear he hp
          go_simp
          exact hK _ _ (Wrote.refl _ _) (putat 20 _ (by omega)) (hj.other (by omega) (by omega) (by omega))
        · obtain rfl := Option.some.inj ho
          have f1 : a.tmps.getD 1 undef = .pointer (some ⟨w.heap.size, 0, none⟩) := hf.at_ 1 (by kernel_rfl)
          clear he hp
          go_simp
          exact hK _ _ (Wrote.refl _ _) (putat 21 _ (by omega)) (hj.other (by omega) (by omega) (by omega))
        · obtain rfl := Option.some.inj ho
          have f1 : a.tmps.getD 21 undef = .pointer (some ⟨w.heap.size, 12, none⟩) := hp 14 _ rfl (he _ (Array.mem_of_getElem? (i := 0) rfl) (by kernel_rfl))
          have f2 : a.tmps.getD 20 undef = .int .i64 k := hp 13 _ rfl (he _ (Array.mem_of_getElem? (i := 1) rfl) (by kernel_rfl))
          clear he hp
          go_simp
          exact hK _ _ (Wrote.refl _ _) (putat 22 _ (by omega)) (hj.other (by omega) (by omega) (by omega))
        · obtain rfl := Option.some.inj ho
          have f1 : a.tmps.getD 22 undef = .pointer (some ⟨w.heap.size, 12 + k, none⟩) := hp 15 _ rfl (he _ (Array.mem_of_getElem? (i := 0) rfl) (by kernel_rfl))
          have n1 : L.getD 26 true = false := hcl.not (j := 17) (by kernel_rfl) (hcl.not (j := 16) (by kernel_rfl) hL)
          have f2 := hj.c3
          rw [n1] at f2
          simp only [Bool.false_eq_true, if_false] at f2
          clear he hp
          go_simp
          exact hK _ _ (Wrote.refl _ _) (putat 23 _ (by omega)) (hj.other (by omega) (by omega) (by omega))
        · obtain rfl := Option.some.inj ho
          have f1 : a.tmps.getD 23 undef = .int .i64 z := hp 16 _ rfl (he _ (Array.mem_of_getElem? (i := 0) rfl) (by kernel_rfl))
          clear he hp
          go_simp
          refine (numCut_any _ _).mono ?_
          rintro e w1 ⟨rfl, rfl⟩
          exact hK _ _ (Wrote.refl _ _) (putat 24 _ (by omega)) (hj.other (by omega) (by omega) (by omega))
        · obtain rfl := Option.some.inj ho
          have f1 : a.tmps.getD 1 undef = .pointer (some ⟨w.heap.size, 0, none⟩) := hf.at_ 1 (by kernel_rfl)
          clear he hp
          go_simp
          exact hK _ _ (Wrote.refl _ _) (putat 25 _ (by omega)) (hj.other (by omega) (by omega) (by omega))
        · obtain rfl := Option.some.inj ho
          have f1 : a.tmps.getD 25 undef = .pointer (some ⟨w.heap.size, 0, none⟩) := hp 18 _ rfl (he _ (Array.mem_of_getElem? (i := 0) rfl) (by kernel_rfl))
          have f2 : a.tmps.getD 7 undef = .int .i64 k := hp 0 _ rfl (he _ (Array.mem_of_getElem? (i := 1) rfl) (by kernel_rfl))
          clear he hp
          go_simp
          exact hK _ _ (Wrote.refl _ _) (putat 26 _ (by omega)) (hj.other (by omega) (by omega) (by omega))
        · obtain rfl := Option.some.inj ho
          have f1 : a.tmps.getD 26 undef = .pointer (some ⟨w.heap.size, k, none⟩) := hp 19 _ rfl (he _ (Array.mem_of_getElem? (i := 0) rfl) (by kernel_rfl))
          have f2 : a.tmps.getD 14 undef = .int .i64 (cutZ x) := hp 7 _ rfl (he _ (Array.mem_of_getElem? (i := 1) rfl) (by kernel_rfl))
          have f3 := hj.c1
          have f4 : u.frozen? ⟨w.heap.size, k, none⟩ = false := by rw [hr.frozen]; exact fz1
          have hn := hj
          have hKK := hK undef (u.setCell ⟨w.heap.size, k, none⟩ (.int .i64 (cutZ x))) ((Wrote.refl _ _).setCell ⟨rfl, by omega⟩ _) trivial ?_
          · clear he hp hK
            go_simp
            exact hKK
          · obtain ⟨c1, c2, c3⟩ := hj
            have hin : (L.setIfInBounds 20 true).getD 20 true = true := by
              have : 20 < L.size := by rw [hsz]; decide
              simp [this]
            refine ⟨?_, ?_, ?_⟩
            · rw [hin, World.cell?_setCell_same _ _ _ f3]; rfl
            · rw [getD_set_ne true (by omega), cell_set_other _ (.inr (by omega))]; exact c2
            · rw [getD_set_ne true (by omega), cell_set_other _ (.inr (by omega))]; exact c3
        · obtain rfl := Option.some.inj ho
          have f1 : a.tmps.getD 1 undef = .pointer (some ⟨w.heap.size, 0, none⟩) := hf.at_ 1 (by kernel_rfl)
          clear he hp
          go_simp
          exact hK _ _ (Wrote.refl _ _) (putat 27 _ (by omega)) (hj.other (by omega) (by omega) (by omega))
        · obtain rfl := Option.some.inj ho
          have f1 : a.tmps.getD 27 undef = .pointer (some ⟨w.heap.size, 6, none⟩) := hp 21 _ rfl (he _ (Array.mem_of_getElem? (i := 0) rfl) (by kernel_rfl))
          have f2 : a.tmps.getD 8 undef = .int .i64 k := hp 1 _ rfl (he _ (Array.mem_of_getElem? (i := 1) rfl) (by kernel_rfl))
          clear he hp
          go_simp
          exact hK _ _ (Wrote.refl _ _) (putat 28 _ (by omega)) (hj.other (by omega) (by omega) (by omega))
        · obtain rfl := Option.some.inj ho
          have f1 : a.tmps.getD 28 undef = .pointer (some ⟨w.heap.size, 6 + k, none⟩) := hp 22 _ rfl (he _ (Array.mem_of_getElem? (i := 0) rfl) (by kernel_rfl))
          have f2 : a.tmps.getD 19 undef = .int .i64 (cutZ y) := hp 12 _ rfl (he _ (Array.mem_of_getElem? (i := 1) rfl) (by kernel_rfl))
          have f3 := hj.c2
          have f4 : u.frozen? ⟨w.heap.size, 6 + k, none⟩ = false := by rw [hr.frozen]; exact fz2
          have hn := hj
          have hKK := hK undef (u.setCell ⟨w.heap.size, 6 + k, none⟩ (.int .i64 (cutZ y))) ((Wrote.refl _ _).setCell ⟨rfl, by omega⟩ _) trivial ?_
          · clear he hp hK
            go_simp
            exact hKK
          · obtain ⟨c1, c2, c3⟩ := hj
            have hin : (L.setIfInBounds 23 true).getD 23 true = true := by
              have : 23 < L.size := by rw [hsz]; decide
              simp [this]
            refine ⟨?_, ?_, ?_⟩
            · rw [getD_set_ne true (by omega), cell_set_other _ (.inr (by omega))]; exact c1
            · rw [hin, World.cell?_setCell_same _ _ _ f3]; rfl
            · rw [getD_set_ne true (by omega), cell_set_other _ (.inr (by omega))]; exact c3
        · obtain rfl := Option.some.inj ho
          have f1 : a.tmps.getD 1 undef = .pointer (some ⟨w.heap.size, 0, none⟩) := hf.at_ 1 (by kernel_rfl)
          clear he hp
          go_simp
          exact hK _ _ (Wrote.refl _ _) (putat 29 _ (by omega)) (hj.other (by omega) (by omega) (by omega))
        · obtain rfl := Option.some.inj ho
          have f1 : a.tmps.getD 29 undef = .pointer (some ⟨w.heap.size, 12, none⟩) := hp 24 _ rfl (he _ (Array.mem_of_getElem? (i := 0) rfl) (by kernel_rfl))
          have f2 : a.tmps.getD 9 undef = .int .i64 k := hp 2 _ rfl (he _ (Array.mem_of_getElem? (i := 1) rfl) (by kernel_rfl))
          clear he hp
          go_simp
          exact hK _ _ (Wrote.refl _ _) (putat 30 _ (by omega)) (hj.other (by omega) (by omega) (by omega))
        · obtain rfl := Option.some.inj ho
          have f1 : a.tmps.getD 30 undef = .pointer (some ⟨w.heap.size, 12 + k, none⟩) := hp 25 _ rfl (he _ (Array.mem_of_getElem? (i := 0) rfl) (by kernel_rfl))
          have f2 : a.tmps.getD 24 undef = .int .i64 (cutZ z) := hp 17 _ rfl (he _ (Array.mem_of_getElem? (i := 1) rfl) (by kernel_rfl))
          have f3 := hj.c3
          have f4 : u.frozen? ⟨w.heap.size, 12 + k, none⟩ = false := by rw [hr.frozen]; exact fz3
          have hn := hj
          have hKK := hK undef (u.setCell ⟨w.heap.size, 12 + k, none⟩ (.int .i64 (cutZ z))) ((Wrote.refl _ _).setCell ⟨rfl, by omega⟩ _) trivial ?_
          · clear he hp hK
            go_simp
            exact hKK
          · obtain ⟨c1, c2, c3⟩ := hj
            have hin : (L.setIfInBounds 26 true).getD 26 true = true := by
              have : 26 < L.size := by rw [hsz]; decide
              simp [this]
            refine ⟨?_, ?_, ?_⟩
            · rw [getD_set_ne true (by omega), cell_set_other _ (.inr (by omega))]; exact c1
            · rw [getD_set_ne true (by omega), cell_set_other _ (.inr (by omega))]; exact c2
            · rw [hin, World.cell?_setCell_same _ _ _ f3]; rfl
        · exact absurd ho (by simp)
      · intro L a u hf hr hp hj
        have l20 := (hp 20 _ rfl).1
        have l23 := (hp 23 _ rfl).1
        have l26 := (hp 26 _ rfl).1
        obtain ⟨c1, c2, c3⟩ := hj
        rw [l20] at c1
        rw [l23] at c2
        rw [l26] at c3
        simp only [if_true] at c1 c2 c3
        have md : a.defers = [] := hf.defers
        have m0 : a.tmps.getD 0 undef = cv f := hf.at_ 0 (by kernel_rfl)
        have m1 : a.tmps.getD 1 undef = .pointer (some ⟨w.heap.size, 0, none⟩) := hf.at_ 1 (by kernel_rfl)
        have m2 : a.tmps.getD 2 undef = .pointer (some ⟨w.heap.size + 1, 0, none⟩) := hf.at_ 2 (by kernel_rfl)
        have m4 : a.tmps.getD 4 undef = .int .i64 k := hf.at_ 4 (by kernel_rfl)
        have m32 : a.tmps.getD 32 undef = undef := hf.at_ 32 (by kernel_rfl)
        obtain ⟨q, ea, hfv⟩ := act_lit a 33 hf.size
        rw [← hfv] at m0 m1 m2 m4 m32
        rw [md] at ea
        simp only [List.range, List.range.loop, List.map_cons, List.map_nil, m0, m1, m2, m4, m32] at ea
        subst ea
        have HW : Hid (Wrote (RoundP w.heap.size k) wr.drew u) := hr
        have HB : Hid (Below w.heap.size w u) := (hb.trans (Below.drew (Below.refl _ _))).trans (hr.below fun b o e => by unfold RoundP at e; omega)
        have HS : Hid (u.heap.size = w.heap.size + 2) := by rw [show u.heap.size = wr.drew.heap.size from hr.size]; exact hs
        have HX : Hid (Box18 u w.heap.size (cutK f (k + 1))) := by
          intro j hj
          by_cases e1 : j = k
          · subst e1; rw [c1, ← hx']; unfold cutK; rw [if_neg (by omega), if_pos (by omega)]
          by_cases e2 : j = 6 + k
          · subst e2; rw [c2, ← hy']; unfold cutK; rw [if_neg (by omega), if_pos (by omega)]
          by_cases e3 : j = 12 + k
          · subst e3; rw [c3, ← hz']; unfold cutK; rw [if_neg (by omega), if_pos (by omega)]
          rw [hr.cell _ _ (by unfold RoundP; omega)]
          have h0 := hx j hj
          rw [World.cell?_drew, h0]
          unfold cutK
          by_cases e4 : j % 6 < k
          · rw [if_pos e4, if_pos (by omega)]
          · rw [if_neg e4, if_neg (by omega)]
        have HY : Hid (Zero 18 u w.heap.size) := fun j hj => ⟨by rw [HX.out j hj]; rfl, by rw [hr.frozen, World.frozen?_drew]; exact (hy j hj).2⟩
        have HZ : Hid (Zero 18 u (w.heap.size + 1)) := fun j hj => by
          rw [hr.cell _ _ (by unfold RoundP; omega), hr.frozen, World.frozen?_drew, World.cell?_drew]; exact hz j hj
        clear hp hf hfv md hr c1 c2 c3 cx cy cz fz1 fz2 fz3 hx hy hz hb hs
        go_wp2
        go_roundw
        case rel => exact ⟨k + 1, by omega, by go_num, HB.out, HS.out, HX.out, HY.out, HZ.out⟩
        case measure => simp [intOf]; omega
    · obtain rfl : k = 6 := by omega
      clear hlt hk
      go_wp2_with (first | refine wpList_load18 rfl _ rfl rfl (by assumption) ?_ | refine wpList_store18 rfl _ _ rfl rfl rfl (by assumption) ?_)
      intro u7 W7 V7 Z7
      have hl := run_loadVar18 V7
      have e6 : cv (cutK f 6) = cv fun j => cutZ (f j) := by
        have e : ∀ j, cutK f 6 j = cutZ (f j) := fun j => by unfold cutK; rw [if_pos (by omega)]
        unfold cv
        simp only [e]
      rw [e6] at hl
      have G7 := hb.trans (W7.below fun b o e => by omega)
      clear W7 V7 Z7 hx hy hz e6
      go_wp2
      refine bodyPost_ret (v := cv fun j => cutZ (f j)) ?_ rfl ⟨rfl, G7⟩
      simp [results, Tryz.results39, asAddr, hl]
end Go.Proofs.YtdhpbiplkjpiiaaGreatDoor

/-
  impl.cellsOk: the numbers of a memory that is ok, in three arrays; impl.MemOk.
-/
namespace Go.Proofs.YtdhpbiplkjpiiaaGreatDoor
open Go.ChangeShapes Go.WideShapes Go.ChangeAt Go.RowKit
set_option linter.unusedVariables false
set_option maxRecDepth 100000

theorem yielded_at {ops : Array Oper} {a : Act} {i : Nat} {oi : Oper} {d : Tmp} {b : Bool} (hoi : ops[i]? = some oi) (hd : oi.dst = some d) (hlt : d < a.tmps.size) (hv : a.tmps.getD d undef = .bool b) : yielded ops a.tmps i = some b := by
  have h : a.tmps[d]? = some (.bool b) := by
    rw [Array.getElem?_eq_getElem hlt]
    simp [hlt] at hv
    rw [hv]
  simp [yielded, hoi, hd, h]

theorem wanted_if {o : Oper} {ops : Array Oper} {a : Act} {i : Nat} {b : Bool} {p q : Prop} (hg : o.guard = some (i, b)) (hy : yielded ops a.tmps i = some b) (h : p) : if Region.wanted o (yielded ops a.tmps) = true then p else q := by
  rw [if_pos (by simp [Region.wanted, hg, hy])]; exact h

theorem wanted_not {o : Oper} {ops : Array Oper} {a : Act} {i : Nat} {b : Bool} {p q : Prop} (hg : o.guard = some (i, b)) (hy : yielded ops a.tmps i = some (!b)) (h : q) : if Region.wanted o (yielded ops a.tmps) = true then p else q := by
  rw [if_neg (by cases b <;> simp [Region.wanted, hg, hy])]; exact h

/-- What cellsOk copies. -/
def okG (d : MemD) : Nat → Int := if memOk d then cellF d else fun _ => 0

theorem listOk_six (x0 x1 x2 x3 x4 x5 : Int) : listOk [x0, x1, x2, x3, x4, x5] = ((cutZ x0 == x0) && ((cutZ x1 == x1) && ((cutZ x2 == x2) && ((cutZ x3 == x3) && ((cutZ x4 == x4) && (cutZ x5 == x5)))))) := by
  simp [listOk]

theorem beq_comm_int (a b : Int) : (a == b) = (b == a) := by
  by_cases h : a = b
  · subst h; rfl
  · have h' : b ≠ a := fun e => h e.symm
    rw [beq_eq_false_iff_ne.mpr h, beq_eq_false_iff_ne.mpr h']

theorem memOk_fits {d : MemD} (h : fits d = true) : memOk d = sameF (cellF d) (fun j => cutZ (cellF d j)) := by
  obtain ⟨h1, h2, h3⟩ := fits_len h
  obtain ⟨e1, e2, e3⟩ := cellF_i h1 h2 h3
  have e : memOk d = (listOk d.i && listOk d.o && listOk d.v) := rfl
  rw [e, e1, e2, e3, listOk_six, listOk_six, listOk_six]
  generalize cellF d = f
  have hc : ∀ j, (cutZ (f j) == f j) = (f j == cutZ (f j)) := fun j => beq_comm_int _ _
  simp only [hc]
  simp only [sameF, List.range, List.range.loop, List.all_cons, List.all_nil, Bool.and_true, Bool.and_assoc]

theorem memOk_not {d : MemD} (h : fits d = false) : memOk d = false := by
  cases hm : memOk d with
  | false => rfl
  | true =>
    simp [memOk, listOk] at hm
    simp [fits] at h
    omega

set_option maxHeartbeats 4000000 in
theorem cellsOk_any (w : World) (lo hi : Nat) (m : Value) (d : MemD) (h : MI w lo hi m d) (hhi : hi ≤ w.heap.size) :
    Calls Tryz.prog 22 #[m] w fun e w' => e = .returned (.tuple #[cv (okG d), .bool (memOk d)]) ∧ Below w.heap.size w w' := by
  have H := h
  obtain ⟨a, b, c, rfl, ha, hb, hc⟩ := h
  clear ha hb hc
  go_enter Tryz.func22, Tryz.ntmps22
  go_wp2_with (refine wpList_alloc18 rfl rfl ?_)
  intro u1 g1 z1 s1
  obtain ⟨d0, d1, d2⟩ := (box3_new w a b c 28).below g1 (by simp)
  have G1 := below_two ((Below.refl w.heap.size w).alloc (Nat.le_refl _) _) g1
  clear g1
  go_wp2_with fail
  refine (cellsOf_any _ lo hi _ d (H.below G1 hhi) (by omega)).mono ?_
  rintro e1 u2 ⟨rfl, g2⟩
  have S2 := g2.size
  have G2 := G1.trans (g2.mono (by omega))
  have z2 := z1.grow g2 (by omega)
  clear g2 z1 d0 d1 d2 G1
  go_wp2_with (refine wpList_alloc18 rfl rfl ?_)
  intro u3 g3 z3 s3
  go_wp2_with (refine wpList_store18 rfl _ _ rfl rfl rfl (by assumption) ?_)
  intro u4 W4 V4 Z4
  have G4 := (G2.trans (g3.mono (by omega))).trans (W4.below fun b o e => by omega)
  have S4 := W4.size
  have Y4 : Zero 18 u4 (w.heap.size + 1) := fun j hj => by
    rw [W4.cell _ _ (by omega), W4.frozen, g3.cell (p := ⟨w.heap.size + 1, j, none⟩) (by show w.heap.size + 1 < u2.heap.size; omega), g3.frozen (p := ⟨w.heap.size + 1, j, none⟩) (by show w.heap.size + 1 < u2.heap.size; omega)]
    exact z2 j hj
  clear g3 z3 W4 Z4 z2 G2
  cases hf : fits d with
  | false =>
    have e1 : okG d = fun _ => 0 := by unfold okG; rw [memOk_not hf]; rfl
    have e2 := memOk_not hf
    clear V4 hf
    go_wp2_with fail
    go_quiet (fail)
    have Y5 : Zero 18 (u4.drewN nq) (w.heap.size + 1) := Y4.grow (below_drewN (Below.refl _ _) nq) (by omega)
    have G5 : Below w.heap.size w (u4.drewN nq) := below_drewN G4 nq
    generalize u4.drewN nq = u5 at *
    clear Y4 G4
    go_wp2_with (refine wpList_store18 (f := fun _ => 0) rfl _ _ rfl rfl rfl (by assumption) ?_)
    intro u6 W6 V6 Z6
    have hl := run_loadVar18 V6
    have G6 := G5.trans (W6.below fun b o e => by omega)
    clear V6 Z6 W6
    go_wp2
    refine bodyPost_ret (v := .tuple #[cv fun _ => 0, .bool false]) ?_ rfl ⟨by rw [e1, e2], G6⟩
    rw [results_cell_tmp rfl]
    simp [asAddr, Result.andThen, hl]
  | true =>
    have e1 : cellG d = cellF d := by unfold cellG; rw [hf]; rfl
    rw [e1] at V4
    have EO : Hid (memOk d = sameF (cellF d) (fun j => cutZ (cellF d j))) := memOk_fits hf
    go_wp2_with fail
    rw [e1]
    refine wp_region_dag (R := Grow) (Φ := fun j v u => match j with
        | 0 => v = .bool true
        | 1 => v = .bool false
        | 2 => v = .bool false
        | 3 => v = cv (cellF d)
        | 4 => v = cv (cellF d)
        | 5 => v = cv fun j => cutZ (cellF d j)
        | 6 => v = .bool (!memOk d)
        | 7 => v = .bool (!memOk d)
        | _ => True) (by kernel_rfl) (by kernel_rfl) (by kernel_rfl) (Below.refl _ _) grow_trans (fun j v u u' _ h => h) ?_ ?_
    · intro i o ho a' u hf' hR0 he K' hK
      have hR : Grow u4 u := (Below.drew (Below.refl _ _)).trans hR0
      have hsz' : a'.tmps.size = 21 := hf'.size
      have putat : ∀ (t : Nat) (v : Value), t < a'.tmps.size → (a'.put (some t) v).tmps.getD t undef = v := fun t v ht => by
        show (a'.tmps.setIfInBounds t v).getD t undef = v
        simp [ht]
      have V5 := V4.below hR (by omega)
      rcases i with _ | _ | _ | _ | _ | _ | _ | _ | i
      · obtain rfl := Option.some.inj ho
        have f1 : a'.tmps.getD 5 undef = .bool true := hf'.at_ 5 (by kernel_rfl)
        clear he
        go_simp
        exact hK _ _ (Below.refl _ _) (putat 11 _ (by omega))
      · obtain rfl := Option.some.inj ho
        have f1 : a'.tmps.getD 11 undef = .bool true := he _ (Array.mem_of_getElem? (i := 0) rfl) (by kernel_rfl) _ rfl
        clear he
        go_simp
        exact hK _ _ (Below.refl _ _) (putat 12 _ (by omega))
      · obtain rfl := Option.some.inj ho
        have f1 : a'.tmps.getD 12 undef = .bool false := he _ (Array.mem_of_getElem? (i := 0) rfl) (by kernel_rfl) _ rfl
        clear he
        go_simp
        exact hK _ _ (Below.refl _ _) (putat 13 _ (by omega))
      · obtain rfl := Option.some.inj ho
        have f1 : a'.tmps.getD 13 undef = .bool false := he _ (Array.mem_of_getElem? (i := 0) rfl) (by kernel_rfl) _ rfl
        have f4 : a'.tmps.getD 4 undef = .pointer (some ⟨u2.heap.size, 0, none⟩) := hf'.at_ 4 (by kernel_rfl)
        exact wanted_if rfl (yielded_at rfl rfl (by rw [hsz']; decide) f1) (wp_load18 (.tmp 4) rfl f4 V5 (hK _ _ (Below.refl _ _) (putat 14 _ (by omega))))
      · obtain rfl := Option.some.inj ho
        have f1 : a'.tmps.getD 13 undef = .bool false := he _ (Array.mem_of_getElem? (i := 0) rfl) (by kernel_rfl) _ rfl
        have f4 : a'.tmps.getD 4 undef = .pointer (some ⟨u2.heap.size, 0, none⟩) := hf'.at_ 4 (by kernel_rfl)
        exact wanted_if rfl (yielded_at rfl rfl (by rw [hsz']; decide) f1) (wp_load18 (.tmp 4) rfl f4 V5 (hK _ _ (Below.refl _ _) (putat 15 _ (by omega))))
      · obtain rfl := Option.some.inj ho
        have f0 : a'.tmps.getD 15 undef = cv (cellF d) := he _ (Array.mem_of_getElem? (i := 0) rfl) (by kernel_rfl) _ rfl
        have f1 : a'.tmps.getD 13 undef = .bool false := he _ (Array.mem_of_getElem? (i := 2) rfl) (by kernel_rfl) _ rfl
        refine wanted_if rfl (yielded_at rfl rfl (by rw [hsz']; decide) f1) ?_
        clear he f1
        go_simp
        refine (cut_any _ _).mono ?_
        rintro e u' ⟨rfl, hbu⟩
        exact hK _ _ hbu (putat 16 _ (by omega))
      · obtain rfl := Option.some.inj ho
        have f0 : a'.tmps.getD 14 undef = cv (cellF d) := he _ (Array.mem_of_getElem? (i := 0) rfl) (by kernel_rfl) _ rfl
        have f2 : a'.tmps.getD 16 undef = cv fun j => cutZ (cellF d j) := he _ (Array.mem_of_getElem? (i := 1) rfl) (by kernel_rfl) _ rfl
        have f1 : a'.tmps.getD 13 undef = .bool false := he _ (Array.mem_of_getElem? (i := 2) rfl) (by kernel_rfl) _ rfl
        have hq := neq_cells (cellF d) (fun j => cutZ (cellF d j))
        rw [← EO.out] at hq
        have hg := guard_cells .neq (.tmp 14) (.tmp 16) (cellF d) (fun j => cutZ (cellF d j))
        refine wanted_if rfl (yielded_at rfl rfl (by rw [hsz']; decide) f1) ?_
        clear he f1
        go_simp
        exact hK _ _ (Below.refl _ _) (putat 17 _ (by omega))
      · obtain rfl := Option.some.inj ho
        have f1 : a'.tmps.getD 13 undef = .bool false := he _ (Array.mem_of_getElem? (i := 0) rfl) (by kernel_rfl) _ rfl
        have f2 : a'.tmps.getD 17 undef = .bool (!memOk d) := he _ (Array.mem_of_getElem? (i := 1) rfl) (by kernel_rfl) _ rfl
        clear he
        go_simp
        exact hK _ _ (Below.refl _ _) (putat 18 _ (by omega))
      · exact absurd ho (by simp)
    · intro a' u hf' hR0 hp
      have hR : Grow u4 u := (Below.drew (Below.refl _ _)).trans hR0
      have md : a'.defers = [] := hf'.defers
      have m2 : a'.tmps.getD 2 undef = .pointer (some ⟨w.heap.size + 1, 0, none⟩) := hf'.at_ 2 (by kernel_rfl)
      have m4 : a'.tmps.getD 4 undef = .pointer (some ⟨u2.heap.size, 0, none⟩) := hf'.at_ 4 (by kernel_rfl)
      have m18 : a'.tmps.getD 18 undef = .bool (!memOk d) := hp 7 _ rfl
      have V5 := V4.below hR (by omega)
      have Y5 := Y4.grow hR (by omega)
      have G5 := G4.trans (hR.mono (by omega))
      obtain ⟨f, ea, hfv⟩ := act_lit a' 21 hf'.size
      rw [← hfv] at m2 m4 m18
      rw [md] at ea
      cases hm : memOk d with
      | false =>
        rw [hm] at m18
        simp only [List.range, List.range.loop, List.map_cons, List.map_nil, m2, m4, m18, Bool.not_false] at ea
        subst ea
        have e2 : okG d = fun _ => 0 := by unfold okG; rw [hm]; rfl
        clear hfv hf' md hp hR0 hR V4 Y4 G4 V5 EO
        go_wp2_with (refine wpList_store18 (f := fun _ => 0) rfl _ _ rfl rfl rfl (by assumption) ?_)
        intro u6 W6 V6 Z6
        have hl := run_loadVar18 V6
        have G6 := G5.trans (W6.below fun b o e => by omega)
        clear V6 Z6 W6
        go_wp2
        refine bodyPost_ret (v := .tuple #[cv fun _ => 0, .bool false]) ?_ rfl ⟨by rw [e2, hm], G6⟩
        rw [results_cell_tmp rfl]
        simp [asAddr, Result.andThen, hl]
      | true =>
        rw [hm] at m18
        simp only [List.range, List.range.loop, List.map_cons, List.map_nil, m2, m4, m18, Bool.not_true] at ea
        subst ea
        have e2 : okG d = cellF d := by unfold okG; rw [hm]; rfl
        clear hfv hf' md hp hR0 hR V4 Y4 G4 EO
        go_wp2_with (first | refine wpList_load18 rfl _ rfl rfl (by assumption) ?_ | refine wpList_store18 rfl _ _ rfl rfl rfl (by assumption) ?_)
        intro u6 W6 V6 Z6
        have hl := run_loadVar18 V6
        have G6 := G5.trans (W6.below fun b o e => by omega)
        clear V6 Z6 W6
        go_wp2
        refine bodyPost_ret (v := .tuple #[cv (cellF d), .bool true]) ?_ rfl ⟨by rw [e2, hm], G6⟩
        rw [results_cell_tmp rfl]
        simp [asAddr, Result.andThen, hl]

end Go.Proofs.YtdhpbiplkjpiiaaGreatDoor
