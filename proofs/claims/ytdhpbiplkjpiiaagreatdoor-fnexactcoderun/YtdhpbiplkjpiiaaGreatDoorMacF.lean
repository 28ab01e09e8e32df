/-
  The steps of code, made: a closure for each instruction. (Written by our generator gen_macf.py.)
-/
import Derived.Test.YtdhpbiplkjpiiaaGreatDoorMacE
namespace Go.Proofs.YtdhpbiplkjpiiaaGreatDoor
open Go.ChangeShapes Go.WideShapes Go.ChangeAt Go.RowKit
set_option linter.unusedVariables false
set_option maxRecDepth 100000

/-- The step of an instruction of this kind that lies in the block I. -/
def cloV (o : Int) (I : Nat) : Value :=
  if o = 1 then .func (.func 58) #[] #[.pointer (some ⟨I, 0, none⟩)] else if o = 2 then .func (.func 60) #[] #[.pointer (some ⟨I, 0, none⟩)] else if o = 3 then .func (.func 62) #[] #[.pointer (some ⟨I, 0, none⟩)] else if o = 4 then .func (.func 65) #[] #[.pointer (some ⟨I, 0, none⟩)] else if o = 5 then .func (.func 67) #[] #[] else if o = 6 then .func (.func 70) #[] #[.pointer (some ⟨I, 0, none⟩)] else if o = 7 then .func (.func 71) #[] #[.pointer (some ⟨I, 0, none⟩)] else .func (.func 72) #[] #[.pointer (some ⟨I, 0, none⟩)]

set_option maxHeartbeats 1000000 in
theorem mkStep1 (w : World) (p : InsD) : Calls Tryz.prog 44 #[.int .i64 1, p.val] w fun e w' => e = .returned (.func (.func 58) #[] #[.pointer (some ⟨w.heap.size, 0, none⟩)]) ∧ CellI w' w.heap.size 0 p ∧ w.heap.size < w'.heap.size ∧ Below w.heap.size w w' := by
  unfold InsD.val
  have HE : Hid (CellI (w.alloc (.cells #[.int .i64 p.op, .int .i64 p.n, .int .i64 p.ak, .int .i64 p.at_] 47)) w.heap.size 0 p ∧ w.heap.size < (w.alloc (.cells #[.int .i64 p.op, .int .i64 p.n, .int .i64 p.ak, .int .i64 p.at_] 47)).heap.size ∧ Below w.heap.size w (w.alloc (.cells #[.int .i64 p.op, .int .i64 p.n, .int .i64 p.ak, .int .i64 p.at_] 47))) := ⟨(fourI_new _ _ _).c, by simp, (Below.refl _ _).alloc (Nat.le_refl _) _⟩
  go_enter Tryz.func44, Tryz.ntmps44
  go_wp2
  go_ret
  exact ⟨rfl, HE.out⟩

set_option maxHeartbeats 1000000 in
theorem mkStep2 (w : World) (p : InsD) : Calls Tryz.prog 44 #[.int .i64 2, p.val] w fun e w' => e = .returned (.func (.func 60) #[] #[.pointer (some ⟨w.heap.size, 0, none⟩)]) ∧ CellI w' w.heap.size 0 p ∧ w.heap.size < w'.heap.size ∧ Below w.heap.size w w' := by
  unfold InsD.val
  have HE : Hid (CellI (w.alloc (.cells #[.int .i64 p.op, .int .i64 p.n, .int .i64 p.ak, .int .i64 p.at_] 47)) w.heap.size 0 p ∧ w.heap.size < (w.alloc (.cells #[.int .i64 p.op, .int .i64 p.n, .int .i64 p.ak, .int .i64 p.at_] 47)).heap.size ∧ Below w.heap.size w (w.alloc (.cells #[.int .i64 p.op, .int .i64 p.n, .int .i64 p.ak, .int .i64 p.at_] 47))) := ⟨(fourI_new _ _ _).c, by simp, (Below.refl _ _).alloc (Nat.le_refl _) _⟩
  go_enter Tryz.func44, Tryz.ntmps44
  go_wp2
  go_ret
  exact ⟨rfl, HE.out⟩

set_option maxHeartbeats 1000000 in
theorem mkStep3 (w : World) (p : InsD) : Calls Tryz.prog 44 #[.int .i64 3, p.val] w fun e w' => e = .returned (.func (.func 62) #[] #[.pointer (some ⟨w.heap.size, 0, none⟩)]) ∧ CellI w' w.heap.size 0 p ∧ w.heap.size < w'.heap.size ∧ Below w.heap.size w w' := by
  unfold InsD.val
  have HE : Hid (CellI (w.alloc (.cells #[.int .i64 p.op, .int .i64 p.n, .int .i64 p.ak, .int .i64 p.at_] 47)) w.heap.size 0 p ∧ w.heap.size < (w.alloc (.cells #[.int .i64 p.op, .int .i64 p.n, .int .i64 p.ak, .int .i64 p.at_] 47)).heap.size ∧ Below w.heap.size w (w.alloc (.cells #[.int .i64 p.op, .int .i64 p.n, .int .i64 p.ak, .int .i64 p.at_] 47))) := ⟨(fourI_new _ _ _).c, by simp, (Below.refl _ _).alloc (Nat.le_refl _) _⟩
  go_enter Tryz.func44, Tryz.ntmps44
  go_wp2
  go_ret
  exact ⟨rfl, HE.out⟩

set_option maxHeartbeats 1000000 in
theorem mkStep4 (w : World) (p : InsD) : Calls Tryz.prog 44 #[.int .i64 4, p.val] w fun e w' => e = .returned (.func (.func 65) #[] #[.pointer (some ⟨w.heap.size, 0, none⟩)]) ∧ CellI w' w.heap.size 0 p ∧ w.heap.size < w'.heap.size ∧ Below w.heap.size w w' := by
  unfold InsD.val
  have HE : Hid (CellI (w.alloc (.cells #[.int .i64 p.op, .int .i64 p.n, .int .i64 p.ak, .int .i64 p.at_] 47)) w.heap.size 0 p ∧ w.heap.size < (w.alloc (.cells #[.int .i64 p.op, .int .i64 p.n, .int .i64 p.ak, .int .i64 p.at_] 47)).heap.size ∧ Below w.heap.size w (w.alloc (.cells #[.int .i64 p.op, .int .i64 p.n, .int .i64 p.ak, .int .i64 p.at_] 47))) := ⟨(fourI_new _ _ _).c, by simp, (Below.refl _ _).alloc (Nat.le_refl _) _⟩
  go_enter Tryz.func44, Tryz.ntmps44
  go_wp2
  go_ret
  exact ⟨rfl, HE.out⟩

set_option maxHeartbeats 1000000 in
theorem mkStep5 (w : World) (p : InsD) : Calls Tryz.prog 44 #[.int .i64 5, p.val] w fun e w' => e = .returned (.func (.func 67) #[] #[]) ∧ CellI w' w.heap.size 0 p ∧ w.heap.size < w'.heap.size ∧ Below w.heap.size w w' := by
  unfold InsD.val
  have HE : Hid (CellI (w.alloc (.cells #[.int .i64 p.op, .int .i64 p.n, .int .i64 p.ak, .int .i64 p.at_] 47)) w.heap.size 0 p ∧ w.heap.size < (w.alloc (.cells #[.int .i64 p.op, .int .i64 p.n, .int .i64 p.ak, .int .i64 p.at_] 47)).heap.size ∧ Below w.heap.size w (w.alloc (.cells #[.int .i64 p.op, .int .i64 p.n, .int .i64 p.ak, .int .i64 p.at_] 47))) := ⟨(fourI_new _ _ _).c, by simp, (Below.refl _ _).alloc (Nat.le_refl _) _⟩
  go_enter Tryz.func44, Tryz.ntmps44
  go_wp2
  go_ret
  exact ⟨rfl, HE.out⟩

set_option maxHeartbeats 1000000 in
theorem mkStep6 (w : World) (p : InsD) : Calls Tryz.prog 44 #[.int .i64 6, p.val] w fun e w' => e = .returned (.func (.func 70) #[] #[.pointer (some ⟨w.heap.size, 0, none⟩)]) ∧ CellI w' w.heap.size 0 p ∧ w.heap.size < w'.heap.size ∧ Below w.heap.size w w' := by
  unfold InsD.val
  have HE : Hid (CellI (w.alloc (.cells #[.int .i64 p.op, .int .i64 p.n, .int .i64 p.ak, .int .i64 p.at_] 47)) w.heap.size 0 p ∧ w.heap.size < (w.alloc (.cells #[.int .i64 p.op, .int .i64 p.n, .int .i64 p.ak, .int .i64 p.at_] 47)).heap.size ∧ Below w.heap.size w (w.alloc (.cells #[.int .i64 p.op, .int .i64 p.n, .int .i64 p.ak, .int .i64 p.at_] 47))) := ⟨(fourI_new _ _ _).c, by simp, (Below.refl _ _).alloc (Nat.le_refl _) _⟩
  go_enter Tryz.func44, Tryz.ntmps44
  go_wp2
  go_ret
  exact ⟨rfl, HE.out⟩

set_option maxHeartbeats 1000000 in
theorem mkStep7 (w : World) (p : InsD) : Calls Tryz.prog 44 #[.int .i64 7, p.val] w fun e w' => e = .returned (.func (.func 71) #[] #[.pointer (some ⟨w.heap.size, 0, none⟩)]) ∧ CellI w' w.heap.size 0 p ∧ w.heap.size < w'.heap.size ∧ Below w.heap.size w w' := by
  unfold InsD.val
  have HE : Hid (CellI (w.alloc (.cells #[.int .i64 p.op, .int .i64 p.n, .int .i64 p.ak, .int .i64 p.at_] 47)) w.heap.size 0 p ∧ w.heap.size < (w.alloc (.cells #[.int .i64 p.op, .int .i64 p.n, .int .i64 p.ak, .int .i64 p.at_] 47)).heap.size ∧ Below w.heap.size w (w.alloc (.cells #[.int .i64 p.op, .int .i64 p.n, .int .i64 p.ak, .int .i64 p.at_] 47))) := ⟨(fourI_new _ _ _).c, by simp, (Below.refl _ _).alloc (Nat.le_refl _) _⟩
  go_enter Tryz.func44, Tryz.ntmps44
  go_wp2
  go_ret
  exact ⟨rfl, HE.out⟩

set_option maxHeartbeats 1000000 in
theorem mkStep8 (w : World) (p : InsD) : Calls Tryz.prog 44 #[.int .i64 8, p.val] w fun e w' => e = .returned (.func (.func 72) #[] #[.pointer (some ⟨w.heap.size, 0, none⟩)]) ∧ CellI w' w.heap.size 0 p ∧ w.heap.size < w'.heap.size ∧ Below w.heap.size w w' := by
  unfold InsD.val
  have HE : Hid (CellI (w.alloc (.cells #[.int .i64 p.op, .int .i64 p.n, .int .i64 p.ak, .int .i64 p.at_] 47)) w.heap.size 0 p ∧ w.heap.size < (w.alloc (.cells #[.int .i64 p.op, .int .i64 p.n, .int .i64 p.ak, .int .i64 p.at_] 47)).heap.size ∧ Below w.heap.size w (w.alloc (.cells #[.int .i64 p.op, .int .i64 p.n, .int .i64 p.ak, .int .i64 p.at_] 47))) := ⟨(fourI_new _ _ _).c, by simp, (Below.refl _ _).alloc (Nat.le_refl _) _⟩
  go_enter Tryz.func44, Tryz.ntmps44
  go_wp2
  go_ret
  exact ⟨rfl, HE.out⟩

theorem mkStep_any (w : World) (p : InsD) (h1 : 1 ≤ p.op) (h8 : p.op ≤ 8) : Calls Tryz.prog 44 #[.int .i64 p.op, p.val] w fun e w' => e = .returned (cloV p.op w.heap.size) ∧ CellI w' w.heap.size 0 p ∧ w.heap.size < w'.heap.size ∧ Below w.heap.size w w' := by
  unfold cloV
  by_cases e1 : p.op = 1
  · rw [if_pos e1, e1]; exact mkStep1 w p
  rw [if_neg e1]
  by_cases e2 : p.op = 2
  · rw [if_pos e2, e2]; exact mkStep2 w p
  rw [if_neg e2]
  by_cases e3 : p.op = 3
  · rw [if_pos e3, e3]; exact mkStep3 w p
  rw [if_neg e3]
  by_cases e4 : p.op = 4
  · rw [if_pos e4, e4]; exact mkStep4 w p
  rw [if_neg e4]
  by_cases e5 : p.op = 5
  · rw [if_pos e5, e5]; exact mkStep5 w p
  rw [if_neg e5]
  by_cases e6 : p.op = 6
  · rw [if_pos e6, e6]; exact mkStep6 w p
  rw [if_neg e6]
  by_cases e7 : p.op = 7
  · rw [if_pos e7, e7]; exact mkStep7 w p
  rw [if_neg e7]
  have e8 : p.op = 8 := by omega
  rw [e8]
  exact mkStep8 w p

/-- What holds as stepsOf has made j of the steps, in the block S. -/
structure Steps (w : World) (S : Nat) (ps : List InsD) (j : Nat) (wr : World) : Prop where
  some_ : ∀ x, x < ps.length → (wr.cell? ⟨S, x, none⟩).isSome = true
  frozen : ∀ x, wr.frozen? ⟨S, x, none⟩ = false
  size : S < wr.heap.size
  done : ∀ i p, i < j → ps[i]? = some p → ∃ I, wr.cell? ⟨S, i, none⟩ = some (cloV p.op I) ∧ CellI wr I 0 p ∧ S < I ∧ I < wr.heap.size

theorem Steps.grew {w wr w' : World} {S : Nat} {ps : List InsD} {j : Nat} (h : Steps w S ps j wr) (hb : Below wr.heap.size wr w') : Steps w S ps j w' := by
  have hz := hb.size
  refine ⟨fun x hx => ?_, fun x => ?_, Nat.lt_of_lt_of_le h.size hz, fun i p hi hp => ?_⟩
  · rw [hb.cell (p := ⟨S, x, none⟩) h.size]; exact h.some_ x hx
  · rw [hb.frozen (p := ⟨S, x, none⟩) h.size]; exact h.frozen x
  · obtain ⟨I, h1, h2, h3, h4⟩ := h.done i p hi hp
    exact ⟨I, by rw [hb.cell (p := ⟨S, i, none⟩) h.size]; exact h1, h2.below hb h4, h3, Nat.lt_of_lt_of_le h4 hz⟩

theorem Steps.put {w wr : World} {S : Nat} {ps : List InsD} {j : Nat} {p : InsD} {I : Nat} (h : Steps w S ps j wr) (hj : ps[j]? = some p) (hI : S < I) (hIs : I < wr.heap.size) (hc : CellI wr I 0 p) : Steps w S ps (j + 1) (wr.setCell ⟨S, j, none⟩ (cloV p.op I)) := by
  have hz : (wr.setCell ⟨S, j, none⟩ (cloV p.op I)).heap.size = wr.heap.size := by simp [World.setCell]
  have hjl : j < ps.length := (List.getElem?_eq_some_iff.mp hj).1
  obtain ⟨v, hv⟩ := Option.isSome_iff_exists.mp (h.some_ j hjl)
  have hk : ∀ k, k ≠ S → (wr.setCell ⟨S, j, none⟩ (cloV p.op I)).heap[k]? = wr.heap[k]? := fun k hk => Below.heap_setCell _ _ _ _ hk
  refine ⟨fun x hx => ?_, fun x => by rw [World.frozen?_setCell]; exact h.frozen x, by rw [hz]; exact h.size, fun i q hi hq => ?_⟩
  · by_cases e : x = j
    · subst e; rw [World.cell?_setCell_same _ _ _ hv]; rfl
    · rw [cell_set_other _ (.inr (by omega))]; exact h.some_ x hx
  · by_cases e : i = j
    · subst e
      rw [hj] at hq
      cases hq
      exact ⟨I, World.cell?_setCell_same _ _ _ hv, hc.kept (hk I (by omega)), hI, by rw [hz]; exact hIs⟩
    · obtain ⟨I', h1, h2, h3, h4⟩ := h.done i q (by omega) hq
      exact ⟨I', by rw [cell_set_other _ (.inr (by omega))]; exact h1, h2.kept (hk I' (by omega)), h3, by rw [hz]; exact h4⟩
end Go.Proofs.YtdhpbiplkjpiiaaGreatDoor
