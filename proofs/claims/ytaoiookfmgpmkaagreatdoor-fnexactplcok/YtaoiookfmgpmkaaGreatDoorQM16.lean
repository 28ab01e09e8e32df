import Derived.Test.YtaoiookfmgpmkaaGreatDoorQM4
import Derived.Test.YtaoiookfmgpmkaaGreatDoorQM2
import Derived.Test.YtaoiookfmgpmkaaGreatDoorQM3
import Derived.Test.YtaoiookfmgpmkaaGreatDoorQM10
import Derived.Test.YtaoiookfmgpmkaaGreatDoorQM11
import Derived.Test.YtaoiookfmgpmkaaGreatDoorQM9
import Derived.Test.YtaoiookfmgpmkaaGreatDoorQM1
import Derived.Maps.AppendAt
import Derived.Deep.AppendLies
import Derived.Deep.Upon
import Derived.Test.YtaoiookfmgpmkaaGreatDoorChartSpec

/-
 Variables of a law in memory, and what is stored there.
-/
namespace Go.Proofs.YtaoiookfmgpmkaaGreatDoor
open Go.ChangeShapes Go.WideShapes Go.ChangeAt Go.RowKit
set_option linter.unusedVariables false

structure Box3 (w : World) (B : Nat) (x y z : Value) : Prop where
 c0 : w.cell? ⟨B, 0, none⟩ = some x
 c1 : w.cell? ⟨B, 1, none⟩ = some y
 c2 : w.cell? ⟨B, 2, none⟩ = some z

theorem Box3.below {w w' : World} {B n : Nat} {x y z : Value} (h : Box3 w B x y z) (hb : Below n w w') (hB : B < n) : Box3 w' B x y z :=
 ⟨by rw [hb.cell (p := ⟨B, 0, none⟩) hB]; exact h.c0, by rw [hb.cell (p := ⟨B, 1, none⟩) hB]; exact h.c1, by rw [hb.cell (p := ⟨B, 2, none⟩) hB]; exact h.c2⟩

theorem box3_new (w : World) (x y z : Value) (t : TypeId) : Box3 (w.alloc (.cells #[x, y, z] t)) w.heap.size x y z :=
 ⟨World.cell?_alloc_new _ _ _ _, World.cell?_alloc_new _ _ _ _, World.cell?_alloc_new _ _ _ _⟩

structure Box2 (w : World) (B : Nat) (x y : Value) : Prop where
 c0 : w.cell? ⟨B, 0, none⟩ = some x
 c1 : w.cell? ⟨B, 1, none⟩ = some y

theorem Box2.below {w w' : World} {B n : Nat} {x y : Value} (h : Box2 w B x y) (hb : Below n w w') (hB : B < n) : Box2 w' B x y :=
 ⟨by rw [hb.cell (p := ⟨B, 0, none⟩) hB]; exact h.c0, by rw [hb.cell (p := ⟨B, 1, none⟩) hB]; exact h.c1⟩

theorem Box3.out {w w' : World} {B lo hi : Nat} {x y z : Value} (h : Box3 w B x y z) (ho : Out lo hi w w') (h1 : B < w.heap.size) (h2 : B < lo ∨ hi ≤ B) : Box3 w' B x y z := by
 have hk := ho.block B h1 h2
 exact ⟨by rw [World.cell?_of_block (w := w) hk]; exact h.c0, by rw [World.cell?_of_block (w := w) hk]; exact h.c1, by rw [World.cell?_of_block (w := w) hk]; exact h.c2⟩

theorem Box2.out {w w' : World} {B lo hi : Nat} {x y : Value} (h : Box2 w B x y) (ho : Out lo hi w w') (h1 : B < w.heap.size) (h2 : B < lo ∨ hi ≤ B) : Box2 w' B x y := by
 have hk := ho.block B h1 h2
 exact ⟨by rw [World.cell?_of_block (w := w) hk]; exact h.c0, by rw [World.cell?_of_block (w := w) hk]; exact h.c1⟩

end Go.Proofs.YtaoiookfmgpmkaaGreatDoor

/-
 The ways of a chart that lead on now (pure).
-/
namespace Go.Proofs.YtaoiookfmgpmkaaGreatDoor
open Go.ChangeShapes Go.WideShapes Go.ChangeAt Go.RowKit
set_option linter.unusedVariables false
set_option linter.unusedSimpArgs false

def leave (free : List Bool) (fr : List Int) : List Bool := fr.foldl (fun f x => f.set x.toNat false) free

def marksOk (c : ChartD) (k : MarksD) : Bool := decide ((k.on.length : Int) = c.steps) && decide (k.kept.length = 6)
end Go.Proofs.YtaoiookfmgpmkaaGreatDoor

/-
 Elements that grow by append, in general; one element of a list stored.
-/
namespace Go.Proofs.YtaoiookfmgpmkaaGreatDoor
open Go.ChangeShapes Go.WideShapes Go.ChangeAt Go.RowKit
set_option linter.unusedVariables false
set_option linter.unusedSimpArgs false

/-! Elements that grow by append. -/
section
variable {α : Type} {E : Elem α}
def rowG (E : Elem α) (xs : List α) : List Value := xs.flatMap E.cells
theorem rowG_at {xs : List α} {i : Nat} {x : α} (h : xs[i]? = some x) {j : Nat} {v : Value} (hv : (E.cells x)[j]? = some v) : (rowG E xs)[i * E.k + j]? = some v := by
 have hj : j < E.k := by have := (List.getElem?_eq_some_iff.mp hv).1; rwa [E.len] at this
 induction xs generalizing i with
 | nil => simp at h
 | cons y xs ih =>
  have e : rowG E (y :: xs) = E.cells y ++ rowG E xs := by simp [rowG]
  rw [e]
  cases i with
  | zero =>
   simp at h
   subst h
   rw [Nat.zero_mul, Nat.zero_add, List.getElem?_append_left (by rw [E.len]; exact hj)]
   exact hv
  | succ i =>
   simp at h
   rw [List.getElem?_append_right (by rw [E.len, Nat.succ_mul]; omega), E.len, show (i + 1) * E.k + j - E.k = i * E.k + j by rw [Nat.succ_mul]; omega]
   exact ih h

def RowG (E : Elem α) (T : TypeId) (w : World) (base : Nat) (v : Value) (xs : List α) : Prop := w.ownsRow base T E.k v xs.length (rowG E xs)
theorem RowG.lt {T : TypeId} {w : World} {base : Nat} {v : Value} {xs : List α} (h : RowG E T w base v xs) : ∀ k, v.ownBlock = some k → base ≤ k ∧ k < w.heap.size := World.ownsRow.lt h
theorem RowG.shape {T : TypeId} {w : World} {base : Nat} {v : Value} {xs : List α} (h : RowG E T w base v xs) : ∃ ad cap, v = .slice ad xs.length cap := by
 rcases h.2 with ⟨rfl, hn⟩ | ⟨g, cap, cur, rfl, hb, hh, hc, hm, _⟩
 ·exact ⟨none, 0, by rw [hn]⟩
 ·exact ⟨_, cap, rfl⟩
theorem RowG.go {T : TypeId} {w : World} {base : Nat} {v : Value} {xs : List α} (h : RowG E T w base v xs) : GO E w base w.heap.size v xs := by
 rcases h.2 with ⟨rfl, hn⟩ | ⟨g, cap, cur, rfl, hb, hh, hc, hm, _⟩
 ·exact .inl ⟨List.eq_nil_of_length_eq_zero hn, none, 0, rfl, Nat.zero_le _⟩
 ·refine .inr ⟨g, 0, cap, rfl, hc, hm, hb, (Array.getElem?_eq_some_iff.mp hh).1, fun i x hx j v hv => ?_, fun o => by rw [Nat.zero_add]; exact World.ownsRow.frozenAt h o⟩
  have hil : i < xs.length := (List.getElem?_eq_some_iff.mp hx).1
  have hj : j < E.k := by have := (List.getElem?_eq_some_iff.mp hv).1; rwa [E.len] at this
  have hle : i * E.k + E.k ≤ xs.length * E.k := by rw [← Nat.succ_mul]; exact Nat.mul_le_mul_right _ hil
  rw [Nat.zero_add, World.ownsRow.cellAt h _ (by omega)]
  exact rowG_at hx hv
theorem RowG.at_ {T : TypeId} {w w' : World} {base : Nat} {v : Value} {xs : List α} (h : RowG E T w base v xs) (hk : ∀ g, v.ownBlock = some g → w'.heap[g]? = w.heap[g]?) : RowG E T w' base v xs := by
 refine ⟨h.1, ?_⟩
 rcases h.2 with ⟨rfl, hn⟩ | ⟨g, cap, cur, rfl, hb, hh, r⟩
 ·exact .inl ⟨rfl, hn⟩
 ·exact .inr ⟨g, cap, cur, rfl, hb, by rw [hk g rfl]; exact hh, r⟩
theorem RowG.below {T : TypeId} {w w' : World} {base n : Nat} {v : Value} {xs : List α} (h : RowG E T w base v xs) (hb : Below n w w') (hn : w.heap.size ≤ n) : RowG E T w' base v xs :=
 h.at_ fun g hg => hb.block g (by have := (h.lt g hg).2; omega)

end

/-! An append of a list of elements. -/
section
variable {α : Type} {E : Elem α} {P : Program}

structure AppG (E : Elem α) (T : TypeId) (w : World) (base : Nat) (v : Value) (xs : List α) (v' : Value) (w' : World) : Prop where
 row : RowG E T w' base v' xs
 grown : w.grownBy w' v.ownBlock
 at_ : v'.ownBlock = v.ownBlock ∨ v'.ownBlock = some w.heap.size

variable {ops : Array Oper} {rest : List Oper} {o : Oper} {a : Act} {Q : Exit → Act → World → Prop} {K : Act → World → Prop} {w : World}
end
theorem AppG.below {α : Type} {E : Elem α} {T : TypeId} {w w' : World} {base n : Nat} {v v' : Value} {xs ys : List α} (h : AppG E T w base v xs v' w') (hr : RowG E T w base v ys) (hn : n ≤ base) (hb : base ≤ w.heap.size) : Below n w w' :=
 (Below.refl n w).grown h.grown (by omega) fun k hk => by have := (hr.lt k hk).1; omega
end Go.Proofs.YtaoiookfmgpmkaaGreatDoor

/-
 The model's ChartFires (package spec).
-/
namespace Go.Proofs.YtaoiookfmgpmkaaGreatDoor
open Go.ChangeShapes Go.WideShapes Go.ChangeAt Go.RowKit
set_option linter.unusedVariables false
set_option linter.unusedSimpArgs false
set_option maxRecDepth 100000

structure LF (w : World) (c0 c1 c2 m0 m1 m2 : Value) (B : Nat) (vf : Value) (s : List Int × List Bool) (wr : World) (vo : Value) : Prop where
 below : Below w.heap.size w wr
 cv : VarG wr w.heap.size [c0, c1, c2]
 mv : VarG wr (w.heap.size + 1 + 1) [m0, m1, m2]
 free : GO bool2 wr (w.heap.size + 3) B vf s.2
 out : RowZ wr B vo s.1
 le : w.heap.size + 3 ≤ B ∧ B ≤ wr.heap.size

theorem LF.grow {w : World} {c0 c1 c2 m0 m1 m2 : Value} {B : Nat} {vf : Value} {s : List Int × List Bool} {wr u : World} {vo : Value} (h : LF w c0 c1 c2 m0 m1 m2 B vf s wr vo) (g : Below wr.heap.size wr u) : LF w c0 c1 c2 m0 m1 m2 B vf s u vo := by
 have h1 := h.le
 have h2 := g.size
 exact ⟨h.below.trans (g.mono (by omega)), h.cv.below g (by omega), h.mv.below g (by omega), h.free.under g (by omega), h.out.below g (Nat.le_refl _), by omega⟩

set_option maxHeartbeats 4000000 in
theorem l8Marks_any (w : World) (lo1 hi1 : Nat) (sv : Int) (x y : Value) (vk : Value) (k : MarksD) (hK : MkR w lo1 hi1 vk k) :
  Calls Tryz.prog 91 #[.agg #[.int .i64 sv, x, y], vk] w fun e w' => e = .returned (.bool (decide ((k.on.length : Int) = sv) && decide (k.kept.length = 6))) ∧ Below w.heap.size w w' := by
 obtain ⟨R, hR⟩ : ∃ R, (decide ((k.on.length : Int) = sv) && decide (k.kept.length = 6)) = R := ⟨_, rfl⟩
 rw [hR]
 have HR : Hid ((decide ((k.on.length : Int) = sv) && decide (k.kept.length = 6)) = R) := hR
 clear hR
 obtain ⟨ka, kb, rfl, hka, hkb⟩ := hK
 obtain ⟨adk, capk, rfl, _, _⟩ := hka.shape
 obtain ⟨adk', capk', rfl, _, _⟩ := hkb.shape
 clear hka hkb
 go_enter Tryz.func91, Tryz.ntmps91
 go_wp2_with (refine wpList_boxG (vs := [.int .i64 sv, x, y]) rfl _ rfl rfl ?_)
 intro u1 g1 cv1 s1
 go_wp2_with (refine wpList_boxG (vs := [.slice adk k.on.length capk, .slice adk' k.kept.length capk']) rfl _ rfl rfl ?_)
 intro u2 g2 kv2 s2
 have cv2 := cv1.below g2 (by omega)
 have G2 := g1.trans (g2.mono (by omega))
 have c0 : u2.cell? ⟨w.heap.size, 0, none⟩ = some (.int .i64 sv) := cv2.c 0 _ rfl
 have d0 : u2.cell? ⟨w.heap.size + 1, 0, none⟩ = some (.slice adk k.on.length capk) := kv2.c 0 _ rfl
 have d1 : u2.cell? ⟨w.heap.size + 1, 1, none⟩ = some (.slice adk' k.kept.length capk') := kv2.c 1 _ rfl
 clear cv1 cv2 kv2 g1 g2
 by_cases h1 : (k.on.length : Int) = sv
 ·have e1 : ((k.on.length : Int) == sv) = true := by simp [h1]
  by_cases h2 : k.kept.length = 6
  ·have e2 : ((k.kept.length : Int) == 6) = true := by simp [h2]
   have HE : Hid (R = true) := by show R = _; rw [← HR.out]; simp [h1, h2]
   clear h1 h2
   go_wp2
   go_ret
   exact ⟨ret_bool HE.out.symm, G2⟩
  ·have e2 : ((k.kept.length : Int) == 6) = false := by simp; omega
   have HE : Hid (R = false) := by show R = _; rw [← HR.out]; simp [h2]
   clear h1 h2
   go_wp2
   go_ret
   exact ⟨ret_bool HE.out.symm, G2⟩
 ·have e1 : ((k.on.length : Int) == sv) = false := by simp [h1]
  have HE : Hid (R = false) := by show R = _; rw [← HR.out]; simp [h1]
  clear h1
  go_wp2
  go_ret
  exact ⟨ret_bool HE.out.symm, G2⟩

end Go.Proofs.YtaoiookfmgpmkaaGreatDoor
