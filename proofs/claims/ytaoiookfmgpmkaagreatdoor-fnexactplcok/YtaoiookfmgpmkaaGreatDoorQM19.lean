import Derived.Test.YtaoiookfmgpmkaaGreatDoorQM14
import Derived.RangeFuncNested
import Derived.RangeFuncBound
import Derived.RangeFuncCalls
import Derived.RangeFuncLeaves
import Derived.RangeFuncFrom
import Derived.Shelf.Abstract
import Derived.Shelf.RegionOpen
import Derived.WalkKit
import Derived.OwnWalkIn
import Derived.TacticsInMore
import Derived.LoopNIn
import Derived.LoopIn
import Derived.Test.YtaoiookfmgpmkaaGreatDoorQM10
import Derived.Test.YtaoiookfmgpmkaaGreatDoorQM5
import Derived.Test.YtaoiookfmgpmkaaGreatDoorQM12
import Derived.Test.YtaoiookfmgpmkaaGreatDoorQM9
import Derived.Test.YtaoiookfmgpmkaaGreatDoorQM1
import Derived.Deep.RegionWith

/-
 The program's coder: an instruction made (add), and told where to go (toHere). (Written by our generator gen_coder.py.)
-/
namespace Go.Proofs.YtaoiookfmgpmkaaGreatDoor
open Go.ChangeShapes Go.WideShapes Go.ChangeAt Go.RowKit
set_option linter.unusedVariables false
set_option maxRecDepth 100000

structure Cod (w : World) (B A : Nat) (v : Value) (ps : List InsD) : Prop where
 c : w.cell? ⟨B, 0, none⟩ = some v
 f : ∀ o, w.frozen? ⟨B, o, none⟩ = false
 row : RowI w A v ps
 ne : v.ownBlock ≠ some B
 lt : B < w.heap.size

theorem Cod.at_ {w w' : World} {B A : Nat} {v : Value} {ps : List InsD} (h : Cod w B A v ps) (hB : w'.heap[B]? = w.heap[B]?) (hv : ∀ g, v.ownBlock = some g → w'.heap[g]? = w.heap[g]?) (hs : w.heap.size ≤ w'.heap.size) : Cod w' B A v ps :=
 ⟨by rw [World.cell?_of_block (w := w) hB]; exact h.c, fun o => by rw [World.frozen?_of_block (w := w) hB]; exact h.f o, h.row.at_ hv, h.ne, Nat.lt_of_lt_of_le h.lt hs⟩

theorem Cod.below {w w' : World} {B A n : Nat} {v : Value} {ps : List InsD} (h : Cod w B A v ps) (hb : Below n w w') (hn : w.heap.size ≤ n) : Cod w' B A v ps :=
 h.at_ (hb.block B (by have := h.lt; omega)) (fun g hg => hb.block g (by have := (h.row.lt g hg).2; omega)) hb.size

structure Keep (P : Nat → Prop) (w w' : World) : Prop where
 os : w'.os = w.os
 tape : w'.tape = w.tape
 output : w'.output = w.output
 size : w.heap.size ≤ w'.heap.size
 block : ∀ k, P k → w'.heap[k]? = w.heap[k]?

theorem Keep.refl (P : Nat → Prop) (w : World) : Keep P w w := ⟨rfl, rfl, rfl, Nat.le_refl _, fun _ _ => rfl⟩
theorem Keep.trans {P : Nat → Prop} {a b c : World} (h : Keep P a b) (k : Keep P b c) : Keep P a c := ⟨k.os.trans h.os, k.tape.trans h.tape, k.output.trans h.output, Nat.le_trans h.size k.size, fun i hi => (k.block i hi).trans (h.block i hi)⟩
theorem Keep.mono {P Q : Nat → Prop} {a b : World} (h : Keep P a b) (hq : ∀ k, Q k → P k) : Keep Q a b := ⟨h.os, h.tape, h.output, h.size, fun k hk => h.block k (hq k hk)⟩
theorem keep_of_below {P : Nat → Prop} {n : Nat} {a b : World} (h : Below n a b) (hp : ∀ k, P k → k < n) : Keep P a b := ⟨h.os, h.tape, h.output, h.size, fun k hk => h.block k (hp k hk)⟩

structure CodT (B : Nat) (v v' : Value) (w w' : World) : Prop where
 keep : Keep (fun k => k < w.heap.size ∧ k ≠ B ∧ some k ≠ v.ownBlock) w w'
 at_ : v'.ownBlock = v.ownBlock ∨ ∃ g, v'.ownBlock = some g ∧ w.heap.size ≤ g

theorem CodT.refl (B : Nat) (v : Value) (w : World) : CodT B v v w w := ⟨Keep.refl _ _, .inl rfl⟩
theorem CodT.trans {B : Nat} {v v' v'' : Value} {a b c : World} (h : CodT B v v' a b) (k : CodT B v' v'' b c) : CodT B v v'' a c := by
 refine ⟨h.keep.trans (k.keep.mono fun i hi => ⟨Nat.lt_of_lt_of_le hi.1 h.keep.size, hi.2.1, ?_⟩), ?_⟩
 ·rcases h.at_ with e | ⟨g, e, hg⟩
  ·rw [e]; exact hi.2.2
  ·rw [e]; intro e2; simp only [Option.some.injEq] at e2; have := hi.1; omega
 ·rcases k.at_ with e | ⟨g, e, hg⟩
  ·rw [e]; exact h.at_
  ·exact .inr ⟨g, e, Nat.le_trans h.keep.size hg⟩
theorem codT_below {B n : Nat} {v : Value} {a b : World} (h : Below n a b) (hn : a.heap.size ≤ n) : CodT B v v a b := ⟨keep_of_below h fun k hk => by have := hk.1; omega, .inl rfl⟩

theorem CodT.below {B A : Nat} {v v' : Value} {w w' : World} {ps : List InsD} (h : CodT B v v' w w') (hc : Cod w B A v ps) (hA : A ≤ B) (hn : A ≤ w.heap.size) : Below A w w' :=
 ⟨h.keep.os, h.keep.tape, h.keep.output, h.keep.size, fun k hk => h.keep.block k ⟨by omega, by omega, fun e => by have := (hc.row.lt k e.symm).1; omega⟩⟩

structure AddJ (N B A : Nat) (v : Value) (ps : List InsD) (p : InsD) (L : Array Bool) (a : Act) (u : World) : Prop where
 j0 : L.getD 7 true = false → Cod u B A v ps
 j6 : L.getD 6 true = true → L.getD 7 true = false → RowI u A (a.tmps.getD 11 undef) [p]
 j7 : L.getD 7 true = true → L.getD 10 true = false → u.cell? ⟨B, 0, none⟩ = some v ∧ (∀ o, u.frozen? ⟨B, o, none⟩ = false) ∧ B < u.heap.size
 k7 : L.getD 7 true = true → L.getD 10 true = false → RowI u A (a.tmps.getD 12 undef) (ps ++ [p]) ∧ (a.tmps.getD 12 undef).ownBlock ≠ some B ∧ ((a.tmps.getD 12 undef).ownBlock = v.ownBlock ∨ ∃ g, (a.tmps.getD 12 undef).ownBlock = some g ∧ N ≤ g)
 j10 : L.getD 10 true = true → ∃ v', Cod u B A v' (ps ++ [p]) ∧ (v'.ownBlock = v.ownBlock ∨ ∃ g, v'.ownBlock = some g ∧ N ≤ g)

theorem AddJ.start {N B A : Nat} {v : Value} {ps : List InsD} {p : InsD} {a : Act} {u : World} (h : Cod u B A v ps) : AddJ N B A v ps p (Array.replicate 11 false) a u := by
 refine ⟨fun _ => h, ?_, ?_, ?_, ?_⟩
 all_goals intro h
 all_goals simp at h

theorem AddJ.other {N B A : Nat} {v : Value} {ps : List InsD} {p : InsD} {L : Array Bool} {a : Act} {u : World} (h : AddJ N B A v ps p L a u) {i : Nat} {d : Tmp} {x : Value} (hi : i ≠ 6 ∧ i ≠ 7 ∧ i ≠ 10) (hd : d ≠ 11 ∧ d ≠ 12) :
  AddJ N B A v ps p (L.setIfInBounds i true) (a.put (some d) x) u := by
 obtain ⟨h1, h2, h3⟩ := hi
 obtain ⟨d1, d2⟩ := hd
 refine ⟨?_, ?_, ?_, ?_, ?_⟩
 all_goals simp only [getD_set_ne true h1, getD_set_ne true h2, getD_set_ne true h3, getD_put_ne a d 11 x d1, getD_put_ne a d 12 x d2]
 ·exact h.j0
 ·exact h.j6
 ·exact h.j7
 ·exact h.k7
 ·exact h.j10

theorem AddJ.new6 {N B A : Nat} {v : Value} {ps : List InsD} {p : InsD} {L : Array Bool} {a : Act} {u u' : World} (h : AddJ N B A v ps p L a u) {x : Value} (hL : L.size = 11) (h7 : L.getD 7 true = false) (h10 : L.getD 10 true = false) (ha : 11 < a.tmps.size)
  (hb : Below u.heap.size u u') (hr : RowI u' A x [p]) : AddJ N B A v ps p (L.setIfInBounds 6 true) (a.put (some 11) x) u' := by
 refine ⟨?_, ?_, ?_, ?_, ?_⟩
 all_goals simp only [getD_set_self' (show 6 < L.size by omega), getD_set_ne true (show (6 : Nat) ≠ 7 by decide), getD_set_ne true (show (6 : Nat) ≠ 10 by decide), getD_put_self a 11 x ha, getD_put_ne a 11 12 x (by decide)]
 ·exact fun e => (h.j0 e).below hb (Nat.le_refl _)
 ·exact fun _ _ => hr
 ·intro e; rw [h7] at e; cases e
 ·intro e; rw [h7] at e; cases e
 ·intro e; rw [h10] at e; cases e

theorem AddJ.app7 {N B A : Nat} {v : Value} {ps : List InsD} {p : InsD} {L : Array Bool} {a : Act} {u u' : World} (h : AddJ N B A v ps p L a u) {x : Value} (hL : L.size = 11) (h7 : L.getD 7 true = false) (h10 : L.getD 10 true = false) (ha : 12 < a.tmps.size) (hN : N ≤ u.heap.size)
  (hr : AppI u A v (ps ++ [p]) x u') : AddJ N B A v ps p (L.setIfInBounds 7 true) (a.put (some 12) x) u' := by
 have hc := h.j0 h7
 have hB : u'.heap[B]? = u.heap[B]? := hr.grown.block B hc.lt (fun e => hc.ne e.symm)
 refine ⟨?_, ?_, ?_, ?_, ?_⟩
 all_goals simp only [getD_set_self' (show 7 < L.size by omega), getD_set_ne true (show (7 : Nat) ≠ 6 by decide), getD_set_ne true (show (7 : Nat) ≠ 10 by decide), getD_put_self a 12 x ha, getD_put_ne a 12 11 x (by decide)]
 ·intro e; cases e
 ·intro _ e; cases e
 ·exact fun _ _ => ⟨by rw [World.cell?_of_block (w := u) hB]; exact hc.c, fun o => by rw [World.frozen?_of_block (w := u) hB]; exact hc.f o, Nat.lt_of_lt_of_le hc.lt hr.grown.size⟩
 ·refine fun _ _ => ⟨hr.row, ?_, ?_⟩
  ·rcases hr.at_ with e | e
   ·rw [e]; exact hc.ne
   ·rw [e]; intro e2; simp only [Option.some.injEq] at e2; have := hc.lt; omega
  ·rcases hr.at_ with e | e
   ·exact .inl e
   ·exact .inr ⟨_, e, hN⟩
 ·intro e; rw [h10] at e; cases e

theorem AddJ.store10 {N B A : Nat} {v : Value} {ps : List InsD} {p : InsD} {L : Array Bool} {a a' : Act} {u : World} (h : AddJ N B A v ps p L a u) (hL : L.size = 11) (h7 : L.getD 7 true = true) (h10 : L.getD 10 true = false) :
  AddJ N B A v ps p (L.setIfInBounds 10 true) a' (u.setCell ⟨B, 0, none⟩ (a.tmps.getD 12 undef)) := by
 obtain ⟨c, f, lt⟩ := h.j7 h7 h10
 obtain ⟨r, ne, at_⟩ := h.k7 h7 h10
 refine ⟨?_, ?_, ?_, ?_, ?_⟩
 all_goals simp only [getD_set_self' (show 10 < L.size by omega), getD_set_ne true (show (10 : Nat) ≠ 6 by decide), getD_set_ne true (show (10 : Nat) ≠ 7 by decide)]
 ·intro e; rw [h7] at e; cases e
 ·intro _ e; rw [h7] at e; cases e
 ·intro _ e; cases e
 ·intro _ e; cases e
 ·refine fun _ => ⟨_, ⟨World.cell?_setCell_same _ _ _ c, fun o => by rw [World.frozen?_setCell]; exact f o, r.at_ fun g hg => Below.heap_setCell _ _ _ _ (fun e => ne (by rw [hg, e])), ne, by simpa [World.setCell] using lt⟩, at_⟩

set_option maxHeartbeats 4000000 in
theorem add_any (w : World) (B A : Nat) (v : Value) (ps : List InsD) (p : InsD) (hc : Cod w B A v ps) (hA : A ≤ w.heap.size) (hl : ps.length ≤ 8000000) :
  Calls Tryz.prog 293 #[.pointer (some ⟨B, 0, none⟩), p.val] w fun e w' => ∃ v', e = .returned (.int .i64 ps.length) ∧ Cod w' B A v' (ps ++ [p]) ∧ CodT B v v' w w' := by
 unfold InsD.val
 obtain ⟨u0, hu0, G0, F0, S0⟩ : ∃ u0, w.alloc (.cells #[.int .i64 p.op, .int .i64 p.n, .int .i64 p.ak, .int .i64 p.at_] 182) = u0 ∧ Below w.heap.size w u0 ∧ CellI u0 w.heap.size 0 p ∧ u0.heap.size = w.heap.size + 1 :=
  ⟨_, rfl, (Below.refl _ _).alloc (Nat.le_refl _) _, (fourI_new _ _ _).c, by simp⟩
 have HU : Hid (_ = u0) := hu0
 have hc0 := hc.below G0 (Nat.le_refl _)
 have hBw := hc.lt
 obtain ⟨av, nv, cv, rfl, hnv⟩ : ∃ ad n cap, v = .slice ad n cap ∧ n = ps.length := by obtain ⟨ad, cap, hv, _, _⟩ := hc.row.shape; exact ⟨ad, _, cap, hv, rfl⟩
 have HC : Hid (Cod w B A (.slice av nv cv) ps ∧ Cod u0 B A (.slice av nv cv) ps ∧ nv = ps.length ∧ CellI u0 w.heap.size 0 p) := ⟨hc, hc0, hnv, F0⟩
 clear hu0 hc hc0 F0 hnv
 go_enter Tryz.func293, Tryz.ntmps293
 go_wp2_with fail
 rw [HU.out]
 refine wp_region_dagC (R := Keep (fun k => k < u0.heap.size ∧ k ≠ B ∧ some k ≠ (Value.slice av nv cv).ownBlock)) (Φ := fun i v u => match i with
   | 0 => v = .pointer (some ⟨B, 0, none⟩)
   | 1 => v = .pointer (some ⟨B, 0, none⟩)
   | 2 => v = .pointer (some ⟨B, 0, none⟩)
   | 3 => v = .pointer (some ⟨B, 0, none⟩)
   | 4 => v = .slice av nv cv
   | 5 => v = .agg #[.int .i64 p.op, .int .i64 p.n, .int .i64 p.ak, .int .i64 p.at_]
   | 6 => True
   | 7 => True
   | 8 => v = .pointer (some ⟨B, 0, none⟩)
   | 9 => v = .pointer (some ⟨B, 0, none⟩)
   | 10 => True
   | _ => True)
  (J := fun L ac u => AddJ u0.heap.size B A (.slice av nv cv) ps p L ac u) (by kernel_rfl) (by kernel_rfl) (by kernel_rfl) (Keep.refl _ _) (fun _ _ _ h k => h.trans k) ?_ (AddJ.start (HC.out.2.1.below (Below.drew (Below.refl _ _)) (Nat.le_refl _))) ?_ ?_
 ·intro i v u u' hr
  match i with
  | 0 | 1 | 2 | 3 | 4 | 5 | 6 | 7 | 8 | 9 | 10 | _ + 11 => exact fun h => h
 ·intro i o ho L ac u hf hR0 hLs hLi hcl hp he hJ K' hK
  have hR : Keep (fun k => k < u0.heap.size ∧ k ≠ B ∧ some k ≠ (Value.slice av nv cv).ownBlock) u0 u := (keep_of_below (Below.drew (Below.refl u0.heap.size u0)) fun k hk => hk.1).trans hR0
  have hsz' : ac.tmps.size = 21 := hf.size
  have hus := hR.size
  rcases i with _ | _ | _ | _ | _ | _ | _ | _ | _ | _ | _ | i
  ·obtain rfl := si ho
   have q0 : ac.tmps.getD 0 undef = .pointer (some ⟨B, 0, none⟩) := hf.at_ 0 (by kernel_rfl)
   clear hp he
   go_simp
   exact hK _ _ (Keep.refl _ _) (getD_put_self ac 5 _ (by show _ < ac.tmps.size; omega)) (hJ.other (by decide) (by decide))
  ·obtain rfl := si ho
   have q0 : ac.tmps.getD 0 undef = .pointer (some ⟨B, 0, none⟩) := hf.at_ 0 (by kernel_rfl)
   clear hp he
   go_simp
   exact hK _ _ (Keep.refl _ _) (getD_put_self ac 6 _ (by show _ < ac.tmps.size; omega)) (hJ.other (by decide) (by decide))
  ·obtain rfl := si ho
   have q6 : ac.tmps.getD 6 undef = .pointer (some ⟨B, 0, none⟩) := hp 1 _ rfl (he _ (am (i := 0) rfl) (by kernel_rfl))
   clear hp he
   go_simp
   exact hK _ _ (Keep.refl _ _) (getD_put_self ac 7 _ (by show _ < ac.tmps.size; omega)) (hJ.other (by decide) (by decide))
  ·obtain rfl := si ho
   have q7 : ac.tmps.getD 7 undef = .pointer (some ⟨B, 0, none⟩) := hp 2 _ rfl (he _ (am (i := 0) rfl) (by kernel_rfl))
   clear hp he
   go_simp
   exact hK _ _ (Keep.refl _ _) (getD_put_self ac 8 _ (by show _ < ac.tmps.size; omega)) (hJ.other (by decide) (by decide))
  ·obtain rfl := si ho
   have q8 : ac.tmps.getD 8 undef = .pointer (some ⟨B, 0, none⟩) := hp 3 _ rfl (he _ (am (i := 0) rfl) (by kernel_rfl))
   have h7 : L.getD 7 true = false := hcl.not (i := 7) (j := 4) (by kernel_rfl) hLi
   have cB := (hJ.j0 h7).c
   clear hp he
   go_simp
   exact hK _ _ (Keep.refl _ _) (getD_put_self ac 9 _ (by show _ < ac.tmps.size; omega)) (hJ.other (by decide) (by decide))
  ·obtain rfl := si ho
   have q3 : ac.tmps.getD 3 undef = .pointer (some ⟨w.heap.size, 0, none⟩) := hf.at_ 3 (by kernel_rfl)
   clear hp he
   obtain ⟨c0, c1, c2, c3⟩ := HC.out.2.2.2.kept (hR.block w.heap.size ⟨by omega, by omega, fun e => by have := (HC.out.1.row.lt w.heap.size e.symm).2; omega⟩)
   have c1 : u.cell? ⟨w.heap.size, 1, none⟩ = _ := c1
   have c2 : u.cell? ⟨w.heap.size, 2, none⟩ = _ := c2
   have c3 : u.cell? ⟨w.heap.size, 3, none⟩ = _ := c3
   go_simp
   exact hK _ _ (Keep.refl _ _) (getD_put_self ac 10 _ (by show _ < ac.tmps.size; omega)) (hJ.other (by decide) (by decide))
  ·obtain rfl := si ho
   have q10 : ac.tmps.getD 10 undef = .agg #[.int .i64 p.op, .int .i64 p.n, .int .i64 p.ak, .int .i64 p.at_] := hp 5 _ rfl (he _ (am (i := 0) rfl) (by kernel_rfl))
   have h7 : L.getD 7 true = false := hcl.not (i := 7) (j := 6) (by kernel_rfl) hLi
   have h10 : L.getD 10 true = false := hcl.not (i := 10) (j := 7) (by kernel_rfl) h7
   clear hp he
   have q10' : ac.tmps[10]?.getD undef = .agg #[.int .i64 p.op, .int .i64 p.n, .int .i64 p.ak, .int .i64 p.at_] := by rw [← Array.getD_eq_getD_getElem?]; exact q10
   have HZ : Hid (ac.tmps.size = 21) := hsz'
   clear q10 hsz'
   go_simp
   have hsz' := HZ.out
   exact hK _ _ (keep_of_below ((Below.refl u.heap.size u).alloc (Nat.le_refl _) _) fun k hk => by have := hk.1; omega) trivial (hJ.new6 hLs h7 h10 (by show _ < ac.tmps.size; omega) ((Below.refl _ _).alloc (Nat.le_refl _) _) (rowI_lit u p A (by omega)))
  ·obtain rfl := si ho
   have e6 : L.getD 6 true = true := he _ (am (i := 1) rfl) (by kernel_rfl)
   have h10 : L.getD 10 true = false := hcl.not (i := 10) (j := 7) (by kernel_rfl) hLi
   have q9 : ac.tmps.getD 9 undef = .slice av nv cv := hp 4 _ rfl (he _ (am (i := 0) rfl) (by kernel_rfl))
   have r0 := (hJ.j0 hLi).row
   have r1 := hJ.j6 e6 hLi
   clear hp he
   refine step_appI rfl (.tmp 9) (.tmp 11) rfl A _ _ (v := .slice av nv cv) (xv := ac.tmps.getD 11 undef) q9 rfl r0 r1.no.nr (by omega) (by simp; omega) ?_
   intro v' u' h3
   exact hK _ _ ⟨h3.grown.os, h3.grown.tape, h3.grown.output, h3.grown.size, fun k hk => h3.grown.block k (by have := hk.1; omega) hk.2.2⟩ trivial (hJ.app7 hLs hLi h10 (by show _ < ac.tmps.size; omega) hus h3)
  ·obtain rfl := si ho
   have q5 : ac.tmps.getD 5 undef = .pointer (some ⟨B, 0, none⟩) := hp 0 _ rfl (he _ (am (i := 0) rfl) (by kernel_rfl))
   clear hp he
   go_simp
   exact hK _ _ (Keep.refl _ _) (getD_put_self ac 13 _ (by show _ < ac.tmps.size; omega)) (hJ.other (by decide) (by decide))
  ·obtain rfl := si ho
   have q13 : ac.tmps.getD 13 undef = .pointer (some ⟨B, 0, none⟩) := hp 8 _ rfl (he _ (am (i := 0) rfl) (by kernel_rfl))
   clear hp he
   go_simp
   exact hK _ _ (Keep.refl _ _) (getD_put_self ac 14 _ (by show _ < ac.tmps.size; omega)) (hJ.other (by decide) (by decide))
  ·obtain rfl := si ho
   have e7 : L.getD 7 true = true := he _ (am (i := 1) rfl) (by kernel_rfl)
   have q14 : ac.tmps.getD 14 undef = .pointer (some ⟨B, 0, none⟩) := hp 9 _ rfl (he _ (am (i := 0) rfl) (by kernel_rfl))
   obtain ⟨a2, c2, q12, _, _⟩ := (hJ.k7 e7 hLi).1.shape
   obtain ⟨nn, hnn⟩ : ∃ nn, (ps ++ [p]).length = nn := ⟨_, rfl⟩
   rw [hnn] at q12
   have cB := (hJ.j7 e7 hLi).1
   have fB := (hJ.j7 e7 hLi).2.1 0
   have hKK := hK undef (u.setCell ⟨B, 0, none⟩ (ac.tmps.getD 12 undef)) ⟨rfl, rfl, rfl, by simp [World.setCell], fun k hk => Below.heap_setCell _ _ _ _ hk.2.1⟩ trivial (hJ.store10 hLs e7 hLi)
   rw [q12] at hKK
   have HKK : Hid _ := hKK
   clear hp he hK hKK hJ hnn
   go_simp
   exact HKK.out
  ·exact absurd ho (by simp)
 ·intro L ac u hf hR0 hp hJ
  have hR : Keep (fun k => k < u0.heap.size ∧ k ≠ B ∧ some k ≠ (Value.slice av nv cv).ownBlock) u0 u := (keep_of_below (Below.drew (Below.refl u0.heap.size u0)) fun k hk => hk.1).trans hR0
  obtain ⟨v', hcod, hat⟩ := hJ.j10 (hp 10 _ rfl).1
  obtain ⟨a2, n2, c2, rfl, hn2⟩ : ∃ ad n cap, v' = .slice ad n cap ∧ n = (ps ++ [p]).length := by obtain ⟨ad, cap, hv, _, _⟩ := hcod.row.shape; exact ⟨ad, _, cap, hv, rfl⟩
  have hn3 : n2 = ps.length + 1 := by rw [hn2]; simp
  clear hn2
  subst hn3
  have cB := hcod.c
  have HE : Hid (Cod u B A (.slice a2 (ps.length + 1) c2) (ps ++ [p]) ∧ CodT B (.slice av nv cv) (.slice a2 (ps.length + 1) c2) w u) := ⟨hcod, ⟨(keep_of_below G0 fun k hk => hk.1).trans (hR.mono fun k hk => ⟨by have := hk.1; omega, hk.2⟩), hat.imp id fun ⟨g, h1, h2⟩ => ⟨g, h1, by omega⟩⟩⟩
  clear hp hJ hR0 hR hcod hat HC
  obtain ⟨fq, ea, hfv⟩ := act_lit ac 21 hf.size
  have md : ac.defers = [] := hf.defers
  rw [md] at ea
  have m0 := hf.at_ 0 (by kernel_rfl)
  have m1 := hf.at_ 1 (by kernel_rfl)
  have m2 := hf.at_ 2 (by kernel_rfl)
  have m3 := hf.at_ 3 (by kernel_rfl)
  have m4 := hf.at_ 4 (by kernel_rfl)
  have m15 := hf.at_ 15 (by kernel_rfl)
  have m16 := hf.at_ 16 (by kernel_rfl)
  have m17 := hf.at_ 17 (by kernel_rfl)
  have m18 := hf.at_ 18 (by kernel_rfl)
  have m19 := hf.at_ 19 (by kernel_rfl)
  have m20 := hf.at_ 20 (by kernel_rfl)
  rw [← hfv] at m0 m1 m2 m3 m4 m15 m16 m17 m18 m19 m20
  simp only [Array.getD_eq_getD_getElem?, List.getElem?_toArray, List.getElem?_cons_succ, List.getElem?_cons_zero, Option.getD_some] at m0 m1 m2 m3 m4 m15 m16 m17 m18 m19 m20
  simp only [List.range, List.range.loop, List.map_cons, List.map_nil, m0, m1, m2, m3, m4, m15, m16, m17, m18, m19, m20] at ea
  subst ea
  clear m0 m1 m2 m3 m4 m15 m16 m17 m18 m19 m20 hfv md hf
  go_wp2
  go_ret
  exact ⟨_, ret_int (by omega), HE.out.1, HE.out.2⟩

def setN (ps : List InsD) (j : Nat) (n : Int) : List InsD := ps.modify j fun p => ⟨p.op, n, p.ak, p.at_⟩

theorem setN_len (ps : List InsD) (j : Nat) (n : Int) : (setN ps j n).length = ps.length := by unfold setN; rw [List.length_modify]

theorem rowI_setN {ps : List InsD} : ∀ {j : Nat} (n : Int), j < ps.length → rowI (setN ps j n) = (rowI ps).set (j * 4 + 1) (.int .i64 n) := by
 induction ps with
 | nil => intro j n h; simp at h
 | cons p ps ih =>
  intro j n h
  cases j with
  | zero => rfl
  | succ j =>
   have e : (j + 1) * 4 + 1 = j * 4 + 1 + 1 + 1 + 1 + 1 := by omega
   have h1 : setN (p :: ps) (j + 1) n = p :: setN ps j n := rfl
   rw [h1, rowI, rowI, ih n (by simpa using h), e]
   rfl

theorem RowI.setN {w : World} {A g cap : Nat} {ps : List InsD} (h : RowI w A (.slice (some ⟨g, 0, none⟩) ps.length cap) ps) {j : Nat} (hj : j < ps.length) (n : Int) :
  RowI (w.setCell ⟨g, j * 4 + 1, none⟩ (.int .i64 n)) A (.slice (some ⟨g, 0, none⟩) ps.length cap) (setN ps j n) := by
 have := (World.ownsRow.stored h (j * 4 + 1) (.int .i64 n)).1
 unfold RowI
 rw [setN_len, rowI_setN n hj]
 exact this

set_option maxHeartbeats 4000000 in
theorem toHere_any (w : World) (B A : Nat) (v : Value) (ps : List InsD) (j : Nat) (hc : Cod w B A v ps) (hj : j < ps.length) (hl : ps.length ≤ 8000000) :
  Calls Tryz.prog 294 #[.pointer (some ⟨B, 0, none⟩), .int .i64 j] w fun e w' => e = .returned (.tuple #[]) ∧ Cod w' B A v (setN ps j ps.length) ∧ CodT B v v w w' := by
 obtain ⟨g, cap, rfl, hg1, hg2⟩ := World.ownsRow.form hc.row (by omega)
 have hne : g ≠ B := fun e => hc.ne (by rw [e]; rfl)
 have hr := RowI.setN hc.row hj (ps.length : Int)
 obtain ⟨p, hp⟩ : ∃ p, ps[j]? = some p := ⟨ps[j], List.getElem?_eq_getElem hj⟩
 have c1 : w.cell? ⟨g, j * 4 + 1, none⟩ = some (.int .i64 p.n) := by rw [World.ownsRow.cellAt hc.row _ (by omega)]; exact (rowI_at hp).2.1
 have f1 : w.frozen? ⟨g, j * 4 + 1, none⟩ = false := World.ownsRow.frozenAt hc.row _
 have hB : (w.setCell ⟨g, j * 4 + 1, none⟩ (.int .i64 (ps.length : Int))).heap[B]? = w.heap[B]? := Below.heap_setCell _ _ _ _ (fun e => hne e.symm)
 have hd : Cod (w.setCell ⟨g, j * 4 + 1, none⟩ (.int .i64 (ps.length : Int))) B A (.slice (some ⟨g, 0, none⟩) ps.length cap) (setN ps j ps.length) :=
  ⟨by rw [World.cell?_of_block (w := w) hB]; exact hc.c, fun o => by rw [World.frozen?_of_block (w := w) hB]; exact hc.f o, hr, hc.ne, by simpa [World.setCell] using hc.lt⟩
 have ht : CodT B (.slice (some ⟨g, 0, none⟩) ps.length cap) (.slice (some ⟨g, 0, none⟩) ps.length cap) w (w.setCell ⟨g, j * 4 + 1, none⟩ (.int .i64 (ps.length : Int))) :=
  ⟨⟨rfl, rfl, rfl, by simp [World.setCell], fun k hk => Below.heap_setCell _ _ _ _ (fun e => hk.2.2 (by rw [e]; rfl))⟩, .inl rfl⟩
 obtain ⟨u, hu⟩ : ∃ u, w.setCell ⟨g, j * 4 + 1, none⟩ (.int .i64 (ps.length : Int)) = u := ⟨_, rfl⟩
 rw [hu] at hd ht
 have HU : Hid (_ = u) := hu
 have HE : Hid (Cod u.drew B A (.slice (some ⟨g, 0, none⟩) ps.length cap) (setN ps j ps.length) ∧ CodT B (.slice (some ⟨g, 0, none⟩) ps.length cap) (.slice (some ⟨g, 0, none⟩) ps.length cap) w u.drew) :=
  ⟨hd.below (Below.drew (Below.refl _ _)) (Nat.le_refl _), ht.trans (codT_below (Below.drew (Below.refl _ _)) (Nat.le_refl _))⟩
 have cB := hc.c
 have hj' : (j : Int) < (ps.length : Int) := by omega
 clear hc hr hB hd ht hp hu
 go_enter Tryz.func294, Tryz.ntmps294
 go_wp2_with fail
 go_region
 rw [HU.out]
 go_wp2
 go_end0
 exact ⟨rfl, HE.out.1, HE.out.2⟩
end Go.Proofs.YtaoiookfmgpmkaaGreatDoor

/-
 The parts of a tree, yielded: exprParts, its function literal, yieldParts.
-/
namespace Go.Proofs.YtaoiookfmgpmkaaGreatDoor
open Go.ChangeShapes Go.WideShapes Go.ChangeAt Go.RowKit Go.Shelf
attribute [local go_sem] Oper.semAt_some
set_option linter.unusedVariables false

theorem room_none {F : Fence} (hd : F.depth = none) (k : Nat) : F.room k := fun d h => by rw [hd] at h; cases h
theorem roundIn_any {F : Fence} (hd : F.depth = none) {m m' : Nat} {P : Program} {l : Nat} {f : FuncId} {tmps : Array Value} {assign body : Code} {w : World} {R : Ending → World → Prop}
  (h : RoundIn F m P l f tmps assign body w R) : RoundIn F m' P l f tmps assign body w R := ⟨h.1, fun c cs _ => h.2 c cs (room_none hd _)⟩
theorem yieldAt_any {F : Fence} (hd : F.depth = none) {m : Nat} (m' : Nat) {P : Program} {l : Nat} {args : Array Value} {W : World} {R : Ending → World → Prop} (h : YieldAt F m P l args W R) : YieldAt F m' P l args W R := by
 obtain ⟨fn, tmps, assign, body, hy, hR⟩ := h
 exact ⟨fn, tmps, assign, body, hy, roundIn_any hd hR⟩

structure PartV where
 e : ExprD
 ad : Option Go.Addr
 cap : Nat
 d : Int

def PartV.val (x : PartV) : Value := .agg #[.int .i64 x.e.k, .int .i64 x.e.n, .int .i64 x.e.ak, .int .i64 x.e.at_, .slice x.ad x.e.kids.length x.cap]
def PartV.proj (x : PartV) : ExprD × Int := (x.e, x.d)
def PartV.encs (x : PartV) : Array Value := #[x.val, .int .i64 x.d]

structure KeepsP (n₀ n₁ : Nat) (W W' : World) : Prop where
 low : Below n₀ W W'
 cells : ∀ (k : Nat) (o : Obj), n₁ ≤ k → W.heap[k]? = some o → o.isCells = true → W'.heap[k]? = some o

theorem KeepsP.refl (n₀ n₁ : Nat) (W : World) : KeepsP n₀ n₁ W W := ⟨Below.refl _ _, fun _ _ _ h _ => h⟩
theorem KeepsP.trans {n₀ n₁ : Nat} {A B C : World} (h : KeepsP n₀ n₁ A B) (k : KeepsP n₀ n₁ B C) : KeepsP n₀ n₁ A C :=
 ⟨h.low.trans k.low, fun i o hi ho hc => k.cells i o hi (h.cells i o hi ho hc) hc⟩
theorem KeepsP.of_below {n₀ n₁ : Nat} {W W' : World} (h : Below W.heap.size W W') (hn : n₀ ≤ W.heap.size) : KeepsP n₀ n₁ W W' :=
 ⟨h.mono hn, fun k o _ ho _ => (h.block k (Array.getElem?_eq_some_iff.1 ho).1).trans ho⟩
theorem KeepsP.alloc {n₀ n₁ : Nat} (W : World) (hn : n₀ ≤ W.heap.size) (o : Obj) : KeepsP n₀ n₁ W (W.alloc o) := .of_below ((Below.refl _ _).alloc (Nat.le_refl _) o) hn
theorem KeepsP.setCell {n₀ n₁ : Nat} (W : World) {b o : Nat} (h0 : n₀ ≤ b) (h1 : b < n₁) (v : Value) : KeepsP n₀ n₁ W (W.setCell ⟨b, o, none⟩ v) :=
 ⟨(Below.refl _ _).setCell (p := ⟨b, o, none⟩) h0 v, fun k _ hk ho _ => (Below.heap_setCell W ⟨b, o, none⟩ v k (by show k ≠ b; omega)).trans ho⟩
theorem keepsP_b {n₀ n₁ : Nat} {w : World} (hn : n₀ ≤ w.heap.size) (W : World) (l : Nat) (o o' : Obj) (hl : w.heap.size ≤ l) (h : W.heap[l]? = some o) (hc : o.isCells = false) (hw : o.isWalk = false) : KeepsP n₀ n₁ W (W.putObj l o') :=
 ⟨belowK_b hn W l o o' hl h hc hw, fun k o2 _ hk hk2 => by
  have hne : k ≠ l := fun e => by subst e; rw [h] at hk; cases hk; rw [hc] at hk2; cases hk2
  exact (World.putObj_heap_other hne).trans hk⟩
theorem KeepsFrom.of_below {B : Nat} {W W' : World} (h : Below W.heap.size W W') : KeepsFrom B W W' :=
 ⟨h.size, fun k o _ ho _ => (h.block k (Array.getElem?_eq_some_iff.1 ho).1).trans ho⟩

theorem five_of_block {u : World} {B : Nat} {v0 v1 v2 v3 v4 : Value} {t : TypeId} (h : u.heap[B]? = some (.cells #[v0, v1, v2, v3, v4] t)) : Five u B v0 v1 v2 v3 v4 :=
 ⟨by simp [World.cell?, h], by simp [World.cell?, h], by simp [World.cell?, h], by simp [World.cell?, h], by simp [World.cell?, h], fun o => by simp [World.frozen?, h]⟩

def YPost (n₀ n₁ : Nat) (J Jx : List PartV → World → Prop) (pre : List PartV) (l : List (ExprD × Int)) (W : World) (en : Ending) (W' : World) : Prop :=
 (en = .returned (.bool true) ∧ ∃ q, q.map PartV.proj = l ∧ J (pre ++ q) W' ∧ KeepsP n₀ n₁ W W') ∨ (en = .returned (.bool false) ∧ ∃ q, q.map PartV.proj <+: l ∧ Jx (pre ++ q) W')

def YieldS (F : Fence) (l n₀ n₁ N : Nat) (J Jx : List PartV → World → Prop) (m : Nat) : Prop :=
 ∀ (n : Nat) (W : World) (lo hi : Nat) (s : Value) (e : ExprD) (d : Int) (pre : List PartV), manyL e.kids ≤ m → KR W lo hi s e.kids → hi ≤ n₀ → n₀ ≤ W.heap.size → n₁ ≤ W.heap.size → J pre W → pre.length + manyE e ≤ N →
  CallsIn F n Tryz.prog 298 #[.agg #[.int .i64 e.k, .int .i64 e.n, .int .i64 e.ak, .int .i64 e.at_, s], .int .i64 d, .func (.yield l) #[] #[]] W (YPost n₀ n₁ J Jx pre (preE d e) W)

set_option maxRecDepth 100000 in
set_option maxHeartbeats 4000000 in
theorem yield_step (F : Fence) (hd : F.depth = none) (hf : F.fn 298) (hro : F.round = none) (l n₀ n₁ N B : Nat) (J Jx : List PartV → World → Prop)
  (hJ : AbidesFrom B J)
  (hY : ∀ m pre (x : PartV) W, J pre W → pre.length < N → YieldAt F m Tryz.prog l x.encs W fun e W' =>
   (e = .returned (.bool true) ∧ J (pre ++ [x]) W' ∧ KeepsP n₀ n₁ W W') ∨ (e = .returned (.bool false) ∧ Jx (pre ++ [x]) W'))
  {m : Nat} (H : ∀ m', m' < m → YieldS F l n₀ n₁ N J Jx m') : YieldS F l n₀ n₁ N J Jx m := by
 intro n W lo hi s e d pre hm h hhi hn₀ hn₁ hJ0 hN
 obtain ⟨ad, cap, rfl, hc1, hc2⟩ := h.shape
 have hmx : e.kids.length ≤ 9223372036854775807 := by unfold maxLen at hc2; omega
 have hdd : ∀ k : Nat, (F.depth.isSome = true → 1 ≤ k) := fun k h => by rw [hd] at h; cases h
 have hme := manyE_eq e
 have HK : Hid (KR W lo hi (.slice ad e.kids.length cap) e.kids) := h
 have HP : Hid (preE d e = (e, d) :: preL (wrap64 (d + 1)) e.kids) := preE_eq d e
 have HJ : Hid (∀ pr (w : World) o, J pr w → J pr (w.alloc o)) := fun pr w o hj => hJ pr w _ none hj (World.grownBy_alloc w _ none) (fun r e => by cases e)
 obtain ⟨u0, hu0, G0, B0, S0, J0⟩ : ∃ u0, W.alloc (.cells #[.int .i64 e.k, .int .i64 e.n, .int .i64 e.ak, .int .i64 e.at_, .slice ad e.kids.length cap] 121) = u0 ∧ KeepsP n₀ n₁ W u0 ∧ u0.heap[W.heap.size]? = some (.cells #[.int .i64 e.k, .int .i64 e.n, .int .i64 e.ak, .int .i64 e.at_, .slice ad e.kids.length cap] 121) ∧ u0.heap.size = W.heap.size + 1 ∧ J pre u0 :=
  ⟨_, rfl, .alloc W hn₀ _, World.alloc_heap_new W _, by simp, HJ.out pre W _ hJ0⟩
 have F0 := five_of_block B0
 have HB0 : Hid (u0.heap[W.heap.size]? = some (.cells #[.int .i64 e.k, .int .i64 e.n, .int .i64 e.ak, .int .i64 e.at_, .slice ad e.kids.length cap] 121)) := B0
 clear B0
 obtain ⟨fn, tmps, assign, body, hy, hR⟩ := hY (n - 1) pre ⟨e, ad, cap, d⟩ u0 J0 (by omega)
 simp only [PartV.encs, PartV.val] at hy
 obtain ⟨c0, c1, c2, c3, c4, _⟩ := id F0
 clear h hJ0 hY hJ F0 J0
 refine callsIn_of_wp Tryz.func298 rfl hf ?_ hro
 simp only [Tryz.ntmps298, List.size_toArray, List.length_cons, List.length_nil, Nat.reduceAdd, Nat.reduceSub, Array.replicate_succ, Array.replicate_zero, List.push_toArray, List.append_toArray, List.nil_append, List.cons_append]
 gi_wp2_with fail
 refine hR.mono ?_
 clear hR hy hu0
 rintro e1 W3 (⟨rfl, hJ3, hk3⟩ | ⟨rfl, hJx3⟩)
 ·have S3 := hk3.low.size
  have HB3 : Hid (W3.heap[W.heap.size]? = some (.cells #[.int .i64 e.k, .int .i64 e.n, .int .i64 e.ak, .int .i64 e.at_, .slice ad e.kids.length cap] 121)) := hk3.cells _ _ hn₁ HB0.out rfl
  have HG3 : Hid (KeepsP n₀ n₁ W W3) := G0.trans hk3
  have HJ3 : Hid (J (pre ++ [⟨e, ad, cap, d⟩]) W3) := hJ3
  clear HB0 G0 hk3 hJ3 c0 c1 c2 c3 c4
  have c4 := (five_of_block HB3.out).c4
  gi_wp2_with fail
  clear c4
  gi_loopw [17] (fun i wr => ∃ (j : Nat) (q : List PartV), j ≤ e.kids.length ∧ i = .int .i64 j ∧ W.heap.size < wr.heap.size ∧ Hid (q.map PartV.proj = preL (wrap64 (d + 1)) (e.kids.take j) ∧ J (pre ++ [⟨e, ad, cap, d⟩] ++ q) wr ∧ KeepsP n₀ n₁ W wr ∧ wr.heap[W.heap.size]? = some (.cells #[.int .i64 e.k, .int .i64 e.n, .int .i64 e.ak, .int .i64 e.at_, .slice ad e.kids.length cap] 121)))
   (fun i _ => e.kids.length - (intOf i).toNat)
  case atStart => exact ⟨0, [], Nat.zero_le _, rfl, by omega, by rw [List.take_zero, preL]; rfl, by rw [List.append_nil]; exact HJ3.out, HG3.out, HB3.out⟩
  case round =>
   clear HJ3 HG3 HB3 S3
   obtain ⟨j, q, hj, rfl, hs, HR⟩ := hrel
   by_cases hlt : j < e.kids.length
   ·obtain ⟨x, hx⟩ : ∃ x, e.kids[j]? = some x := ⟨e.kids[j], List.getElem?_eq_getElem hlt⟩
    obtain ⟨b, off, cap', s, hv, hb1, hb2, h5, hk⟩ := HK.out.at_ hx
    simp only [Value.slice.injEq, true_and] at hv
    obtain ⟨rfl, rfl⟩ := hv
    obtain ⟨hq1, hq2, hq3, hq4⟩ := HR.out
    have HX : Hid (e.kids[j]? = some x) := hx
    have hb := hq3.low
    obtain ⟨c0, c1, c2, c3, c4⟩ := h5
    rw [← hb.cell (p := ⟨b, off + j * 5, none⟩) (by show b < _; omega)] at c0
    rw [← hb.cell (p := ⟨b, off + j * 5 + 1, none⟩) (by show b < _; omega)] at c1
    rw [← hb.cell (p := ⟨b, off + j * 5 + 2, none⟩) (by show b < _; omega)] at c2
    rw [← hb.cell (p := ⟨b, off + j * 5 + 3, none⟩) (by show b < _; omega)] at c3
    rw [← hb.cell (p := ⟨b, off + j * 5 + 4, none⟩) (by show b < _; omega)] at c4
    obtain ⟨ads, cps, rfl, _, _⟩ := hk.shape
    have hkl := kid_lt hx
    have hnl : (pre ++ [⟨e, some ⟨b, off, none⟩, cap, d⟩] ++ q : List PartV).length = pre.length + 1 + manyL (e.kids.take j) := by
     have := congrArg List.length hq1
     rw [List.length_map, preL_length] at this
     simp only [List.length_append, List.length_cons, List.length_nil]
     omega
    have hts := manyL_take_succ hx
    have htl := manyL_take_le e.kids (j + 1)
    obtain ⟨u1, hu1, G1, S1, J1, F1⟩ : ∃ u1, wr.alloc (.cells #[.int .i64 x.k, .int .i64 x.n, .int .i64 x.ak, .int .i64 x.at_, .slice ads x.kids.length cps] 121) = u1 ∧ KeepsP n₀ n₁ wr u1 ∧ u1.heap.size = wr.heap.size + 1 ∧ J (pre ++ [⟨e, some ⟨b, off, none⟩, cap, d⟩] ++ q) u1 ∧ Five u1 wr.heap.size (.int .i64 x.k) (.int .i64 x.n) (.int .i64 x.ak) (.int .i64 x.at_) (.slice ads x.kids.length cps) :=
     ⟨_, rfl, .alloc wr (by omega) _, by simp, HJ.out _ wr _ hq2, five_new wr _ _ _ _ _ _⟩
    have hC := H (manyL x.kids) (by omega) (n - 1) u1 lo hi (.slice ads x.kids.length cps) x (wrap64 (d + 1)) (pre ++ [⟨e, some ⟨b, off, none⟩, cap, d⟩] ++ q) (Nat.le_refl _) (hk.under (hq3.trans G1).low hhi) hhi (by omega) (by omega) J1 (by rw [hnl]; omega)
    have HG1 : Hid (KeepsP n₀ n₁ W u1) := hq3.trans G1
    have HB1 : Hid (u1.heap[W.heap.size]? = some (.cells #[.int .i64 e.k, .int .i64 e.n, .int .i64 e.ak, .int .i64 e.at_, .slice (some ⟨b, off, none⟩) e.kids.length cap] 121)) := G1.cells _ _ (by omega) hq4 rfl
    have HQ1 : Hid (q.map PartV.proj = preL (wrap64 (d + 1)) (e.kids.take j)) := hq1
    clear hq1 hq2 hq3 hq4 hx hk hkl hnl hts htl G1 J1 hb HR H
    obtain ⟨d0, d1, d2, d3, d4, _⟩ := F1
    gi_wp2_with ((try refine ⟨hdd _, ?_⟩); gi_at_call 298; refine hC.mono ?_; clear hC; rintro e2 W2 (⟨rfl, q2, hp2, hJ2, hk2⟩ | ⟨rfl, q2, hp2, hJx2⟩))
    ·have hs2 := hk2.low.size
     gi_wp2
     go_roundw
     case rel =>
      refine ⟨j + 1, q ++ q2, by omega, by go_num, by omega, ?_, ?_, HG1.out.trans hk2, hk2.cells _ _ hn₁ HB1.out rfl⟩
      ·rw [List.map_append, HQ1.out, hp2, preL_take_succ HX.out]
      ·rw [← List.append_assoc]; exact hJ2
     case measure => simp [intOf]; omega
    ·gi_wp2
     go_ret
     refine .inr ⟨rfl, [⟨e, some ⟨b, off, none⟩, cap, d⟩] ++ q ++ q2, ?_, ?_⟩
     ·rw [List.map_append, List.map_append, HQ1.out, HP.out]
      refine List.IsPrefix.trans ?_ (show (e, d) :: preL (wrap64 (d + 1)) (e.kids.take (j + 1)) <+: _ from (List.cons_prefix_cons).2 ⟨rfl, preL_take_prefix _ _ _⟩)
      rw [preL_take_succ HX.out]
      show [(e, d)] ++ preL (wrap64 (d + 1)) (e.kids.take j) ++ q2.map PartV.proj <+: (e, d) :: (preL (wrap64 (d + 1)) (e.kids.take j) ++ preE (wrap64 (d + 1)) x)
      exact (List.cons_prefix_cons).2 ⟨rfl, (List.prefix_append_right_inj _).2 hp2⟩
     ·rw [← List.append_assoc, ← List.append_assoc]; exact hJx2
   ·obtain rfl : j = e.kids.length := by omega
    obtain ⟨hq1, hq2, hq3, hq4⟩ := HR.out
    rw [List.take_length] at hq1
    have HQ : Hid (q.map PartV.proj = preL (wrap64 (d + 1)) e.kids ∧ J (pre ++ [⟨e, ad, cap, d⟩] ++ q) wr ∧ KeepsP n₀ n₁ W wr) := ⟨hq1, hq2, hq3⟩
    clear hq1 hq2 hq3 hq4 HR H
    gi_wp2
    go_ret
    refine .inl ⟨rfl, [⟨e, ad, cap, d⟩] ++ q, ?_, ?_, HQ.out.2.2⟩
    ·rw [List.map_append, HQ.out.1, HP.out]; rfl
    ·rw [← List.append_assoc]; exact HQ.out.2.1
 ·gi_wp2
  go_ret
  exact .inr ⟨rfl, [⟨e, ad, cap, d⟩], by rw [HP.out]; exact ⟨_, rfl⟩, hJx3⟩

theorem yieldS (F : Fence) (hd : F.depth = none) (hf : F.fn 298) (hro : F.round = none) (l n₀ n₁ N B : Nat) (J Jx : List PartV → World → Prop)
  (hJ : AbidesFrom B J)
  (hY : ∀ m pre (x : PartV) W, J pre W → pre.length < N → YieldAt F m Tryz.prog l x.encs W fun e W' =>
   (e = .returned (.bool true) ∧ J (pre ++ [x]) W' ∧ KeepsP n₀ n₁ W W') ∨ (e = .returned (.bool false) ∧ Jx (pre ++ [x]) W')) (m : Nat) : YieldS F l n₀ n₁ N J Jx m := by
 induction m using Nat.strongRecOn with
 | ind m ih => exact yield_step F hd hf hro l n₀ n₁ N B J Jx hJ hY ih

set_option maxHeartbeats 1000000 in
theorem parts1_in (F : Fence) (hd : F.depth = none) (n : Nat) (h5 : F.fn 297) (h6 : F.fn 298) (hro : F.round = none) (l Bt n₀ n₁ lo hi B : Nat) (e : ExprD) (ad : Option Go.Addr) (cap : Nat) (J Jx : List PartV → World → Prop)
  (hJ : AbidesFrom B J)
  (hY : ∀ pre (x : PartV) W, J pre W → pre.length < manyE e → YieldAt F (n - 1) Tryz.prog l x.encs W fun e W' =>
   (e = .returned (.bool true) ∧ J (pre ++ [x]) W' ∧ KeepsP n₀ n₁ W W') ∨ (e = .returned (.bool false) ∧ Jx (pre ++ [x]) W'))
  (W : World) (hBt : Five W Bt (.int .i64 e.k) (.int .i64 e.n) (.int .i64 e.ak) (.int .i64 e.at_) (.slice ad e.kids.length cap)) (hT : KR W lo hi (.slice ad e.kids.length cap) e.kids) (hhi : hi ≤ n₀) (hn₀ : n₀ ≤ W.heap.size) (hn₁ : n₁ ≤ W.heap.size) (h0 : J [] W) :
  CallsIn F n Tryz.prog 297 #[.func (.yield l) #[] #[], .pointer (some ⟨Bt, 0, none⟩)] W fun e' W' => (∃ v, e' = .returned v) ∧
   ((∃ ys : List PartV, ys.map PartV.proj = preE 0 e ∧ J ys W') ∨ (∃ pre : List PartV, pre.map PartV.proj <+: preE 0 e ∧ Jx pre W')) := by
 have hdd : ∀ k : Nat, (F.depth.isSome = true → 1 ≤ k) := fun k h => by rw [hd] at h; cases h
 have hp := yieldS F hd h6 hro l n₀ n₁ (manyE e) B J Jx hJ (fun m pre x W hj hl => yieldAt_any hd m (hY pre x W hj hl)) (manyL e.kids) (n - 1) W lo hi (.slice ad e.kids.length cap) e 0 [] (Nat.le_refl _) hT hhi hn₀ hn₁ h0 (by simp)
 obtain ⟨c0, c1, c2, c3, c4, _⟩ := hBt
 refine callsIn_of_wp Tryz.func297 rfl h5 ?_ hro
 simp only [Tryz.ntmps297, List.size_toArray, List.length_cons, List.length_nil, Nat.reduceAdd, Nat.reduceSub, Array.replicate_succ, Array.replicate_zero, List.push_toArray, List.append_toArray, List.nil_append, List.cons_append]
 gi_wp2_with ((try refine ⟨hdd _, ?_⟩); gi_at_call 298; refine hp.mono ?_; clear hp; rintro e1 W1 (⟨rfl, q, hq, hJ1, _⟩ | ⟨rfl, q, hq, hx⟩))
 ·go_end0
  exact ⟨⟨_, rfl⟩, .inl ⟨q, hq, by simpa using hJ1⟩⟩
 ·go_end0
  exact ⟨⟨_, rfl⟩, .inr ⟨q, hq, by simpa using hx⟩⟩

set_option maxHeartbeats 1000000 in
theorem exprParts_in (F : Fence) (n : Nat) (h4 : F.fn 290) (hro : F.round = none) (k m a t : Int) (ad : Option Go.Addr) (len cap : Nat) (w : World) :
  CallsIn F n Tryz.prog 290 #[.agg #[.int .i64 k, .int .i64 m, .int .i64 a, .int .i64 t, .slice ad len cap]] w fun e w' => e = .returned (.func (.func 297) #[] #[.pointer (some ⟨w.heap.size, 0, none⟩)]) ∧ w' = w.alloc (.cells #[.int .i64 k, .int .i64 m, .int .i64 a, .int .i64 t, .slice ad len cap] 121) := by
 refine callsIn_of_wp Tryz.func290 rfl h4 ?_ hro
 simp only [Tryz.ntmps290, List.size_toArray, List.length_cons, List.length_nil, Nat.reduceAdd, Nat.reduceSub, Array.replicate_succ, Array.replicate_zero, List.push_toArray, List.append_toArray, List.nil_append, List.cons_append]
 gi_wp2
 go_ret
 exact ⟨rfl, rfl⟩

theorem parts_stops (F : Fence) (hd : F.depth = none) (n : Nat) (h5 : F.fn 297) (h6 : F.fn 298) (hro : F.round = none) (Bt n₀ n₁ lo hi : Nat) (e : ExprD) (ad : Option Go.Addr) (cap : Nat) (w : World) (hBt : Bt < w.heap.size) (hhi : hi ≤ n₀) (hn₀ : n₀ ≤ w.heap.size) (hn₁ : n₁ ≤ w.heap.size)
  (hc : Five w Bt (.int .i64 e.k) (.int .i64 e.n) (.int .i64 e.ak) (.int .i64 e.at_) (.slice ad e.kids.length cap)) (hT : KR w lo hi (.slice ad e.kids.length cap) e.kids) :
  SeqStopsK F n Tryz.prog 297 #[.pointer (some ⟨Bt, 0, none⟩)] PartV.encs (KeepsP n₀ n₁) (fun ys => ys.map PartV.proj = preE 0 e) (fun pre => pre.map PartV.proj <+: preE 0 e) (manyE e) w := fun l J Jx W hW hJ _ hY h0 =>
 parts1_in F hd n h5 h6 hro l Bt n₀ n₁ lo hi W.heap.size e ad cap J Jx hJ hY W (hc.under hW hBt) (hT.under hW (by omega)) hhi (Nat.le_trans hn₀ hW.size) (Nat.le_trans hn₁ hW.size) h0
end Go.Proofs.YtaoiookfmgpmkaaGreatDoor

/-
 The statements of a list, yielded: stmtsWithin, its function literal, yieldStmts.
-/
namespace Go.Proofs.YtaoiookfmgpmkaaGreatDoor
open Go.ChangeShapes Go.WideShapes Go.ChangeAt Go.RowKit Go.Shelf
attribute [local go_sem] Oper.semAt_some
set_option linter.unusedVariables false

structure StmtX (w : World) (lo hi : Nat) where
 s : StmtD
 ax : Option Go.Addr
 cx : Nat
 ay : Option Go.Addr
 cy : Nat
 az : Option Go.Addr
 cz : Nat
 d : Int
 kr : KR w lo hi (.slice ax s.e.kids.length cx) s.e.kids
 many : manyL s.e.kids ≤ 1048576
 th : s.th.length ≤ 1048576
 el : s.el.length ≤ 1048576

def StmtX.val {w : World} {lo hi : Nat} (x : StmtX w lo hi) : Value := .agg #[.int .i64 x.s.k, .int .i64 x.s.tk, .int .i64 x.s.ta, .int .i64 x.s.e.k, .int .i64 x.s.e.n, .int .i64 x.s.e.ak, .int .i64 x.s.e.at_, .slice x.ax x.s.e.kids.length x.cx, .slice x.ay x.s.th.length x.cy, .slice x.az x.s.el.length x.cz]
def StmtX.proj {w : World} {lo hi : Nat} (x : StmtX w lo hi) : StmtD × Int := (x.s, x.d)
def StmtX.encs {w : World} {lo hi : Nat} (x : StmtX w lo hi) : Array Value := #[x.val, .int .i64 x.d]

def YPostT {w0 : World} {lo hi : Nat} (n₀ n₁ : Nat) (J Jx : List (StmtX w0 lo hi) → World → Prop) (pre : List (StmtX w0 lo hi)) (l : List (StmtD × Int)) (W : World) (en : Ending) (W' : World) : Prop :=
 (en = .returned (.bool true) ∧ ∃ q, q.map StmtX.proj = l ∧ J (pre ++ q) W' ∧ KeepsP n₀ n₁ W W') ∨ (en = .returned (.bool false) ∧ ∃ q, q.map StmtX.proj <+: l ∧ Jx (pre ++ q) W')

def YieldT (F : Fence) (w0 : World) (lo hi : Nat) (l n₀ n₁ N : Nat) (J Jx : List (StmtX w0 lo hi) → World → Prop) (m : Nat) : Prop :=
 ∀ (n : Nat) (W : World) (v : Value) (ss : List StmtD) (d : Int) (pre : List (StmtX w0 lo hi)), sizeL ss ≤ m → sizeL ss ≤ 1048576 → SR w0 lo hi v ss → Below w0.heap.size w0 W → n₀ ≤ W.heap.size → n₁ ≤ W.heap.size → J pre W → pre.length + cntL ss ≤ N →
  CallsIn F n Tryz.prog 265 #[v, .int .i64 d, .func (.yield l) #[] #[]] W (YPostT n₀ n₁ J Jx pre (preT d ss) W)

set_option maxRecDepth 100000 in
set_option maxHeartbeats 8000000 in
theorem yieldT_step (F : Fence) (hd : F.depth = none) (hf : F.fn 265) (hro : F.round = none) (w0 : World) (lo hi : Nat) (hhi : hi ≤ w0.heap.size) (l n₀ n₁ N B : Nat) (h0n : w0.heap.size ≤ n₀) (J Jx : List (StmtX w0 lo hi) → World → Prop)
  (hJ : AbidesFrom B J)
  (hY : ∀ m pre (x : StmtX w0 lo hi) W, J pre W → pre.length < N → YieldAt F m Tryz.prog l x.encs W fun e W' =>
   (e = .returned (.bool true) ∧ J (pre ++ [x]) W' ∧ KeepsP n₀ n₁ W W') ∨ (e = .returned (.bool false) ∧ Jx (pre ++ [x]) W'))
  {m : Nat} (H : ∀ m', m' < m → YieldT F w0 lo hi l n₀ n₁ N J Jx m') : YieldT F w0 lo hi l n₀ n₁ N J Jx m := by
 intro n W v ss d pre hm hmm h hbW hn₀ hn₁ hJ0 hN
 obtain ⟨ad, cap, rfl, hc1, hc2⟩ := h.shape
 have hmx : ss.length ≤ 9223372036854775807 := by unfold maxLen at hc2; omega
 have hdd : ∀ k : Nat, (F.depth.isSome = true → 1 ≤ k) := fun k h => by rw [hd] at h; cases h
 have HK : Hid (SR w0 lo hi (.slice ad ss.length cap) ss) := h
 have HJ : Hid (∀ pr (w : World) o, J pr w → J pr (w.alloc o)) := fun pr w o hj => hJ pr w _ none hj (World.grownBy_alloc w _ none) (fun r e => by cases e)
 have HJ0 : Hid (J pre W) := hJ0
 have HBW : Hid (Below w0.heap.size w0 W) := hbW
 have HH : Hid (∀ m', m' < m → YieldT F w0 lo hi l n₀ n₁ N J Jx m') := H
 have HY : Hid (∀ m pre (x : StmtX w0 lo hi) W, J pre W → pre.length < N → YieldAt F m Tryz.prog l x.encs W fun e W' =>
   (e = .returned (.bool true) ∧ J (pre ++ [x]) W' ∧ KeepsP n₀ n₁ W W') ∨ (e = .returned (.bool false) ∧ Jx (pre ++ [x]) W')) := hY
 clear h hJ0 hJ hbW H hY
 refine callsIn_of_wp Tryz.func265 rfl hf ?_ hro
 simp only [Tryz.ntmps265, List.size_toArray, List.length_cons, List.length_nil, Nat.reduceAdd, Nat.reduceSub, Array.replicate_succ, Array.replicate_zero, List.push_toArray, List.append_toArray, List.nil_append, List.cons_append]
 gi_wp2_with fail
 gi_loopw [11] (fun i wr => ∃ (j : Nat) (q : List (StmtX w0 lo hi)), j ≤ ss.length ∧ i = .int .i64 j ∧ W.heap.size ≤ wr.heap.size ∧ Hid (q.map StmtX.proj = preT d (ss.take j) ∧ J (pre ++ q) wr ∧ KeepsP n₀ n₁ W wr))
  (fun i _ => ss.length - (intOf i).toNat)
 case atStart => exact ⟨0, [], Nat.zero_le _, rfl, Nat.le_refl _, by rw [List.take_zero, preT]; rfl, by rw [List.append_nil]; exact HJ0.out, KeepsP.refl _ _ _⟩
 case round =>
  obtain ⟨j, q, hj, rfl, hs, HR⟩ := hrel
  by_cases hlt : j < ss.length
  ·obtain ⟨s, hx⟩ : ∃ s, ss[j]? = some s := ⟨ss[j], List.getElem?_eq_getElem hlt⟩
   obtain ⟨b, off, cap', vx, vy, vz, hv, hb1, hb2, h5, hkx, hky, hkz⟩ := HK.out.at_ hx
   simp only [Value.slice.injEq, true_and] at hv
   obtain ⟨rfl, rfl⟩ := hv
   obtain ⟨hq1, hq2, hq3⟩ := HR.out
   have HX : Hid (ss[j]? = some s) := hx
   have hb := HBW.out.trans (hq3.low.mono h0n)
   obtain ⟨c0, c1, c2, c3, c4, c5, c6, c7, c8, c9⟩ := h5.kept (hb.block b (by omega))
   obtain ⟨ax, cx, rfl, _, _⟩ := hkx.shape
   obtain ⟨ay, cy, rfl, hy1, hy2⟩ := hky.shape
   obtain ⟨az, cz, rfl, hz1, hz2⟩ := hkz.shape
   have hkl := stmt_lt hx
   have hyl := length_le_sizeL s.th
   have hzl := length_le_sizeL s.el
   have hnl : (pre ++ q).length = pre.length + cntL (ss.take j) := by
    have := congrArg List.length hq1
    rw [List.length_map, preT_length] at this
    rw [List.length_append]
    omega
   have hts := cntL_take_succ hx
   have htl := cntL_take_le ss (j + 1)
   have hse := cntS_eq s
   obtain ⟨u1, hu1, G1, S1, J1, B1⟩ : ∃ u1, wr.alloc (.cells #[.int .i64 s.k, .int .i64 s.tk, .int .i64 s.ta, .int .i64 s.e.k, .int .i64 s.e.n, .int .i64 s.e.ak, .int .i64 s.e.at_, .slice ax s.e.kids.length cx, .slice ay s.th.length cy, .slice az s.el.length cz] 123) = u1 ∧ KeepsP n₀ n₁ wr u1 ∧ u1.heap.size = wr.heap.size + 1 ∧ J (pre ++ q) u1 ∧ u1.heap[wr.heap.size]? = some (.cells #[.int .i64 s.k, .int .i64 s.tk, .int .i64 s.ta, .int .i64 s.e.k, .int .i64 s.e.n, .int .i64 s.e.ak, .int .i64 s.e.at_, .slice ax s.e.kids.length cx, .slice ay s.th.length cy, .slice az s.el.length cz] 123) :=
    ⟨_, rfl, .alloc wr (by omega) _, by simp, HJ.out _ wr _ hq2, World.alloc_heap_new wr _⟩
   have T1 := tenW_of_block B1
   have HB1 : Hid (u1.heap[wr.heap.size]? = some (.cells #[.int .i64 s.k, .int .i64 s.tk, .int .i64 s.ta, .int .i64 s.e.k, .int .i64 s.e.n, .int .i64 s.e.ak, .int .i64 s.e.at_, .slice ax s.e.kids.length cx, .slice ay s.th.length cy, .slice az s.el.length cz] 123)) := B1
   have HG1 : Hid (KeepsP n₀ n₁ W u1) := hq3.trans G1
   have HQ1 : Hid (q.map StmtX.proj = preT d (ss.take j)) := hq1
   obtain ⟨x, hxx⟩ : ∃ x : StmtX w0 lo hi, x = ⟨s, ax, cx, ay, cy, az, cz, d, hkx, by omega, by omega, by omega⟩ := ⟨_, rfl⟩
   have HXX : Hid (x.proj = (s, d)) := by rw [hxx]; rfl
   have hxe : x.encs = #[.agg #[.int .i64 s.k, .int .i64 s.tk, .int .i64 s.ta, .int .i64 s.e.k, .int .i64 s.e.n, .int .i64 s.e.ak, .int .i64 s.e.at_, .slice ax s.e.kids.length cx, .slice ay s.th.length cy, .slice az s.el.length cz], .int .i64 d] := by rw [hxx]; rfl
   obtain ⟨fn, tmps, assign, body, hy, hR⟩ := HY.out (n - 1) (pre ++ q) x u1 J1 (by rw [hnl]; omega)
   rw [hxe] at hy
   have HU1 : Hid (wr.alloc (.cells #[.int .i64 s.k, .int .i64 s.tk, .int .i64 s.ta, .int .i64 s.e.k, .int .i64 s.e.n, .int .i64 s.e.ak, .int .i64 s.e.at_, .slice ax s.e.kids.length cx, .slice ay s.th.length cy, .slice az s.el.length cz] 123) = u1) := hu1
   have HKY : Hid (SR w0 lo hi (.slice ay s.th.length cy) s.th ∧ SR w0 lo hi (.slice az s.el.length cz) s.el) := ⟨hky, hkz⟩
   have HN : Hid ((pre ++ q).length + cntS s ≤ N ∧ cntS s = cntL s.th + cntL s.el + 1 ∧ manyL s.e.kids + sizeL s.th + sizeL s.el < sizeL ss) := ⟨by rw [hnl]; omega, hse, hkl⟩
   obtain ⟨d0, d1, d2, d3, d4, d5, d6, d7, d8, d9, _⟩ := id T1
   clear hq1 hq2 hq3 hx hkx hky hkz hkl hnl hts htl G1 J1 hb HR hxx hxe T1 B1 hse hy1 hy2 hz1 hz2 hyl hzl h5
   gi_wp2_with fail
   refine hR.mono ?_
   clear hR hy hu1 c0 c1 c2 c3 c4 c5 c6 c7 c8 c9 d0 d1 d2 d3 d4 d5 d6 d7 d8 d9
   rintro e1 W3 (⟨rfl, hJ3, hk3⟩ | ⟨rfl, hJx3⟩)
   ·have S3 := hk3.low.size
    have HB3 : Hid (W3.heap[wr.heap.size]? = some (.cells #[.int .i64 s.k, .int .i64 s.tk, .int .i64 s.ta, .int .i64 s.e.k, .int .i64 s.e.n, .int .i64 s.e.ak, .int .i64 s.e.at_, .slice ax s.e.kids.length cx, .slice ay s.th.length cy, .slice az s.el.length cz] 123)) := hk3.cells _ _ (by omega) HB1.out rfl
    have HG3 : Hid (KeepsP n₀ n₁ W W3) := HG1.out.trans hk3
    have hN := HN.out
    have hC := HH.out (sizeL s.th) (by omega) (n - 1) W3 (.slice ay s.th.length cy) s.th (wrap64 (d + 1)) (pre ++ q ++ [x]) (Nat.le_refl _) (by omega) HKY.out.1 (HBW.out.trans (HG3.out.low.mono h0n)) (by omega) (by omega) hJ3 (by rw [List.length_append, List.length_singleton]; omega)
    clear hk3 hJ3 HB1 HG1
    have c8 := (tenW_of_block HB3.out).c8
    gi_wp2_with fail
    (try refine ⟨hdd _, ?_⟩)
    refine hC.mono ?_
    clear hC c8
    rintro e2 W4 (⟨rfl, q2, hp2, hJ4, hk4⟩ | ⟨rfl, q2, hp2, hJx4⟩)
    ·have S4 := hk4.low.size
     have HB4 : Hid (W4.heap[wr.heap.size]? = some (.cells #[.int .i64 s.k, .int .i64 s.tk, .int .i64 s.ta, .int .i64 s.e.k, .int .i64 s.e.n, .int .i64 s.e.ak, .int .i64 s.e.at_, .slice ax s.e.kids.length cx, .slice ay s.th.length cy, .slice az s.el.length cz] 123)) := hk4.cells _ _ (by omega) HB3.out rfl
     have HG4 : Hid (KeepsP n₀ n₁ W W4) := HG3.out.trans hk4
     have hl2 : q2.length = cntL s.th := by have := congrArg List.length hp2; rw [List.length_map, preT_length] at this; exact this
     have hC := HH.out (sizeL s.el) (by omega) (n - 1) W4 (.slice az s.el.length cz) s.el (wrap64 (d + 1)) (pre ++ q ++ [x] ++ q2) (Nat.le_refl _) (by omega) HKY.out.2 (HBW.out.trans (HG4.out.low.mono h0n)) (by omega) (by omega) hJ4 (by simp only [List.length_append, List.length_cons, List.length_nil] at hN ⊢; omega)
     have HP2 : Hid (q2.map StmtX.proj = preT (wrap64 (d + 1)) s.th) := hp2
     clear hk4 hJ4 HB3 HG3 hp2 hl2
     have c9 := (tenW_of_block HB4.out).c9
     gi_wp2_with fail
     (try refine ⟨hdd _, ?_⟩)
     refine hC.mono ?_
     clear hC c9
     rintro e3 W5 (⟨rfl, q3, hp3, hJ5, hk5⟩ | ⟨rfl, q3, hp3, hJx5⟩)
     ·have S5 := hk5.low.size
      have HP3 : Hid (q3.map StmtX.proj = preT (wrap64 (d + 1)) s.el) := hp3
      have HJ5 : Hid (J (pre ++ q ++ [x] ++ q2 ++ q3) W5 ∧ KeepsP n₀ n₁ W W5) := ⟨hJ5, HG4.out.trans hk5⟩
      clear hp3 hJ5 hk5 HG4 HB4 hN
      gi_wp2
      go_roundw
      case rel =>
       refine ⟨j + 1, q ++ ([x] ++ (q2 ++ q3)), by omega, by go_num, by omega, ?_, ?_, HJ5.out.2⟩
       ·rw [List.map_append, List.map_append, List.map_append, HQ1.out, HP2.out, HP3.out, preT_take_succ HX.out, preS_eq]
        simp [HXX.out]
       ·have := HJ5.out.1
        simpa [List.append_assoc] using this
      case measure => simp [intOf]; omega
     ·clear HG4 HB4 hN
      gi_wp2
      go_ret
      refine .inr ⟨rfl, q ++ ([x] ++ (q2 ++ q3)), ?_, ?_⟩
      ·refine List.IsPrefix.trans ?_ (preT_take_prefix d ss (j + 1))
       rw [List.map_append, List.map_append, List.map_append, HQ1.out, HP2.out, preT_take_succ HX.out, preS_eq]
       refine (List.prefix_append_right_inj _).2 ?_
       rw [List.map_singleton, HXX.out, List.singleton_append]
       exact (List.cons_prefix_cons).2 ⟨rfl, (List.prefix_append_right_inj _).2 hp3⟩
      ·have := hJx5
       simpa [List.append_assoc] using this
    ·clear HG3 HB3 hN
     gi_wp2
     go_ret
     refine .inr ⟨rfl, q ++ ([x] ++ q2), ?_, ?_⟩
     ·refine List.IsPrefix.trans ?_ (preT_take_prefix d ss (j + 1))
      rw [List.map_append, List.map_append, HQ1.out, preT_take_succ HX.out, preS_eq]
      refine (List.prefix_append_right_inj _).2 ?_
      rw [List.map_singleton, HXX.out, List.singleton_append]
      exact (List.cons_prefix_cons).2 ⟨rfl, hp2.trans (List.prefix_append _ _)⟩
     ·have := hJx4
      simpa [List.append_assoc] using this
   ·clear HG1 HB1
    gi_wp2
    go_ret
    refine .inr ⟨rfl, q ++ [x], ?_, ?_⟩
    ·refine List.IsPrefix.trans ?_ (preT_take_prefix d ss (j + 1))
     rw [List.map_append, HQ1.out, preT_take_succ HX.out, preS_eq]
     refine (List.prefix_append_right_inj _).2 ?_
     rw [List.map_singleton, HXX.out]
     exact (List.cons_prefix_cons).2 ⟨rfl, List.nil_prefix⟩
    ·rw [← List.append_assoc]; exact hJx3
  ·obtain rfl : j = ss.length := by omega
   obtain ⟨hq1, hq2, hq3⟩ := HR.out
   rw [List.take_length] at hq1
   have HQ : Hid (q.map StmtX.proj = preT d ss ∧ J (pre ++ q) wr ∧ KeepsP n₀ n₁ W wr) := ⟨hq1, hq2, hq3⟩
   clear hq1 hq2 hq3 HR
   gi_wp2
   go_ret
   exact .inl ⟨rfl, q, HQ.out.1, HQ.out.2.1, HQ.out.2.2⟩

theorem yieldT (F : Fence) (hd : F.depth = none) (hf : F.fn 265) (hro : F.round = none) (w0 : World) (lo hi : Nat) (hhi : hi ≤ w0.heap.size) (l n₀ n₁ N B : Nat) (h0n : w0.heap.size ≤ n₀) (J Jx : List (StmtX w0 lo hi) → World → Prop)
  (hJ : AbidesFrom B J)
  (hY : ∀ m pre (x : StmtX w0 lo hi) W, J pre W → pre.length < N → YieldAt F m Tryz.prog l x.encs W fun e W' =>
   (e = .returned (.bool true) ∧ J (pre ++ [x]) W' ∧ KeepsP n₀ n₁ W W') ∨ (e = .returned (.bool false) ∧ Jx (pre ++ [x]) W')) (m : Nat) : YieldT F w0 lo hi l n₀ n₁ N J Jx m := by
 induction m using Nat.strongRecOn with
 | ind m ih => exact yieldT_step F hd hf hro w0 lo hi hhi l n₀ n₁ N B h0n J Jx hJ hY ih

set_option maxHeartbeats 1000000 in
theorem within1_in (F : Fence) (hd : F.depth = none) (n : Nat) (h5 : F.fn 264) (h6 : F.fn 265) (hro : F.round = none) (w0 : World) (lo hi : Nat) (hhi : hi ≤ w0.heap.size) (l Bt n₀ n₁ B : Nat) (h0n : w0.heap.size ≤ n₀) (ss : List StmtD) (v : Value) (J Jx : List (StmtX w0 lo hi) → World → Prop)
  (hJ : AbidesFrom B J)
  (hY : ∀ pre (x : StmtX w0 lo hi) W, J pre W → pre.length < cntL ss → YieldAt F (n - 1) Tryz.prog l x.encs W fun e W' =>
   (e = .returned (.bool true) ∧ J (pre ++ [x]) W' ∧ KeepsP n₀ n₁ W W') ∨ (e = .returned (.bool false) ∧ Jx (pre ++ [x]) W'))
  (W : World) (hBt : W.cell? ⟨Bt, 0, none⟩ = some v) (hT : SR w0 lo hi v ss) (hm : sizeL ss ≤ 1048576) (hbW : Below w0.heap.size w0 W) (hn₀ : n₀ ≤ W.heap.size) (hn₁ : n₁ ≤ W.heap.size) (h0 : J [] W) :
  CallsIn F n Tryz.prog 264 #[.func (.yield l) #[] #[], .pointer (some ⟨Bt, 0, none⟩)] W fun e' W' => (∃ v, e' = .returned v) ∧
   ((∃ ys : List (StmtX w0 lo hi), ys.map StmtX.proj = preT 0 ss ∧ J ys W') ∨ (∃ pre : List (StmtX w0 lo hi), pre.map StmtX.proj <+: preT 0 ss ∧ Jx pre W')) := by
 have hdd : ∀ k : Nat, (F.depth.isSome = true → 1 ≤ k) := fun k h => by rw [hd] at h; cases h
 have hp := yieldT F hd h6 hro w0 lo hi hhi l n₀ n₁ (cntL ss) B h0n J Jx hJ (fun m pre x W hj hl => yieldAt_any hd m (hY pre x W hj hl)) (sizeL ss) (n - 1) W v ss 0 [] (Nat.le_refl _) hm hT hbW hn₀ hn₁ h0 (by simp)
 obtain ⟨ad, cap, rfl, _, _⟩ := hT.shape
 clear hT
 refine callsIn_of_wp Tryz.func264 rfl h5 ?_ hro
 simp only [Tryz.ntmps264, List.size_toArray, List.length_cons, List.length_nil, Nat.reduceAdd, Nat.reduceSub, Array.replicate_succ, Array.replicate_zero, List.push_toArray, List.append_toArray, List.nil_append, List.cons_append]
 gi_wp2_with ((try refine ⟨hdd _, ?_⟩); gi_at_call 265; refine hp.mono ?_; clear hp; rintro e1 W1 (⟨rfl, q, hq, hJ1, _⟩ | ⟨rfl, q, hq, hx⟩))
 ·go_end0
  exact ⟨⟨_, rfl⟩, .inl ⟨q, hq, by simpa using hJ1⟩⟩
 ·go_end0
  exact ⟨⟨_, rfl⟩, .inr ⟨q, hq, by simpa using hx⟩⟩

set_option maxHeartbeats 1000000 in
theorem stmtsWithin_in (F : Fence) (n : Nat) (h4 : F.fn 214) (hro : F.round = none) (ad : Option Go.Addr) (len cap : Nat) (w : World) :
  CallsIn F n Tryz.prog 214 #[.slice ad len cap] w fun e w' => e = .returned (.func (.func 264) #[] #[.pointer (some ⟨w.heap.size, 0, none⟩)]) ∧ w' = w.alloc (.cells #[.slice ad len cap] 34) := by
 refine callsIn_of_wp Tryz.func214 rfl h4 ?_ hro
 simp only [Tryz.ntmps214, List.size_toArray, List.length_cons, List.length_nil, Nat.reduceAdd, Nat.reduceSub, Array.replicate_succ, Array.replicate_zero, List.push_toArray, List.append_toArray, List.nil_append, List.cons_append]
 gi_wp2
 go_ret
 exact ⟨rfl, rfl⟩

theorem stmts_stops (F : Fence) (hd : F.depth = none) (n : Nat) (h5 : F.fn 264) (h6 : F.fn 265) (hro : F.round = none) (w0 : World) (lo hi : Nat) (hhi : hi ≤ w0.heap.size) (Bt n₀ n₁ : Nat) (h0n : w0.heap.size ≤ n₀) (ss : List StmtD) (v : Value) (w : World) (hBt : Bt < w.heap.size) (hn₀ : n₀ ≤ w.heap.size) (hn₁ : n₁ ≤ w.heap.size)
  (hb : Below w0.heap.size w0 w) (hc : w.cell? ⟨Bt, 0, none⟩ = some v) (hT : SR w0 lo hi v ss) (hm : sizeL ss ≤ 1048576) :
  SeqStopsK F n Tryz.prog 264 #[.pointer (some ⟨Bt, 0, none⟩)] (StmtX.encs (w := w0) (lo := lo) (hi := hi)) (KeepsP n₀ n₁) (fun ys => ys.map StmtX.proj = preT 0 ss) (fun pre => pre.map StmtX.proj <+: preT 0 ss) (cntL ss) w := fun l J Jx W hW hJ _ hY h0 =>
 within1_in F hd n h5 h6 hro w0 lo hi hhi l Bt n₀ n₁ W.heap.size h0n ss v J Jx hJ hY W ((hW.cell (p := ⟨Bt, 0, none⟩) hBt).trans hc) hT hm (hb.trans (hW.mono hb.size)) (Nat.le_trans hn₀ hW.size) (Nat.le_trans hn₁ hW.size) h0
end Go.Proofs.YtaoiookfmgpmkaaGreatDoor

/-
 What the parts of chapter 2 (package impl) answer: a place's kind, AddrOk, the row of a kind, slices.Equal and slices.Clone of numbers.
-/
namespace Go.Proofs.YtaoiookfmgpmkaaGreatDoor
open Go.ChangeShapes Go.WideShapes Go.ChangeAt Go.RowKit
set_option linter.unusedVariables false

def kindOk (k : Int) : Bool := decide (1 ≤ k) && decide (k ≤ 3)

theorem placeOk_any (w : World) (k : Int) :
  Calls Tryz.prog 239 #[.int .i64 k] w fun e w' => e = .returned (.bool (kindOk k)) ∧ w' = w := by
 by_cases h1 : 1 ≤ k
 ·by_cases h2 : k ≤ 3
  ·rw [show kindOk k = true by simp [kindOk, h1, h2]]
   go_enter Tryz.func239, Tryz.ntmps239
   go_wp2
   go_ret
   exact ⟨rfl, rfl⟩
  ·rw [show kindOk k = false by simp [kindOk, h2]]
   go_enter Tryz.func239, Tryz.ntmps239
   go_wp2
   go_ret
   exact ⟨rfl, rfl⟩
 ·rw [show kindOk k = false by simp [kindOk, h1]]
  go_enter Tryz.func239, Tryz.ntmps239
  go_wp2
  go_ret
  exact ⟨rfl, rfl⟩

theorem kindOk_addr (k t : Int) : addrOk ⟨k, t⟩ = (kindOk k && decide (0 ≤ t) && decide (t < 6)) := rfl

set_option maxHeartbeats 400000 in
theorem iAddrOk_any (w : World) (k t : Int) :
  Calls Tryz.prog 192 #[AddrD.val ⟨k, t⟩] w fun e w' => e = .returned (.bool (addrOk ⟨k, t⟩)) ∧ Below w.heap.size w w' := by
 have b1 := fun o => (Below.refl w.heap.size w).alloc (Nat.le_refl _) o
 rw [kindOk_addr]
 unfold AddrD.val
 cases hk : kindOk k
 ·go_enter Tryz.func192, Tryz.ntmps192
  go_wp2_with fail
  refine (placeOk_any _ _).mono ?_
  rw [hk]
  rintro e w1 ⟨rfl, rfl⟩
  go_wp2
  go_ret
  exact ⟨rfl, b1 _⟩
 ·by_cases h3 : 0 ≤ t
  ·by_cases h4 : t < 6
   ·rw [show (true && decide (0 ≤ t) && decide (t < 6)) = true by simp [h3, h4]]
    go_enter Tryz.func192, Tryz.ntmps192
    go_wp2_with fail
    refine (placeOk_any _ _).mono ?_
    rw [hk]
    rintro e w1 ⟨rfl, rfl⟩
    go_wp2
    go_ret
    exact ⟨rfl, b1 _⟩
   ·rw [show (true && decide (0 ≤ t) && decide (t < 6)) = false by simp [h4]]
    go_enter Tryz.func192, Tryz.ntmps192
    go_wp2_with fail
    refine (placeOk_any _ _).mono ?_
    rw [hk]
    rintro e w1 ⟨rfl, rfl⟩
    go_wp2
    go_ret
    exact ⟨ret_bool (decide_eq_false (by omega)), b1 _⟩
  ·rw [show (true && decide (0 ≤ t) && decide (t < 6)) = false by simp [h3]]
   go_enter Tryz.func192, Tryz.ntmps192
   go_wp2_with fail
   refine (placeOk_any _ _).mono ?_
   rw [hk]
   rintro e w1 ⟨rfl, rfl⟩
   go_wp2
   go_ret
   exact ⟨rfl, b1 _⟩

theorem takes_any (w : World) (k : Int) :
  Calls Tryz.prog 193 #[.int .i64 k] w fun e w' => e = .returned (.bool (kindOk k && (k != 1))) ∧ w' = w := by
 cases hk : kindOk k
 ·go_enter Tryz.func193, Tryz.ntmps193
  go_wp2_with fail
  refine (placeOk_any _ _).mono ?_
  rw [hk]
  rintro e w1 ⟨rfl, rfl⟩
  go_wp2
  go_ret
  exact ⟨rfl, rfl⟩
 ·go_enter Tryz.func193, Tryz.ntmps193
  go_wp2_with fail
  refine (placeOk_any _ _).mono ?_
  rw [hk]
  rintro e w1 ⟨rfl, rfl⟩
  go_wp2
  go_ret
  exact ⟨rfl, rfl⟩

end Go.Proofs.YtaoiookfmgpmkaaGreatDoor

/-
 Kinds of what is reckoned, behind an interface: kindOf, kids, fits, partOk.
-/
namespace Go.Proofs.YtaoiookfmgpmkaaGreatDoor
open Go.ChangeShapes Go.WideShapes Go.ChangeAt Go.RowKit
set_option linter.unusedVariables false

def kindV (k : Int) : Value := if k = 1 then .iface 399 (.agg #[]) else if k = 2 then .iface 400 (.agg #[]) else if 3 ≤ k ∧ k ≤ 9 then .iface 342 (.int .i64 k) else if k = 10 then .iface 401 (.agg #[]) else .nilIface

set_option maxHeartbeats 1000000 in
theorem kindOf_any (w : World) (k : Int) :
  Calls Tryz.prog 299 #[.int .i64 k] w fun e w' => e = .returned (kindV k) ∧ w' = w := by
 unfold kindV
 by_cases h1 : k = 1
 ·subst h1
  go_enter Tryz.func299, Tryz.ntmps299
  go_wp2
  go_ret
  exact ⟨rfl, rfl⟩
 by_cases h2 : k = 2
 ·subst h2
  go_enter Tryz.func299, Tryz.ntmps299
  go_wp2
  go_ret
  exact ⟨rfl, rfl⟩
 have b1 : (k == 1) = false := by simp [h1]
 have b2 : (k == 2) = false := by simp [h2]
 rw [if_neg h1, if_neg h2]
 by_cases h3 : 3 ≤ k
 ·by_cases h4 : k ≤ 9
  ·rw [if_pos ⟨h3, h4⟩]
   clear h1 h2
   go_enter Tryz.func299, Tryz.ntmps299
   go_wp2
   go_ret
   exact ⟨rfl, rfl⟩
  ·rw [if_neg (by omega)]
   by_cases h5 : k = 10
   ·subst h5
    go_enter Tryz.func299, Tryz.ntmps299
    go_wp2
    go_ret
    exact ⟨rfl, rfl⟩
   ·have b3 : (k == 10) = false := by simp [h5]
    rw [if_neg h5]
    clear h1 h2 h5
    go_enter Tryz.func299, Tryz.ntmps299
    go_wp2
    go_ret
    exact ⟨rfl, rfl⟩
 ·rw [if_neg (by omega), if_neg (by omega)]
  have b3 : (k == 10) = false := by simp; omega
  clear h1 h2
  go_enter Tryz.func299, Tryz.ntmps299
  go_wp2
  go_ret
  exact ⟨rfl, rfl⟩

theorem m_kids_num : ∀ w : World, (method 547 399 (.agg #[]) "loop.example/stopgate/impl.kids").run Tryz.prog w = .ok (377, .agg #[]) w := fun _ => by kernel_rfl
theorem m_fits_num : ∀ w : World, (method 547 399 (.agg #[]) "loop.example/stopgate/impl.fits").run Tryz.prog w = .ok (376, .agg #[]) w := fun _ => by kernel_rfl
theorem m_kids_addr : ∀ w : World, (method 547 400 (.agg #[]) "loop.example/stopgate/impl.kids").run Tryz.prog w = .ok (381, .agg #[]) w := fun _ => by kernel_rfl
theorem m_fits_addr : ∀ w : World, (method 547 400 (.agg #[]) "loop.example/stopgate/impl.fits").run Tryz.prog w = .ok (380, .agg #[]) w := fun _ => by kernel_rfl
theorem m_kids_two (k : Int) : ∀ w : World, (method 547 342 (.int .i64 k) "loop.example/stopgate/impl.kids").run Tryz.prog w = .ok (334, .int .i64 k) w := fun _ => by kernel_rfl
theorem m_fits_two (k : Int) : ∀ w : World, (method 547 342 (.int .i64 k) "loop.example/stopgate/impl.fits").run Tryz.prog w = .ok (333, .int .i64 k) w := fun _ => by kernel_rfl
theorem m_kids_not : ∀ w : World, (method 547 401 (.agg #[]) "loop.example/stopgate/impl.kids").run Tryz.prog w = .ok (385, .agg #[]) w := fun _ => by kernel_rfl
theorem m_fits_not : ∀ w : World, (method 547 401 (.agg #[]) "loop.example/stopgate/impl.fits").run Tryz.prog w = .ok (384, .agg #[]) w := fun _ => by kernel_rfl

theorem kids_num (w : World) : Calls Tryz.prog 377 #[.agg #[]] w fun e w' => e = .returned (.int .i64 0) ∧ Below w.heap.size w w' := by
 have b0 := Below.refl w.heap.size w
 have b1 := fun o => (Below.refl w.heap.size w).alloc (Nat.le_refl _) o
 go_enter Tryz.func377, Tryz.ntmps377
 go_wp2
 go_ret
 exact ⟨rfl, by first | exact b1 _ | exact b0⟩

theorem kids_addr (w : World) : Calls Tryz.prog 381 #[.agg #[]] w fun e w' => e = .returned (.int .i64 0) ∧ Below w.heap.size w w' := by
 have b0 := Below.refl w.heap.size w
 have b1 := fun o => (Below.refl w.heap.size w).alloc (Nat.le_refl _) o
 go_enter Tryz.func381, Tryz.ntmps381
 go_wp2
 go_ret
 exact ⟨rfl, by first | exact b1 _ | exact b0⟩

theorem kids_two (w : World) (k : Int) : Calls Tryz.prog 334 #[.int .i64 k] w fun e w' => e = .returned (.int .i64 2) ∧ Below w.heap.size w w' := by
 have b0 := Below.refl w.heap.size w
 have b1 := fun o => (Below.refl w.heap.size w).alloc (Nat.le_refl _) o
 go_enter Tryz.func334, Tryz.ntmps334
 go_wp2
 go_ret
 exact ⟨rfl, by first | exact b1 _ | exact b0⟩

theorem kids_not (w : World) : Calls Tryz.prog 385 #[.agg #[]] w fun e w' => e = .returned (.int .i64 1) ∧ Below w.heap.size w w' := by
 have b0 := Below.refl w.heap.size w
 have b1 := fun o => (Below.refl w.heap.size w).alloc (Nat.le_refl _) o
 go_enter Tryz.func385, Tryz.ntmps385
 go_wp2
 go_ret
 exact ⟨rfl, by first | exact b1 _ | exact b0⟩

def noneB (n a t : Int) : Bool := (n == 0) && ((a == 0) && (t == 0))

set_option maxHeartbeats 1000000 in
theorem holdsNone_any (w : World) (k n a t : Int) (s : Value) (ad : Option Go.Addr) (len cap : Nat) (hs : s = .slice ad len cap) :
  Calls Tryz.prog 335 #[.agg #[.int .i64 k, .int .i64 n, .int .i64 a, .int .i64 t, s]] w fun e w' => e = .returned (.bool (noneB n a t)) ∧ Below w.heap.size w w' := by
 subst hs
 have b1 := fun o => (Below.refl w.heap.size w).alloc (Nat.le_refl _) o
 unfold noneB
 by_cases h1 : n = 0
 ·subst h1
  by_cases h2 : a = 0
  ·subst h2
   by_cases h3 : t = 0
   ·subst h3
    go_enter Tryz.func335, Tryz.ntmps335
    go_wp2
    go_ret
    exact ⟨rfl, b1 _⟩
   ·have e3 : (t == 0) = false := by simp [h3]
    go_enter Tryz.func335, Tryz.ntmps335
    go_wp2
    go_ret
    exact ⟨by rw [e3]; rfl, b1 _⟩
  ·have e2 : (a == 0) = false := by simp [h2]
   go_enter Tryz.func335, Tryz.ntmps335
   go_wp2
   go_ret
   exact ⟨by rw [e2]; rfl, b1 _⟩
 ·have e1 : (n == 0) = false := by simp [h1]
  go_enter Tryz.func335, Tryz.ntmps335
  go_wp2
  go_ret
  exact ⟨by rw [e1]; rfl, b1 _⟩
end Go.Proofs.YtaoiookfmgpmkaaGreatDoor

/-
 Kinds of what is reckoned: fits; a part is right by itself.
-/
namespace Go.Proofs.YtaoiookfmgpmkaaGreatDoor
open Go.ChangeShapes Go.WideShapes Go.ChangeAt Go.RowKit
set_option linter.unusedVariables false

set_option maxHeartbeats 1000000 in
theorem fits_num (w : World) (k n a t : Int) (ad : Option Go.Addr) (len cap : Nat) :
  Calls Tryz.prog 376 #[.agg #[], .agg #[.int .i64 k, .int .i64 n, .int .i64 a, .int .i64 t, .slice ad len cap]] w fun e w' => e = .returned (.bool ((cutZ n == n) && ((a == 0) && (t == 0)))) ∧ Below w.heap.size w w' := by
 have b2 := fun o o' => ((Below.refl w.heap.size w).alloc (Nat.le_refl _) o).alloc (by simp) o'
 have hcut := fun W => numCut_any n W
 cases h1 : (cutZ n == n) with
 | true =>
  cases h2 : (a == 0) with
  | true =>
   cases h3 : (t == 0) with
   | true =>
    go_enter Tryz.func376, Tryz.ntmps376
    go_wp2_with fail
    go_quiet ((go_at_call 194; exact Calls.quiet_of_same (hcut _)))
    go_wp2
    go_ret
    exact ⟨rfl, below_drewN (b2 _ _) nq⟩
   | false =>
    go_enter Tryz.func376, Tryz.ntmps376
    go_wp2_with fail
    go_quiet ((go_at_call 194; exact Calls.quiet_of_same (hcut _)))
    go_wp2
    go_ret
    exact ⟨rfl, below_drewN (b2 _ _) nq⟩
  | false =>
   go_enter Tryz.func376, Tryz.ntmps376
   go_wp2_with fail
   go_quiet ((go_at_call 194; exact Calls.quiet_of_same (hcut _)))
   go_wp2
   go_ret
   exact ⟨rfl, below_drewN (b2 _ _) nq⟩
 | false =>
  go_enter Tryz.func376, Tryz.ntmps376
  go_wp2_with fail
  go_quiet ((go_at_call 194; exact Calls.quiet_of_same (hcut _)))
  go_wp2
  go_ret
  exact ⟨rfl, below_drewN (b2 _ _) nq⟩

set_option maxHeartbeats 1000000 in
theorem fits_addr (w : World) (k n a t : Int) (ad : Option Go.Addr) (len cap : Nat) :
  Calls Tryz.prog 380 #[.agg #[], .agg #[.int .i64 k, .int .i64 n, .int .i64 a, .int .i64 t, .slice ad len cap]] w fun e w' => e = .returned (.bool ((n == 0) && addrOk ⟨a, t⟩)) ∧ Below w.heap.size w w' := by
 have b2 := fun o o' => ((Below.refl w.heap.size w).alloc (Nat.le_refl _) o).alloc (by simp) o'
 have hao := fun W => iAddrOk_any W a t
 have ev : AddrD.val ⟨a, t⟩ = .agg #[.int .i64 a, .int .i64 t] := rfl
 rw [ev] at hao
 clear ev
 by_cases h1 : n = 0
 ·have e1 : (n == 0) = true := by simp [h1]
  rw [e1, Bool.true_and]
  generalize addrOk ⟨a, t⟩ = r at *
  subst h1
  go_enter Tryz.func380, Tryz.ntmps380
  go_wp2_with fail
  refine (hao _).mono ?_
  rintro e w1 ⟨rfl, g1⟩
  go_wp2
  go_ret
  exact ⟨rfl, (b2 _ _).trans (g1.mono (by simp; omega))⟩
 ·have e1 : (n == 0) = false := by simp [h1]
  rw [e1, Bool.false_and]
  clear hao
  go_enter Tryz.func380, Tryz.ntmps380
  go_wp2
  go_ret
  exact ⟨rfl, b2 _ _⟩

theorem fits_two (w : World) (j k n a t : Int) (ad : Option Go.Addr) (len cap : Nat) :
  Calls Tryz.prog 333 #[.int .i64 j, .agg #[.int .i64 k, .int .i64 n, .int .i64 a, .int .i64 t, .slice ad len cap]] w fun e w' => e = .returned (.bool (noneB n a t)) ∧ Below w.heap.size w w' := by
 have b1 := fun o => (Below.refl w.heap.size w).alloc (Nat.le_refl _) o
 have hn := fun W => holdsNone_any W k n a t _ ad len cap rfl
 generalize noneB n a t = r at *
 go_enter Tryz.func333, Tryz.ntmps333
 go_wp2_with fail
 refine (hn _).mono ?_
 rintro e w1 ⟨rfl, g1⟩
 go_wp2
 go_ret
 exact ⟨rfl, (b1 _).trans (g1.mono (by simp))⟩

theorem fits_not (w : World) (k n a t : Int) (ad : Option Go.Addr) (len cap : Nat) :
  Calls Tryz.prog 384 #[.agg #[], .agg #[.int .i64 k, .int .i64 n, .int .i64 a, .int .i64 t, .slice ad len cap]] w fun e w' => e = .returned (.bool (noneB n a t)) ∧ Below w.heap.size w w' := by
 have b2 := fun o o' => ((Below.refl w.heap.size w).alloc (Nat.le_refl _) o).alloc (by simp) o'
 have hn := fun W => holdsNone_any W k n a t _ ad len cap rfl
 generalize noneB n a t = r at *
 go_enter Tryz.func384, Tryz.ntmps384
 go_wp2_with fail
 refine (hn _).mono ?_
 rintro e w1 ⟨rfl, g1⟩
 go_wp2
 go_ret
 exact ⟨rfl, (b2 _ _).trans (g1.mono (by simp; omega))⟩

theorem below_drewU {u u1 : World} (g : Below u.drew.heap.size u.drew u1) : Below u.heap.size u u1 := (Below.drew (Below.refl _ _)).trans g
theorem Five.drewU {u u1 : World} {B : Nat} {v0 v1 v2 v3 v4 : Value} (h : Five u B v0 v1 v2 v3 v4) (g : Below u.drew.heap.size u.drew u1) (hB : B < u.heap.size) : Five u1 B v0 v1 v2 v3 v4 := h.under (below_drewU g) hB

set_option maxRecDepth 100000 in
set_option maxHeartbeats 4000000 in
theorem partOk_gen (w : World) (k n a t : Int) (ad : Option Go.Addr) (len cap : Nat) (T : TypeId) (v : Value) (fk ff : Nat) (nk : Int) (r : Bool) (hkv : kindV k = .iface T v)
  (hm1 : ∀ w : World, (method 547 T v "loop.example/stopgate/impl.kids").run Tryz.prog w = .ok (fk, v) w)
  (hm2 : ∀ w : World, (method 547 T v "loop.example/stopgate/impl.fits").run Tryz.prog w = .ok (ff, v) w)
  (he1 : ∀ (args : Array Value) (w : World), (callFunc fk args).run Tryz.prog w = .ok (.enter fk args) w)
  (he2 : ∀ (args : Array Value) (w : World), (callFunc ff args).run Tryz.prog w = .ok (.enter ff args) w)
  (hk : ∀ W : World, Calls Tryz.prog fk #[v] W fun e w' => e = .returned (.int .i64 nk) ∧ Below W.heap.size W w')
  (hf : ∀ W : World, Calls Tryz.prog ff #[v, .agg #[.int .i64 k, .int .i64 n, .int .i64 a, .int .i64 t, .slice ad len cap]] W fun e w' => e = .returned (.bool r) ∧ Below W.heap.size W w') :
  Calls Tryz.prog 291 #[.agg #[.int .i64 k, .int .i64 n, .int .i64 a, .int .i64 t, .slice ad len cap]] w fun e w' => e = .returned (.bool (((len : Int) == nk) && r)) ∧ Below w.heap.size w w' := by
 have hko := fun W => kindOf_any W k
 rw [hkv] at hko
 clear hkv
 go_enter Tryz.func291, Tryz.ntmps291
 go_wp2_with fail
 refine (hko _).mono ?_
 rintro e w1 ⟨rfl, rfl⟩
 clear hko
 go_wp2_with fail
 obtain ⟨u0, hu0, G0, F0, S0⟩ : ∃ u0, w.alloc (.cells #[.int .i64 k, .int .i64 n, .int .i64 a, .int .i64 t, .slice ad len cap] 121) = u0 ∧ Below w.heap.size w u0 ∧ Five u0 w.heap.size (.int .i64 k) (.int .i64 n) (.int .i64 a) (.int .i64 t) (.slice ad len cap) ∧ u0.heap.size = w.heap.size + 1 :=
  ⟨_, rfl, (Below.refl w.heap.size w).alloc (Nat.le_refl _) _, five_new w _ _ _ _ _ _, by simp⟩
 rw [hu0]
 clear hu0
 obtain ⟨c0, c1, c2, c3, c4, _⟩ := id F0
 have L0 : w.heap.size < u0.heap.size := by omega
 cases hq : ((len : Int) == nk) with
 | true =>
  go_region_with (first | (refine (hk _).mono ?_; clear hk; rintro e w1 ⟨rfl, g1⟩; obtain ⟨d0, d1, d2, d3, d4, _⟩ := F0.drewU g1 L0; have g1' := below_drewU g1) | (refine (hf _).mono ?_; rintro e w2 ⟨rfl, g2⟩))
  all_goals (go_simp; go_wp2; go_ret; exact ⟨by rw [hq]; simp, G0.trans ((below_two g1' g2).mono G0.size)⟩)
 | false =>
  clear hf
  first
   | go_region_with (refine (hk _).mono ?_; clear hk; rintro e w1 ⟨rfl, g1⟩; obtain ⟨d0, d1, d2, d3, d4, _⟩ := F0.drewU g1 L0; have g1' := below_drewU g1)
   | fail
  all_goals (go_simp; go_wp2; go_ret; exact ⟨by rw [hq]; simp, G0.trans (g1'.mono G0.size)⟩)
end Go.Proofs.YtaoiookfmgpmkaaGreatDoor

/-
 A part is right by itself, whatever it is.
-/
namespace Go.Proofs.YtaoiookfmgpmkaaGreatDoor
open Go.ChangeShapes Go.WideShapes Go.ChangeAt Go.RowKit
set_option linter.unusedVariables false

theorem calls_num_kids (args : Array Value) (w : World) : (callFunc 377 args).run Tryz.prog w = .ok (.enter 377 args) w := by kernel_rfl
theorem calls_num_fits (args : Array Value) (w : World) : (callFunc 376 args).run Tryz.prog w = .ok (.enter 376 args) w := by kernel_rfl
theorem calls_addr_kids (args : Array Value) (w : World) : (callFunc 381 args).run Tryz.prog w = .ok (.enter 381 args) w := by kernel_rfl
theorem calls_addr_fits (args : Array Value) (w : World) : (callFunc 380 args).run Tryz.prog w = .ok (.enter 380 args) w := by kernel_rfl
theorem calls_two_kids (args : Array Value) (w : World) : (callFunc 334 args).run Tryz.prog w = .ok (.enter 334 args) w := by kernel_rfl
theorem calls_two_fits (args : Array Value) (w : World) : (callFunc 333 args).run Tryz.prog w = .ok (.enter 333 args) w := by kernel_rfl
theorem calls_not_kids (args : Array Value) (w : World) : (callFunc 385 args).run Tryz.prog w = .ok (.enter 385 args) w := by kernel_rfl
theorem calls_not_fits (args : Array Value) (w : World) : (callFunc 384 args).run Tryz.prog w = .ok (.enter 384 args) w := by kernel_rfl

set_option maxRecDepth 100000 in
set_option maxHeartbeats 1000000 in
theorem partOk_nil (w : World) (k n a t : Int) (ad : Option Go.Addr) (len cap : Nat) (hkv : kindV k = .nilIface) :
  Calls Tryz.prog 291 #[.agg #[.int .i64 k, .int .i64 n, .int .i64 a, .int .i64 t, .slice ad len cap]] w fun e w' => e = .returned (.bool false) ∧ Below w.heap.size w w' := by
 have hko := fun W => kindOf_any W k
 rw [hkv] at hko
 have b1 := fun o => (Below.refl w.heap.size w).alloc (Nat.le_refl _) o
 clear hkv
 go_enter Tryz.func291, Tryz.ntmps291
 go_wp2_with fail
 refine (hko _).mono ?_
 rintro e w1 ⟨rfl, rfl⟩
 clear hko
 go_wp2_with fail
 go_quiet (fail)
 go_wp2
 go_ret
 exact ⟨rfl, below_drewN (b1 _) nq⟩

theorem beq_flip (x y : Int) : (x == y) = (y == x) := by rw [Bool.eq_iff_iff]; simp; exact eq_comm

theorem partOk_any (w : World) (e : ExprD) (ad : Option Go.Addr) (cap : Nat) :
  Calls Tryz.prog 291 #[.agg #[.int .i64 e.k, .int .i64 e.n, .int .i64 e.ak, .int .i64 e.at_, .slice ad e.kids.length cap]] w fun en w' => en = .returned (.bool (partB e)) ∧ Below w.heap.size w w' := by
 by_cases h1 : e.k = 1
 ·have hp : partB e = (((e.kids.length : Int) == 0) && ((cutZ e.n == e.n) && ((e.ak == 0) && (e.at_ == 0)))) := by
   unfold partB nOk aOk kidsOf
   rw [if_pos h1, if_pos h1, if_neg (by omega), beq_flip, Bool.and_assoc]
  rw [hp]
  refine partOk_gen w e.k e.n e.ak e.at_ ad e.kids.length cap 399 (.agg #[]) 377 376 0 _ ?_ m_kids_num m_fits_num calls_num_kids calls_num_fits kids_num (fun W => fits_num W _ _ _ _ _ _ _)
  unfold kindV; rw [if_pos h1]
 by_cases h2 : e.k = 2
 ·have hp : partB e = (((e.kids.length : Int) == 0) && ((e.n == 0) && addrOk ⟨e.ak, e.at_⟩)) := by
   unfold partB nOk aOk kidsOf
   rw [if_neg h1, if_pos h2, if_neg h1, if_pos h2, beq_flip, Bool.and_assoc]
  rw [hp]
  refine partOk_gen w e.k e.n e.ak e.at_ ad e.kids.length cap 400 (.agg #[]) 381 380 0 _ ?_ m_kids_addr m_fits_addr calls_addr_kids calls_addr_fits kids_addr (fun W => fits_addr W _ _ _ _ _ _ _)
  unfold kindV; rw [if_neg h1, if_pos h2]
 by_cases h3 : 3 ≤ e.k ∧ e.k ≤ 9
 ·have hp : partB e = (((e.kids.length : Int) == 2) && noneB e.n e.ak e.at_) := by
   unfold partB nOk aOk kidsOf noneB
   rw [if_neg h1, if_neg h2, if_neg (by omega), if_pos h3, if_neg h1, if_neg h2, beq_flip, Bool.and_assoc]
  rw [hp]
  refine partOk_gen w e.k e.n e.ak e.at_ ad e.kids.length cap 342 (.int .i64 e.k) 334 333 2 _ ?_ (m_kids_two _) (m_fits_two _) calls_two_kids calls_two_fits (fun W => kids_two W _) (fun W => fits_two W _ _ _ _ _ _ _ _)
  unfold kindV; rw [if_neg h1, if_neg h2, if_pos h3]
 by_cases h4 : e.k = 10
 ·have hp : partB e = (((e.kids.length : Int) == 1) && noneB e.n e.ak e.at_) := by
   unfold partB nOk aOk kidsOf noneB
   rw [if_neg h1, if_neg h2, if_pos h4, if_neg h1, if_neg h2, beq_flip, Bool.and_assoc]
  rw [hp]
  refine partOk_gen w e.k e.n e.ak e.at_ ad e.kids.length cap 401 (.agg #[]) 385 384 1 _ ?_ m_kids_not m_fits_not calls_not_kids calls_not_fits kids_not (fun W => fits_not W _ _ _ _ _ _ _)
  unfold kindV; rw [if_neg h1, if_neg h2, if_neg h3, if_pos h4]
 ·have hp : partB e = false := by
   unfold partB kidsOf
   rw [if_neg h1, if_neg h2, if_neg h4, if_neg h3, show ((-1 : Int) == (e.kids.length : Int)) = false by simp, Bool.false_and, Bool.false_and]
  rw [hp]
  refine partOk_nil w _ _ _ _ _ _ _ ?_
  unfold kindV; rw [if_neg h1, if_neg h2, if_neg h3, if_neg h4]
end Go.Proofs.YtaoiookfmgpmkaaGreatDoor
