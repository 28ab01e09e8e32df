/-
  The program's coder: an instruction made (add), and told where to go (toHere). (Written by our generator gen_coder.py.)
-/
import Derived.Test.YtaoiookfmgpmkaaGreatDoorInsRow
import Derived.Test.YtaoiookfmgpmkaaGreatDoorDag2
namespace Go.Proofs.YtaoiookfmgpmkaaGreatDoor
open Go.ChangeShapes Go.WideShapes Go.ChangeAt Go.RowKit
set_option linter.unusedVariables false
set_option maxRecDepth 100000

/-- A coder: a variable that holds a row of code. -/
structure Cod (w : World) (B A : Nat) (v : Value) (ps : List InsD) : Prop where
  c : w.cell? ⟨B, 0, none⟩ = some v
  f : ∀ o, w.frozen? ⟨B, o, none⟩ = false
  row : RowI w A v ps
  ne : v.ownBlock ≠ some B
  lt : B < w.heap.size

theorem Cod.at_ {w w' : World} {B A : Nat} {v : Value} {ps : List InsD} (h : Cod w B A v ps) (hB : w'.heap[B]? = w.heap[B]?) (hv : ∀ g, v.ownBlock = some g → w'.heap[g]? = w.heap[g]?) (hs : w.heap.size ≤ w'.heap.size) : Cod w' B A v ps :=
  ⟨by rw [World.cell?_of_block (w := w) hB]; exact h.c, fun o => by rw [World.frozen?_of_block (w := w) hB]; exact h.f o, h.row.at_ hv, h.ne, Nat.lt_of_lt_of_le h.lt hs⟩

theorem Cod.below {w w' : World} {B A n : Nat} {v : Value} {ps : List InsD} (h : Cod w B A v ps) (hb : Below n w w') (hn : w.heap.size ≤ n) : Cod w' B A v ps :=
  h.at_ (hb.block B (by have := h.lt; omega)) (fun g hg => hb.block g (by have := (h.row.lt g hg).2; omega)) hb.size

/-- Blocks of P are as they were. -/
structure Keep (P : Nat → Prop) (w w' : World) : Prop where
  os : w'.os = w.os
  tape : w'.tape = w.tape
  output : w'.output = w.output
  size : w.heap.size ≤ w'.heap.size
  block : ∀ k, P k → w'.heap[k]? = w.heap[k]?

theorem Keep.refl (P : Nat → Prop) (w : World) : Keep P w w := ⟨rfl, rfl, rfl, Nat.le_refl _, fun _ _ => rfl⟩
theorem Keep.trans {P : Nat → Prop} {a b c : World} (h : Keep P a b) (k : Keep P b c) : Keep P a c := ⟨k.os.trans h.os, k.tape.trans h.tape, k.output.trans h.output, Nat.le_trans h.size k.size, fun i hi => (k.block i hi).trans (h.block i hi)⟩
theorem Keep.mono {P Q : Nat → Prop} {a b : World} (h : Keep P a b) (hq : ∀ k, Q k → P k) : Keep Q a b := ⟨h.os, h.tape, h.output, h.size, fun k hk => h.block k (hq k hk)⟩
theorem keep_of_below {P : Nat → Prop} {n : Nat} {a b : World} (h : Below n a b) (hp : ∀ k, P k → k < n) : Keep P a b := ⟨h.os, h.tape, h.output, h.size, fun k hk => h.block k (hp k hk)⟩

/-- What the coder's turns leave of all else: B the coder's block, v its row ahead, v' behind. -/
structure CodT (B : Nat) (v v' : Value) (w w' : World) : Prop where
  keep : Keep (fun k => k < w.heap.size ∧ k ≠ B ∧ some k ≠ v.ownBlock) w w'
  at_ : v'.ownBlock = v.ownBlock ∨ ∃ g, v'.ownBlock = some g ∧ w.heap.size ≤ g

theorem CodT.refl (B : Nat) (v : Value) (w : World) : CodT B v v w w := ⟨Keep.refl _ _, .inl rfl⟩
theorem CodT.trans {B : Nat} {v v' v'' : Value} {a b c : World} (h : CodT B v v' a b) (k : CodT B v' v'' b c) : CodT B v v'' a c := by
  refine ⟨h.keep.trans (k.keep.mono fun i hi => ⟨Nat.lt_of_lt_of_le hi.1 h.keep.size, hi.2.1, ?_⟩), ?_⟩
  · rcases h.at_ with e | ⟨g, e, hg⟩
    · rw [e]; exact hi.2.2
    · rw [e]; intro e2; simp only [Option.some.injEq] at e2; have := hi.1; omega
  · rcases k.at_ with e | ⟨g, e, hg⟩
    · rw [e]; exact h.at_
    · exact .inr ⟨g, e, Nat.le_trans h.keep.size hg⟩
theorem codT_below {B n : Nat} {v : Value} {a b : World} (h : Below n a b) (hn : a.heap.size ≤ n) : CodT B v v a b := ⟨keep_of_below h fun k hk => by have := hk.1; omega, .inl rfl⟩

theorem CodT.below {B A : Nat} {v v' : Value} {w w' : World} {ps : List InsD} (h : CodT B v v' w w') (hc : Cod w B A v ps) (hA : A ≤ B) (hn : A ≤ w.heap.size) : Below A w w' :=
  ⟨h.keep.os, h.keep.tape, h.keep.output, h.keep.size, fun k hk => h.keep.block k ⟨by omega, by omega, fun e => by have := (hc.row.lt k e.symm).1; omega⟩⟩

/-- What holds as the operations of 'c.code = append(c.code, ins)' are done: 6 lays the instruction, 7 appends, 10 stores. -/
structure AddJ (N B A : Nat) (v : Value) (ps : List InsD) (p : InsD) (L : Array Bool) (a : Act) (u : World) : Prop where
  j0 : L.getD 7 true = false → Cod u B A v ps
  j6 : L.getD 6 true = true → L.getD 7 true = false → RowI u A (a.tmps.getD 11 undef) [p]
  j7 : L.getD 7 true = true → L.getD 10 true = false → u.cell? ⟨B, 0, none⟩ = some v ∧ (∀ o, u.frozen? ⟨B, o, none⟩ = false) ∧ B < u.heap.size
  k7 : L.getD 7 true = true → L.getD 10 true = false → RowI u A (a.tmps.getD 12 undef) (ps ++ [p]) ∧ (a.tmps.getD 12 undef).ownBlock ≠ some B ∧ ((a.tmps.getD 12 undef).ownBlock = v.ownBlock ∨ ∃ g, (a.tmps.getD 12 undef).ownBlock = some g ∧ N ≤ g)
  j10 : L.getD 10 true = true → ∃ v', Cod u B A v' (ps ++ [p]) ∧ (v'.ownBlock = v.ownBlock ∨ ∃ g, v'.ownBlock = some g ∧ N ≤ g)

theorem AddJ.start {N B A : Nat} {v : Value} {ps : List InsD} {p : InsD} {a : Act} {u : World} (h : Cod u B A v ps) : AddJ N B A v ps p (Array.replicate 11 false) a u := by
  refine ⟨fun _ => h, ?_, ?_, ?_, ?_⟩
  all_goals intro h
  all_goals simp at h

theorem AddJ.other {N B A : Nat} {v : Value} {ps : List InsD} {p : InsD} {L : Array Bool} {a : Act} {u : World} (h : AddJ N B A v ps p L a u) {i : Nat} {d : Tmp} {x : Value} (hi : i ≠ 6 ∧ i ≠ 7 ∧ i ≠ 10) (hd : d ≠ 11 ∧ d ≠ 12) :
    AddJ N B A v ps p (L.setIfInBounds i true) (a.put (some d) x) u := by
  obtain ⟨h1, h2, h3⟩ := hi
  obtain ⟨d1, d2⟩ := hd
  refine ⟨?_, ?_, ?_, ?_, ?_⟩
  all_goals simp only [getD_set_ne true h1, getD_set_ne true h2, getD_set_ne true h3, getD_put_ne a d 11 x d1, getD_put_ne a d 12 x d2]
  · exact h.j0
  · exact h.j6
  · exact h.j7
  · exact h.k7
  · exact h.j10

theorem AddJ.new6 {N B A : Nat} {v : Value} {ps : List InsD} {p : InsD} {L : Array Bool} {a : Act} {u u' : World} (h : AddJ N B A v ps p L a u) {x : Value} (hL : L.size = 11) (h7 : L.getD 7 true = false) (h10 : L.getD 10 true = false) (ha : 11 < a.tmps.size)
    (hb : Below u.heap.size u u') (hr : RowI u' A x [p]) : AddJ N B A v ps p (L.setIfInBounds 6 true) (a.put (some 11) x) u' := by
  refine ⟨?_, ?_, ?_, ?_, ?_⟩
  all_goals simp only [getD_set_self' (show 6 < L.size by omega), getD_set_ne true (show (6 : Nat) ≠ 7 by decide), getD_set_ne true (show (6 : Nat) ≠ 10 by decide), getD_put_self a 11 x ha, getD_put_ne a 11 12 x (by decide)]
  · exact fun e => (h.j0 e).below hb (Nat.le_refl _)
  · exact fun _ _ => hr
  · intro e; rw [h7] at e; cases e
  · intro e; rw [h7] at e; cases e
  · intro e; rw [h10] at e; cases e

theorem AddJ.app7 {N B A : Nat} {v : Value} {ps : List InsD} {p : InsD} {L : Array Bool} {a : Act} {u u' : World} (h : AddJ N B A v ps p L a u) {x : Value} (hL : L.size = 11) (h7 : L.getD 7 true = false) (h10 : L.getD 10 true = false) (ha : 12 < a.tmps.size) (hN : N ≤ u.heap.size)
    (hr : AppI u A v (ps ++ [p]) x u') : AddJ N B A v ps p (L.setIfInBounds 7 true) (a.put (some 12) x) u' := by
  have hc := h.j0 h7
  have hB : u'.heap[B]? = u.heap[B]? := hr.grown.block B hc.lt (fun e => hc.ne e.symm)
  refine ⟨?_, ?_, ?_, ?_, ?_⟩
  all_goals simp only [getD_set_self' (show 7 < L.size by omega), getD_set_ne true (show (7 : Nat) ≠ 6 by decide), getD_set_ne true (show (7 : Nat) ≠ 10 by decide), getD_put_self a 12 x ha, getD_put_ne a 12 11 x (by decide)]
  · intro e; cases e
  · intro _ e; cases e
  · exact fun _ _ => ⟨by rw [World.cell?_of_block (w := u) hB]; exact hc.c, fun o => by rw [World.frozen?_of_block (w := u) hB]; exact hc.f o, Nat.lt_of_lt_of_le hc.lt hr.grown.size⟩
  · refine fun _ _ => ⟨hr.row, ?_, ?_⟩
    · rcases hr.at_ with e | e
      · rw [e]; exact hc.ne
      · rw [e]; intro e2; simp only [Option.some.injEq] at e2; have := hc.lt; omega
    · rcases hr.at_ with e | e
      · exact .inl e
      · exact .inr ⟨_, e, hN⟩
  · intro e; rw [h10] at e; cases e

theorem AddJ.store10 {N B A : Nat} {v : Value} {ps : List InsD} {p : InsD} {L : Array Bool} {a a' : Act} {u : World} (h : AddJ N B A v ps p L a u) (hL : L.size = 11) (h7 : L.getD 7 true = true) (h10 : L.getD 10 true = false) :
    AddJ N B A v ps p (L.setIfInBounds 10 true) a' (u.setCell ⟨B, 0, none⟩ (a.tmps.getD 12 undef)) := by
  obtain ⟨c, f, lt⟩ := h.j7 h7 h10
  obtain ⟨r, ne, at_⟩ := h.k7 h7 h10
  refine ⟨?_, ?_, ?_, ?_, ?_⟩
  all_goals simp only [getD_set_self' (show 10 < L.size by omega), getD_set_ne true (show (10 : Nat) ≠ 6 by decide), getD_set_ne true (show (10 : Nat) ≠ 7 by decide)]
  · intro e; rw [h7] at e; cases e
  · intro _ e; rw [h7] at e; cases e
  · intro _ e; cases e
  · intro _ e; cases e
  · refine fun _ => ⟨_, ⟨World.cell?_setCell_same _ _ _ c, fun o => by rw [World.frozen?_setCell]; exact f o, r.at_ fun g hg => Below.heap_setCell _ _ _ _ (fun e => ne (by rw [hg, e])), ne, by simpa [World.setCell] using lt⟩, at_⟩

set_option maxHeartbeats 4000000 in
theorem add_any (w : World) (B A : Nat) (v : Value) (ps : List InsD) (p : InsD) (hc : Cod w B A v ps) (hA : A ≤ w.heap.size) (hl : ps.length ≤ 8000000) :
    Calls Tryz.prog 293 #[.pointer (some ⟨B, 0, none⟩), p.val] w fun e w' => ∃ v', e = .returned (.int .i64 ps.length) ∧ Cod w' B A v' (ps ++ [p]) ∧ CodT B v v' w w' := by
  unfold InsD.val
  obtain ⟨u0, hu0, G0, F0, S0⟩ : ∃ u0, w.alloc (.cells #[.int .i64 p.op, .int .i64 p.n, .int .i64 p.ak, .int .i64 p.at_] 182) = u0 ∧ Below w.heap.size w u0 ∧ CellI u0 w.heap.size 0 p ∧ u0.heap.size = w.heap.size + 1 :=
    ⟨_, rfl, (Below.refl _ _).alloc (Nat.le_refl _) _, (fourI_new _ _ _).c, by simp⟩
  have HU : Hid (_ = u0) := hu0
  have hc0 := hc.below G0 (Nat.le_refl _)
  have hBw := hc.lt
  obtain ⟨av, nv, cv, rfl, hnv⟩ : ∃ ad n cap, v = .slice ad n cap ∧ n = ps.length := by obtain ⟨ad, cap, hv, _, _⟩ := hc.row.shape; exact ⟨ad, _, cap, hv, rfl⟩
  have HC : Hid (Cod w B A (.slice av nv cv) ps ∧ Cod u0 B A (.slice av nv cv) ps ∧ nv = ps.length ∧ CellI u0 w.heap.size 0 p) := ⟨hc, hc0, hnv, F0⟩
  clear hu0 hc hc0 F0 hnv
  go_enter Tryz.func293, Tryz.ntmps293
  go_wp2_with fail
  rw [HU.out]
  refine wp_region_dagC (R := Keep (fun k => k < u0.heap.size ∧ k ≠ B ∧ some k ≠ (Value.slice av nv cv).ownBlock)) (Φ := fun i v u => match i with
      | 0 => v = .pointer (some ⟨B, 0, none⟩)
      | 1 => v = .pointer (some ⟨B, 0, none⟩)
      | 2 => v = .pointer (some ⟨B, 0, none⟩)
      | 3 => v = .pointer (some ⟨B, 0, none⟩)
      | 4 => v = .slice av nv cv
      | 5 => v = .agg #[.int .i64 p.op, .int .i64 p.n, .int .i64 p.ak, .int .i64 p.at_]
      | 6 => True
      | 7 => True
      | 8 => v = .pointer (some ⟨B, 0, none⟩)
      | 9 => v = .pointer (some ⟨B, 0, none⟩)
      | 10 => True
      | _ => True)
    (J := fun L ac u => AddJ u0.heap.size B A (.slice av nv cv) ps p L ac u) (by kernel_rfl) (by kernel_rfl) (by kernel_rfl) (Keep.refl _ _) (fun _ _ _ h k => h.trans k) ?_ (AddJ.start (HC.out.2.1.below (Below.drew (Below.refl _ _)) (Nat.le_refl _))) ?_ ?_
  · intro i v u u' hr
    match i with
    | 0 | 1 | 2 | 3 | 4 | 5 | 6 | 7 | 8 | 9 | 10 | _ + 11 => exact fun h => h
  · intro i o ho L ac u hf hR0 hLs hLi hcl hp he hJ K' hK
    have hR : Keep (fun k => k < u0.heap.size ∧ k ≠ B ∧ some k ≠ (Value.slice av nv cv).ownBlock) u0 u := (keep_of_below (Below.drew (Below.refl u0.heap.size u0)) fun k hk => hk.1).trans hR0
    have hsz' : ac.tmps.size = 21 := hf.size
    have hus := hR.size
    rcases i with _ | _ | _ | _ | _ | _ | _ | _ | _ | _ | _ | i
    · obtain rfl := Option.some.inj ho
      have q0 : ac.tmps.getD 0 undef = .pointer (some ⟨B, 0, none⟩) := hf.at_ 0 (by kernel_rfl)
      clear hp he
      go_simp
      exact hK _ _ (Keep.refl _ _) (getD_put_self ac 5 _ (by show _ < ac.tmps.size; omega)) (hJ.other (by decide) (by decide))
    · obtain rfl := Option.some.inj ho
      have q0 : ac.tmps.getD 0 undef = .pointer (some ⟨B, 0, none⟩) := hf.at_ 0 (by kernel_rfl)
      clear hp he
      go_simp
      exact hK _ _ (Keep.refl _ _) (getD_put_self ac 6 _ (by show _ < ac.tmps.size; omega)) (hJ.other (by decide) (by decide))
    · obtain rfl := Option.some.inj ho
      have q6 : ac.tmps.getD 6 undef = .pointer (some ⟨B, 0, none⟩) := hp 1 _ rfl (he _ (Array.mem_of_getElem? (i := 0) rfl) (by kernel_rfl))
      clear hp he
      go_simp
      exact hK _ _ (Keep.refl _ _) (getD_put_self ac 7 _ (by show _ < ac.tmps.size; omega)) (hJ.other (by decide) (by decide))
    · obtain rfl := Option.some.inj ho
      have q7 : ac.tmps.getD 7 undef = .pointer (some ⟨B, 0, none⟩) := hp 2 _ rfl (he _ (Array.mem_of_getElem? (i := 0) rfl) (by kernel_rfl))
      clear hp he
      go_simp
      exact hK _ _ (Keep.refl _ _) (getD_put_self ac 8 _ (by show _ < ac.tmps.size; omega)) (hJ.other (by decide) (by decide))
    · obtain rfl := Option.some.inj ho
      have q8 : ac.tmps.getD 8 undef = .pointer (some ⟨B, 0, none⟩) := hp 3 _ rfl (he _ (Array.mem_of_getElem? (i := 0) rfl) (by kernel_rfl))
      have h7 : L.getD 7 true = false := hcl.not (i := 7) (j := 4) (by kernel_rfl) hLi
      have cB := (hJ.j0 h7).c
      clear hp he
      go_simp
      exact hK _ _ (Keep.refl _ _) (getD_put_self ac 9 _ (by show _ < ac.tmps.size; omega)) (hJ.other (by decide) (by decide))
    · obtain rfl := Option.some.inj ho
      have q3 : ac.tmps.getD 3 undef = .pointer (some ⟨w.heap.size, 0, none⟩) := hf.at_ 3 (by kernel_rfl)
      clear hp he
      obtain ⟨c0, c1, c2, c3⟩ := HC.out.2.2.2.kept (hR.block w.heap.size ⟨by omega, by omega, fun e => by have := (HC.out.1.row.lt w.heap.size e.symm).2; omega⟩)
      have c1 : u.cell? ⟨w.heap.size, 1, none⟩ = _ := c1
      have c2 : u.cell? ⟨w.heap.size, 2, none⟩ = _ := c2
      have c3 : u.cell? ⟨w.heap.size, 3, none⟩ = _ := c3
      go_simp
      exact hK _ _ (Keep.refl _ _) (getD_put_self ac 10 _ (by show _ < ac.tmps.size; omega)) (hJ.other (by decide) (by decide))
    · obtain rfl := Option.some.inj ho
      have q10 : ac.tmps.getD 10 undef = .agg #[.int .i64 p.op, .int .i64 p.n, .int .i64 p.ak, .int .i64 p.at_] := hp 5 _ rfl (he _ (Array.mem_of_getElem? (i := 0) rfl) (by kernel_rfl))
      have h7 : L.getD 7 true = false := hcl.not (i := 7) (j := 6) (by kernel_rfl) hLi
      have h10 : L.getD 10 true = false := hcl.not (i := 10) (j := 7) (by kernel_rfl) h7
      clear hp he
      have q10' : ac.tmps[10]?.getD undef = .agg #[.int .i64 p.op, .int .i64 p.n, .int .i64 p.ak, .int .i64 p.at_] := by rw [← Array.getD_eq_getD_getElem?]; exact q10
      have HZ : Hid (ac.tmps.size = 21) := hsz'
      clear q10 hsz'
      go_simp
      have hsz' := HZ.out
      exact hK _ _ (keep_of_below ((Below.refl u.heap.size u).alloc (Nat.le_refl _) _) fun k hk => by have := hk.1; omega) trivial (hJ.new6 hLs h7 h10 (by show _ < ac.tmps.size; omega) ((Below.refl _ _).alloc (Nat.le_refl _) _) (rowI_lit u p A (by omega)))
    · obtain rfl := Option.some.inj ho
      have e6 : L.getD 6 true = true := he _ (Array.mem_of_getElem? (i := 1) rfl) (by kernel_rfl)
      have h10 : L.getD 10 true = false := hcl.not (i := 10) (j := 7) (by kernel_rfl) hLi
      have q9 : ac.tmps.getD 9 undef = .slice av nv cv := hp 4 _ rfl (he _ (Array.mem_of_getElem? (i := 0) rfl) (by kernel_rfl))
      have r0 := (hJ.j0 hLi).row
      have r1 := hJ.j6 e6 hLi
      clear hp he
      refine step_appI rfl (.tmp 9) (.tmp 11) rfl A _ _ (v := .slice av nv cv) (xv := ac.tmps.getD 11 undef) q9 rfl r0 r1.no.nr (by omega) (by simp; omega) ?_
      intro v' u' h3
      exact hK _ _ ⟨h3.grown.os, h3.grown.tape, h3.grown.output, h3.grown.size, fun k hk => h3.grown.block k (by have := hk.1; omega) hk.2.2⟩ trivial (hJ.app7 hLs hLi h10 (by show _ < ac.tmps.size; omega) hus h3)
    · obtain rfl := Option.some.inj ho
      have q5 : ac.tmps.getD 5 undef = .pointer (some ⟨B, 0, none⟩) := hp 0 _ rfl (he _ (Array.mem_of_getElem? (i := 0) rfl) (by kernel_rfl))
      clear hp he
      go_simp
      exact hK _ _ (Keep.refl _ _) (getD_put_self ac 13 _ (by show _ < ac.tmps.size; omega)) (hJ.other (by decide) (by decide))
    · obtain rfl := Option.some.inj ho
      have q13 : ac.tmps.getD 13 undef = .pointer (some ⟨B, 0, none⟩) := hp 8 _ rfl (he _ (Array.mem_of_getElem? (i := 0) rfl) (by kernel_rfl))
      clear hp he
      go_simp
      exact hK _ _ (Keep.refl _ _) (getD_put_self ac 14 _ (by show _ < ac.tmps.size; omega)) (hJ.other (by decide) (by decide))
    · obtain rfl := Option.some.inj ho
      have e7 : L.getD 7 true = true := he _ (Array.mem_of_getElem? (i := 1) rfl) (by kernel_rfl)
      have q14 : ac.tmps.getD 14 undef = .pointer (some ⟨B, 0, none⟩) := hp 9 _ rfl (he _ (Array.mem_of_getElem? (i := 0) rfl) (by kernel_rfl))
      obtain ⟨a2, c2, q12, _, _⟩ := (hJ.k7 e7 hLi).1.shape
      obtain ⟨nn, hnn⟩ : ∃ nn, (ps ++ [p]).length = nn := ⟨_, rfl⟩
      rw [hnn] at q12
      have cB := (hJ.j7 e7 hLi).1
      have fB := (hJ.j7 e7 hLi).2.1 0
      have hKK := hK undef (u.setCell ⟨B, 0, none⟩ (ac.tmps.getD 12 undef)) ⟨rfl, rfl, rfl, by simp [World.setCell], fun k hk => Below.heap_setCell _ _ _ _ hk.2.1⟩ trivial (hJ.store10 hLs e7 hLi)
      rw [q12] at hKK
      have HKK : Hid _ := hKK
      clear hp he hK hKK hJ hnn
      go_simp
      exact HKK.out
    · exact absurd ho (by simp)
  · intro L ac u hf hR0 hp hJ
    have hR : Keep (fun k => k < u0.heap.size ∧ k ≠ B ∧ some k ≠ (Value.slice av nv cv).ownBlock) u0 u := (keep_of_below (Below.drew (Below.refl u0.heap.size u0)) fun k hk => hk.1).trans hR0
    obtain ⟨v', hcod, hat⟩ := hJ.j10 (hp 10 _ rfl).1
    obtain ⟨a2, n2, c2, rfl, hn2⟩ : ∃ ad n cap, v' = .slice ad n cap ∧ n = (ps ++ [p]).length := by obtain ⟨ad, cap, hv, _, _⟩ := hcod.row.shape; exact ⟨ad, _, cap, hv, rfl⟩
    have hn3 : n2 = ps.length + 1 := by rw [hn2]; simp
    clear hn2
    subst hn3
    have cB := hcod.c
    have HE : Hid (Cod u B A (.slice a2 (ps.length + 1) c2) (ps ++ [p]) ∧ CodT B (.slice av nv cv) (.slice a2 (ps.length + 1) c2) w u) := ⟨hcod, ⟨(keep_of_below G0 fun k hk => hk.1).trans (hR.mono fun k hk => ⟨by have := hk.1; omega, hk.2⟩), hat.imp id fun ⟨g, h1, h2⟩ => ⟨g, h1, by omega⟩⟩⟩
    clear hp hJ hR0 hR hcod hat HC
    obtain ⟨fq, ea, hfv⟩ := act_lit ac 21 hf.size
    have md : ac.defers = [] := hf.defers
    rw [md] at ea
    have m0 := hf.at_ 0 (by kernel_rfl)
    have m1 := hf.at_ 1 (by kernel_rfl)
    have m2 := hf.at_ 2 (by kernel_rfl)
    have m3 := hf.at_ 3 (by kernel_rfl)
    have m4 := hf.at_ 4 (by kernel_rfl)
    have m15 := hf.at_ 15 (by kernel_rfl)
    have m16 := hf.at_ 16 (by kernel_rfl)
    have m17 := hf.at_ 17 (by kernel_rfl)
    have m18 := hf.at_ 18 (by kernel_rfl)
    have m19 := hf.at_ 19 (by kernel_rfl)
    have m20 := hf.at_ 20 (by kernel_rfl)
    rw [← hfv] at m0 m1 m2 m3 m4 m15 m16 m17 m18 m19 m20
    simp only [Array.getD_eq_getD_getElem?, List.getElem?_toArray, List.getElem?_cons_succ, List.getElem?_cons_zero, Option.getD_some] at m0 m1 m2 m3 m4 m15 m16 m17 m18 m19 m20
    simp only [List.range, List.range.loop, List.map_cons, List.map_nil, m0, m1, m2, m3, m4, m15, m16, m17, m18, m19, m20] at ea
    subst ea
    clear m0 m1 m2 m3 m4 m15 m16 m17 m18 m19 m20 hfv md hf
    go_wp2
    go_ret
    exact ⟨_, ret_int (by omega), HE.out.1, HE.out.2⟩

/-- The number of an instruction is set. -/
def setN (ps : List InsD) (j : Nat) (n : Int) : List InsD := ps.modify j fun p => ⟨p.op, n, p.ak, p.at_⟩

theorem setN_len (ps : List InsD) (j : Nat) (n : Int) : (setN ps j n).length = ps.length := by unfold setN; rw [List.length_modify]

theorem rowI_setN {ps : List InsD} : ∀ {j : Nat} (n : Int), j < ps.length → rowI (setN ps j n) = (rowI ps).set (j * 4 + 1) (.int .i64 n) := by
  induction ps with
  | nil => intro j n h; simp at h
  | cons p ps ih =>
    intro j n h
    cases j with
    | zero => rfl
    | succ j =>
      have e : (j + 1) * 4 + 1 = j * 4 + 1 + 1 + 1 + 1 + 1 := by omega
      have h1 : setN (p :: ps) (j + 1) n = p :: setN ps j n := rfl
      rw [h1, rowI, rowI, ih n (by simpa using h), e]
      rfl

theorem RowI.setN {w : World} {A g cap : Nat} {ps : List InsD} (h : RowI w A (.slice (some ⟨g, 0, none⟩) ps.length cap) ps) {j : Nat} (hj : j < ps.length) (n : Int) :
    RowI (w.setCell ⟨g, j * 4 + 1, none⟩ (.int .i64 n)) A (.slice (some ⟨g, 0, none⟩) ps.length cap) (setN ps j n) := by
  have := (World.ownsRow.stored h (j * 4 + 1) (.int .i64 n)).1
  unfold RowI
  rw [setN_len, rowI_setN n hj]
  exact this

set_option maxHeartbeats 4000000 in
theorem toHere_any (w : World) (B A : Nat) (v : Value) (ps : List InsD) (j : Nat) (hc : Cod w B A v ps) (hj : j < ps.length) (hl : ps.length ≤ 8000000) :
    Calls Tryz.prog 294 #[.pointer (some ⟨B, 0, none⟩), .int .i64 j] w fun e w' => e = .returned (.tuple #[]) ∧ Cod w' B A v (setN ps j ps.length) ∧ CodT B v v w w' := by
  obtain ⟨g, cap, rfl, hg1, hg2⟩ := World.ownsRow.form hc.row (by omega)
  have hne : g ≠ B := fun e => hc.ne (by rw [e]; rfl)
  have hr := RowI.setN hc.row hj (ps.length : Int)
  obtain ⟨p, hp⟩ : ∃ p, ps[j]? = some p := ⟨ps[j], List.getElem?_eq_getElem hj⟩
  have c1 : w.cell? ⟨g, j * 4 + 1, none⟩ = some (.int .i64 p.n) := by rw [World.ownsRow.cellAt hc.row _ (by omega)]; exact (rowI_at hp).2.1
  have f1 : w.frozen? ⟨g, j * 4 + 1, none⟩ = false := World.ownsRow.frozenAt hc.row _
  have hB : (w.setCell ⟨g, j * 4 + 1, none⟩ (.int .i64 (ps.length : Int))).heap[B]? = w.heap[B]? := Below.heap_setCell _ _ _ _ (fun e => hne e.symm)
  have hd : Cod (w.setCell ⟨g, j * 4 + 1, none⟩ (.int .i64 (ps.length : Int))) B A (.slice (some ⟨g, 0, none⟩) ps.length cap) (setN ps j ps.length) :=
    ⟨by rw [World.cell?_of_block (w := w) hB]; exact hc.c, fun o => by rw [World.frozen?_of_block (w := w) hB]; exact hc.f o, hr, hc.ne, by simpa [World.setCell] using hc.lt⟩
  have ht : CodT B (.slice (some ⟨g, 0, none⟩) ps.length cap) (.slice (some ⟨g, 0, none⟩) ps.length cap) w (w.setCell ⟨g, j * 4 + 1, none⟩ (.int .i64 (ps.length : Int))) :=
    ⟨⟨rfl, rfl, rfl, by simp [World.setCell], fun k hk => Below.heap_setCell _ _ _ _ (fun e => hk.2.2 (by rw [e]; rfl))⟩, .inl rfl⟩
  obtain ⟨u, hu⟩ : ∃ u, w.setCell ⟨g, j * 4 + 1, none⟩ (.int .i64 (ps.length : Int)) = u := ⟨_, rfl⟩
  rw [hu] at hd ht
  have HU : Hid (_ = u) := hu
  have HE : Hid (Cod u.drew B A (.slice (some ⟨g, 0, none⟩) ps.length cap) (setN ps j ps.length) ∧ CodT B (.slice (some ⟨g, 0, none⟩) ps.length cap) (.slice (some ⟨g, 0, none⟩) ps.length cap) w u.drew) :=
    ⟨hd.below (Below.drew (Below.refl _ _)) (Nat.le_refl _), ht.trans (codT_below (Below.drew (Below.refl _ _)) (Nat.le_refl _))⟩
  have cB := hc.c
  have hj' : (j : Int) < (ps.length : Int) := by omega
  clear hc hr hB hd ht hp hu
  go_enter Tryz.func294, Tryz.ntmps294
  go_wp2_with fail
  go_region
  rw [HU.out]
  go_wp2
  go_end0
  exact ⟨rfl, HE.out.1, HE.out.2⟩
end Go.Proofs.YtaoiookfmgpmkaaGreatDoor
