import Derived.Test.YtaoiookfmgpmkaaGreatDoorQM11
import Derived.Maps.AppendAt
import Derived.Deep.AppendLies
import Derived.Deep.Upon
import Derived.Test.YtaoiookfmgpmkaaGreatDoorQM2

/-
 toIns, toInsS: the laws' helpers that copy code into new memory.
-/
namespace Go.Proofs.YtaoiookfmgpmkaaGreatDoor
open Go.ChangeShapes Go.WideShapes Go.ChangeAt Go.RowKit
set_option linter.unusedVariables false

theorem info_ins : (Tryz.prog.info? 182).map (fun i => (i.zero, i.size, i.bytes)) = some (some (.agg #[.int .i64 0, .int .i64 0, .int .i64 0, .int .i64 0]), 4, 32) := by kernel_rfl

structure ToN (w : World) (ps : List InsD) (j : Nat) (wr : World) : Prop where
 below : Below w.heap.size w wr
 size : w.heap.size < wr.heap.size
 some_ : ∀ x, x < ps.length * 4 → (wr.cell? ⟨w.heap.size, x, none⟩).isSome = true
 frozen : ∀ x, wr.frozen? ⟨w.heap.size, x, none⟩ = false
 done : ∀ i p, i < j → ps[i]? = some p → CellI wr w.heap.size (i * 4) p

theorem ToN.no {w wr : World} {ps : List InsD} (h : ToN w ps ps.length wr) (hm : ps.length ≤ maxLen) : NO wr w.heap.size wr.heap.size (.slice (some ⟨w.heap.size, 0, none⟩) ps.length ps.length) ps :=
 .inr ⟨_, 0, _, rfl, Nat.le_refl _, hm, Nat.le_refl _, h.size, fun i p hp => by rw [Nat.zero_add]; exact h.done i p (List.getElem?_eq_some_iff.mp hp).1 hp, fun o => by rw [Nat.zero_add]; exact h.frozen o⟩

theorem ToN.next {w wr w1 u : World} {ps : List InsD} {j : Nat} {p : InsD} (h : ToN w ps j wr) (he : ps[j]? = some p) (hb : Below wr.heap.size wr w1) (hc : CellI u w.heap.size (j * 4) p)
  (ho : ∀ b x, b ≠ w.heap.size ∨ x < j * 4 ∨ j * 4 + 4 ≤ x → u.cell? ⟨b, x, none⟩ = w1.cell? ⟨b, x, none⟩) (hf : ∀ b x, u.frozen? ⟨b, x, none⟩ = w1.frozen? ⟨b, x, none⟩) (hz : u.heap.size = w1.heap.size)
  (hbl : ∀ n w', n ≤ w.heap.size → Below n w' w1 → Below n w' u) : ToN w ps (j + 1) u := by
 obtain ⟨hb0, hs, hsm, hfr, h1⟩ := h
 have hs1 := hb.size
 have hcell : ∀ x, w1.cell? ⟨w.heap.size, x, none⟩ = wr.cell? ⟨w.heap.size, x, none⟩ := fun x => hb.cell (p := ⟨w.heap.size, x, none⟩) hs
 refine ⟨hbl _ _ (Nat.le_refl _) (hb0.trans (hb.mono (by omega))), by omega, fun q hq => ?_, fun q => ?_, fun i e' hi hie => ?_⟩
 ·by_cases hin : j * 4 ≤ q ∧ q < j * 4 + 4
  ·obtain ⟨c0, c1, c2, c3⟩ := hc
   obtain rfl | rfl | rfl | rfl : q = j * 4 ∨ q = j * 4 + 1 ∨ q = j * 4 + 2 ∨ q = j * 4 + 3 := by omega
   ·rw [c0]; rfl
   ·rw [c1]; rfl
   ·rw [c2]; rfl
   ·rw [c3]; rfl
  ·rw [ho _ _ (by omega), hcell]; exact hsm q hq
 ·rw [hf, hb.frozen (p := ⟨w.heap.size, q, none⟩) hs]; exact hfr q
 ·by_cases ej : i = j
  ·subst ej
   rw [he] at hie
   cases hie
   exact hc
  ·obtain ⟨d0, d1, d2, d3⟩ := h1 i e' (by omega) hie
   refine ⟨?_, ?_, ?_, ?_⟩
   ·rw [ho _ _ (by omega), hcell]; exact d0
   ·rw [ho _ _ (by omega), hcell]; exact d1
   ·rw [ho _ _ (by omega), hcell]; exact d2
   ·rw [ho _ _ (by omega), hcell]; exact d3

end Go.Proofs.YtaoiookfmgpmkaaGreatDoor

/-
 Code that grows in memory by append.
-/
namespace Go.Proofs.YtaoiookfmgpmkaaGreatDoor
open Go.ChangeShapes Go.WideShapes Go.ChangeAt Go.RowKit
set_option linter.unusedVariables false

def rowI : List InsD → List Value
 | [] => []
 | p :: ps => .int .i64 p.op :: .int .i64 p.n :: .int .i64 p.ak :: .int .i64 p.at_ :: rowI ps

theorem rowI_length (ps : List InsD) : (rowI ps).length = ps.length * 4 := by
 induction ps with
 | nil => rfl
 | cons p ps ih => rw [rowI]; simp only [List.length_cons]; omega

theorem rowI_append (ps qs : List InsD) : rowI (ps ++ qs) = rowI ps ++ rowI qs := by
 induction ps with
 | nil => rfl
 | cons p ps ih => rw [List.cons_append, rowI, rowI, ih]; rfl

theorem rowI_at {ps : List InsD} {i : Nat} {p : InsD} (h : ps[i]? = some p) : (rowI ps)[i * 4]? = some (.int .i64 p.op) ∧ (rowI ps)[i * 4 + 1]? = some (.int .i64 p.n) ∧ (rowI ps)[i * 4 + 2]? = some (.int .i64 p.ak) ∧ (rowI ps)[i * 4 + 3]? = some (.int .i64 p.at_) := by
 induction ps generalizing i with
 | nil => simp at h
 | cons q ps ih =>
  cases i with
  | zero =>
   simp at h
   subst h
   exact ⟨rfl, rfl, rfl, rfl⟩
  | succ i =>
   simp at h
   have := ih h
   have e : (i + 1) * 4 = i * 4 + 1 + 1 + 1 + 1 := by omega
   rw [rowI, e]
   exact this

theorem rowI_one (ps : List InsD) : ∀ u ∈ rowI ps, u.oneCell' = true := by
 induction ps with
 | nil => intro u hu; simp [rowI] at hu
 | cons p ps ih =>
  intro u hu
  rw [rowI] at hu
  simp only [List.mem_cons] at hu
  rcases hu with rfl | rfl | rfl | rfl | hu
  ·rfl
  ·rfl
  ·rfl
  ·rfl
  ·exact ih u hu

theorem NR.cells {w : World} {lo hi : Nat} {b off len cap : Nat} {ps : List InsD} (h : NR w lo hi (.slice (some ⟨b, off, none⟩) len cap) ps) : ∀ j u, (rowI ps)[j]? = some u → w.cell? ((⟨b, off, none⟩ : Go.Addr).add j) = some u := by
 intro j u hu
 have hj : j < ps.length * 4 := by have := (List.getElem?_eq_some_iff.mp hu).1; rwa [rowI_length] at this
 obtain ⟨p, hp⟩ : ∃ p, ps[j / 4]? = some p := ⟨ps[j / 4]'(by omega), List.getElem?_eq_getElem _⟩
 obtain ⟨b', off', cap', hv, _, _, hc⟩ := h.at_ hp
 simp only [Value.slice.injEq, Option.some.injEq, Addr.mk.injEq, and_true] at hv
 obtain ⟨⟨rfl, rfl⟩, _⟩ := hv
 obtain ⟨a0, a1, a2, a3⟩ := rowI_at hp
 rw [Addr.add_lit]
 obtain e | e | e | e : j = j / 4 * 4 ∨ j = j / 4 * 4 + 1 ∨ j = j / 4 * 4 + 2 ∨ j = j / 4 * 4 + 3 := by omega
 ·rw [e] at hu ⊢; rw [a0] at hu; rw [← hu]; have : j / 4 * 4 / 4 = j / 4 := by omega
  exact hc.c0
 ·rw [e] at hu ⊢; rw [a1] at hu; rw [← hu]; exact hc.c1
 ·rw [e] at hu ⊢; rw [a2] at hu; rw [← hu]; exact hc.c2
 ·rw [e] at hu ⊢; rw [a3] at hu; rw [← hu]; exact hc.c3

def RowI (w : World) (base : Nat) (v : Value) (ps : List InsD) : Prop := w.ownsRow base 182 4 v ps.length (rowI ps)

theorem RowI.lt {w : World} {base : Nat} {v : Value} {ps : List InsD} (h : RowI w base v ps) : ∀ k, v.ownBlock = some k → base ≤ k ∧ k < w.heap.size := World.ownsRow.lt h

theorem RowI.shape {w : World} {base : Nat} {v : Value} {ps : List InsD} (h : RowI w base v ps) : ∃ ad cap, v = .slice ad ps.length cap ∧ ps.length ≤ cap ∧ cap ≤ maxLen := by
 rcases h.2 with ⟨rfl, hn⟩ | ⟨g, cap, cur, rfl, hb, hh, hc, hm, _⟩
 ·exact ⟨none, 0, by rw [hn], by omega, Nat.zero_le _⟩
 ·exact ⟨_, cap, rfl, hc, hm⟩

theorem RowI.no {w : World} {base : Nat} {v : Value} {ps : List InsD} (h : RowI w base v ps) : NO w base w.heap.size v ps := by
 rcases h.2 with ⟨rfl, hn⟩ | ⟨g, cap, cur, rfl, hb, hh, hc, hm, _⟩
 ·exact .inl ⟨List.eq_nil_of_length_eq_zero hn, none, 0, rfl, Nat.zero_le _⟩
 ·refine .inr ⟨g, 0, cap, rfl, hc, hm, hb, (Array.getElem?_eq_some_iff.mp hh).1, fun i p hp => ?_, fun o => by rw [Nat.zero_add]; exact World.ownsRow.frozenAt h o⟩
  have hil : i < ps.length := (List.getElem?_eq_some_iff.mp hp).1
  obtain ⟨a0, a1, a2, a3⟩ := rowI_at hp
  rw [Nat.zero_add]
  exact ⟨by rw [World.ownsRow.cellAt h _ (by omega)]; exact a0, by rw [World.ownsRow.cellAt h _ (by omega)]; exact a1, by rw [World.ownsRow.cellAt h _ (by omega)]; exact a2, by rw [World.ownsRow.cellAt h _ (by omega)]; exact a3⟩

theorem RowI.at_ {w w' : World} {base : Nat} {v : Value} {ps : List InsD} (h : RowI w base v ps) (hk : ∀ g, v.ownBlock = some g → w'.heap[g]? = w.heap[g]?) : RowI w' base v ps := by
 refine ⟨h.1, ?_⟩
 rcases h.2 with ⟨rfl, hn⟩ | ⟨g, cap, cur, rfl, hb, hh, r⟩
 ·exact .inl ⟨rfl, hn⟩
 ·exact .inr ⟨g, cap, cur, rfl, hb, by rw [hk g rfl]; exact hh, r⟩

theorem RowI.below {w w' : World} {base n : Nat} {v : Value} {ps : List InsD} (h : RowI w base v ps) (hb : Below n w w') (hn : w.heap.size ≤ n) : RowI w' base v ps :=
 h.at_ fun g hg => hb.block g (by have := (h.lt g hg).2; omega)

theorem RowI.mono {w : World} {base base' : Nat} {v : Value} {ps : List InsD} (h : RowI w base v ps) (hb : base' ≤ base) : RowI w base' v ps := by
 refine ⟨h.1, ?_⟩
 rcases h.2 with ⟨rfl, hn⟩ | ⟨g, cap, cur, rfl, hb', r⟩
 ·exact .inl ⟨rfl, hn⟩
 ·exact .inr ⟨g, cap, cur, rfl, by omega, r⟩

theorem rowI_nil (w : World) (base : Nat) : RowI w base (.slice none 0 0) [] := World.ownsRow_nil _ _ _ _

theorem rowI_lit (w : World) (p : InsD) (base : Nat) (hb : base ≤ w.heap.size) : RowI (w.alloc (.cells #[.int .i64 p.op, .int .i64 p.n, .int .i64 p.ak, .int .i64 p.at_] 182)) base (.slice (some ⟨w.heap.size, 0, none⟩) 1 1) [p] :=
 ⟨rfl, .inr ⟨w.heap.size, 1, _, rfl, hb, heap_alloc_new w _, Nat.le_refl _, by unfold maxLen; omega, rfl, rfl⟩⟩

theorem rowI_none (w : World) (base : Nat) (hb : base ≤ w.heap.size) : RowI (w.alloc (.cells #[] 182)) base (.slice (some ⟨w.heap.size, 0, none⟩) 0 0) [] :=
 ⟨rfl, .inr ⟨w.heap.size, 0, _, rfl, hb, heap_alloc_new w _, Nat.le_refl _, Nat.zero_le _, rfl, rfl⟩⟩

structure AppI (w : World) (base : Nat) (v : Value) (ps : List InsD) (v' : Value) (w' : World) : Prop where
 row : RowI w' base v' ps
 grown : w.grownBy w' v.ownBlock
 at_ : v'.ownBlock = v.ownBlock ∨ v'.ownBlock = some w.heap.size

theorem run_appI (w : World) (base ty lo hi : Nat) (v x : Value) (ps qs : List InsD) (hr : RowI w base v ps) (hx : NR w lo hi x qs) (hb : base ≤ w.heap.size) (hn : ps.length + qs.length ≤ 16777216) :
  ∃ v' w', (Builtin.append_ #[94, 94] ty #[v, x]).run Tryz.prog w = .ok v' w' ∧ AppI w base v (ps ++ qs) v' w' := by
 obtain ⟨i0, hi0, hz0, hz1, hz2⟩ := info_parts info_ins
 obtain ⟨ad, cap, rfl, hc1, hc2⟩ := hx.shape
 cases ad with
 | none =>
  obtain rfl : qs = [] := by
   obtain ⟨_, _, hv, _, _, h3⟩ := hx
   rcases h3 with h3 | ⟨b, off, rfl, _⟩
   ·exact h3
   ·simp at hv
  obtain ⟨a0, c0, rfl, h0, _⟩ := hr.shape
  have hs : Src Tryz.prog i0.size 94 (.slice none 0 cap) 0 [] w := Src.ofNil _ Tryz.underlying94 cap
  have hrun := run_append_nothing (P := Tryz.prog) w 94 94 ty 182 i0 Tryz.underlying94 hi0 a0 ps.length c0 h0 _ hs
  exact ⟨_, w, hrun, ⟨by rw [List.append_nil]; exact hr, ⟨rfl, rfl, rfl, Nat.le_refl _, fun _ _ _ => rfl⟩, .inl rfl⟩⟩
 | some a =>
  by_cases he : qs = []
  ·subst he
   obtain ⟨v', w', hrun, h2, h3, _, h5⟩ := run_append_own_at (P := Tryz.prog) w base 94 ty 182 i0 (.agg #[.int .i64 0, .int .i64 0, .int .i64 0, .int .i64 0]) 4 32 Tryz.underlying94 hi0 hz0 hz1 hz2 rfl (by decide) v ps.length (rowI ps) hr a 0 cap [] (by simp) (fun j u h => by simp at h) (fun u h => by simp at h) (by unfold maxLen; omega) (by simp at hn; omega) hb
   rw [Nat.add_zero, List.append_nil] at h2
   exact ⟨v', w', hrun, ⟨by rw [List.append_nil]; exact h2, h3, h5⟩⟩
  ·obtain ⟨b, off, hab⟩ : ∃ b off, a = ⟨b, off, none⟩ := by
    obtain ⟨_, _, hv, _, _, h3⟩ := id hx
    rcases h3 with h3 | ⟨b, off, rfl, _⟩
    ·exact absurd h3 he
    ·simp only [Value.slice.injEq, Option.some.injEq] at hv
     exact ⟨b, off, hv.1⟩
   subst hab
   obtain ⟨v', w', hrun, h2, h3, _, h5⟩ := run_append_own_at (P := Tryz.prog) w base 94 ty 182 i0 (.agg #[.int .i64 0, .int .i64 0, .int .i64 0, .int .i64 0]) 4 32 Tryz.underlying94 hi0 hz0 hz1 hz2 rfl (by decide) v ps.length (rowI ps) hr ⟨b, off, none⟩ qs.length cap (rowI qs) (rowI_length _) hx.cells (rowI_one _) (by unfold maxLen; omega) (by omega) hb
   exact ⟨v', w', hrun, ⟨by unfold RowI; rw [rowI_append, List.length_append]; exact h2, h3, h5⟩⟩

section
variable {ops : Array Oper} {rest : List Oper} {o : Oper} {a : Act} {Q : Exit → Act → World → Prop} {K : Act → World → Prop} {w : World}

theorem wp_appI (s x : Operand) (hop : o.op = .call { callee := .builtin .append, args := #[s, x], argTypes := #[94, 94] })
  (base lo hi : Nat) {v xv : Value} {ps qs : List InsD} (hs : a.eval s = v) (hx : a.eval x = xv) (hr : RowI w base v ps) (hn : NR w lo hi xv qs) (hb : base ≤ w.heap.size) (hl : ps.length + qs.length ≤ 16777216)
  (hK : ∀ v' w', AppI w base v (ps ++ qs) v' w' → K (a.put o.dst v') w') : o.wp Tryz.prog a w K Q := by
 obtain ⟨v', w', hrun, h⟩ := run_appI w base o.type lo hi v xv ps qs hr hn hb hl
 unfold Oper.wp execOp
 simp only [hop, resolve, invoke, builtin, Sem.run_bind, Sem.run_pure, Result.andThen_ok, List.map_toArray, List.map_cons, List.map_nil, hs, hx, hrun]
 exact hK v' w' h

theorem wpList_appI (hg : o.guard = none) (s x : Operand) (hop : o.op = .call { callee := .builtin .append, args := #[s, x], argTypes := #[94, 94] })
  (base lo hi : Nat) {v xv : Value} {ps qs : List InsD} (hs : a.eval s = v) (hx : a.eval x = xv) (hr : RowI w base v ps) (hn : NR w lo hi xv qs) (hb : base ≤ w.heap.size) (hl : ps.length + qs.length ≤ 16777216)
  (hK : Hid (∀ v' w', AppI w base v (ps ++ qs) v' w' → wpList Tryz.prog ops Q rest (a.put o.dst v') w')) : wpList Tryz.prog ops Q (o :: rest) a w :=
 wpList_plain hg fun _ hK' => wp_appI s x hop base lo hi hs hx hr hn hb hl fun v' w' h => hK' _ _ (hK.out v' w' h)

theorem step_appI {E : Prop} (hg : o.guard = none) (s x : Operand) (hop : o.op = .call { callee := .builtin .append, args := #[s, x], argTypes := #[94, 94] })
  (base lo hi : Nat) {v xv : Value} {ps qs : List InsD} (hs : a.eval s = v) (hx : a.eval x = xv) (hr : RowI w base v ps) (hn : NR w lo hi xv qs) (hb : base ≤ w.heap.size) (hl : ps.length + qs.length ≤ 16777216)
  (hK : ∀ v' w', AppI w base v (ps ++ qs) v' w' → K (a.put o.dst v') w') :
  if Region.wanted o (yielded ops a.tmps) = true then Oper.wp Tryz.prog o a w K Q else E := by
 rw [if_pos (by simp [Region.wanted, hg])]
 exact wp_appI s x hop base lo hi hs hx hr hn hb hl hK
end

theorem AppI.below {w w' : World} {base n : Nat} {v v' : Value} {ps qs : List InsD} (h : AppI w base v ps v' w') (hr : RowI w base v qs) (hn : n ≤ base) (hb : base ≤ w.heap.size) : Below n w w' :=
 (Below.refl n w).grown h.grown (by omega) fun k hk => by have := (hr.lt k hk).1; omega
end Go.Proofs.YtaoiookfmgpmkaaGreatDoor

/-
 Two more laws on regions that draw their order. One: what has been done is shut under the edges (an operation that is done has those done for which it waits). Two: a region whose last operations wait for all that stand ahead: the first are walked once each, the last in the text's order.
-/
namespace Go.Proofs.YtaoiookfmgpmkaaGreatDoor
open Go.RowKit

def backB2 (ops : Array Oper) : Bool := (List.range ops.size).all fun i => ((ops[i]?).map fun o => o.after.all fun e => !Region.binds .any e || decide (e.on < i)).getD true

theorem back_of2 {ops : Array Oper} (h : backB2 ops = true) {i : Nat} {o : Oper} (hi : ops[i]? = some o) {e : Edge} (he : e ∈ o.after) (hb : Region.binds .any e = true) : e.on < i := by
 have li : i < ops.size := (Array.getElem?_eq_some_iff.mp hi).1
 have h1 := List.all_eq_true.mp h i (List.mem_range.mpr li)
 simp only [hi, Option.map_some, Option.getD_some] at h1
 have := Array.all_eq_true'.mp h1 e he
 simpa [hb] using this

def waitsB (ops : Array Oper) (i j : Nat) : Bool := ((ops[i]?).map fun o => o.after.any fun e => Region.binds .any e && e.on == j).getD false

def Closed (ops : Array Oper) (L : Array Bool) : Prop :=
 ∀ (j : Nat) (oj : Oper), ops[j]? = some oj → L.getD j true = true → ∀ e ∈ oj.after, Region.binds .any e = true → L.getD e.on true = true

theorem Closed.wait {ops : Array Oper} {L : Array Bool} (h : Closed ops L) {i j : Nat} (hw : waitsB ops i j = true) (hi : L.getD i true = true) : L.getD j true = true := by
 unfold waitsB at hw
 cases ho : ops[i]? with
 | none => rw [ho] at hw; simp at hw
 | some o =>
  simp only [ho, Option.map_some, Option.getD_some] at hw
  obtain ⟨e, hm, h2⟩ := Array.any_eq_true'.mp hw
  simp at h2
  rw [← h2.2]
  exact h i o ho hi e hm h2.1

theorem Closed.not {ops : Array Oper} {L : Array Bool} (h : Closed ops L) {i j : Nat} (hw : waitsB ops i j = true) (hj : L.getD j true = false) : L.getD i true = false := by
 cases hi : L.getD i true with
 | false => rfl
 | true => rw [h.wait hw hi] at hj; cases hj

section
variable {P : Program} {ops : Array Oper} {Q : Exit → Act → World → Prop}

theorem all_listed2 (hback : backB2 ops = true) {L : Array Bool} (hsz : L.size = ops.size) (h : Region.ready .any ops L = []) : ∀ n i, i < n → L.getD i true = true := by
 intro n
 induction n with
 | zero => intro i hi; omega
 | succ n ih =>
  intro i hi
  by_cases hlt : i < n
  ·exact ih i hlt
  obtain rfl : i = n := by omega
  rcases Nat.lt_or_ge i ops.size with h' | h'
  ·cases hL : L.getD i true with
   | true => rfl
   | false =>
    have hmem : i ∈ Region.ready .any ops L := by
     unfold Region.ready
     rw [List.mem_filter]
     refine ⟨List.mem_range.mpr h', ?_⟩
     obtain ⟨o, ho⟩ : ∃ o, ops[i]? = some o := ⟨ops[i], Array.getElem?_eq_getElem h'⟩
     simp only [hL, ho, Option.map_some, Option.getD_some, Bool.not_false, Bool.true_and]
     rw [Array.all_eq_true']
     intro e he
     cases hb : Region.binds .any e with
     | false => simp
     | true =>
      have hlt' := back_of2 hback ho he hb
      have := ih e.on hlt'
      have hsz' : e.on < L.size := by omega
      simp [hsz'] at this ⊢
      exact this
    rw [h] at hmem
    cases hmem
  ·simp [Array.getElem?_eq_none (show L.size ≤ i by omega)]

variable {a0 : Act} {w0 : World} {R : World → World → Prop} {Φ : Nat → Value → World → Prop} {J : Array Bool → Act → World → Prop}

theorem closed_set {L : Array Bool} (h : Closed ops L) {i : Nat} {o : Oper} (ho : ops[i]? = some o) (he : ∀ e ∈ o.after, Region.binds .any e = true → L.getD e.on true = true) : Closed ops (L.setIfInBounds i true) := by
 have hk : ∀ k, L.getD k true = true → (L.setIfInBounds i true).getD k true = true := fun k hk => by
  by_cases e : i = k
  ·subst e
   rcases Nat.lt_or_ge i L.size with h' | h'
   ·simp [h']
   ·simp
  ·rw [getD_set_ne true e]; exact hk
 intro j oj hj hl e hm hb
 by_cases e' : i = j
 ·subst e'
  rw [ho] at hj; cases hj
  exact hk _ (he e hm hb)
 ·rw [getD_set_ne true e'] at hl
  exact hk _ (h j oj hj hl e hm hb)

theorem wp_region_dagC {id : Nat} (hm : P.follows .mixedOrders = true) (hback : backB2 ops = true) (hown : ownSlotsB ops = true)
  (hR0 : R w0.drew w0.drew) (hRt : ∀ a b c, R a b → R b c → R a c)
  (stab : ∀ j v w w', R w w' → Φ j v w → Φ j v w')
  (hJ0 : J (Array.replicate ops.size false) a0 w0.drew)
  (step : ∀ (i : Nat) (o : Oper), ops[i]? = some o → ∀ (L : Array Bool) (a : Act) (w : World), Frames ops a0 a → R w0.drew w → L.size = ops.size → L.getD i true = false → Closed ops L →
   (∀ (j : Nat) (oj : Oper), ops[j]? = some oj → L.getD j true = true → Φ j (slotOf oj a) w) →
   (∀ e ∈ o.after, Region.binds .any e = true → L.getD e.on true = true) → J L a w →
   ∀ K' : Act → World → Prop, (∀ v w', R w w' → Φ i (slotOf o (a.put o.dst v)) w' → J (L.setIfInBounds i true) (a.put o.dst v) w' → K' (a.put o.dst v) w') →
    if Region.wanted o (yielded ops a.tmps) = true then Oper.wp P o a w K' Q else K' (a.put o.dst undef) w)
  (fin : ∀ (L : Array Bool) (a : Act) (w : World), Frames ops a0 a → R w0.drew w → (∀ (j : Nat) (oj : Oper), ops[j]? = some oj → L.getD j true = true ∧ Φ j (slotOf oj a) w) → J L a w → Q .normal a w) :
  (Code.region id ops true).wp P Q a0 w0 := by
 refine wp_region_any hm ?_
 have main : ∀ (fuel : Nat) (L : Array Bool) (a : Act) (w : World), L.size = ops.size → unlisted L ≤ fuel → Closed ops L → Frames ops a0 a → R w0.drew w →
   (∀ (j : Nat) (oj : Oper), ops[j]? = some oj → L.getD j true = true → Φ j (slotOf oj a) w) → J L a w → wpAny P .any ops Q fuel L a w := by
  intro fuel
  induction fuel with
  | zero =>
   intro L a w hsz hu hcl hf hr hp hj
   have hz := unlisted_zero (L := L) (by omega)
   refine ⟨?_, fin L a w hf hr (fun j oj hj => ⟨hz j, hp j oj hj (hz j)⟩) hj⟩
   rw [List.eq_nil_iff_forall_not_mem]
   intro i hi
   have := (mem_ready.1 hi).1
   rw [hz i] at this; cases this
  | succ fuel ih =>
   intro L a w hsz hu hcl hf hr hp hj
   refine ⟨fun hn => fin L a w hf hr (fun j oj hj => ⟨all_listed2 hback hsz hn (j + 1) j (by omega), hp j oj hj (all_listed2 hback hsz hn (j + 1) j (by omega))⟩) hj, fun i hi => ?_⟩
   obtain ⟨hL, o, ho, hall⟩ := mem_ready.1 hi
   have hafter : ∀ e ∈ o.after, Region.binds .any e = true → L.getD e.on true = true := fun e he hb => by
    have := hall e he hb
    rcases Nat.lt_or_ge e.on L.size with h' | h'
    ·simp [h'] at this ⊢; exact this
    ·simp [Array.getElem?_eq_none h']
   refine wpOp_step ho fun K' hK' => step i o ho L a w hf hr hsz hL hcl hp hafter hj K' fun v w' hr' hphi hj' => hK' _ _ (ih _ _ _ (by simp [hsz]) (by have := unlisted_set hL; omega) (closed_set hcl ho hafter) (hf.put ho v) (hRt _ _ _ hr hr') ?_ hj')
   intro j oj hj hl
   by_cases e : i = j
   ·subst e
    rw [ho] at hj; cases hj
    exact hphi
   ·rw [slotOf_put hown ho hj e]
    rw [getD_set_ne true e] at hl
    exact stab j _ w w' hr' (hp j oj hj hl)
 exact main ops.size _ a0 _ (by simp) (by simp [unlisted, List.countP_replicate]) (by
  intro j oj hj hl
  have hjl : j < ops.size := (Array.getElem?_eq_some_iff.mp hj).1
  simp [hjl] at hl) ⟨rfl, rfl, fun _ _ => rfl⟩ hR0 (by
  intro j oj hj hl
  have hjl : j < ops.size := (Array.getElem?_eq_some_iff.mp hj).1
  simp [hjl] at hl) hJ0

def tailWp (P : Program) (ops : Array Oper) (Q : Exit → Act → World → Prop) : List Nat → Act → World → Prop
 | [], a, w => Q .normal a w
 | i :: is, a, w => ∀ o, ops[i]? = some o → ∀ K' : Act → World → Prop, (∀ a' w', tailWp P ops Q is a' w' → K' a' w') → if Region.wanted o (yielded ops a.tmps) = true then Oper.wp P o a w K' Q else K' (a.put o.dst undef) w

def tailB (ops : Array Oper) (m : Nat) : Bool := (List.range ops.size).all fun t => decide (t < m) || lastB ops t

theorem tail_of {m t : Nat} (h : tailB ops m = true) (hm : m ≤ t) (ht : t < ops.size) : lastB ops t = true := by
 have := List.all_eq_true.mp h t (List.mem_range.mpr ht)
 have hn : ¬ t < m := by omega
 simpa [hn] using this

theorem range_from (t k : Nat) : List.range' t (k + 1) = t :: List.range' (t + 1) k := by rw [List.range'_succ]

theorem wp_tail_seq {m : Nat} (hback : backB2 ops = true) (hT : tailB ops m = true) : ∀ (k fuel t : Nat) (L : Array Bool) (a : Act) (w : World), ops.size = t + k → k ≤ fuel → m ≤ t → L.size = ops.size → (∀ j, j < t → L.getD j true = true) → (∀ j, t ≤ j → j < ops.size → L.getD j true = false) →
  tailWp P ops Q (List.range' t k) a w → wpAny P .any ops Q fuel L a w := by
 intro k
 induction k with
 | zero =>
  intro fuel t L a w hs hf hmt hsz hl hu hq
  have hall : Region.ready .any ops L = [] := by
   rw [List.eq_nil_iff_forall_not_mem]
   intro i hi
   obtain ⟨h1, o, ho, _⟩ := mem_ready.1 hi
   have : i < ops.size := (Array.getElem?_eq_some_iff.mp ho).1
   rw [hl i (by omega)] at h1; cases h1
  cases fuel with
  | zero => exact ⟨hall, hq⟩
  | succ fuel => exact ⟨fun _ => hq, fun i hi => by rw [hall] at hi; cases hi⟩
 | succ k ih =>
  intro fuel t L a w hs hf hmt hsz hl hu hq
  cases fuel with
  | zero => omega
  | succ fuel =>
   have htl : t < ops.size := by omega
   obtain ⟨ot, hot⟩ : ∃ o, ops[t]? = some o := ⟨ops[t], Array.getElem?_eq_getElem htl⟩
   refine ⟨fun hn => ?_, fun i hi => ?_⟩
   ·have h1 := all_listed2 hback hsz hn (t + 1) t (by omega)
    rw [hu t (Nat.le_refl _) htl] at h1; cases h1
   ·obtain ⟨h1, o, ho, hall⟩ := mem_ready.1 hi
    have hil : i < ops.size := (Array.getElem?_eq_some_iff.mp ho).1
    have hti : t ≤ i := by
     rcases Nat.lt_or_ge i t with h' | h'
     ·rw [hl i h'] at h1; cases h1
     ·exact h'
    have hit : i = t := by
     rcases Nat.lt_or_ge t i with h' | h'
     ·obtain ⟨e, he, hb, rfl⟩ := last_of (tail_of hT (by omega) hil) ho h'
      have := hall e he hb
      have h2 := hu e.on (Nat.le_refl _) htl
      have h3 : e.on < L.size := by omega
      simp [h3] at this h2
      rw [this] at h2; cases h2
     ·omega
    subst hit
    rw [hot] at ho; cases ho
    rw [range_from] at hq
    refine wpOp_step hot fun K' hK' => hq ot hot K' fun a' w' ht => hK' _ _ (ih fuel (i + 1) _ a' w' (by omega) (by omega) (by omega) (by simp [hsz]) (fun j hj => ?_) (fun j hj hj' => ?_) ht)
    ·by_cases e : i = j
     ·subst e
      have : i < L.size := by omega
      simp [this]
     ·rw [getD_set_ne true e]; exact hl j (by omega)
    ·rw [getD_set_ne true (by omega)]; exact hu j (by omega) hj'

theorem unlisted_ge {m : Nat} {L : Array Bool} (hu : ∀ j, m ≤ j → j < L.size → L.getD j true = false) : L.size - m ≤ unlisted L := by
 unfold unlisted
 rw [← List.take_append_drop m L.toList, List.countP_append]
 have h1 : (L.toList.drop m).countP (fun b => !b) = (L.toList.drop m).length := by
  rw [List.countP_eq_length]
  intro b hb
  obtain ⟨k, hk⟩ := List.mem_iff_getElem?.mp hb
  rw [List.getElem?_drop] at hk
  have hlt : m + k < L.size := by
   have := (List.getElem?_eq_some_iff.mp hk).1
   simpa using this
  have := hu (m + k) (by omega) hlt
  simp [hlt] at this hk
  simp [← hk, this]
 rw [h1]
 simp

theorem wp_region_tail {id : Nat} (m : Nat) (hms : m ≤ ops.size) (hT : tailB ops m = true) (hm : P.follows .mixedOrders = true) (hback : backB2 ops = true) (hown : ownSlotsB ops = true)
  (hR0 : R w0.drew w0.drew) (hRt : ∀ a b c, R a b → R b c → R a c)
  (stab : ∀ j v w w', R w w' → Φ j v w → Φ j v w')
  (step : ∀ (i : Nat) (o : Oper), ops[i]? = some o → i < m → ∀ (a : Act) (w : World), Frames ops a0 a → R w0.drew w →
   (∀ e ∈ o.after, Region.binds .any e = true → ∀ oj, ops[e.on]? = some oj → Φ e.on (slotOf oj a) w) →
   ∀ K' : Act → World → Prop, (∀ v w', R w w' → Φ i (slotOf o (a.put o.dst v)) w' → K' (a.put o.dst v) w') →
    if Region.wanted o (yielded ops a.tmps) = true then Oper.wp P o a w K' Q else K' (a.put o.dst undef) w)
  (fin : ∀ (a : Act) (w : World), Frames ops a0 a → R w0.drew w → (∀ (j : Nat) (oj : Oper), j < m → ops[j]? = some oj → Φ j (slotOf oj a) w) → tailWp P ops Q (List.range' m (ops.size - m)) a w) :
  (Code.region id ops true).wp P Q a0 w0 := by
 refine wp_region_any hm ?_
 have main : ∀ (fuel : Nat) (L : Array Bool) (a : Act) (w : World), L.size = ops.size → unlisted L ≤ fuel → (∀ j, m ≤ j → j < ops.size → L.getD j true = false) → Frames ops a0 a → R w0.drew w →
   (∀ (j : Nat) (oj : Oper), ops[j]? = some oj → L.getD j true = true → Φ j (slotOf oj a) w) → wpAny P .any ops Q fuel L a w := by
  intro fuel
  induction fuel with
  | zero =>
   intro L a w hsz hu htl hf hr hp
   have h1 := unlisted_ge (L := L) (m := m) fun j h1 h2 => htl j h1 (by omega)
   have hz := unlisted_zero (L := L) (by omega)
   refine wp_tail_seq hback hT (ops.size - m) 0 m L a w (by omega) (by omega) (Nat.le_refl _) hsz (fun j _ => hz j) htl (fin a w hf hr fun j oj _ ho => hp j oj ho (hz j))
  | succ fuel ih =>
   intro L a w hsz hu htl hf hr hp
   by_cases hall : ∀ j, j < m → L.getD j true = true
   ·have h1 := unlisted_ge (L := L) (m := m) fun j h1 h2 => htl j h1 (by omega)
    exact wp_tail_seq hback hT (ops.size - m) (fuel + 1) m L a w (by omega) (by omega) (Nat.le_refl _) hsz hall htl (fin a w hf hr fun j oj hj ho => hp j oj ho (hall j hj))
   ·obtain ⟨q, hq⟩ := Classical.not_forall.mp hall
    have hqm : q < m := Classical.byContradiction fun h => hq fun h' => absurd h' h
    have hqL : L.getD q true = false := by
     cases h : L.getD q true with
     | false => rfl
     | true => exact absurd (fun _ => h) hq
    refine ⟨fun hn => ?_, fun i hi => ?_⟩
    ·rw [all_listed2 hback hsz hn (q + 1) q (by omega)] at hqL; cases hqL
    obtain ⟨hL, o, ho, hrd⟩ := mem_ready.1 hi
    have hil : i < ops.size := (Array.getElem?_eq_some_iff.mp ho).1
    have hafter : ∀ e ∈ o.after, Region.binds .any e = true → L.getD e.on true = true := fun e he hb => by
     have := hrd e he hb
     rcases Nat.lt_or_ge e.on L.size with h' | h'
     ·simp [h'] at this ⊢; exact this
     ·simp [Array.getElem?_eq_none h']
    have him : i < m := by
     rcases Nat.lt_or_ge i m with h' | h'
     ·exact h'
     ·obtain ⟨e, he, hb, rfl⟩ := last_of (tail_of hT h' hil) ho (show q < i by omega)
      rw [hafter e he hb] at hqL; cases hqL
    refine wpOp_step ho fun K' hK' => step i o ho him a w hf hr (fun e he hb oj hoj => hp _ oj hoj (hafter e he hb)) K' fun v w' hr' hphi => hK' _ _ (ih _ _ _ (by simp [hsz]) (by have := unlisted_set hL; omega) (fun j h1 h2 => ?_) (hf.put ho v) (hRt _ _ _ hr hr') ?_)
    ·rw [getD_set_ne true (by omega)]; exact htl j h1 h2
    ·intro j oj hj hl
     by_cases e : i = j
     ·subst e
      rw [ho] at hj; cases hj
      exact hphi
     ·rw [slotOf_put hown ho hj e]
      rw [getD_set_ne true e] at hl
      exact stab j _ w w' hr' (hp j oj hj hl)
 exact main ops.size _ a0 _ (by simp) (by simp [unlisted, List.countP_replicate]) (fun j _ h => by simp [h]) ⟨rfl, rfl, fun _ _ => rfl⟩ hR0 (by
  intro j oj hj hl
  have hjl : j < ops.size := (Array.getElem?_eq_some_iff.mp hj).1
  simp [hjl] at hl)
end
end Go.Proofs.YtaoiookfmgpmkaaGreatDoor
