/-
  Code that grows in memory by append.
-/
import Derived.Test.YtaoiookfmgpmkaaGreatDoorInsTo
import Derived.Maps.AppendAt
import Derived.Deep.AppendLies
import Derived.Deep.Upon
namespace Go.Proofs.YtaoiookfmgpmkaaGreatDoor
open Go.ChangeShapes Go.WideShapes Go.ChangeAt Go.RowKit
set_option linter.unusedVariables false

/-- The four cells of each instruction, one behind another. -/
def rowI : List InsD → List Value
  | [] => []
  | p :: ps => .int .i64 p.op :: .int .i64 p.n :: .int .i64 p.ak :: .int .i64 p.at_ :: rowI ps

theorem rowI_length (ps : List InsD) : (rowI ps).length = ps.length * 4 := by
  induction ps with
  | nil => rfl
  | cons p ps ih => rw [rowI]; simp only [List.length_cons]; omega

theorem rowI_append (ps qs : List InsD) : rowI (ps ++ qs) = rowI ps ++ rowI qs := by
  induction ps with
  | nil => rfl
  | cons p ps ih => rw [List.cons_append, rowI, rowI, ih]; rfl

theorem rowI_at {ps : List InsD} {i : Nat} {p : InsD} (h : ps[i]? = some p) : (rowI ps)[i * 4]? = some (.int .i64 p.op) ∧ (rowI ps)[i * 4 + 1]? = some (.int .i64 p.n) ∧ (rowI ps)[i * 4 + 2]? = some (.int .i64 p.ak) ∧ (rowI ps)[i * 4 + 3]? = some (.int .i64 p.at_) := by
  induction ps generalizing i with
  | nil => simp at h
  | cons q ps ih =>
    cases i with
    | zero =>
      simp at h
      subst h
      exact ⟨rfl, rfl, rfl, rfl⟩
    | succ i =>
      simp at h
      have := ih h
      have e : (i + 1) * 4 = i * 4 + 1 + 1 + 1 + 1 := by omega
      rw [rowI, e]
      exact this

theorem rowI_one (ps : List InsD) : ∀ u ∈ rowI ps, u.oneCell' = true := by
  induction ps with
  | nil => intro u hu; simp [rowI] at hu
  | cons p ps ih =>
    intro u hu
    rw [rowI] at hu
    simp only [List.mem_cons] at hu
    rcases hu with rfl | rfl | rfl | rfl | hu
    · rfl
    · rfl
    · rfl
    · rfl
    · exact ih u hu

theorem NR.cells {w : World} {lo hi : Nat} {b off len cap : Nat} {ps : List InsD} (h : NR w lo hi (.slice (some ⟨b, off, none⟩) len cap) ps) : ∀ j u, (rowI ps)[j]? = some u → w.cell? ((⟨b, off, none⟩ : Go.Addr).add j) = some u := by
  intro j u hu
  have hj : j < ps.length * 4 := by have := (List.getElem?_eq_some_iff.mp hu).1; rwa [rowI_length] at this
  obtain ⟨p, hp⟩ : ∃ p, ps[j / 4]? = some p := ⟨ps[j / 4]'(by omega), List.getElem?_eq_getElem _⟩
  obtain ⟨b', off', cap', hv, _, _, hc⟩ := h.at_ hp
  simp only [Value.slice.injEq, Option.some.injEq, Addr.mk.injEq, and_true] at hv
  obtain ⟨⟨rfl, rfl⟩, _⟩ := hv
  obtain ⟨a0, a1, a2, a3⟩ := rowI_at hp
  rw [Addr.add_lit]
  obtain e | e | e | e : j = j / 4 * 4 ∨ j = j / 4 * 4 + 1 ∨ j = j / 4 * 4 + 2 ∨ j = j / 4 * 4 + 3 := by omega
  · rw [e] at hu ⊢; rw [a0] at hu; rw [← hu]; have : j / 4 * 4 / 4 = j / 4 := by omega
    exact hc.c0
  · rw [e] at hu ⊢; rw [a1] at hu; rw [← hu]; exact hc.c1
  · rw [e] at hu ⊢; rw [a2] at hu; rw [← hu]; exact hc.c2
  · rw [e] at hu ⊢; rw [a3] at hu; rw [← hu]; exact hc.c3

/-- Code in a row of one's own, from base on. -/
def RowI (w : World) (base : Nat) (v : Value) (ps : List InsD) : Prop := w.ownsRow base 182 4 v ps.length (rowI ps)

theorem RowI.lt {w : World} {base : Nat} {v : Value} {ps : List InsD} (h : RowI w base v ps) : ∀ k, v.ownBlock = some k → base ≤ k ∧ k < w.heap.size := World.ownsRow.lt h

theorem RowI.shape {w : World} {base : Nat} {v : Value} {ps : List InsD} (h : RowI w base v ps) : ∃ ad cap, v = .slice ad ps.length cap ∧ ps.length ≤ cap ∧ cap ≤ maxLen := by
  rcases h.2 with ⟨rfl, hn⟩ | ⟨g, cap, cur, rfl, hb, hh, hc, hm, _⟩
  · exact ⟨none, 0, by rw [hn], by omega, Nat.zero_le _⟩
  · exact ⟨_, cap, rfl, hc, hm⟩

theorem RowI.no {w : World} {base : Nat} {v : Value} {ps : List InsD} (h : RowI w base v ps) : NO w base w.heap.size v ps := by
  rcases h.2 with ⟨rfl, hn⟩ | ⟨g, cap, cur, rfl, hb, hh, hc, hm, _⟩
  · exact .inl ⟨List.eq_nil_of_length_eq_zero hn, none, 0, rfl, Nat.zero_le _⟩
  · refine .inr ⟨g, 0, cap, rfl, hc, hm, hb, (Array.getElem?_eq_some_iff.mp hh).1, fun i p hp => ?_, fun o => by rw [Nat.zero_add]; exact World.ownsRow.frozenAt h o⟩
    have hil : i < ps.length := (List.getElem?_eq_some_iff.mp hp).1
    obtain ⟨a0, a1, a2, a3⟩ := rowI_at hp
    rw [Nat.zero_add]
    exact ⟨by rw [World.ownsRow.cellAt h _ (by omega)]; exact a0, by rw [World.ownsRow.cellAt h _ (by omega)]; exact a1, by rw [World.ownsRow.cellAt h _ (by omega)]; exact a2, by rw [World.ownsRow.cellAt h _ (by omega)]; exact a3⟩

theorem RowI.at_ {w w' : World} {base : Nat} {v : Value} {ps : List InsD} (h : RowI w base v ps) (hk : ∀ g, v.ownBlock = some g → w'.heap[g]? = w.heap[g]?) : RowI w' base v ps := by
  refine ⟨h.1, ?_⟩
  rcases h.2 with ⟨rfl, hn⟩ | ⟨g, cap, cur, rfl, hb, hh, r⟩
  · exact .inl ⟨rfl, hn⟩
  · exact .inr ⟨g, cap, cur, rfl, hb, by rw [hk g rfl]; exact hh, r⟩

theorem RowI.below {w w' : World} {base n : Nat} {v : Value} {ps : List InsD} (h : RowI w base v ps) (hb : Below n w w') (hn : w.heap.size ≤ n) : RowI w' base v ps :=
  h.at_ fun g hg => hb.block g (by have := (h.lt g hg).2; omega)

theorem RowI.mono {w : World} {base base' : Nat} {v : Value} {ps : List InsD} (h : RowI w base v ps) (hb : base' ≤ base) : RowI w base' v ps := by
  refine ⟨h.1, ?_⟩
  rcases h.2 with ⟨rfl, hn⟩ | ⟨g, cap, cur, rfl, hb', r⟩
  · exact .inl ⟨rfl, hn⟩
  · exact .inr ⟨g, cap, cur, rfl, by omega, r⟩

theorem rowI_nil (w : World) (base : Nat) : RowI w base (.slice none 0 0) [] := World.ownsRow_nil _ _ _ _

/-- One instruction in a new block. -/
theorem rowI_lit (w : World) (p : InsD) (base : Nat) (hb : base ≤ w.heap.size) : RowI (w.alloc (.cells #[.int .i64 p.op, .int .i64 p.n, .int .i64 p.ak, .int .i64 p.at_] 182)) base (.slice (some ⟨w.heap.size, 0, none⟩) 1 1) [p] :=
  ⟨rfl, .inr ⟨w.heap.size, 1, _, rfl, hb, heap_alloc_new w _, Nat.le_refl _, by unfold maxLen; omega, rfl, rfl⟩⟩

/-- No instruction, in a new block. -/
theorem rowI_none (w : World) (base : Nat) (hb : base ≤ w.heap.size) : RowI (w.alloc (.cells #[] 182)) base (.slice (some ⟨w.heap.size, 0, none⟩) 0 0) [] :=
  ⟨rfl, .inr ⟨w.heap.size, 0, _, rfl, hb, heap_alloc_new w _, Nat.le_refl _, Nat.zero_le _, rfl, rfl⟩⟩

/-- What an append of code leaves. -/
structure AppI (w : World) (base : Nat) (v : Value) (ps : List InsD) (v' : Value) (w' : World) : Prop where
  row : RowI w' base v' ps
  grown : w.grownBy w' v.ownBlock
  at_ : v'.ownBlock = v.ownBlock ∨ v'.ownBlock = some w.heap.size

theorem run_appI (w : World) (base ty lo hi : Nat) (v x : Value) (ps qs : List InsD) (hr : RowI w base v ps) (hx : NR w lo hi x qs) (hb : base ≤ w.heap.size) (hn : ps.length + qs.length ≤ 16777216) :
    ∃ v' w', (Builtin.append_ #[94, 94] ty #[v, x]).run Tryz.prog w = .ok v' w' ∧ AppI w base v (ps ++ qs) v' w' := by
  obtain ⟨i0, hi0, hz0, hz1, hz2⟩ := info_parts info_ins
  obtain ⟨ad, cap, rfl, hc1, hc2⟩ := hx.shape
  cases ad with
  | none =>
    obtain rfl : qs = [] := by
      obtain ⟨_, _, hv, _, _, h3⟩ := hx
      rcases h3 with h3 | ⟨b, off, rfl, _⟩
      · exact h3
      · simp at hv
    obtain ⟨a0, c0, rfl, h0, _⟩ := hr.shape
    have hs : Src Tryz.prog i0.size 94 (.slice none 0 cap) 0 [] w := Src.ofNil _ Tryz.underlying94 cap
    have hrun := run_append_nothing (P := Tryz.prog) w 94 94 ty 182 i0 Tryz.underlying94 hi0 a0 ps.length c0 h0 _ hs
    exact ⟨_, w, hrun, ⟨by rw [List.append_nil]; exact hr, ⟨rfl, rfl, rfl, Nat.le_refl _, fun _ _ _ => rfl⟩, .inl rfl⟩⟩
  | some a =>
    by_cases he : qs = []
    · subst he
      obtain ⟨v', w', hrun, h2, h3, _, h5⟩ := run_append_own_at (P := Tryz.prog) w base 94 ty 182 i0 (.agg #[.int .i64 0, .int .i64 0, .int .i64 0, .int .i64 0]) 4 32 Tryz.underlying94 hi0 hz0 hz1 hz2 rfl (by decide) v ps.length (rowI ps) hr a 0 cap [] (by simp) (fun j u h => by simp at h) (fun u h => by simp at h) (by unfold maxLen; omega) (by simp at hn; omega) hb
      rw [Nat.add_zero, List.append_nil] at h2
      exact ⟨v', w', hrun, ⟨by rw [List.append_nil]; exact h2, h3, h5⟩⟩
    · obtain ⟨b, off, hab⟩ : ∃ b off, a = ⟨b, off, none⟩ := by
        obtain ⟨_, _, hv, _, _, h3⟩ := id hx
        rcases h3 with h3 | ⟨b, off, rfl, _⟩
        · exact absurd h3 he
        · simp only [Value.slice.injEq, Option.some.injEq] at hv
          exact ⟨b, off, hv.1⟩
      subst hab
      obtain ⟨v', w', hrun, h2, h3, _, h5⟩ := run_append_own_at (P := Tryz.prog) w base 94 ty 182 i0 (.agg #[.int .i64 0, .int .i64 0, .int .i64 0, .int .i64 0]) 4 32 Tryz.underlying94 hi0 hz0 hz1 hz2 rfl (by decide) v ps.length (rowI ps) hr ⟨b, off, none⟩ qs.length cap (rowI qs) (rowI_length _) hx.cells (rowI_one _) (by unfold maxLen; omega) (by omega) hb
      exact ⟨v', w', hrun, ⟨by unfold RowI; rw [rowI_append, List.length_append]; exact h2, h3, h5⟩⟩

section
variable {ops : Array Oper} {rest : List Oper} {o : Oper} {a : Act} {Q : Exit → Act → World → Prop} {K : Act → World → Prop} {w : World}

theorem wp_appI (s x : Operand) (hop : o.op = .call { callee := .builtin .append, args := #[s, x], argTypes := #[94, 94] })
    (base lo hi : Nat) {v xv : Value} {ps qs : List InsD} (hs : a.eval s = v) (hx : a.eval x = xv) (hr : RowI w base v ps) (hn : NR w lo hi xv qs) (hb : base ≤ w.heap.size) (hl : ps.length + qs.length ≤ 16777216)
    (hK : ∀ v' w', AppI w base v (ps ++ qs) v' w' → K (a.put o.dst v') w') : o.wp Tryz.prog a w K Q := by
  obtain ⟨v', w', hrun, h⟩ := run_appI w base o.type lo hi v xv ps qs hr hn hb hl
  unfold Oper.wp execOp
  simp only [hop, resolve, invoke, builtin, Sem.run_bind, Sem.run_pure, Result.andThen_ok, List.map_toArray, List.map_cons, List.map_nil, hs, hx, hrun]
  exact hK v' w' h

theorem wpList_appI (hg : o.guard = none) (s x : Operand) (hop : o.op = .call { callee := .builtin .append, args := #[s, x], argTypes := #[94, 94] })
    (base lo hi : Nat) {v xv : Value} {ps qs : List InsD} (hs : a.eval s = v) (hx : a.eval x = xv) (hr : RowI w base v ps) (hn : NR w lo hi xv qs) (hb : base ≤ w.heap.size) (hl : ps.length + qs.length ≤ 16777216)
    (hK : Hid (∀ v' w', AppI w base v (ps ++ qs) v' w' → wpList Tryz.prog ops Q rest (a.put o.dst v') w')) : wpList Tryz.prog ops Q (o :: rest) a w :=
  wpList_plain hg fun _ hK' => wp_appI s x hop base lo hi hs hx hr hn hb hl fun v' w' h => hK' _ _ (hK.out v' w' h)

theorem step_appI {E : Prop} (hg : o.guard = none) (s x : Operand) (hop : o.op = .call { callee := .builtin .append, args := #[s, x], argTypes := #[94, 94] })
    (base lo hi : Nat) {v xv : Value} {ps qs : List InsD} (hs : a.eval s = v) (hx : a.eval x = xv) (hr : RowI w base v ps) (hn : NR w lo hi xv qs) (hb : base ≤ w.heap.size) (hl : ps.length + qs.length ≤ 16777216)
    (hK : ∀ v' w', AppI w base v (ps ++ qs) v' w' → K (a.put o.dst v') w') :
    if Region.wanted o (yielded ops a.tmps) = true then Oper.wp Tryz.prog o a w K Q else E := by
  rw [if_pos (by simp [Region.wanted, hg])]
  exact wp_appI s x hop base lo hi hs hx hr hn hb hl hK
end

/-- An append leaves old blocks below the row's base as they were. -/
theorem AppI.below {w w' : World} {base n : Nat} {v v' : Value} {ps qs : List InsD} (h : AppI w base v ps v' w') (hr : RowI w base v qs) (hn : n ≤ base) (hb : base ≤ w.heap.size) : Below n w w' :=
  (Below.refl n w).grown h.grown (by omega) fun k hk => by have := (hr.lt k hk).1; omega
end Go.Proofs.YtaoiookfmgpmkaaGreatDoor
