/-
  Numbers that are held: a row of one's own that is cut at its end and appended to, in place where there is room.
-/
import Derived.Test.YtdhpbiplkjpiiaaGreatDoorQC6
import Derived.Maps.AppendAt
import Derived.Deep.AppendLies
import Derived.Deep.Upon
namespace Go.Proofs.YtdhpbiplkjpiiaaGreatDoor
open Go.ChangeShapes Go.WideShapes Go.ChangeAt Go.RowKit
set_option linter.unusedVariables false

/-- The cells of numbers. -/
def rowZ (xs : List Int) : List Value := xs.map (Value.int .i64)

theorem rowZ_length (xs : List Int) : (rowZ xs).length = xs.length := by simp [rowZ]

/-- Numbers in a row of one's own, from base on. -/
def RowZ (w : World) (base : Nat) (v : Value) (xs : List Int) : Prop := w.ownsRow base 3 1 v xs.length (rowZ xs)

theorem RowZ.lt {w : World} {base : Nat} {v : Value} {xs : List Int} (h : RowZ w base v xs) : ∀ k, v.ownBlock = some k → base ≤ k ∧ k < w.heap.size := World.ownsRow.lt h

theorem RowZ.shape {w : World} {base : Nat} {v : Value} {xs : List Int} (h : RowZ w base v xs) : ∃ ad cap, v = .slice ad xs.length cap ∧ xs.length ≤ cap ∧ cap ≤ maxLen := by
  rcases h.2 with ⟨rfl, hn⟩ | ⟨g, cap, cur, rfl, hb, hh, hc, hm, _⟩
  · exact ⟨none, 0, by rw [hn], by omega, Nat.zero_le _⟩
  · exact ⟨_, cap, rfl, hc, hm⟩

/-- Where there is a number the row has a block. -/
theorem RowZ.block {w : World} {base : Nat} {v : Value} {xs : List Int} (h : RowZ w base v xs) (hx : 0 < xs.length) : ∃ g cap, v = .slice (some ⟨g, 0, none⟩) xs.length cap ∧ xs.length ≤ cap ∧ cap ≤ maxLen ∧ base ≤ g ∧ g < w.heap.size ∧ ∀ (i : Nat) (x : Int), xs[i]? = some x → w.cell? ⟨g, i, none⟩ = some (.int .i64 x) := by
  have h0 := h
  rcases h.2 with ⟨rfl, hn⟩ | ⟨g, cap, cur, rfl, hb, hh, hc, hm, _⟩
  · omega
  · refine ⟨g, cap, rfl, hc, hm, hb, (Array.getElem?_eq_some_iff.mp hh).1, fun i x hi => ?_⟩
    have hil : i < xs.length := (List.getElem?_eq_some_iff.mp hi).1
    rw [World.ownsRow.cellAt h0 _ (by omega)]
    unfold rowZ
    rw [List.getElem?_map, hi]; rfl

theorem RowZ.at_ {w w' : World} {base : Nat} {v : Value} {xs : List Int} (h : RowZ w base v xs) (hk : ∀ g, v.ownBlock = some g → w'.heap[g]? = w.heap[g]?) : RowZ w' base v xs := by
  refine ⟨h.1, ?_⟩
  rcases h.2 with ⟨rfl, hn⟩ | ⟨g, cap, cur, rfl, hb, hh, r⟩
  · exact .inl ⟨rfl, hn⟩
  · exact .inr ⟨g, cap, cur, rfl, hb, by rw [hk g rfl]; exact hh, r⟩

theorem RowZ.below {w w' : World} {base n : Nat} {v : Value} {xs : List Int} (h : RowZ w base v xs) (hb : Below n w w') (hn : w.heap.size ≤ n) : RowZ w' base v xs :=
  h.at_ fun g hg => hb.block g (by have := (h.lt g hg).2; omega)

theorem RowZ.mono {w : World} {base base' : Nat} {v : Value} {xs : List Int} (h : RowZ w base v xs) (hb : base' ≤ base) : RowZ w base' v xs := by
  refine ⟨h.1, ?_⟩
  rcases h.2 with ⟨rfl, hn⟩ | ⟨g, cap, cur, rfl, hb', r⟩
  · exact .inl ⟨rfl, hn⟩
  · exact .inr ⟨g, cap, cur, rfl, by omega, r⟩

/-- It is cut at its end: what was behind stays in the spare room. -/
theorem RowZ.cut {w : World} {base : Nat} {ad : Option Go.Addr} {cap n : Nat} {xs : List Int} (h : RowZ w base (.slice ad n cap) xs) (k : Nat) (hk : k ≤ xs.length) : RowZ w base (.slice ad k cap) (xs.take k) := by
  have hl : (xs.take k).length = k := by rw [List.length_take]; omega
  refine ⟨by rw [rowZ_length]; omega, ?_⟩
  rw [hl]
  rcases h.2 with ⟨hv, hn⟩ | ⟨g, cap', cur, hv, hb, hh, hc, hm, hs, ht⟩
  · simp only [Value.slice.injEq] at hv
    obtain ⟨rfl, rfl, rfl⟩ := hv
    exact .inl ⟨by congr 1; omega, by omega⟩
  · simp only [Value.slice.injEq] at hv
    obtain ⟨rfl, rfl, rfl⟩ := hv
    refine .inr ⟨g, cap, cur, rfl, hb, hh, by omega, hm, hs, ?_⟩
    unfold rowZ at *
    rw [Nat.mul_one] at ht ⊢
    rw [List.map_take, ← ht, List.take_take, Nat.min_eq_left hk]

/-- No number yet, in a new block. -/
theorem rowZ_none (w : World) (base : Nat) (hb : base ≤ w.heap.size) : RowZ (w.alloc (.cells #[] 3)) base (.slice (some ⟨w.heap.size, 0, none⟩) 0 0) [] :=
  ⟨rfl, .inr ⟨w.heap.size, 0, _, rfl, hb, heap_alloc_new w _, Nat.le_refl _, Nat.zero_le _, rfl, rfl⟩⟩

/-- What an append of one number leaves. -/
structure AppZ (w : World) (base : Nat) (v : Value) (xs : List Int) (v' : Value) (w' : World) : Prop where
  row : RowZ w' base v' xs
  grown : w.grownBy w' v.ownBlock
  at_ : v'.ownBlock = v.ownBlock ∨ v'.ownBlock = some w.heap.size

theorem run_appZ (w : World) (base ty : Nat) (v : Value) (xs : List Int) (b : Nat) (x : Int) (hr : RowZ w base v xs) (hx : w.cell? ⟨b, 0, none⟩ = some (.int .i64 x)) (hb : base ≤ w.heap.size) (hn : xs.length + 1 ≤ 16777216) :
    ∃ v' w', (Builtin.append_ #[22, 22] ty #[v, .slice (some ⟨b, 0, none⟩) 1 1]).run Tryz.prog w = .ok v' w' ∧ AppZ w base v (xs ++ [x]) v' w' := by
  obtain ⟨i0, hi0, hz0, hz1, hz2⟩ := info_parts info_int
  obtain ⟨v', w', hrun, h2, h3, _, h5⟩ := run_append_own_at (P := Tryz.prog) w base 22 ty 3 i0 (.int .i64 0) 1 8 Tryz.underlying22 hi0 hz0 hz1 hz2 rfl (by decide) v xs.length (rowZ xs) hr ⟨b, 0, none⟩ 1 1 [.int .i64 x] rfl (fun j u h => by
      have hj : j = 0 := by have := (List.getElem?_eq_some_iff.mp h).1; simp at this; exact this
      subst hj
      simp at h
      rw [← h]
      exact hx) (fun u h => by simp at h; rw [h]; rfl) (by unfold maxLen; omega) (by omega) hb
  refine ⟨v', w', hrun, ⟨?_, h3, h5⟩⟩
  unfold RowZ rowZ
  rw [List.map_append, List.length_append]
  exact h2

section
variable {ops : Array Oper} {rest : List Oper} {o : Oper} {a : Act} {Q : Exit → Act → World → Prop} {K : Act → World → Prop} {w : World}

theorem step_appZ {E : Prop} (hg : o.guard = none) (s x : Operand) (hop : o.op = .call { callee := .builtin .append, args := #[s, x], argTypes := #[22, 22] })
    (base : Nat) {v : Value} {xs : List Int} {b : Nat} {z : Int} (hs : a.eval s = v) (hx : a.eval x = .slice (some ⟨b, 0, none⟩) 1 1) (hr : RowZ w base v xs) (hc : w.cell? ⟨b, 0, none⟩ = some (.int .i64 z)) (hb : base ≤ w.heap.size) (hl : xs.length + 1 ≤ 16777216)
    (hK : ∀ v' w', AppZ w base v (xs ++ [z]) v' w' → K (a.put o.dst v') w') :
    if Region.wanted o (yielded ops a.tmps) = true then Oper.wp Tryz.prog o a w K Q else E := by
  rw [if_pos (by simp [Region.wanted, hg])]
  obtain ⟨v', w', hrun, h⟩ := run_appZ w base o.type v xs b z hr hc hb hl
  unfold Oper.wp execOp
  simp only [hop, resolve, invoke, builtin, Sem.run_bind, Sem.run_pure, Result.andThen_ok, List.map_toArray, List.map_cons, List.map_nil, hs, hx, hrun]
  exact hK v' w' h
end

section
variable {ops : Array Oper} {rest : List Oper} {o : Oper} {a : Act} {Q : Exit → Act → World → Prop} {w : World}

theorem wpList_appZ (hg : o.guard = none) (s x : Operand) (hop : o.op = .call { callee := .builtin .append, args := #[s, x], argTypes := #[22, 22] })
    (base : Nat) {v : Value} {xs : List Int} {b : Nat} {z : Int} (hs : a.eval s = v) (hx : a.eval x = .slice (some ⟨b, 0, none⟩) 1 1) (hr : RowZ w base v xs) (hc : w.cell? ⟨b, 0, none⟩ = some (.int .i64 z)) (hb : base ≤ w.heap.size) (hl : xs.length + 1 ≤ 16777216)
    (hK : Hid (∀ v' w', AppZ w base v (xs ++ [z]) v' w' → wpList Tryz.prog ops Q rest (a.put o.dst v') w')) : wpList Tryz.prog ops Q (o :: rest) a w :=
  wpList_step fun _ hK' => step_appZ (E := _) hg s x hop base hs hx hr hc hb hl fun v' w' h => hK' _ _ (hK.out v' w' h)
end

theorem AppZ.below {w w' : World} {base n : Nat} {v v' : Value} {xs ys : List Int} (h : AppZ w base v xs v' w') (hr : RowZ w base v ys) (hn : n ≤ base) (hb : base ≤ w.heap.size) : Below n w w' :=
  (Below.refl n w).grown h.grown (by omega) fun k hk => by have := (hr.lt k hk).1; omega
end Go.Proofs.YtdhpbiplkjpiiaaGreatDoor
