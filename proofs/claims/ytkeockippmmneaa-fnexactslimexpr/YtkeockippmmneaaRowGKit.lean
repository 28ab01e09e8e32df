/-
  Elements that grow by append, in general; one element of a list stored.
-/
import Derived.Test.YtkeockippmmneaaGenKit
import Derived.Maps.AppendAt
import Derived.Deep.AppendLies
import Derived.Deep.Upon
namespace Go.Proofs.Ytkeockippmmneaa
open Go.ChangeShapes Go.WideShapes Go.ChangeAt Go.RowKit
set_option linter.unusedVariables false
set_option linter.unusedSimpArgs false

/-! Elements that grow by append. -/
section
variable {α : Type} {E : Elem α}
def rowG (E : Elem α) (xs : List α) : List Value := xs.flatMap E.cells
theorem rowG_length (xs : List α) : (rowG E xs).length = xs.length * E.k := by
  induction xs with
  | nil => simp [rowG]
  | cons x xs ih => unfold rowG at *; rw [List.flatMap_cons, List.length_append, ih, E.len, List.length_cons, Nat.succ_mul]; omega
theorem rowG_snoc (xs : List α) (x : α) : rowG E (xs ++ [x]) = rowG E xs ++ E.cells x := by simp [rowG]
theorem rowG_at {xs : List α} {i : Nat} {x : α} (h : xs[i]? = some x) {j : Nat} {v : Value} (hv : (E.cells x)[j]? = some v) : (rowG E xs)[i * E.k + j]? = some v := by
  have hj : j < E.k := by have := (List.getElem?_eq_some_iff.mp hv).1; rwa [E.len] at this
  induction xs generalizing i with
  | nil => simp at h
  | cons y xs ih =>
    have e : rowG E (y :: xs) = E.cells y ++ rowG E xs := by simp [rowG]
    rw [e]
    cases i with
    | zero =>
      simp at h
      subst h
      rw [Nat.zero_mul, Nat.zero_add, List.getElem?_append_left (by rw [E.len]; exact hj)]
      exact hv
    | succ i =>
      simp at h
      rw [List.getElem?_append_right (by rw [E.len, Nat.succ_mul]; omega), E.len, show (i + 1) * E.k + j - E.k = i * E.k + j by rw [Nat.succ_mul]; omega]
      exact ih h

/-- Elements in a row of one's own, from base on. -/
def RowG (E : Elem α) (T : TypeId) (w : World) (base : Nat) (v : Value) (xs : List α) : Prop := w.ownsRow base T E.k v xs.length (rowG E xs)
theorem RowG.lt {T : TypeId} {w : World} {base : Nat} {v : Value} {xs : List α} (h : RowG E T w base v xs) : ∀ k, v.ownBlock = some k → base ≤ k ∧ k < w.heap.size := World.ownsRow.lt h
theorem RowG.shape {T : TypeId} {w : World} {base : Nat} {v : Value} {xs : List α} (h : RowG E T w base v xs) : ∃ ad cap, v = .slice ad xs.length cap := by
  rcases h.2 with ⟨rfl, hn⟩ | ⟨g, cap, cur, rfl, hb, hh, hc, hm, _⟩
  · exact ⟨none, 0, by rw [hn]⟩
  · exact ⟨_, cap, rfl⟩
theorem RowG.go {T : TypeId} {w : World} {base : Nat} {v : Value} {xs : List α} (h : RowG E T w base v xs) : GO E w base w.heap.size v xs := by
  rcases h.2 with ⟨rfl, hn⟩ | ⟨g, cap, cur, rfl, hb, hh, hc, hm, _⟩
  · exact .inl ⟨List.eq_nil_of_length_eq_zero hn, none, 0, rfl, Nat.zero_le _⟩
  · refine .inr ⟨g, 0, cap, rfl, hc, hm, hb, (Array.getElem?_eq_some_iff.mp hh).1, fun i x hx j v hv => ?_, fun o => by rw [Nat.zero_add]; exact World.ownsRow.frozenAt h o⟩
    have hil : i < xs.length := (List.getElem?_eq_some_iff.mp hx).1
    have hj : j < E.k := by have := (List.getElem?_eq_some_iff.mp hv).1; rwa [E.len] at this
    have hle : i * E.k + E.k ≤ xs.length * E.k := by rw [← Nat.succ_mul]; exact Nat.mul_le_mul_right _ hil
    rw [Nat.zero_add, World.ownsRow.cellAt h _ (by omega)]
    exact rowG_at hx hv
theorem RowG.at_ {T : TypeId} {w w' : World} {base : Nat} {v : Value} {xs : List α} (h : RowG E T w base v xs) (hk : ∀ g, v.ownBlock = some g → w'.heap[g]? = w.heap[g]?) : RowG E T w' base v xs := by
  refine ⟨h.1, ?_⟩
  rcases h.2 with ⟨rfl, hn⟩ | ⟨g, cap, cur, rfl, hb, hh, r⟩
  · exact .inl ⟨rfl, hn⟩
  · exact .inr ⟨g, cap, cur, rfl, hb, by rw [hk g rfl]; exact hh, r⟩
theorem RowG.below {T : TypeId} {w w' : World} {base n : Nat} {v : Value} {xs : List α} (h : RowG E T w base v xs) (hb : Below n w w') (hn : w.heap.size ≤ n) : RowG E T w' base v xs :=
  h.at_ fun g hg => hb.block g (by have := (h.lt g hg).2; omega)
theorem rowG_nil (T : TypeId) (w : World) (base : Nat) : RowG E T w base (.slice none 0 0) [] := World.ownsRow_nil _ _ _ _

/-- One element of a list stored. -/
theorem go_set {w u : World} {b n j : Nat} {xs : List α} {y : α} (h : GO E w b (b + 1) (.slice (some ⟨b, 0, none⟩) n n) xs) (hn : xs.length = n) (hj : j < n) (hL : LaidG w u b (j * E.k) (E.cells y)) : GO E u b (b + 1) (.slice (some ⟨b, 0, none⟩) n n) (xs.set j y) := by
  rcases h with ⟨h0, _⟩ | ⟨g, off, cap, hv, h1, h2, h3, h4, h5, h6⟩
  · rw [h0] at hn; simp at hn; omega
  · simp only [Value.slice.injEq, Option.some.injEq, Addr.mk.injEq, and_true] at hv
    obtain ⟨⟨rfl, rfl⟩, _, rfl⟩ := hv
    refine .inr ⟨b, 0, n, by rw [List.length_set, hn], by rw [List.length_set]; exact h1, h2, h3, h4, fun i x hx => ?_, fun o => by rw [hL.frozen]; exact h6 o⟩
    rw [Nat.zero_add]
    by_cases e : i = j
    · subst e
      rw [List.getElem?_set_self (by omega)] at hx
      cases hx
      exact hL.cv
    · rw [List.getElem?_set_ne (fun h => e h.symm)] at hx
      have hc := h5 i x hx
      rw [Nat.zero_add] at hc
      intro p v hp
      have hlen : p < E.k := by have := (List.getElem?_eq_some_iff.mp hp).1; rwa [E.len] at this
      have hside : i * E.k + E.k ≤ j * E.k ∨ j * E.k + E.k ≤ i * E.k := by
        rcases Nat.lt_or_gt_of_ne e with h | h
        · left; rw [← Nat.succ_mul]; exact Nat.mul_le_mul_right _ h
        · right; rw [← Nat.succ_mul]; exact Nat.mul_le_mul_right _ h
      rw [hL.cell _ _ (by rw [E.len]; omega)]
      exact hc p v hp

/-- Where an element may be stored. -/
theorem go_room {w : World} {b n j : Nat} {xs : List α} (h : GO E w b (b + 1) (.slice (some ⟨b, 0, none⟩) n n) xs) (hn : xs.length = n) (hj : j < n) : (∀ y, j * E.k ≤ y → y < j * E.k + E.k → (w.cell? ⟨b, y, none⟩).isSome = true) ∧ ∀ y, j * E.k ≤ y → y < j * E.k + E.k → w.frozen? ⟨b, y, none⟩ = false := by
  rcases h with ⟨h0, _⟩ | ⟨g, off, cap, hv, h1, h2, h3, h4, h5, h6⟩
  · rw [h0] at hn; simp at hn; omega
  · simp only [Value.slice.injEq, Option.some.injEq, Addr.mk.injEq, and_true] at hv
    obtain ⟨⟨rfl, rfl⟩, _, rfl⟩ := hv
    have hc := h5 j _ (List.getElem?_eq_getElem (by omega))
    rw [Nat.zero_add] at hc
    exact ⟨fun y h1 h2 => hc.some_ h1 (by rw [E.len]; exact h2), fun y _ _ => by have := h6 y; rwa [Nat.zero_add] at this⟩
end


/-- A place of an owned list, and what a store there leaves. -/
theorem GO.setAt {α : Type} {E : Elem α} {w : World} {lo hi j : Nat} {v : Value} {xs : List α} {x : α} (h : GO E w lo hi v xs) (hx : xs[j]? = some x) :
    ∃ g off cap, v = .slice (some ⟨g, off, none⟩) xs.length cap ∧ lo ≤ g ∧ g < hi ∧ xs.length ≤ cap ∧ CV w g (off + j * E.k) (E.cells x) ∧ (∀ o, w.frozen? ⟨g, off + o, none⟩ = false) ∧ ∀ u y, LaidG w u g (off + j * E.k) (E.cells y) → GO E u lo hi v (xs.set j y) := by
  have hj : j < xs.length := (List.getElem?_eq_some_iff.mp hx).1
  rcases h with ⟨h0, _⟩ | ⟨g, off, cap, hv, h1, h2, h3, h4, h5, h6⟩
  · rw [h0] at hj; simp at hj
  · refine ⟨g, off, cap, hv, h3, h4, h1, h5 j x hx, h6, fun u y hL => .inr ⟨g, off, cap, by rw [List.length_set]; exact hv, by rw [List.length_set]; exact h1, h2, h3, h4, fun i z hz => ?_, fun o => by rw [hL.frozen]; exact h6 o⟩⟩
    by_cases e : i = j
    · subst e
      rw [List.getElem?_set_self hj] at hz
      cases hz
      exact hL.cv
    · rw [List.getElem?_set_ne (fun h => e h.symm)] at hz
      have hc := h5 i z hz
      intro p v hp
      have hlen : p < E.k := by have := (List.getElem?_eq_some_iff.mp hp).1; rwa [E.len] at this
      have hside : i * E.k + E.k ≤ j * E.k ∨ j * E.k + E.k ≤ i * E.k := by
        rcases Nat.lt_or_gt_of_ne e with h | h
        · left; rw [← Nat.succ_mul]; exact Nat.mul_le_mul_right _ h
        · right; rw [← Nat.succ_mul]; exact Nat.mul_le_mul_right _ h
      rw [hL.cell _ _ (by rw [E.len]; omega)]
      exact hc p v hp

/-! An append of a list of elements. -/
section
variable {α : Type} {E : Elem α} {P : Program}

theorem GR.cellsG {w : World} {lo hi : Nat} {b off len cap : Nat} {xs : List α} (h : GR E w lo hi (.slice (some ⟨b, off, none⟩) len cap) xs) : ∀ j u, (rowG E xs)[j]? = some u → w.cell? ((⟨b, off, none⟩ : Go.Addr).add j) = some u := by
  intro j u hu
  have hj : j < xs.length * E.k := by have := (List.getElem?_eq_some_iff.mp hu).1; rwa [rowG_length] at this
  have hk := E.pos
  have hq : j / E.k < xs.length := by rw [Nat.div_lt_iff_lt_mul hk]; exact hj
  have hm : j % E.k < E.k := Nat.mod_lt _ hk
  have hd : j / E.k * E.k + j % E.k = j := by rw [Nat.mul_comm]; exact Nat.div_add_mod j E.k
  obtain ⟨b', off', cap', hv, _, _, hc⟩ := h.at_ (List.getElem?_eq_getElem hq)
  simp only [Value.slice.injEq, Option.some.injEq, Addr.mk.injEq, and_true] at hv
  obtain ⟨⟨rfl, rfl⟩, _⟩ := hv
  have hcell : (E.cells xs[j / E.k])[j % E.k]? = some ((E.cells xs[j / E.k])[j % E.k]'(by rw [E.len]; exact hm)) := List.getElem?_eq_getElem _
  have h1 := rowG_at (E := E) (List.getElem?_eq_getElem hq) hcell
  rw [hd, hu] at h1
  have h2 := hc _ _ hcell
  rw [gadd, show off + j = off + j / E.k * E.k + j % E.k by omega, h2, ← h1]

theorem rowG_one (xs : List α) : ∀ u ∈ rowG E xs, u.oneCell' = true := by
  intro u hu
  unfold rowG at hu
  obtain ⟨x, _, hx⟩ := List.mem_flatMap.mp hu
  exact E.one x u hx

/-- What an append leaves. -/
structure AppG (E : Elem α) (T : TypeId) (w : World) (base : Nat) (v : Value) (xs : List α) (v' : Value) (w' : World) : Prop where
  row : RowG E T w' base v' xs
  grown : w.grownBy w' v.ownBlock
  at_ : v'.ownBlock = v.ownBlock ∨ v'.ownBlock = some w.heap.size

theorem rowG_append (xs ys : List α) : rowG E (xs ++ ys) = rowG E xs ++ rowG E ys := by simp [rowG]

theorem run_appG {T t : TypeId} {bytes : Nat} {z : Value} (hu : P.underlying t = some (.slice T)) (hinfo : (P.info? T).map (fun i => (i.zero, i.size, i.bytes)) = some (some z, E.k, bytes)) (hzs : z.cells.size = E.k) (hby : bytes ≤ 1024)
    (w : World) (base ty lo hi : Nat) (v x : Value) (xs qs : List α) (hr : RowG E T w base v xs) (hx : GR E w lo hi x qs) (hb : base ≤ w.heap.size) (hn : xs.length + qs.length ≤ 16777216) :
    ∃ v' w', (Builtin.append_ #[t, t] ty #[v, x]).run P w = .ok v' w' ∧ AppG E T w base v (xs ++ qs) v' w' := by
  obtain ⟨i0, hi0, hz0, hz1, hz2⟩ := info_parts hinfo
  obtain ⟨ad, cap, rfl, hc1, hc2⟩ := hx.shape
  have hbytes : (xs.length + qs.length) * bytes ≤ 140737488355328 := by
    have := Nat.mul_le_mul hn hby
    omega
  cases ad with
  | none =>
    obtain rfl : qs = [] := by
      obtain ⟨_, _, hv, _, _, h3⟩ := hx
      rcases h3 with h3 | ⟨b, off, rfl, _⟩
      · exact h3
      · simp at hv
    have hrs : ∃ a0 c0, v = .slice a0 xs.length c0 ∧ xs.length ≤ c0 := by
      rcases hr.2 with ⟨rfl, hn⟩ | ⟨g, cap, cur, rfl, hb, hh, hc, hm, _⟩
      · exact ⟨none, 0, by rw [hn], by omega⟩
      · exact ⟨_, cap, rfl, hc⟩
    obtain ⟨a0, c0, rfl, h0⟩ := hrs
    have hs : Src P i0.size t (.slice none 0 cap) 0 [] w := Src.ofNil _ hu cap
    have hrun := run_append_nothing (P := P) w t t ty T i0 hu hi0 a0 xs.length c0 h0 _ hs
    exact ⟨_, w, hrun, ⟨by rw [List.append_nil]; exact hr, ⟨rfl, rfl, rfl, Nat.le_refl _, fun _ _ _ => rfl⟩, .inl rfl⟩⟩
  | some a =>
    by_cases he : qs = []
    · subst he
      obtain ⟨v', w', hrun, h2, h3, _, h5⟩ := run_append_own_at (P := P) w base t ty T i0 z E.k bytes hu hi0 hz0 hz1 hz2 hzs E.pos v xs.length (rowG E xs) hr a 0 cap [] (by simp) (fun j u h => by simp at h) (fun u h => by simp at h) (by unfold maxLen; omega) (by simpa using hbytes) hb
      rw [Nat.add_zero, List.append_nil] at h2
      exact ⟨v', w', hrun, ⟨by rw [List.append_nil]; exact h2, h3, h5⟩⟩
    · obtain ⟨b, off, hab⟩ : ∃ b off, a = ⟨b, off, none⟩ := by
        obtain ⟨_, _, hv, _, _, h3⟩ := id hx
        rcases h3 with h3 | ⟨b, off, rfl, _⟩
        · exact absurd h3 he
        · simp only [Value.slice.injEq, Option.some.injEq] at hv
          exact ⟨b, off, hv.1⟩
      subst hab
      obtain ⟨v', w', hrun, h2, h3, _, h5⟩ := run_append_own_at (P := P) w base t ty T i0 z E.k bytes hu hi0 hz0 hz1 hz2 hzs E.pos v xs.length (rowG E xs) hr ⟨b, off, none⟩ qs.length cap (rowG E qs) (rowG_length _) hx.cellsG (rowG_one _) (by unfold maxLen; omega) hbytes hb
      exact ⟨v', w', hrun, ⟨by unfold RowG; rw [rowG_append, List.length_append]; exact h2, h3, h5⟩⟩

variable {ops : Array Oper} {rest : List Oper} {o : Oper} {a : Act} {Q : Exit → Act → World → Prop} {K : Act → World → Prop} {w : World}
theorem wpList_appG {T t : TypeId} {bytes : Nat} {z : Value} (hu : P.underlying t = some (.slice T)) (hinfo : (P.info? T).map (fun i => (i.zero, i.size, i.bytes)) = some (some z, E.k, bytes)) (hzs : z.cells.size = E.k) (hby : bytes ≤ 1024)
    (hg : o.guard = none) (s x : Operand) (hop : o.op = .call { callee := .builtin .append, args := #[s, x], argTypes := #[t, t] })
    (base lo hi : Nat) {v xv : Value} {xs qs : List α} (hs : a.eval s = v) (hx : a.eval x = xv) (hr : RowG E T w base v xs) (hn : GR E w lo hi xv qs) (hb : base ≤ w.heap.size) (hl : xs.length + qs.length ≤ 16777216)
    (hK : Hid (∀ v' w', AppG E T w base v (xs ++ qs) v' w' → wpList P ops Q rest (a.put o.dst v') w')) : wpList P ops Q (o :: rest) a w :=
  wpList_plain hg fun K' hK' => by
    obtain ⟨v', w', hrun, h⟩ := run_appG hu hinfo hzs hby w base o.type lo hi v xv xs qs hr hn hb hl
    unfold Oper.wp execOp
    simp only [hop, resolve, invoke, builtin, Sem.run_bind, Sem.run_pure, Result.andThen_ok, List.map_toArray, List.map_cons, List.map_nil, hs, hx, hrun]
    exact hK' _ _ (hK.out v' w' h)
end
theorem AppG.below {α : Type} {E : Elem α} {T : TypeId} {w w' : World} {base n : Nat} {v v' : Value} {xs ys : List α} (h : AppG E T w base v xs v' w') (hr : RowG E T w base v ys) (hn : n ≤ base) (hb : base ≤ w.heap.size) : Below n w w' :=
  (Below.refl n w).grown h.grown (by omega) fun k hk => by have := (hr.lt k hk).1; omega
theorem rowG_none {α : Type} {E : Elem α} (T : TypeId) (w : World) (base : Nat) (hb : base ≤ w.heap.size) : RowG E T (w.alloc (.cells #[] T)) base (.slice (some ⟨w.heap.size, 0, none⟩) 0 0) ([] : List α) :=
  ⟨by simp [rowG], .inr ⟨w.heap.size, 0, _, rfl, hb, heap_alloc_new w _, Nat.le_refl _, Nat.zero_le _, by simp, by simp [rowG]⟩⟩
end Go.Proofs.Ytkeockippmmneaa
