/-
  The state that a net begins with (pure); elements that grow by append, in general; making a list of blocks; one element of a list stored.
-/
import Derived.Test.YtokphdpaghkakaaDoorStateKit
import Derived.Test.YtokphdpaghkakaaDoorRowT
import Derived.Deep.OwnRows
import Derived.Deep.AppendLies
namespace Go.Proofs.YtokphdpaghkakaaDoor
open Go.ChangeShapes Go.WideShapes Go.ChangeAt Go.RowKit
set_option linter.unusedVariables false
set_option linter.unusedSimpArgs false

def newB (x : WireD) : BlockD := blockNew x.kind x.n
def netNew (n : NetD) : StateD := if netOk n then ⟨n.ws.map newB, List.replicate n.ws.length false⟩ else ⟨[], []⟩
theorem netOk_eight {n : NetD} (h : netOk n = true) : n.ws.length ≤ 8 := by
  unfold netOk at h
  simp only [Bool.and_eq_true, decide_eq_true_eq] at h
  exact h.1
theorem netNew_len (n : NetD) : (netNew n).bs.length ≤ 8 ∧ (netNew n).ls.length ≤ 8 := by
  unfold netNew
  split
  · rename_i h
    have := netOk_eight h
    exact ⟨by show (n.ws.map newB).length ≤ 8; rw [List.length_map]; exact this, by show (List.replicate _ _).length ≤ 8; rw [List.length_replicate]; exact this⟩
  · exact ⟨Nat.zero_le _, Nat.zero_le _⟩
theorem netNew_no {n : NetD} (h : netOk n = false) : netNew n = ⟨[], []⟩ := by unfold netNew; rw [h]; rfl
theorem netNew_yes {n : NetD} (h : netOk n = true) : netNew n = ⟨n.ws.map newB, List.replicate n.ws.length false⟩ := by unfold netNew; rw [h]; rfl
theorem stO_nil (w : World) (lo hi : Nat) (h : lo ≤ hi) : StO w lo hi (.agg #[.slice none 0 0, .slice none 0 0]) ⟨[], []⟩ :=
  ⟨_, _, lo, lo, lo, lo, rfl, .inl ⟨rfl, none, 0, rfl, Nat.zero_le _⟩, .inl ⟨rfl, none, 0, rfl, Nat.zero_le _⟩, ⟨Nat.le_refl _, h⟩, ⟨Nat.le_refl _, h⟩, .inl (Nat.le_refl _)⟩

theorem RowA.size {row : Option Nat} {u u' : World} (h : RowA row u u') : u.heap.size ≤ u'.heap.size := (h 0).size
theorem RowA.var {row : Option Nat} {u u' : World} (h : RowA row u u') {B : Nat} {vs : List Value} (hv : VarG u B vs) (h1 : B < u.heap.size) (h2 : some B ≠ row) : VarG u' B vs := hv.at_ (h.block B h1 h2)
theorem pair_one {x y : Value} (hx : x.oneCell' = true) (hy : y.oneCell' = true) : ∀ v ∈ [x, y], v.oneCell' = true := by
  intro v hv; simp only [List.mem_cons, List.not_mem_nil, or_false] at hv
  rcases hv with rfl | rfl
  · exact hx
  · exact hy
def zSt : Value := .slice none 0 0

/-! Elements that grow by append. -/
section
variable {α : Type} {E : Elem α}
def rowG (E : Elem α) (xs : List α) : List Value := xs.flatMap E.cells
theorem rowG_length (xs : List α) : (rowG E xs).length = xs.length * E.k := by
  induction xs with
  | nil => simp [rowG]
  | cons x xs ih => unfold rowG at *; rw [List.flatMap_cons, List.length_append, ih, E.len, List.length_cons, Nat.succ_mul]; omega
theorem rowG_snoc (xs : List α) (x : α) : rowG E (xs ++ [x]) = rowG E xs ++ E.cells x := by simp [rowG]
theorem rowG_at {xs : List α} {i : Nat} {x : α} (h : xs[i]? = some x) {j : Nat} {v : Value} (hv : (E.cells x)[j]? = some v) : (rowG E xs)[i * E.k + j]? = some v := by
  have hj : j < E.k := by have := (List.getElem?_eq_some_iff.mp hv).1; rwa [E.len] at this
  induction xs generalizing i with
  | nil => simp at h
  | cons y xs ih =>
    have e : rowG E (y :: xs) = E.cells y ++ rowG E xs := by simp [rowG]
    rw [e]
    cases i with
    | zero =>
      simp at h
      subst h
      rw [Nat.zero_mul, Nat.zero_add, List.getElem?_append_left (by rw [E.len]; exact hj)]
      exact hv
    | succ i =>
      simp at h
      rw [List.getElem?_append_right (by rw [E.len, Nat.succ_mul]; omega), E.len, show (i + 1) * E.k + j - E.k = i * E.k + j by rw [Nat.succ_mul]; omega]
      exact ih h

/-- Elements in a row of one's own, from base on. -/
def RowG (E : Elem α) (T : TypeId) (w : World) (base : Nat) (v : Value) (xs : List α) : Prop := w.ownsRow base T E.k v xs.length (rowG E xs)
theorem RowG.lt {T : TypeId} {w : World} {base : Nat} {v : Value} {xs : List α} (h : RowG E T w base v xs) : ∀ k, v.ownBlock = some k → base ≤ k ∧ k < w.heap.size := World.ownsRow.lt h
theorem RowG.shape {T : TypeId} {w : World} {base : Nat} {v : Value} {xs : List α} (h : RowG E T w base v xs) : ∃ ad cap, v = .slice ad xs.length cap := by
  rcases h.2 with ⟨rfl, hn⟩ | ⟨g, cap, cur, rfl, hb, hh, hc, hm, _⟩
  · exact ⟨none, 0, by rw [hn]⟩
  · exact ⟨_, cap, rfl⟩
theorem RowG.go {T : TypeId} {w : World} {base : Nat} {v : Value} {xs : List α} (h : RowG E T w base v xs) : GO E w base w.heap.size v xs := by
  rcases h.2 with ⟨rfl, hn⟩ | ⟨g, cap, cur, rfl, hb, hh, hc, hm, _⟩
  · exact .inl ⟨List.eq_nil_of_length_eq_zero hn, none, 0, rfl, Nat.zero_le _⟩
  · refine .inr ⟨g, 0, cap, rfl, hc, hm, hb, (Array.getElem?_eq_some_iff.mp hh).1, fun i x hx j v hv => ?_, fun o => by rw [Nat.zero_add]; exact World.ownsRow.frozenAt h o⟩
    have hil : i < xs.length := (List.getElem?_eq_some_iff.mp hx).1
    have hj : j < E.k := by have := (List.getElem?_eq_some_iff.mp hv).1; rwa [E.len] at this
    have hle : i * E.k + E.k ≤ xs.length * E.k := by rw [← Nat.succ_mul]; exact Nat.mul_le_mul_right _ hil
    rw [Nat.zero_add, World.ownsRow.cellAt h _ (by omega)]
    exact rowG_at hx hv
theorem RowG.at_ {T : TypeId} {w w' : World} {base : Nat} {v : Value} {xs : List α} (h : RowG E T w base v xs) (hk : ∀ g, v.ownBlock = some g → w'.heap[g]? = w.heap[g]?) : RowG E T w' base v xs := by
  refine ⟨h.1, ?_⟩
  rcases h.2 with ⟨rfl, hn⟩ | ⟨g, cap, cur, rfl, hb, hh, r⟩
  · exact .inl ⟨rfl, hn⟩
  · exact .inr ⟨g, cap, cur, rfl, hb, by rw [hk g rfl]; exact hh, r⟩
theorem RowG.below {T : TypeId} {w w' : World} {base n : Nat} {v : Value} {xs : List α} (h : RowG E T w base v xs) (hb : Below n w w') (hn : w.heap.size ≤ n) : RowG E T w' base v xs :=
  h.at_ fun g hg => hb.block g (by have := (h.lt g hg).2; omega)
theorem rowG_nil (T : TypeId) (w : World) (base : Nat) : RowG E T w base (.slice none 0 0) [] := World.ownsRow_nil _ _ _ _

/-- One element of a list stored. -/
theorem go_set {w u : World} {b n j : Nat} {xs : List α} {y : α} (h : GO E w b (b + 1) (.slice (some ⟨b, 0, none⟩) n n) xs) (hn : xs.length = n) (hj : j < n) (hL : LaidG w u b (j * E.k) (E.cells y)) : GO E u b (b + 1) (.slice (some ⟨b, 0, none⟩) n n) (xs.set j y) := by
  rcases h with ⟨h0, _⟩ | ⟨g, off, cap, hv, h1, h2, h3, h4, h5, h6⟩
  · rw [h0] at hn; simp at hn; omega
  · simp only [Value.slice.injEq, Option.some.injEq, Addr.mk.injEq, and_true] at hv
    obtain ⟨⟨rfl, rfl⟩, _, rfl⟩ := hv
    refine .inr ⟨b, 0, n, by rw [List.length_set, hn], by rw [List.length_set]; exact h1, h2, h3, h4, fun i x hx => ?_, fun o => by rw [hL.frozen]; exact h6 o⟩
    rw [Nat.zero_add]
    by_cases e : i = j
    · subst e
      rw [List.getElem?_set_self (by omega)] at hx
      cases hx
      exact hL.cv
    · rw [List.getElem?_set_ne (fun h => e h.symm)] at hx
      have hc := h5 i x hx
      rw [Nat.zero_add] at hc
      intro p v hp
      have hlen : p < E.k := by have := (List.getElem?_eq_some_iff.mp hp).1; rwa [E.len] at this
      have hside : i * E.k + E.k ≤ j * E.k ∨ j * E.k + E.k ≤ i * E.k := by
        rcases Nat.lt_or_gt_of_ne e with h | h
        · left; rw [← Nat.succ_mul]; exact Nat.mul_le_mul_right _ h
        · right; rw [← Nat.succ_mul]; exact Nat.mul_le_mul_right _ h
      rw [hL.cell _ _ (by rw [E.len]; omega)]
      exact hc p v hp

/-- Where an element may be stored. -/
theorem go_room {w : World} {b n j : Nat} {xs : List α} (h : GO E w b (b + 1) (.slice (some ⟨b, 0, none⟩) n n) xs) (hn : xs.length = n) (hj : j < n) : (∀ y, j * E.k ≤ y → y < j * E.k + E.k → (w.cell? ⟨b, y, none⟩).isSome = true) ∧ ∀ y, j * E.k ≤ y → y < j * E.k + E.k → w.frozen? ⟨b, y, none⟩ = false := by
  rcases h with ⟨h0, _⟩ | ⟨g, off, cap, hv, h1, h2, h3, h4, h5, h6⟩
  · rw [h0] at hn; simp at hn; omega
  · simp only [Value.slice.injEq, Option.some.injEq, Addr.mk.injEq, and_true] at hv
    obtain ⟨⟨rfl, rfl⟩, _, rfl⟩ := hv
    have hc := h5 j _ (List.getElem?_eq_getElem (by omega))
    rw [Nat.zero_add] at hc
    exact ⟨fun y h1 h2 => hc.some_ h1 (by rw [E.len]; exact h2), fun y _ _ => by have := h6 y; rwa [Nat.zero_add] at this⟩
end

/-! Lists that are made. -/
theorem made_at (z : Array Value) (hz : z.size = 5) (n i j : Nat) (hi : i < n) (hj : j < 5) : (madeCells z (n * 5))[i * 5 + j]? = z[j]? := by
  have h1 : i * 5 + j < n * 5 := by omega
  have h2 : (i * 5 + j) % 5 = j := by omega
  unfold madeCells
  rw [hz]
  rw [Array.getElem?_map, Array.getElem?_range, if_pos h1]
  simp only [Option.map_some, h2]
  rw [getElem!_pos z j (by omega), Array.getElem?_eq_getElem (by omega)]

theorem madeB_go (w : World) (n : Nat) (t : TypeId) (hn : n ≤ 1048576) : GO blockE (w.alloc (.cells (madeCells #[.int .i64 0, .int .i64 0, .bool false, .bool false, .int .i64 0] (n * 5)) t)) w.heap.size (w.heap.size + 1) (.slice (some ⟨w.heap.size, 0, none⟩) n n) (List.replicate n noB) := by
  refine .inr ⟨w.heap.size, 0, n, by rw [List.length_replicate], by rw [List.length_replicate]; exact Nat.le_refl _, by unfold maxLen; omega, Nat.le_refl _, Nat.lt_succ_self _, fun i x hx => ?_, fun o => World.frozen?_alloc_new _ _ _ _⟩
  rw [List.getElem?_replicate] at hx
  split at hx
  · rename_i hi
    cases hx
    intro j v hv
    have hj : j < 5 := (List.getElem?_eq_some_iff.mp hv).1
    show (World.alloc _ _).cell? ⟨_, 0 + i * 5 + j, none⟩ = _
    rw [Nat.zero_add, cell_of_row _ _ (i * 5 + j) _ t (0, 0) (heap_alloc_last w _), made_at _ rfl n i j hi hj]
    rw [← hv]
    unfold blockE blockC noB
    simp
  · cases hx

theorem made_go2 (w : World) (n : Nat) (t : TypeId) (hn : n ≤ 1048576) : GO bool2 (w.alloc (.cells (madeCells #[Value.bool false] n) t)) w.heap.size (w.heap.size + 1) (.slice (some ⟨w.heap.size, 0, none⟩) n n) (List.replicate n false) := by
  refine .inr ⟨w.heap.size, 0, n, by rw [List.length_replicate], by rw [List.length_replicate]; exact Nat.le_refl _, by unfold maxLen; omega, Nat.le_refl _, Nat.lt_succ_self _, fun i x hx => ?_, fun o => World.frozen?_alloc_new _ _ _ _⟩
  rw [List.getElem?_replicate] at hx
  split at hx
  · rename_i hi
    cases hx
    intro j v hv
    have hj : j = 0 := by have := (List.getElem?_eq_some_iff.mp hv).1; change j < 1 at this; omega
    subst hj
    cases hv
    rw [Nat.zero_add, Nat.add_zero, show i * bool2.k = i from Nat.mul_one i, cell_of_row _ _ i (madeCells #[Value.bool false] n) t (0, 0) (heap_alloc_last w _)]
    have := congrArg (fun l => l[i]?) (toList_madeCells_one (.bool false) n)
    simp only [Array.getElem?_toList] at this
    rw [this, List.getElem?_replicate, if_pos hi]
  · cases hx

theorem info_bool3 : (Tryd.prog.info? 4).map (fun i => (i.zero, i.size, i.bytes)) = some (some (.bool false), 1, 1) := by kernel_rfl
theorem run_makeBo (n : Nat) (hn : n ≤ 1048576) (w : World) : (Instr.makeSlice 40 (.int .i64 (n : Int)) (.int .i64 (n : Int))).run Tryd.prog w = .ok (.slice (some ⟨w.heap.size, 0, none⟩) n n) (w.alloc (.cells (madeCells #[Value.bool false] n) 4)) :=
  run_make_row' 40 4 (.bool false) 1 Tryd.underlying40 info_bool3 rfl .i64 .i64 n (by omega) (by omega) w
theorem info_blk : (Tryd.prog.info? 73).map (fun i => (i.zero, i.size, i.bytes)) = some (some (.agg #[.int .i64 0, .int .i64 0, .bool false, .bool false, .int .i64 0]), 5, 32) := by kernel_rfl
theorem run_makeBl (n : Nat) (hn : n ≤ 1048576) (w : World) : (Instr.makeSlice 39 (.int .i64 (n : Int)) (.int .i64 (n : Int))).run Tryd.prog w = .ok (.slice (some ⟨w.heap.size, 0, none⟩) n n) (w.alloc (.cells (madeCells #[.int .i64 0, .int .i64 0, .bool false, .bool false, .int .i64 0] (n * 5)) 73)) := by
  obtain ⟨i0, hi0, hz0, hz1, hz2⟩ := info_parts info_blk
  have hr := run_make (P := Tryd.prog) w 39 73 i0 _ Tryd.underlying39 hi0 hz0 .i64 .i64 (n : Int) (n : Int) (by omega) (Int.le_refl _) (by rw [hz2]; omega) (by omega)
  simp only [Int.toNat_natCast, hz1] at hr
  exact hr
end Go.Proofs.YtokphdpaghkakaaDoor
