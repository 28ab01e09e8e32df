import Derived.Test.YtkeockippmmneaaGreatKit
import Derived.Laws.ResultCell
import Derived.Laws.IdiomCopy
import Derived.Deep.WholeRow
import Derived.Maps.AppendAt
import Derived.Deep.AppendLies
import Derived.Deep.Upon
import Derived.Test.YtkeockippmmneaaGreatQS1

/-
  Worlds that differ in a range of blocks alone.
-/
namespace Go.Proofs.YtkeockippmmneaaGreat
open Go.ChangeShapes Go.WideShapes Go.ChangeAt Go.RowKit
set_option linter.unusedVariables false

/-- Old blocks outside lo to hi are as they were. -/
structure Out (lo hi : Nat) (w w' : World) : Prop where
  os : w'.os = w.os
  tape : w'.tape = w.tape
  output : w'.output = w.output
  size : w.heap.size ≤ w'.heap.size
  block : ∀ k, k < w.heap.size → k < lo ∨ hi ≤ k → w'.heap[k]? = w.heap[k]?

theorem out_of_below {w w' : World} (h : Below w.heap.size w w') (lo hi : Nat) : Out lo hi w w' := ⟨h.os, h.tape, h.output, h.size, fun k hk _ => h.block k hk⟩

theorem Out.trans {lo hi : Nat} {a b c : World} (h : Out lo hi a b) (k : Out lo hi b c) : Out lo hi a c :=
  ⟨k.os.trans h.os, k.tape.trans h.tape, k.output.trans h.output, Nat.le_trans h.size k.size, fun i h1 h2 => (k.block i (Nat.lt_of_lt_of_le h1 h.size) h2).trans (h.block i h1 h2)⟩

theorem Out.below {lo hi n : Nat} {w w' : World} (h : Out lo hi w w') (h1 : n ≤ lo) (h2 : n ≤ w.heap.size) : Below n w w' :=
  ⟨h.os, h.tape, h.output, h.size, fun k hk => h.block k (by omega) (.inl (by omega))⟩
end Go.Proofs.YtkeockippmmneaaGreat

/-
  Elements of several cells, in general: CV, cells one behind another; VarG, a variable of them; GR, a list that can be read; GO, a list that is owned; and the steps of a walk that box, make, load and store one whole.
-/
namespace Go.Proofs.YtkeockippmmneaaGreat
open Go.ChangeShapes Go.WideShapes Go.ChangeAt Go.RowKit
set_option linter.unusedVariables false
set_option linter.unusedSimpArgs false

theorem gadd (B o j : Nat) : (⟨B, o, none⟩ : Go.Addr).add j = ⟨B, o + j, none⟩ := by unfold Go.Addr.add; split <;> simp_all

/-- The cells from a place on hold these values. -/
def CV (w : World) (b o : Nat) (vs : List Value) : Prop := ∀ (j : Nat) (v : Value), vs[j]? = some v → w.cell? ⟨b, o + j, none⟩ = some v

theorem CV.kept {w w' : World} {b o : Nat} {vs : List Value} (h : CV w b o vs) (hk : w'.heap[b]? = w.heap[b]?) : CV w' b o vs :=
  fun j v hv => by rw [World.cell?_of_block (w := w) hk]; exact h j v hv
theorem CV.below {w w' : World} {b o n : Nat} {vs : List Value} (h : CV w b o vs) (hb : Below n w w') (hn : b < n) : CV w' b o vs := h.kept (hb.block b hn)
theorem CV.some_ {w : World} {b o : Nat} {vs : List Value} (h : CV w b o vs) {x : Nat} (h1 : o ≤ x) (h2 : x < o + vs.length) : (w.cell? ⟨b, x, none⟩).isSome = true := by
  have h3 := h (x - o) vs[x - o] (List.getElem?_eq_getElem (by omega))
  rw [show o + (x - o) = x by omega] at h3
  rw [h3]; rfl
/-- A run of them. -/
theorem CV.part {w : World} {b o : Nat} {vs : List Value} (h : CV w b o vs) (i n : Nat) : CV w b (o + i) ((vs.drop i).take n) := fun j v hv => by
  rw [List.getElem?_take] at hv
  split at hv
  · rw [List.getElem?_drop] at hv
    have := h (i + j) v hv
    rwa [← Nat.add_assoc] at this
  · cases hv

theorem cv_new (w : World) (vs : List Value) (t : TypeId) : CV (w.alloc (.cells vs.toArray t)) w.heap.size 0 vs := fun j v hv => by
  rw [Nat.zero_add, cell_of_row _ _ j vs.toArray t (0, 0) (heap_alloc_last w _)]
  simpa using hv

/-- A variable of these cells that may be written. -/
structure VarG (w : World) (B : Nat) (vs : List Value) : Prop where
  c : CV w B 0 vs
  f : ∀ o, w.frozen? ⟨B, o, none⟩ = false

theorem VarG.at_ {w w' : World} {B : Nat} {vs : List Value} (h : VarG w B vs) (hk : w'.heap[B]? = w.heap[B]?) : VarG w' B vs :=
  ⟨h.c.kept hk, fun o => by rw [World.frozen?_of_block (w := w) hk]; exact h.f o⟩
theorem VarG.below {w w' : World} {B n : Nat} {vs : List Value} (h : VarG w B vs) (hb : Below n w w') (hB : B < n) : VarG w' B vs := h.at_ (hb.block B hB)
theorem varG_new (w : World) (vs : List Value) (t : TypeId) : VarG (w.alloc (.cells vs.toArray t)) w.heap.size vs :=
  ⟨cv_new w vs t, fun o => World.frozen?_alloc_new _ _ _ _⟩

theorem VarG.one {w : World} {B : Nat} {vs : List Value} (h : VarG w B vs) {i : Nat} (hi : i < vs.length) : (w.cell? ⟨B, i, none⟩).isSome = true := h.c.some_ (Nat.zero_le _) (by omega)
theorem VarG.run {w : World} {B : Nat} {vs : List Value} (h : VarG w B vs) (i n : Nat) (hn : i + n ≤ vs.length) : (∀ y, i ≤ y → y < i + n → (w.cell? ⟨B, y, none⟩).isSome = true) ∧ ∀ y, i ≤ y → y < i + n → w.frozen? ⟨B, y, none⟩ = false :=
  ⟨fun y _ h2 => h.one (by omega), fun y _ _ => h.f y⟩

/-- What a store of a whole element leaves. -/
structure LaidG (w u : World) (B o : Nat) (vs : List Value) : Prop where
  cv : CV u B o vs
  size : u.heap.size = w.heap.size
  block : ∀ k, k ≠ B → u.heap[k]? = w.heap[k]?
  cell : ∀ b x, b ≠ B ∨ x < o ∨ o + vs.length ≤ x → u.cell? ⟨b, x, none⟩ = w.cell? ⟨b, x, none⟩
  frozen : ∀ b x, u.frozen? ⟨b, x, none⟩ = w.frozen? ⟨b, x, none⟩
  below : ∀ n w0, n ≤ B → Below n w0 w → Below n w0 u

theorem size_setCells (b : Nat) : ∀ (vs : List Value) (o : Nat) (w : World), (w.setCells b o vs).heap.size = w.heap.size
  | [], _, _ => rfl
  | v :: r, o, w => by rw [World.setCells, size_setCells b r, World.size_setCell]
theorem block_setCells (b : Nat) {k : Nat} (hk : k ≠ b) : ∀ (vs : List Value) (o : Nat) (w : World), (w.setCells b o vs).heap[k]? = w.heap[k]?
  | [], _, _ => rfl
  | v :: r, o, w => by rw [World.setCells, block_setCells b hk r, Below.heap_setCell _ _ _ _ hk]
theorem below_setCells (b : Nat) {n : Nat} (hn : n ≤ b) (w0 : World) : ∀ (vs : List Value) (o : Nat) (w : World), Below n w0 w → Below n w0 (w.setCells b o vs)
  | [], _, _, h => h
  | v :: r, o, w, h => by rw [World.setCells]; exact below_setCells b hn w0 r (o + 1) _ (h.setCell (p := ⟨b, o, none⟩) hn v)

theorem laidG {w : World} {B o : Nat} (vs : List Value) (hs : ∀ x, o ≤ x → x < o + vs.length → (w.cell? ⟨B, x, none⟩).isSome = true) : LaidG w (w.setCells B o vs) B o vs :=
  ⟨fun j v hv => by
      have hj := (List.getElem?_eq_some_iff.mp hv).1
      rw [World.cell?_setCells_in B vs o w (fun j hj => hs _ (by omega) (by omega)) j hj, ← hv, List.getElem?_eq_getElem hj],
    size_setCells B vs o w, fun k hk => block_setCells B hk vs o w,
    fun b x hx => World.cell?_setCells_out B vs o w _ (fun h1 h2 => by simp only at h1 ⊢; omega),
    fun b x => World.frozen?_setCells B vs o w _, fun n w0 hn hb => below_setCells B hn w0 vs o w hb⟩

theorem LaidG.other {w u : World} {B o : Nat} {vs : List Value} (h : LaidG w u B o vs) {C : Nat} {us : List Value} (hc : VarG w C us) (hne : C ≠ B) : VarG u C us := hc.at_ (h.block C hne)
theorem LaidG.var {w u : World} {B : Nat} {vs us : List Value} (h : LaidG w u B 0 vs) (hc : VarG w B us) : VarG u B vs := ⟨h.cv, fun o => by rw [h.frozen]; exact hc.f o⟩

/-- A part of a variable stored. -/
theorem VarG.laid {w u : World} {B i : Nat} {vs us : List Value} (h : VarG w B vs) (hL : LaidG w u B i us) {ws : List Value} (hw : ws = vs.take i ++ (us ++ vs.drop (i + us.length))) (hi : i + us.length ≤ vs.length) : VarG u B ws := by
  subst hw
  refine ⟨fun j v hv => ?_, fun o => by rw [hL.frozen]; exact h.f o⟩
  have ht : (vs.take i).length = i := by rw [List.length_take]; omega
  rw [Nat.zero_add]
  by_cases h1 : j < i
  · rw [List.getElem?_append_left (by omega), List.getElem?_take, if_pos h1] at hv
    rw [hL.cell _ _ (.inr (.inl h1))]
    have := h.c j v hv
    rwa [Nat.zero_add] at this
  · rw [List.getElem?_append_right (by omega), ht] at hv
    by_cases h2 : j < i + us.length
    · rw [List.getElem?_append_left (by omega)] at hv
      have := hL.cv (j - i) v hv
      rwa [show i + (j - i) = j by omega] at this
    · rw [List.getElem?_append_right (by omega), List.getElem?_drop, show i + us.length + (j - i - us.length) = j by omega] at hv
      rw [hL.cell _ _ (.inr (.inr (by omega)))]
      have := h.c j v hv
      rwa [Nat.zero_add] at this

/-- One cell of a variable stored. -/
theorem VarG.set {w : World} {B : Nat} {vs : List Value} (h : VarG w B vs) (i : Nat) (v : Value) (hi : i < vs.length) : VarG (w.setCell ⟨B, i, none⟩ v) B (vs.set i v) :=
  ⟨fun j x hx => by
      rw [Nat.zero_add]
      by_cases e : i = j
      · subst e
        rw [List.getElem?_set_self hi] at hx
        rw [World.cell?_setCell_same' _ _ _ (h.c.some_ (by omega) (by omega)), hx]
      · rw [List.getElem?_set_ne e] at hx
        rw [cell_set_other _ (.inr (by omega))]
        have := h.c j x hx
        rwa [Nat.zero_add] at this,
    fun o => by rw [World.frozen?_setCell]; exact h.f o⟩

section
variable {P : Program} {ops : Array Oper} {rest : List Oper} {o : Oper} {a : Act} {Q : Exit → Act → World → Prop} {K : Act → World → Prop} {w : World}

theorem wpList_want (hw : Region.wanted o (yielded ops a.tmps) = true) (h : ∀ K : Act → World → Prop, (∀ a w, wpList P ops Q rest a w → K a w) → o.wp P a w K Q) : wpList P ops Q (o :: rest) a w :=
  wpList_step fun K hK => by rw [if_pos hw]; exact h K hK

theorem run_loadVarG {T n : Nat} (hA : ∀ w, (isAgg T).run P w = .ok true w) (hS : ∀ w, (Go.sizeOf T).run P w = .ok n w) {B x : Nat} {vs : List Value} (hn : vs.length = n) (h : CV w B x vs) : (loadVar T ⟨B, x, none⟩).run P w = .ok (.agg vs.toArray) w := by
  have hl := run_loadCells_list (P := P) w ⟨B, x, none⟩ vs (fun j v hv => by rw [gadd]; exact h j v hv)
  rw [hn] at hl
  simp only [loadVar, Sem.run_bind, hA, hS, Result.andThen_ok, if_true, hl, Sem.run_pure]

theorem run_storeVarG {T n : Nat} (hS : ∀ w, (Go.sizeOf T).run P w = .ok n w) {B x : Nat} {vs : List Value} (hn : vs.length = n) (h1 : ∀ v ∈ vs, v.oneCell' = true) (hs : ∀ y, x ≤ y → y < x + vs.length → (w.cell? ⟨B, y, none⟩).isSome = true) (hf : ∀ y, x ≤ y → y < x + vs.length → w.frozen? ⟨B, y, none⟩ = false) :
    (storeVar T ⟨B, x, none⟩ (.agg vs.toArray)).run P w = .ok () (w.setCells B x vs) := by
  have hst := run_storeCells_cells (P := P) B x vs 0 w (fun j hj => hs _ (by omega) (by omega)) (fun j hj => hf _ (by omega) (by omega)) h1
  have e1 : (Value.agg vs.toArray).cells.size = n := by show vs.toArray.size = n; rw [List.size_toArray, hn]
  have e2 : (Value.agg vs.toArray).cells.toList = vs := rfl
  simp only [storeVar, Sem.run_bind, hS, Result.andThen_ok, e1, e2]
  simp only [ne_eq, not_true_eq_false, if_false, hst]
  rfl

theorem run_storeVar1 {T : Nat} (hS : ∀ w, (Go.sizeOf T).run P w = .ok 1 w) {B x : Nat} {v : Value} (hc : v.cells = #[v]) (h1 : v.oneCell' = true) (hs : (w.cell? ⟨B, x, none⟩).isSome = true) (hf : w.frozen? ⟨B, x, none⟩ = false) :
    (storeVar T ⟨B, x, none⟩ v).run P w = .ok () (w.setCells B x [v]) := by
  have hst := run_storeCells_cells (P := P) B x [v] 0 w (fun j hj => by simp at hj; subst hj; exact hs) (fun j hj => by simp at hj; subst hj; exact hf) (fun u hu => by simp at hu; rw [hu]; exact h1)
  have e1 : v.cells.size = 1 := by rw [hc]; rfl
  have e2 : v.cells.toList = [v] := by rw [hc]
  simp only [storeVar, Sem.run_bind, hS, Result.andThen_ok, e1, e2]
  simp only [ne_eq, not_true_eq_false, if_false, hst]
  rfl

theorem wp_store1G {T : Nat} (hS : ∀ w, (Go.sizeOf T).run P w = .ok 1 w) (p v : Operand) (hop : o.op = Op.store T p v) {B x : Nat} {z : Value} (hp : a.eval p = .pointer (some ⟨B, x, none⟩)) (hv : a.eval v = z) (hc : z.cells = #[z]) (h1 : z.oneCell' = true)
    (hs : (w.cell? ⟨B, x, none⟩).isSome = true) (hf : w.frozen? ⟨B, x, none⟩ = false)
    (hK : ∀ u1, LaidG w u1 B x [z] → K (a.put o.dst undef) u1) : o.wp P a w K Q := by
  unfold Oper.wp
  simp only [execOp, hop, hp, hv, Instr.storeAt, Instr.sureAddr, Sem.run_bind, Sem.run_pure, Result.andThen_ok, run_storeVar1 hS hc h1 hs hf]
  exact hK _ (laidG [z] fun y h2 h3 => by
    have : y = x := by simp at h3; omega
    rw [this]; exact hs)

theorem wp_loadG {T n : Nat} (hA : ∀ w, (isAgg T).run P w = .ok true w) (hS : ∀ w, (Go.sizeOf T).run P w = .ok n w) (p : Operand) (hop : o.op = Op.load T p) {B x : Nat} {vs : List Value} (hp : a.eval p = .pointer (some ⟨B, x, none⟩)) (hn : vs.length = n) (hb : CV w B x vs)
    (hK : K (a.put o.dst (.agg vs.toArray)) w) : o.wp P a w K Q := by
  unfold Oper.wp
  simp only [execOp, hop, hp, Instr.loadAt, Instr.sureAddr, Sem.run_bind, Sem.run_pure, Result.andThen_ok, run_loadVarG hA hS hn hb]
  exact hK

theorem wp_storeG {T n : Nat} (hS : ∀ w, (Go.sizeOf T).run P w = .ok n w) (p v : Operand) (hop : o.op = Op.store T p v) {B x : Nat} {vs : List Value} (hp : a.eval p = .pointer (some ⟨B, x, none⟩)) (hv : a.eval v = .agg vs.toArray) (hn : vs.length = n) (h1 : ∀ v ∈ vs, v.oneCell' = true)
    (hs : ∀ y, x ≤ y → y < x + vs.length → (w.cell? ⟨B, y, none⟩).isSome = true) (hf : ∀ y, x ≤ y → y < x + vs.length → w.frozen? ⟨B, y, none⟩ = false)
    (hK : ∀ u1, LaidG w u1 B x vs → K (a.put o.dst undef) u1) : o.wp P a w K Q := by
  unfold Oper.wp
  simp only [execOp, hop, hp, hv, Instr.storeAt, Instr.sureAddr, Sem.run_bind, Sem.run_pure, Result.andThen_ok, run_storeVarG hS hn h1 hs hf]
  exact hK _ (laidG vs hs)

theorem wp_boxG {T : Nat} (x : Operand) (hop : o.op = Op.box T x) {vs : List Value} (hx : a.eval x = .agg vs.toArray)
    (hK : ∀ u1, Below w.heap.size w u1 → VarG u1 w.heap.size vs → u1.heap.size = w.heap.size + 1 → K (a.put o.dst (.pointer (some ⟨w.heap.size, 0, none⟩))) u1) : o.wp P a w K Q := by
  have h := hK (w.alloc (.cells vs.toArray T)) ((Below.refl _ _).alloc (Nat.le_refl _) _) (varG_new w vs T) (by simp)
  have e : (Value.agg vs.toArray).cells = vs.toArray := rfl
  unfold Oper.wp
  simp only [execOp, hop, hx, Instr.box, newVar, e]
  simp [newRow, Result.andThen]
  exact h

theorem wp_allocG {T : Nat} {zs : List Value} (hZ : ∀ w, (zeroValue T).run P w = .ok (.agg zs.toArray) w) (hop : o.op = Op.alloc T)
    (hK : ∀ u1, Below w.heap.size w u1 → VarG u1 w.heap.size zs → u1.heap.size = w.heap.size + 1 → K (a.put o.dst (.pointer (some ⟨w.heap.size, 0, none⟩))) u1) : o.wp P a w K Q := by
  have h := hK (w.alloc (.cells zs.toArray T)) ((Below.refl _ _).alloc (Nat.le_refl _) _) (varG_new w zs T) (by simp)
  have e : (Value.agg zs.toArray).cells = zs.toArray := rfl
  unfold Oper.wp
  simp only [execOp, hop]
  simp [Instr.alloc, hZ, newVar, newRow, go_sem, e]
  exact h

/-- Two whole elements held against each other. -/
theorem wp_binG {op : BinOp} {T T2 : TypeId} (p q : Operand) (hop : o.op = Op.binOp op T p q T2) {x y v : Value} (hp : a.eval p = x) (hq : a.eval q = y) (hg : (eqGuard op T p q x y).run P w = .ok () w) (hn : (binOp op T x y).run P w = .ok v w)
    (hK : K (a.put o.dst v) w) : o.wp P a w K Q := by
  unfold Oper.wp
  simp only [execOp, hop, hp, hq, Sem.run_bind, hg, hn, Result.andThen_ok, Sem.run_pure]
  exact hK

theorem wpList_binG {op : BinOp} {T T2 : TypeId} (p q : Operand) (hop : o.op = Op.binOp op T p q T2) (hw : Region.wanted o (yielded ops a.tmps) = true) {x y v : Value} (hp : a.eval p = x) (hq : a.eval q = y) (hG : (eqGuard op T p q x y).run P w = .ok () w) (hn : (binOp op T x y).run P w = .ok v w)
    (hK : wpList P ops Q rest (a.put o.dst v) w) : wpList P ops Q (o :: rest) a w :=
  wpList_want hw fun K hK' => wp_binG p q hop hp hq hG hn (hK' _ _ hK)

theorem wantedG {y : Nat → Option Bool} {p q : Prop} (hg : o.guard = none) (h : p) : if Region.wanted o y = true then p else q := by
  rw [if_pos (by simp [Region.wanted, hg])]; exact h

theorem wpList_loadG {T n : Nat} (hA : ∀ w, (isAgg T).run P w = .ok true w) (hS : ∀ w, (Go.sizeOf T).run P w = .ok n w) (p : Operand) (hop : o.op = Op.load T p) (hw : Region.wanted o (yielded ops a.tmps) = true) {B x : Nat} {vs : List Value} (hp : a.eval p = .pointer (some ⟨B, x, none⟩)) (hn : vs.length = n) (hb : CV w B x vs)
    (hK : wpList P ops Q rest (a.put o.dst (.agg vs.toArray)) w) : wpList P ops Q (o :: rest) a w :=
  wpList_want hw fun K hK' => wp_loadG hA hS p hop hp hn hb (hK' _ _ hK)

theorem wpList_storeG {T n : Nat} (hS : ∀ w, (Go.sizeOf T).run P w = .ok n w) (p v : Operand) (hop : o.op = Op.store T p v) (hw : Region.wanted o (yielded ops a.tmps) = true) {B x : Nat} {vs : List Value} (hp : a.eval p = .pointer (some ⟨B, x, none⟩)) (hv : a.eval v = .agg vs.toArray) (hn : vs.length = n) (h1 : ∀ v ∈ vs, v.oneCell' = true)
    (hs : ∀ y, x ≤ y → y < x + vs.length → (w.cell? ⟨B, y, none⟩).isSome = true) (hf : ∀ y, x ≤ y → y < x + vs.length → w.frozen? ⟨B, y, none⟩ = false)
    (hK : Hid (∀ u1, LaidG w u1 B x vs → wpList P ops Q rest (a.put o.dst undef) u1)) : wpList P ops Q (o :: rest) a w :=
  wpList_want hw fun K hK' => wp_storeG hS p v hop hp hv hn h1 hs hf fun u1 h1 => hK' _ _ (hK.out u1 h1)

theorem wpList_store1G {T : Nat} (hS : ∀ w, (Go.sizeOf T).run P w = .ok 1 w) (p v : Operand) (hop : o.op = Op.store T p v) (hw : Region.wanted o (yielded ops a.tmps) = true) {B x : Nat} {z : Value} (hp : a.eval p = .pointer (some ⟨B, x, none⟩)) (hv : a.eval v = z) (hc : z.cells = #[z]) (h1 : z.oneCell' = true)
    (hs : (w.cell? ⟨B, x, none⟩).isSome = true) (hf : w.frozen? ⟨B, x, none⟩ = false)
    (hK : Hid (∀ u1, LaidG w u1 B x [z] → wpList P ops Q rest (a.put o.dst undef) u1)) : wpList P ops Q (o :: rest) a w :=
  wpList_want hw fun K hK' => wp_store1G hS p v hop hp hv hc h1 hs hf fun u1 h1 => hK' _ _ (hK.out u1 h1)

theorem wpList_boxG {T : Nat} (hg : o.guard = none) (x : Operand) (hop : o.op = Op.box T x) {vs : List Value} (hx : a.eval x = .agg vs.toArray)
    (hK : Hid (∀ u1, Below w.heap.size w u1 → VarG u1 w.heap.size vs → u1.heap.size = w.heap.size + 1 → wpList P ops Q rest (a.put o.dst (.pointer (some ⟨w.heap.size, 0, none⟩))) u1)) : wpList P ops Q (o :: rest) a w :=
  wpList_plain hg fun K hK' => wp_boxG x hop hx fun u1 h1 h2 h3 => hK' _ _ (hK.out u1 h1 h2 h3)

theorem wpList_allocG {T : Nat} {zs : List Value} (hZ : ∀ w, (zeroValue T).run P w = .ok (.agg zs.toArray) w) (hg : o.guard = none) (hop : o.op = Op.alloc T)
    (hK : Hid (∀ u1, Below w.heap.size w u1 → VarG u1 w.heap.size zs → u1.heap.size = w.heap.size + 1 → wpList P ops Q rest (a.put o.dst (.pointer (some ⟨w.heap.size, 0, none⟩))) u1)) : wpList P ops Q (o :: rest) a w :=
  wpList_plain hg fun K hK' => wp_allocG hZ hop fun u1 h1 h2 h3 => hK' _ _ (hK.out u1 h1 h2 h3)
end

/-! Lists. -/

/-- A kind of element: its cells. -/
structure Elem (α : Type) where
  cells : α → List Value
  k : Nat
  pos : 0 < k
  len : ∀ x, (cells x).length = k
  one : ∀ x, ∀ v ∈ cells x, v.oneCell' = true

section
variable {α : Type} {E : Elem α}

/-- A list that can be read, in the blocks from lo to hi. -/
def GR (E : Elem α) (w : World) (lo hi : Nat) (v : Value) (xs : List α) : Prop :=
  ∃ ad cap, v = .slice ad xs.length cap ∧ xs.length ≤ cap ∧ cap ≤ maxLen ∧
    (xs = [] ∨ ∃ b off, ad = some ⟨b, off, none⟩ ∧ lo ≤ b ∧ b < hi ∧ ∀ (i : Nat) (x : α), xs[i]? = some x → CV w b (off + i * E.k) (E.cells x))

/-- A list that is owned: its cells may be written. -/
def GO (E : Elem α) (w : World) (lo hi : Nat) (v : Value) (xs : List α) : Prop :=
  xs = [] ∧ (∃ ad cap, v = .slice ad 0 cap ∧ cap ≤ maxLen) ∨
  ∃ b off cap, v = .slice (some ⟨b, off, none⟩) xs.length cap ∧ xs.length ≤ cap ∧ cap ≤ maxLen ∧ lo ≤ b ∧ b < hi ∧ (∀ (i : Nat) (x : α), xs[i]? = some x → CV w b (off + i * E.k) (E.cells x)) ∧ ∀ o, w.frozen? ⟨b, off + o, none⟩ = false

theorem GR.shape {w : World} {lo hi : Nat} {v : Value} {xs : List α} (h : GR E w lo hi v xs) : ∃ ad cap, v = .slice ad xs.length cap ∧ xs.length ≤ cap ∧ cap ≤ maxLen := by
  obtain ⟨ad, cap, hv, h1, h2, _⟩ := h; exact ⟨ad, cap, hv, h1, h2⟩

theorem GR.at_ {w : World} {lo hi : Nat} {v : Value} {xs : List α} (h : GR E w lo hi v xs) {i : Nat} {x : α} (hi' : xs[i]? = some x) :
    ∃ b off cap, v = .slice (some ⟨b, off, none⟩) xs.length cap ∧ lo ≤ b ∧ b < hi ∧ CV w b (off + i * E.k) (E.cells x) := by
  obtain ⟨ad, cap, hv, h1, h2, h3⟩ := h
  rcases h3 with rfl | ⟨b, off, rfl, h3, h4, hc⟩
  · simp at hi'
  · exact ⟨b, off, cap, hv, h3, h4, hc i x hi'⟩

theorem GR.kept {w w' : World} {lo hi : Nat} {v : Value} {xs : List α} (h : GR E w lo hi v xs) (hk : ∀ k, lo ≤ k → k < hi → w'.heap[k]? = w.heap[k]?) : GR E w' lo hi v xs := by
  obtain ⟨ad, cap, hv, h1, h2, h3⟩ := h
  refine ⟨ad, cap, hv, h1, h2, h3.imp id ?_⟩
  rintro ⟨b, off, ha, h3, h4, hc⟩
  exact ⟨b, off, ha, h3, h4, fun i x hx => (hc i x hx).kept (hk b h3 h4)⟩

theorem GR.under {w w' : World} {lo hi n : Nat} {v : Value} {xs : List α} (h : GR E w lo hi v xs) (hb : Below n w w') (hn : hi ≤ n) : GR E w' lo hi v xs :=
  h.kept fun k _ hk => hb.block k (by omega)

theorem GR.wide {w : World} {lo hi lo' hi' : Nat} {v : Value} {xs : List α} (h : GR E w lo hi v xs) (hl : lo' ≤ lo) (hh : hi ≤ hi') : GR E w lo' hi' v xs := by
  obtain ⟨ad, cap, hv, h1, h2, h3⟩ := h
  refine ⟨ad, cap, hv, h1, h2, h3.imp id ?_⟩
  rintro ⟨b, off, ha, h3, h4, hc⟩
  exact ⟨b, off, ha, by omega, by omega, hc⟩

theorem GO.gr {w : World} {lo hi : Nat} {v : Value} {xs : List α} (h : GO E w lo hi v xs) : GR E w lo hi v xs := by
  rcases h with ⟨rfl, ad, cap, rfl, hm⟩ | ⟨b, off, cap, hv, h1, h2, h3, h4, h5, _⟩
  · exact ⟨ad, cap, rfl, Nat.zero_le _, hm, .inl rfl⟩
  · exact ⟨_, cap, hv, h1, h2, .inr ⟨b, off, rfl, h3, h4, h5⟩⟩

theorem GO.kept {w w' : World} {lo hi : Nat} {v : Value} {xs : List α} (h : GO E w lo hi v xs) (hk : ∀ k, lo ≤ k → k < hi → w'.heap[k]? = w.heap[k]?) : GO E w' lo hi v xs := by
  rcases h with h | ⟨b, off, cap, hv, h1, h2, h3, h4, h5, h6⟩
  · exact .inl h
  · exact .inr ⟨b, off, cap, hv, h1, h2, h3, h4, fun i x hx => (h5 i x hx).kept (hk b h3 h4), fun o => by rw [World.frozen?_of_block (w := w) (hk b h3 h4)]; exact h6 o⟩

theorem GO.under {w w' : World} {lo hi n : Nat} {v : Value} {xs : List α} (h : GO E w lo hi v xs) (hb : Below n w w') (hn : hi ≤ n) : GO E w' lo hi v xs :=
  h.kept fun k _ hk => hb.block k (by omega)

theorem GO.wide {w : World} {lo hi lo' hi' : Nat} {v : Value} {xs : List α} (h : GO E w lo hi v xs) (hl : lo' ≤ lo) (hh : hi ≤ hi') : GO E w lo' hi' v xs := by
  rcases h with h | ⟨b, off, cap, hv, h1, h2, h3, h4, h5, h6⟩
  · exact .inl h
  · exact .inr ⟨b, off, cap, hv, h1, h2, by omega, by omega, h5, h6⟩

/-- What holds as a copy has put j of the elements into the block g, whose cells are there. -/
structure ToG (E : Elem α) (w : World) (g : Nat) (xs : List α) (j : Nat) (wr : World) : Prop where
  below : Below g w wr
  size : g < wr.heap.size
  some_ : ∀ x, x < xs.length * E.k → (wr.cell? ⟨g, x, none⟩).isSome = true
  frozen : ∀ x, wr.frozen? ⟨g, x, none⟩ = false
  done : ∀ (i : Nat) (p : α), i < j → xs[i]? = some p → CV wr g (i * E.k) (E.cells p)

theorem toG_start {w w1 : World} {T : TypeId} {xs : List α} {z : List Value} (hown : w1.ownsRow w.heap.size T E.k (.slice (some ⟨w.heap.size, 0, none⟩) xs.length xs.length) xs.length z) (hgrow : w.grownBy w1 none) : ToG E w w.heap.size xs 0 w1 := by
  refine ⟨(Below.refl _ _).grown hgrow (Nat.le_refl _) (fun k h => by cases h), hown.2.elim (fun h => by simp at h) fun ⟨g, cap, cur, hv, hg, hh, _⟩ => ?_, fun x hx => ?_, fun x => hown.frozenAt x, fun i p hi => by omega⟩
  · simp only [Value.slice.injEq, Option.some.injEq, Addr.mk.injEq, and_true, true_and] at hv
    obtain ⟨rfl, _⟩ := hv
    exact (Array.getElem?_eq_some_iff.mp hh).1
  · rw [hown.cellAt x hx]
    have hl := hown.1
    rw [List.getElem?_eq_getElem (by omega)]
    rfl

theorem ToG.next {w wr w1 u : World} {g : Nat} {xs : List α} {j : Nat} {p : α} (h : ToG E w g xs j wr) (he : xs[j]? = some p) (hb : Below wr.heap.size wr w1) (hL : LaidG w1 u g (j * E.k) (E.cells p)) : ToG E w g xs (j + 1) u := by
  obtain ⟨hb0, hs, hsm, hfr, h1⟩ := h
  have hs1 := hb.size
  have hz := hL.size
  have hle := E.len p
  have hcell : ∀ x, w1.cell? ⟨g, x, none⟩ = wr.cell? ⟨g, x, none⟩ := fun x => hb.cell (p := ⟨g, x, none⟩) hs
  refine ⟨hL.below _ _ (Nat.le_refl _) (hb0.trans (hb.mono (by omega))), by omega, fun q hq => ?_, fun q => ?_, fun i e' hi hie => ?_⟩
  · by_cases hin : j * E.k ≤ q ∧ q < j * E.k + E.k
    · exact hL.cv.some_ hin.1 (by omega)
    · rw [hL.cell _ _ (by omega), hcell]; exact hsm q hq
  · rw [hL.frozen, hb.frozen (p := ⟨g, q, none⟩) hs]; exact hfr q
  · by_cases ej : i = j
    · subst ej
      rw [he] at hie
      cases hie
      exact hL.cv
    · have hc := h1 i e' (by omega) hie
      intro q v hq
      have hql : q < E.k := by have := (List.getElem?_eq_some_iff.mp hq).1; rwa [E.len] at this
      have hij : i * E.k + E.k ≤ j * E.k := by rw [← Nat.succ_mul]; exact Nat.mul_le_mul_right _ (by omega)
      rw [hL.cell _ _ (by omega), hcell]
      exact hc q v hq

theorem ToG.go {w wr : World} {g : Nat} {xs : List α} (h : ToG E w g xs xs.length wr) (hm : xs.length ≤ maxLen) : GO E wr g wr.heap.size (.slice (some ⟨g, 0, none⟩) xs.length xs.length) xs :=
  .inr ⟨_, 0, _, rfl, Nat.le_refl _, hm, Nat.le_refl _, h.size, fun i p hp => by rw [Nat.zero_add]; exact h.done i p (List.getElem?_eq_some_iff.mp hp).1 hp, fun o => by rw [Nat.zero_add]; exact h.frozen o⟩

/-- What a store of the j-th asks. -/
theorem ToG.stores {w wr w2 : World} {g : Nat} {xs : List α} {j : Nat} (h : ToG E w g xs j wr) (hb : Below wr.heap.size wr w2) (hj : j < xs.length) (p : α) : (∀ y, j * E.k ≤ y → y < j * E.k + (E.cells p).length → (w2.cell? ⟨g, y, none⟩).isSome = true) ∧ ∀ y, j * E.k ≤ y → y < j * E.k + (E.cells p).length → w2.frozen? ⟨g, y, none⟩ = false := by
  have hl := E.len p
  have hle : j * E.k + E.k ≤ xs.length * E.k := by rw [← Nat.succ_mul]; exact Nat.mul_le_mul_right _ hj
  exact ⟨fun y h1 h2 => by rw [hb.cell (p := ⟨g, y, none⟩) h.size]; exact h.some_ y (by omega), fun y h1 h2 => by rw [hb.frozen (p := ⟨g, y, none⟩) h.size]; exact h.frozen y⟩

theorem take_succG {xs ys : List α} {k : Nat} {x y : α} (h : xs.take k = ys.take k) (hx : xs[k]? = some x) (hy : ys[k]? = some y) (e : x = y) : xs.take (k + 1) = ys.take (k + 1) := by
  rw [List.take_add_one, List.take_add_one, h, hx, hy, e]
theorem ne_atG {xs ys : List α} {k : Nat} {x y : α} (hx : xs[k]? = some x) (hy : ys[k]? = some y) (e : x ≠ y) : xs ≠ ys := by
  intro h; rw [h, hy] at hx; exact e (Option.some.inj hx).symm

theorem list_ofG {P : Nat → α → Prop} : ∀ (len : Nat), (∀ i, i < len → ∃ e, P i e) → ∃ (es : List α), es.length = len ∧ ∀ i e, es[i]? = some e → P i e
  | 0, _ => ⟨[], rfl, fun i e h => by simp at h⟩
  | len + 1, h => by
    obtain ⟨es, hl, hp⟩ := list_ofG len fun i hi => h i (by omega)
    obtain ⟨e, hes⟩ := h len (by omega)
    refine ⟨es ++ [e], by simp [hl], fun i e' he => ?_⟩
    by_cases hi : i = len
    · subst hi
      rw [List.getElem?_append_right (by omega), hl] at he
      simp at he
      subst he
      exact hes
    · have hil : i < len := by
        have := (List.getElem?_eq_some_iff.mp he).1
        simp [hl] at this
        omega
      rw [List.getElem?_append_left (by omega)] at he
      exact hp i e' he
end
end Go.Proofs.YtkeockippmmneaaGreat

/-
  Elements that grow by append, in general; one element of a list stored.
-/
namespace Go.Proofs.YtkeockippmmneaaGreat
open Go.ChangeShapes Go.WideShapes Go.ChangeAt Go.RowKit
set_option linter.unusedVariables false
set_option linter.unusedSimpArgs false

/-! Elements that grow by append. -/
section
variable {α : Type} {E : Elem α}
def rowG (E : Elem α) (xs : List α) : List Value := xs.flatMap E.cells
theorem rowG_length (xs : List α) : (rowG E xs).length = xs.length * E.k := by
  induction xs with
  | nil => simp [rowG]
  | cons x xs ih => unfold rowG at *; rw [List.flatMap_cons, List.length_append, ih, E.len, List.length_cons, Nat.succ_mul]; omega
theorem rowG_snoc (xs : List α) (x : α) : rowG E (xs ++ [x]) = rowG E xs ++ E.cells x := by simp [rowG]
theorem rowG_at {xs : List α} {i : Nat} {x : α} (h : xs[i]? = some x) {j : Nat} {v : Value} (hv : (E.cells x)[j]? = some v) : (rowG E xs)[i * E.k + j]? = some v := by
  have hj : j < E.k := by have := (List.getElem?_eq_some_iff.mp hv).1; rwa [E.len] at this
  induction xs generalizing i with
  | nil => simp at h
  | cons y xs ih =>
    have e : rowG E (y :: xs) = E.cells y ++ rowG E xs := by simp [rowG]
    rw [e]
    cases i with
    | zero =>
      simp at h
      subst h
      rw [Nat.zero_mul, Nat.zero_add, List.getElem?_append_left (by rw [E.len]; exact hj)]
      exact hv
    | succ i =>
      simp at h
      rw [List.getElem?_append_right (by rw [E.len, Nat.succ_mul]; omega), E.len, show (i + 1) * E.k + j - E.k = i * E.k + j by rw [Nat.succ_mul]; omega]
      exact ih h

/-- Elements in a row of one's own, from base on. -/
def RowG (E : Elem α) (T : TypeId) (w : World) (base : Nat) (v : Value) (xs : List α) : Prop := w.ownsRow base T E.k v xs.length (rowG E xs)
theorem RowG.lt {T : TypeId} {w : World} {base : Nat} {v : Value} {xs : List α} (h : RowG E T w base v xs) : ∀ k, v.ownBlock = some k → base ≤ k ∧ k < w.heap.size := World.ownsRow.lt h
theorem RowG.shape {T : TypeId} {w : World} {base : Nat} {v : Value} {xs : List α} (h : RowG E T w base v xs) : ∃ ad cap, v = .slice ad xs.length cap := by
  rcases h.2 with ⟨rfl, hn⟩ | ⟨g, cap, cur, rfl, hb, hh, hc, hm, _⟩
  · exact ⟨none, 0, by rw [hn]⟩
  · exact ⟨_, cap, rfl⟩
theorem RowG.go {T : TypeId} {w : World} {base : Nat} {v : Value} {xs : List α} (h : RowG E T w base v xs) : GO E w base w.heap.size v xs := by
  rcases h.2 with ⟨rfl, hn⟩ | ⟨g, cap, cur, rfl, hb, hh, hc, hm, _⟩
  · exact .inl ⟨List.eq_nil_of_length_eq_zero hn, none, 0, rfl, Nat.zero_le _⟩
  · refine .inr ⟨g, 0, cap, rfl, hc, hm, hb, (Array.getElem?_eq_some_iff.mp hh).1, fun i x hx j v hv => ?_, fun o => by rw [Nat.zero_add]; exact World.ownsRow.frozenAt h o⟩
    have hil : i < xs.length := (List.getElem?_eq_some_iff.mp hx).1
    have hj : j < E.k := by have := (List.getElem?_eq_some_iff.mp hv).1; rwa [E.len] at this
    have hle : i * E.k + E.k ≤ xs.length * E.k := by rw [← Nat.succ_mul]; exact Nat.mul_le_mul_right _ hil
    rw [Nat.zero_add, World.ownsRow.cellAt h _ (by omega)]
    exact rowG_at hx hv
theorem RowG.at_ {T : TypeId} {w w' : World} {base : Nat} {v : Value} {xs : List α} (h : RowG E T w base v xs) (hk : ∀ g, v.ownBlock = some g → w'.heap[g]? = w.heap[g]?) : RowG E T w' base v xs := by
  refine ⟨h.1, ?_⟩
  rcases h.2 with ⟨rfl, hn⟩ | ⟨g, cap, cur, rfl, hb, hh, r⟩
  · exact .inl ⟨rfl, hn⟩
  · exact .inr ⟨g, cap, cur, rfl, hb, by rw [hk g rfl]; exact hh, r⟩
theorem RowG.below {T : TypeId} {w w' : World} {base n : Nat} {v : Value} {xs : List α} (h : RowG E T w base v xs) (hb : Below n w w') (hn : w.heap.size ≤ n) : RowG E T w' base v xs :=
  h.at_ fun g hg => hb.block g (by have := (h.lt g hg).2; omega)
theorem rowG_nil (T : TypeId) (w : World) (base : Nat) : RowG E T w base (.slice none 0 0) [] := World.ownsRow_nil _ _ _ _

/-- One element of a list stored. -/
theorem go_set {w u : World} {b n j : Nat} {xs : List α} {y : α} (h : GO E w b (b + 1) (.slice (some ⟨b, 0, none⟩) n n) xs) (hn : xs.length = n) (hj : j < n) (hL : LaidG w u b (j * E.k) (E.cells y)) : GO E u b (b + 1) (.slice (some ⟨b, 0, none⟩) n n) (xs.set j y) := by
  rcases h with ⟨h0, _⟩ | ⟨g, off, cap, hv, h1, h2, h3, h4, h5, h6⟩
  · rw [h0] at hn; simp at hn; omega
  · simp only [Value.slice.injEq, Option.some.injEq, Addr.mk.injEq, and_true] at hv
    obtain ⟨⟨rfl, rfl⟩, _, rfl⟩ := hv
    refine .inr ⟨b, 0, n, by rw [List.length_set, hn], by rw [List.length_set]; exact h1, h2, h3, h4, fun i x hx => ?_, fun o => by rw [hL.frozen]; exact h6 o⟩
    rw [Nat.zero_add]
    by_cases e : i = j
    · subst e
      rw [List.getElem?_set_self (by omega)] at hx
      cases hx
      exact hL.cv
    · rw [List.getElem?_set_ne (fun h => e h.symm)] at hx
      have hc := h5 i x hx
      rw [Nat.zero_add] at hc
      intro p v hp
      have hlen : p < E.k := by have := (List.getElem?_eq_some_iff.mp hp).1; rwa [E.len] at this
      have hside : i * E.k + E.k ≤ j * E.k ∨ j * E.k + E.k ≤ i * E.k := by
        rcases Nat.lt_or_gt_of_ne e with h | h
        · left; rw [← Nat.succ_mul]; exact Nat.mul_le_mul_right _ h
        · right; rw [← Nat.succ_mul]; exact Nat.mul_le_mul_right _ h
      rw [hL.cell _ _ (by rw [E.len]; omega)]
      exact hc p v hp

/-- Where an element may be stored. -/
theorem go_room {w : World} {b n j : Nat} {xs : List α} (h : GO E w b (b + 1) (.slice (some ⟨b, 0, none⟩) n n) xs) (hn : xs.length = n) (hj : j < n) : (∀ y, j * E.k ≤ y → y < j * E.k + E.k → (w.cell? ⟨b, y, none⟩).isSome = true) ∧ ∀ y, j * E.k ≤ y → y < j * E.k + E.k → w.frozen? ⟨b, y, none⟩ = false := by
  rcases h with ⟨h0, _⟩ | ⟨g, off, cap, hv, h1, h2, h3, h4, h5, h6⟩
  · rw [h0] at hn; simp at hn; omega
  · simp only [Value.slice.injEq, Option.some.injEq, Addr.mk.injEq, and_true] at hv
    obtain ⟨⟨rfl, rfl⟩, _, rfl⟩ := hv
    have hc := h5 j _ (List.getElem?_eq_getElem (by omega))
    rw [Nat.zero_add] at hc
    exact ⟨fun y h1 h2 => hc.some_ h1 (by rw [E.len]; exact h2), fun y _ _ => by have := h6 y; rwa [Nat.zero_add] at this⟩
end


/-- A place of an owned list, and what a store there leaves. -/
theorem GO.setAt {α : Type} {E : Elem α} {w : World} {lo hi j : Nat} {v : Value} {xs : List α} {x : α} (h : GO E w lo hi v xs) (hx : xs[j]? = some x) :
    ∃ g off cap, v = .slice (some ⟨g, off, none⟩) xs.length cap ∧ lo ≤ g ∧ g < hi ∧ xs.length ≤ cap ∧ CV w g (off + j * E.k) (E.cells x) ∧ (∀ o, w.frozen? ⟨g, off + o, none⟩ = false) ∧ ∀ u y, LaidG w u g (off + j * E.k) (E.cells y) → GO E u lo hi v (xs.set j y) := by
  have hj : j < xs.length := (List.getElem?_eq_some_iff.mp hx).1
  rcases h with ⟨h0, _⟩ | ⟨g, off, cap, hv, h1, h2, h3, h4, h5, h6⟩
  · rw [h0] at hj; simp at hj
  · refine ⟨g, off, cap, hv, h3, h4, h1, h5 j x hx, h6, fun u y hL => .inr ⟨g, off, cap, by rw [List.length_set]; exact hv, by rw [List.length_set]; exact h1, h2, h3, h4, fun i z hz => ?_, fun o => by rw [hL.frozen]; exact h6 o⟩⟩
    by_cases e : i = j
    · subst e
      rw [List.getElem?_set_self hj] at hz
      cases hz
      exact hL.cv
    · rw [List.getElem?_set_ne (fun h => e h.symm)] at hz
      have hc := h5 i z hz
      intro p v hp
      have hlen : p < E.k := by have := (List.getElem?_eq_some_iff.mp hp).1; rwa [E.len] at this
      have hside : i * E.k + E.k ≤ j * E.k ∨ j * E.k + E.k ≤ i * E.k := by
        rcases Nat.lt_or_gt_of_ne e with h | h
        · left; rw [← Nat.succ_mul]; exact Nat.mul_le_mul_right _ h
        · right; rw [← Nat.succ_mul]; exact Nat.mul_le_mul_right _ h
      rw [hL.cell _ _ (by rw [E.len]; omega)]
      exact hc p v hp

/-! An append of a list of elements. -/
section
variable {α : Type} {E : Elem α} {P : Program}

theorem GR.cellsG {w : World} {lo hi : Nat} {b off len cap : Nat} {xs : List α} (h : GR E w lo hi (.slice (some ⟨b, off, none⟩) len cap) xs) : ∀ j u, (rowG E xs)[j]? = some u → w.cell? ((⟨b, off, none⟩ : Go.Addr).add j) = some u := by
  intro j u hu
  have hj : j < xs.length * E.k := by have := (List.getElem?_eq_some_iff.mp hu).1; rwa [rowG_length] at this
  have hk := E.pos
  have hq : j / E.k < xs.length := by rw [Nat.div_lt_iff_lt_mul hk]; exact hj
  have hm : j % E.k < E.k := Nat.mod_lt _ hk
  have hd : j / E.k * E.k + j % E.k = j := by rw [Nat.mul_comm]; exact Nat.div_add_mod j E.k
  obtain ⟨b', off', cap', hv, _, _, hc⟩ := h.at_ (List.getElem?_eq_getElem hq)
  simp only [Value.slice.injEq, Option.some.injEq, Addr.mk.injEq, and_true] at hv
  obtain ⟨⟨rfl, rfl⟩, _⟩ := hv
  have hcell : (E.cells xs[j / E.k])[j % E.k]? = some ((E.cells xs[j / E.k])[j % E.k]'(by rw [E.len]; exact hm)) := List.getElem?_eq_getElem _
  have h1 := rowG_at (E := E) (List.getElem?_eq_getElem hq) hcell
  rw [hd, hu] at h1
  have h2 := hc _ _ hcell
  rw [gadd, show off + j = off + j / E.k * E.k + j % E.k by omega, h2, ← h1]

theorem rowG_one (xs : List α) : ∀ u ∈ rowG E xs, u.oneCell' = true := by
  intro u hu
  unfold rowG at hu
  obtain ⟨x, _, hx⟩ := List.mem_flatMap.mp hu
  exact E.one x u hx

/-- What an append leaves. -/
structure AppG (E : Elem α) (T : TypeId) (w : World) (base : Nat) (v : Value) (xs : List α) (v' : Value) (w' : World) : Prop where
  row : RowG E T w' base v' xs
  grown : w.grownBy w' v.ownBlock
  at_ : v'.ownBlock = v.ownBlock ∨ v'.ownBlock = some w.heap.size

theorem rowG_append (xs ys : List α) : rowG E (xs ++ ys) = rowG E xs ++ rowG E ys := by simp [rowG]

theorem run_appG {T t : TypeId} {bytes : Nat} {z : Value} (hu : P.underlying t = some (.slice T)) (hinfo : (P.info? T).map (fun i => (i.zero, i.size, i.bytes)) = some (some z, E.k, bytes)) (hzs : z.cells.size = E.k) (hby : bytes ≤ 1024)
    (w : World) (base ty lo hi : Nat) (v x : Value) (xs qs : List α) (hr : RowG E T w base v xs) (hx : GR E w lo hi x qs) (hb : base ≤ w.heap.size) (hn : xs.length + qs.length ≤ 16777216) :
    ∃ v' w', (Builtin.append_ #[t, t] ty #[v, x]).run P w = .ok v' w' ∧ AppG E T w base v (xs ++ qs) v' w' := by
  obtain ⟨i0, hi0, hz0, hz1, hz2⟩ := info_parts hinfo
  obtain ⟨ad, cap, rfl, hc1, hc2⟩ := hx.shape
  have hbytes : (xs.length + qs.length) * bytes ≤ 140737488355328 := by
    have := Nat.mul_le_mul hn hby
    omega
  cases ad with
  | none =>
    obtain rfl : qs = [] := by
      obtain ⟨_, _, hv, _, _, h3⟩ := hx
      rcases h3 with h3 | ⟨b, off, rfl, _⟩
      · exact h3
      · simp at hv
    have hrs : ∃ a0 c0, v = .slice a0 xs.length c0 ∧ xs.length ≤ c0 := by
      rcases hr.2 with ⟨rfl, hn⟩ | ⟨g, cap, cur, rfl, hb, hh, hc, hm, _⟩
      · exact ⟨none, 0, by rw [hn], by omega⟩
      · exact ⟨_, cap, rfl, hc⟩
    obtain ⟨a0, c0, rfl, h0⟩ := hrs
    have hs : Src P i0.size t (.slice none 0 cap) 0 [] w := Src.ofNil _ hu cap
    have hrun := run_append_nothing (P := P) w t t ty T i0 hu hi0 a0 xs.length c0 h0 _ hs
    exact ⟨_, w, hrun, ⟨by rw [List.append_nil]; exact hr, ⟨rfl, rfl, rfl, Nat.le_refl _, fun _ _ _ => rfl⟩, .inl rfl⟩⟩
  | some a =>
    by_cases he : qs = []
    · subst he
      obtain ⟨v', w', hrun, h2, h3, _, h5⟩ := run_append_own_at (P := P) w base t ty T i0 z E.k bytes hu hi0 hz0 hz1 hz2 hzs E.pos v xs.length (rowG E xs) hr a 0 cap [] (by simp) (fun j u h => by simp at h) (fun u h => by simp at h) (by unfold maxLen; omega) (by simpa using hbytes) hb
      rw [Nat.add_zero, List.append_nil] at h2
      exact ⟨v', w', hrun, ⟨by rw [List.append_nil]; exact h2, h3, h5⟩⟩
    · obtain ⟨b, off, hab⟩ : ∃ b off, a = ⟨b, off, none⟩ := by
        obtain ⟨_, _, hv, _, _, h3⟩ := id hx
        rcases h3 with h3 | ⟨b, off, rfl, _⟩
        · exact absurd h3 he
        · simp only [Value.slice.injEq, Option.some.injEq] at hv
          exact ⟨b, off, hv.1⟩
      subst hab
      obtain ⟨v', w', hrun, h2, h3, _, h5⟩ := run_append_own_at (P := P) w base t ty T i0 z E.k bytes hu hi0 hz0 hz1 hz2 hzs E.pos v xs.length (rowG E xs) hr ⟨b, off, none⟩ qs.length cap (rowG E qs) (rowG_length _) hx.cellsG (rowG_one _) (by unfold maxLen; omega) hbytes hb
      exact ⟨v', w', hrun, ⟨by unfold RowG; rw [rowG_append, List.length_append]; exact h2, h3, h5⟩⟩

variable {ops : Array Oper} {rest : List Oper} {o : Oper} {a : Act} {Q : Exit → Act → World → Prop} {K : Act → World → Prop} {w : World}
theorem wpList_appG {T t : TypeId} {bytes : Nat} {z : Value} (hu : P.underlying t = some (.slice T)) (hinfo : (P.info? T).map (fun i => (i.zero, i.size, i.bytes)) = some (some z, E.k, bytes)) (hzs : z.cells.size = E.k) (hby : bytes ≤ 1024)
    (hg : o.guard = none) (s x : Operand) (hop : o.op = .call { callee := .builtin .append, args := #[s, x], argTypes := #[t, t] })
    (base lo hi : Nat) {v xv : Value} {xs qs : List α} (hs : a.eval s = v) (hx : a.eval x = xv) (hr : RowG E T w base v xs) (hn : GR E w lo hi xv qs) (hb : base ≤ w.heap.size) (hl : xs.length + qs.length ≤ 16777216)
    (hK : Hid (∀ v' w', AppG E T w base v (xs ++ qs) v' w' → wpList P ops Q rest (a.put o.dst v') w')) : wpList P ops Q (o :: rest) a w :=
  wpList_plain hg fun K' hK' => by
    obtain ⟨v', w', hrun, h⟩ := run_appG hu hinfo hzs hby w base o.type lo hi v xv xs qs hr hn hb hl
    unfold Oper.wp execOp
    simp only [hop, resolve, invoke, builtin, Sem.run_bind, Sem.run_pure, Result.andThen_ok, List.map_toArray, List.map_cons, List.map_nil, hs, hx, hrun]
    exact hK' _ _ (hK.out v' w' h)
end
theorem AppG.below {α : Type} {E : Elem α} {T : TypeId} {w w' : World} {base n : Nat} {v v' : Value} {xs ys : List α} (h : AppG E T w base v xs v' w') (hr : RowG E T w base v ys) (hn : n ≤ base) (hb : base ≤ w.heap.size) : Below n w w' :=
  (Below.refl n w).grown h.grown (by omega) fun k hk => by have := (hr.lt k hk).1; omega
theorem rowG_none {α : Type} {E : Elem α} (T : TypeId) (w : World) (base : Nat) (hb : base ≤ w.heap.size) : RowG E T (w.alloc (.cells #[] T)) base (.slice (some ⟨w.heap.size, 0, none⟩) 0 0) ([] : List α) :=
  ⟨by simp [rowG], .inr ⟨w.heap.size, 0, _, rfl, hb, heap_alloc_new w _, Nat.le_refl _, Nat.zero_le _, by simp, by simp [rowG]⟩⟩
end Go.Proofs.YtkeockippmmneaaGreat

/-
  Rows of statements that grow by append: the statements' own cells, and where what belongs to them lies.
-/
namespace Go.Proofs.YtkeockippmmneaaGreat
open Go.ChangeShapes Go.WideShapes Go.ChangeAt Go.RowKit
set_option linter.unusedVariables false
set_option maxRecDepth 100000

/-- A statement's own cells: what it is, and where what belongs to it lies. -/
structure ShellT where
  s : StmtD
  ax : Option Go.Addr
  cx : Nat
  ay : Option Go.Addr
  cy : Nat
  az : Option Go.Addr
  cz : Nat

def ShellT.x (q : ShellT) : Value := .slice q.ax q.s.e.kids.length q.cx
def ShellT.y (q : ShellT) : Value := .slice q.ay q.s.th.length q.cy
def ShellT.z (q : ShellT) : Value := .slice q.az q.s.el.length q.cz
def shellTC (q : ShellT) : List Value := [.int .i64 q.s.k, .int .i64 q.s.tk, .int .i64 q.s.ta, .int .i64 q.s.e.k, .int .i64 q.s.e.n, .int .i64 q.s.e.ak, .int .i64 q.s.e.at_, q.x, q.y, q.z]
def shellTE : Elem ShellT where
  cells := shellTC
  k := 10
  pos := by decide
  len := fun _ => rfl
  one := fun q v hv => by
    simp only [shellTC, ShellT.x, ShellT.y, ShellT.z, List.mem_cons, List.not_mem_nil, or_false] at hv
    rcases hv with rfl | rfl | rfl | rfl | rfl | rfl | rfl | rfl | rfl | rfl <;> rfl

theorem cell10_cv {w : World} {b o : Nat} {q : ShellT} (h : Cell10 w b o q.s q.x q.y q.z) : CV w b o (shellTE.cells q) := fun j v hj => by
  match j, hj with
  | 0, hj => simp [shellTE, shellTC] at hj; subst hj; exact h.c0
  | 1, hj => simp [shellTE, shellTC] at hj; subst hj; exact h.c1
  | 2, hj => simp [shellTE, shellTC] at hj; subst hj; exact h.c2
  | 3, hj => simp [shellTE, shellTC] at hj; subst hj; exact h.c3
  | 4, hj => simp [shellTE, shellTC] at hj; subst hj; exact h.c4
  | 5, hj => simp [shellTE, shellTC] at hj; subst hj; exact h.c5
  | 6, hj => simp [shellTE, shellTC] at hj; subst hj; exact h.c6
  | 7, hj => simp [shellTE, shellTC] at hj; subst hj; exact h.c7
  | 8, hj => simp [shellTE, shellTC] at hj; subst hj; exact h.c8
  | 9, hj => simp [shellTE, shellTC] at hj; subst hj; exact h.c9
  | j + 10, hj => simp [shellTE, shellTC] at hj

theorem cv_cell10 {w : World} {b o : Nat} {q : ShellT} (h : CV w b o (shellTE.cells q)) : Cell10 w b o q.s q.x q.y q.z :=
  ⟨h 0 _ rfl, h 1 _ rfl, h 2 _ rfl, h 3 _ rfl, h 4 _ rfl, h 5 _ rfl, h 6 _ rfl, h 7 _ rfl, h 8 _ rfl, h 9 _ rfl⟩

/-- A range is well laid in itself. -/
structure Rg.In (r : Rg) (lo hi : Nat) : Prop where
  lo_ : lo ≤ r.l
  hi_ : r.h ≤ hi
  a : r.l ≤ r.a0 ∧ r.a1 ≤ r.h
  b : r.l ≤ r.b0 ∧ r.b1 ≤ r.h
  c : r.l ≤ r.c0 ∧ r.c1 ≤ r.h
  ab : r.a1 ≤ r.b0 ∨ r.b1 ≤ r.a0
  ac : r.a1 ≤ r.c0 ∨ r.c1 ≤ r.a0
  bc : r.b1 ≤ r.c0 ∨ r.c1 ≤ r.b0

/-- What belongs to the statements of a list: owned, each in a range of its own. -/
structure TK (w : World) (lo hi : Nat) (qs : List ShellT) (r : Nat → Rg) : Prop where
  own : ∀ i q, qs[i]? = some q → KO w (r i).a0 (r i).a1 q.x q.s.e.kids ∧ SO w (r i).b0 (r i).b1 q.y q.s.th ∧ SO w (r i).c0 (r i).c1 q.z q.s.el
  rng : ∀ i, i < qs.length → (r i).In lo hi
  apart : ∀ i j, i < j → j < qs.length → (r i).h ≤ (r j).l ∨ (r j).h ≤ (r i).l

theorem TK.nil (w : World) (lo hi : Nat) (r : Nat → Rg) : TK w lo hi [] r := ⟨fun i q h => by simp at h, fun i h => by simp at h, fun i j _ h => by simp at h⟩

theorem TK.kept {w w' : World} {lo hi : Nat} {qs : List ShellT} {r : Nat → Rg} (h : TK w lo hi qs r) (hk : ∀ i, i < qs.length → ∀ k, (r i).l ≤ k → k < (r i).h → w'.heap[k]? = w.heap[k]?) : TK w' lo hi qs r :=
  ⟨fun i q hq => by
    have hi := (List.getElem?_eq_some_iff.mp hq).1
    obtain ⟨o1, o2, o3, o4, o5, o6, o7, o8⟩ := h.rng i hi
    obtain ⟨h1, h2, h3⟩ := h.own i q hq
    exact ⟨h1.kept fun k q1 q2 => hk i hi k (by omega) (by omega), h2.kept fun k q1 q2 => hk i hi k (by omega) (by omega), h3.kept fun k q1 q2 => hk i hi k (by omega) (by omega)⟩, h.rng, h.apart⟩

theorem TK.under {w w' : World} {lo hi n : Nat} {qs : List ShellT} {r : Nat → Rg} (h : TK w lo hi qs r) (hb : Below n w w') (hn : hi ≤ n) : TK w' lo hi qs r :=
  h.kept fun i hi k _ h2 => hb.block k (by have := (h.rng i hi).hi_; omega)

theorem TK.wide {w : World} {lo hi lo' hi' : Nat} {qs : List ShellT} {r : Nat → Rg} (h : TK w lo hi qs r) (h1 : lo' ≤ lo) (h2 : hi ≤ hi') : TK w lo' hi' qs r :=
  ⟨h.own, fun i hi => by
    obtain ⟨o1, o2, o3, o4, o5, o6, o7, o8⟩ := h.rng i hi
    exact ⟨by omega, by omega, o3, o4, o5, o6, o7, o8⟩, h.apart⟩

/-- Two lists one behind the other. -/
theorem TK.append {w : World} {lo hi : Nat} {qs ps : List ShellT} {r r' : Nat → Rg} (h : TK w lo hi qs r) (h' : TK w lo hi ps r') (hap : ∀ i j, i < qs.length → j < ps.length → (r i).h ≤ (r' j).l ∨ (r' j).h ≤ (r i).l) :
    TK w lo hi (qs ++ ps) (fun i => if i < qs.length then r i else r' (i - qs.length)) := by
  refine ⟨fun i q hq => ?_, fun i hi => ?_, fun i j hij hj => ?_⟩
  · by_cases hl : i < qs.length
    · rw [if_pos hl]
      rw [List.getElem?_append_left hl] at hq
      exact h.own i q hq
    · rw [if_neg hl]
      rw [List.getElem?_append_right (by omega)] at hq
      exact h'.own _ q hq
  · by_cases hl : i < qs.length
    · rw [if_pos hl]; exact h.rng i hl
    · rw [if_neg hl]; exact h'.rng _ (by rw [List.length_append] at hi; omega)
  · rw [List.length_append] at hj
    by_cases h1 : i < qs.length
    · rw [if_pos h1]
      by_cases h2 : j < qs.length
      · rw [if_pos h2]; exact h.apart i j hij h2
      · rw [if_neg h2]; exact hap i _ h1 (by omega)
    · rw [if_neg h1, if_neg (by omega)]
      exact h'.apart _ _ (by omega) (by omega)

/-- A row of statements of one's own. -/
structure RowK (w : World) (base : Nat) (v : Value) (qs : List ShellT) (r : Nat → Rg) : Prop where
  row : RowG shellTE 44 w base v qs
  tk : TK w base w.heap.size qs r
  out : ∀ g, v.ownBlock = some g → ∀ i, i < qs.length → g < (r i).l ∨ (r i).h ≤ g

theorem RowK.below {w w' : World} {base n : Nat} {v : Value} {qs : List ShellT} {r : Nat → Rg} (h : RowK w base v qs r) (hb : Below n w w') (hn : w.heap.size ≤ n) : RowK w' base v qs r :=
  ⟨h.row.below hb hn, (h.tk.under hb hn).wide (Nat.le_refl _) (by have := hb.size; omega), h.out⟩

/-- A list is appended. -/
theorem RowK.app {w w' : World} {base lo hi : Nat} {v v' : Value} {qs ps : List ShellT} {r r' : Nat → Rg} (h : RowK w base v qs r) (hA : AppG shellTE 44 w base v (qs ++ ps) v' w') (hp : TK w lo hi ps r') (hlo : base ≤ lo) (hhi : hi ≤ w.heap.size)
    (hap : ∀ i, i < qs.length → (r i).h ≤ lo ∨ hi ≤ (r i).l) (hg : ∀ g, v.ownBlock = some g → g < lo ∨ hi ≤ g) (hsz : w.heap.size ≤ w'.heap.size) (hk : ∀ k, k < w.heap.size → (∀ g, v.ownBlock = some g → k ≠ g) → w'.heap[k]? = w.heap[k]?) :
    ∃ rr, RowK w' base v' (qs ++ ps) rr := by
  have h1 : TK w' base w.heap.size qs r := h.tk.kept fun i hi k q1 q2 => hk k (by have := (h.tk.rng i hi).hi_; omega) fun g hgv e => by have := h.out g hgv i hi; omega
  have h2 : TK w' base w.heap.size ps r' := (hp.kept fun i hi k q1 q2 => hk k (by have := (hp.rng i hi).hi_; omega) fun g hgv e => by have := hg g hgv; have := hp.rng i hi; have := this.lo_; have := (hp.rng i hi).hi_; omega).wide hlo hhi
  have h3 := h1.append h2 fun i j hi hj => by
    have q1 := hap i hi
    have q2 := (hp.rng j hj).lo_
    have q3 := (hp.rng j hj).hi_
    omega
  refine ⟨_, hA.row, h3.wide (Nat.le_refl _) hsz, fun g hgv i hi => ?_⟩
  rcases hA.at_ with e | e
  · rw [e] at hgv
    by_cases hl : i < qs.length
    · simp only [if_pos hl]; exact h.out g hgv i hl
    · simp only [if_neg hl]
      have hil : i - qs.length < ps.length := by rw [List.length_append] at hi; omega
      have q2 := (hp.rng _ hil).lo_
      have q3 := (hp.rng _ hil).hi_
      have := hg g hgv
      omega
  · rw [e] at hgv
    cases hgv
    have := (h3.rng i hi).hi_
    omega

theorem RowK.so {w : World} {base : Nat} {v : Value} {qs : List ShellT} {r : Nat → Rg} (h : RowK w base v qs r) (hb : base ≤ w.heap.size) : SO w base w.heap.size v (qs.map ShellT.s) := by
  rcases h.row.go with ⟨h1, ad, cap, hv, hc⟩ | ⟨b, off, cap, hv, h1, h2, h3, h4, h5, h6⟩
  · subst h1; subst hv; exact .nil _ _ ad cap hc
  · by_cases h0 : qs = []
    · subst h0; subst hv; exact .nil _ _ _ cap h2
    have hlen : (qs.map ShellT.s).length = qs.length := by simp
    have hback : ∀ i s, (qs.map ShellT.s)[i]? = some s → ∃ q : ShellT, qs[i]? = some q ∧ s = q.s := fun i s his => by
      rw [List.getElem?_map] at his
      cases hq : qs[i]? with
      | none => rw [hq] at his; simp at his
      | some q => rw [hq] at his; simp at his; exact ⟨q, hq, his.symm⟩
    have hget : ∀ i s, (qs.map ShellT.s)[i]? = some s → qs[i]? = some (qs.getD i ⟨s, none, 0, none, 0, none, 0⟩) ∧ s = (qs.getD i ⟨s, none, 0, none, 0, none, 0⟩).s := fun i s his => by
      obtain ⟨q, hq, hs⟩ := hback i s his
      have : qs.getD i ⟨s, none, 0, none, 0, none, 0⟩ = q := by rw [List.getD_eq_getElem?_getD, hq]; rfl
      rw [this]; exact ⟨hq, hs⟩
    let D : ShellT := ⟨.mk 0 0 0 (.mk 0 0 0 0 []) [] [], none, 0, none, 0, none, 0⟩
    have hD : ∀ i s, (qs.map ShellT.s)[i]? = some s → ∃ q : ShellT, qs[i]? = some q ∧ s = q.s ∧ qs.getD i D = q := fun i s his => by
      obtain ⟨q, hq, hs⟩ := hback i s his
      exact ⟨q, hq, hs, by rw [List.getD_eq_getElem?_getD, hq]; rfl⟩
    have H := SO.cons (w := w) base w.heap.size b off cap (qs.map ShellT.s) (fun i => (qs.getD i D).x) (fun i => (qs.getD i D).y) (fun i => (qs.getD i D).z) r (fun hq => h0 (List.eq_nil_of_length_eq_zero (by rw [← hlen, hq]; rfl))) (by rw [hlen]; exact h1) h2 h3 h4 h6
      (fun i s his => by obtain ⟨q, hq, rfl, hd⟩ := hD i s his; show Cell10 w b (off + i * 10) q.s (qs.getD i D).x (qs.getD i D).y (qs.getD i D).z; rw [hd]; exact cv_cell10 (h5 i q hq))
      (fun i hi => by
        rw [hlen] at hi
        obtain ⟨o1, o2, o3, o4, o5, o6, o7, o8⟩ := h.tk.rng i hi
        exact ⟨o1, o2, h.out b (by rw [hv]; rfl) i hi, o3, o4, o5, o6, o7, o8⟩)
      (fun i j hij hj => h.tk.apart i j hij (by rw [hlen] at hj; exact hj))
      (fun i s his => by obtain ⟨q, hq, rfl, hd⟩ := hD i s his; show KO w _ _ (qs.getD i D).x q.s.e.kids; rw [hd]; exact (h.tk.own i q hq).1)
      (fun i s his => by obtain ⟨q, hq, rfl, hd⟩ := hD i s his; show SO w _ _ (qs.getD i D).y q.s.th; rw [hd]; exact (h.tk.own i q hq).2.1)
      (fun i s his => by obtain ⟨q, hq, rfl, hd⟩ := hD i s his; show SO w _ _ (qs.getD i D).z q.s.el; rw [hd]; exact (h.tk.own i q hq).2.2)
    rw [hlen] at H
    subst hv
    exact H

/-- An owned list, as shells. -/
theorem SO.shells {w : World} {lo hi : Nat} {v : Value} {ss : List StmtD} (h : SO w lo hi v ss) : ∃ qs r, qs.map ShellT.s = ss ∧ GR shellTE w lo hi v qs ∧ TK w lo hi qs r := by
  cases h with
  | nil lo hi ad cap hc => exact ⟨[], fun _ => ⟨0, 0, 0, 0, 0, 0, 0, 0⟩, rfl, ⟨ad, cap, rfl, Nat.zero_le _, hc, .inl rfl⟩, TK.nil _ _ _ _⟩
  | cons lo hi b off cap ss x y z r h0 h1 h2 h3 h4 hf hc hr hd he ht hl =>
    obtain ⟨qs, hlq, hq⟩ := list_ofG (P := fun i (q : ShellT) => ss[i]? = some q.s ∧ x i = q.x ∧ y i = q.y ∧ z i = q.z) ss.length fun i hi => by
      have hs := List.getElem?_eq_getElem hi
      obtain ⟨ax, cx, e1, _, _⟩ := (he i _ hs).kr.shape
      obtain ⟨ay, cy, e2, _, _⟩ := (ht i _ hs).sr.shape
      obtain ⟨az, cz, e3, _, _⟩ := (hl i _ hs).sr.shape
      exact ⟨⟨ss[i], ax, cx, ay, cy, az, cz⟩, hs, e1, e2, e3⟩
    refine ⟨qs, r, ?_, ?_, ?_⟩
    · apply List.ext_getElem? ; intro i
      rw [List.getElem?_map]
      rcases Nat.lt_or_ge i ss.length with hi | hi
      · obtain ⟨q, hqi⟩ : ∃ q, qs[i]? = some q := ⟨qs[i]'(by omega), List.getElem?_eq_getElem _⟩
        rw [hqi, (hq i q hqi).1]; rfl
      · rw [List.getElem?_eq_none (by omega), List.getElem?_eq_none hi]; rfl
    · refine ⟨some ⟨b, off, none⟩, cap, by rw [hlq], by omega, h2, .inr ⟨b, off, rfl, h3, h4, fun i q hqi => ?_⟩⟩
      obtain ⟨e0, e1, e2, e3⟩ := hq i q hqi
      have := hc i _ e0
      rw [e1, e2, e3] at this
      exact cell10_cv this
    · refine ⟨fun i q hqi => ?_, fun i hi => ?_, fun i j hij hj => hd i j hij (by omega)⟩
      · obtain ⟨e0, e1, e2, e3⟩ := hq i q hqi
        rw [← e1, ← e2, ← e3]
        exact ⟨he i _ e0, ht i _ e0, hl i _ e0⟩
      · obtain ⟨o1, o2, o3, o4, o5, o6, o7, o8, o9⟩ := hr i (by omega)
        exact ⟨o1, o2, o4, o5, o6, o7, o8, o9⟩

/-- One statement in a range. -/
theorem TK.one {w : World} {q : ShellT} {r : Rg} (h1 : KO w r.a0 r.a1 q.x q.s.e.kids) (h2 : SO w r.b0 r.b1 q.y q.s.th) (h3 : SO w r.c0 r.c1 q.z q.s.el) {lo hi : Nat} (hr : r.In lo hi) : TK w lo hi [q] (fun _ => r) :=
  ⟨fun i p hp => by
    cases i with
    | zero => simp at hp; subst hp; exact ⟨h1, h2, h3⟩
    | succ i => simp at hp, fun _ _ => hr, fun i j hij hj => by simp at hj; omega⟩

theorem gr_one {w : World} {b : Nat} {q : ShellT} (h : TenW w b (.int .i64 q.s.k) (.int .i64 q.s.tk) (.int .i64 q.s.ta) (.int .i64 q.s.e.k) (.int .i64 q.s.e.n) (.int .i64 q.s.e.ak) (.int .i64 q.s.e.at_) q.x q.y q.z) : GR shellTE w b (b + 1) (.slice (some ⟨b, 0, none⟩) 1 1) [q] :=
  ⟨some ⟨b, 0, none⟩, 1, rfl, Nat.le_refl _, by decide, .inr ⟨b, 0, rfl, Nat.le_refl _, by omega, fun i p hp => by
    cases i with
    | zero =>
      simp at hp; subst hp
      rw [Nat.zero_mul, Nat.add_zero]
      exact cell10_cv ⟨h.c0, by simpa using h.c1, by simpa using h.c2, by simpa using h.c3, by simpa using h.c4, by simpa using h.c5, by simpa using h.c6, by simpa using h.c7, by simpa using h.c8, by simpa using h.c9⟩
    | succ i => simp at hp⟩⟩
end Go.Proofs.YtkeockippmmneaaGreat
