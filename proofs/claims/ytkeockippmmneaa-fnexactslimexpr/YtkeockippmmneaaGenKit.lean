/-
  Elements of several cells, in general: CV, cells one behind another; VarG, a variable of them; GR, a list that can be read; GO, a list that is owned; and the steps of a walk that box, make, load and store one whole.
-/
import Derived.Test.YtkeockippmmneaaOutKit
import Derived.Laws.ResultCell
import Derived.Laws.IdiomCopy
import Derived.Deep.WholeRow
import Derived.Maps.AppendAt
import Derived.Deep.AppendLies
import Derived.Deep.Upon
namespace Go.Proofs.Ytkeockippmmneaa
open Go.ChangeShapes Go.WideShapes Go.ChangeAt Go.RowKit
set_option linter.unusedVariables false
set_option linter.unusedSimpArgs false

theorem gadd (B o j : Nat) : (⟨B, o, none⟩ : Go.Addr).add j = ⟨B, o + j, none⟩ := by unfold Go.Addr.add; split <;> simp_all

/-- The cells from a place on hold these values. -/
def CV (w : World) (b o : Nat) (vs : List Value) : Prop := ∀ (j : Nat) (v : Value), vs[j]? = some v → w.cell? ⟨b, o + j, none⟩ = some v

theorem CV.kept {w w' : World} {b o : Nat} {vs : List Value} (h : CV w b o vs) (hk : w'.heap[b]? = w.heap[b]?) : CV w' b o vs :=
  fun j v hv => by rw [World.cell?_of_block (w := w) hk]; exact h j v hv
theorem CV.below {w w' : World} {b o n : Nat} {vs : List Value} (h : CV w b o vs) (hb : Below n w w') (hn : b < n) : CV w' b o vs := h.kept (hb.block b hn)
theorem CV.some_ {w : World} {b o : Nat} {vs : List Value} (h : CV w b o vs) {x : Nat} (h1 : o ≤ x) (h2 : x < o + vs.length) : (w.cell? ⟨b, x, none⟩).isSome = true := by
  have h3 := h (x - o) vs[x - o] (List.getElem?_eq_getElem (by omega))
  rw [show o + (x - o) = x by omega] at h3
  rw [h3]; rfl
/-- A run of them. -/
theorem CV.part {w : World} {b o : Nat} {vs : List Value} (h : CV w b o vs) (i n : Nat) : CV w b (o + i) ((vs.drop i).take n) := fun j v hv => by
  rw [List.getElem?_take] at hv
  split at hv
  · rw [List.getElem?_drop] at hv
    have := h (i + j) v hv
    rwa [← Nat.add_assoc] at this
  · cases hv

theorem cv_new (w : World) (vs : List Value) (t : TypeId) : CV (w.alloc (.cells vs.toArray t)) w.heap.size 0 vs := fun j v hv => by
  rw [Nat.zero_add, cell_of_row _ _ j vs.toArray t (0, 0) (heap_alloc_last w _)]
  simpa using hv

/-- A variable of these cells that may be written. -/
structure VarG (w : World) (B : Nat) (vs : List Value) : Prop where
  c : CV w B 0 vs
  f : ∀ o, w.frozen? ⟨B, o, none⟩ = false

theorem VarG.at_ {w w' : World} {B : Nat} {vs : List Value} (h : VarG w B vs) (hk : w'.heap[B]? = w.heap[B]?) : VarG w' B vs :=
  ⟨h.c.kept hk, fun o => by rw [World.frozen?_of_block (w := w) hk]; exact h.f o⟩
theorem VarG.below {w w' : World} {B n : Nat} {vs : List Value} (h : VarG w B vs) (hb : Below n w w') (hB : B < n) : VarG w' B vs := h.at_ (hb.block B hB)
theorem varG_new (w : World) (vs : List Value) (t : TypeId) : VarG (w.alloc (.cells vs.toArray t)) w.heap.size vs :=
  ⟨cv_new w vs t, fun o => World.frozen?_alloc_new _ _ _ _⟩

theorem VarG.one {w : World} {B : Nat} {vs : List Value} (h : VarG w B vs) {i : Nat} (hi : i < vs.length) : (w.cell? ⟨B, i, none⟩).isSome = true := h.c.some_ (Nat.zero_le _) (by omega)
theorem VarG.run {w : World} {B : Nat} {vs : List Value} (h : VarG w B vs) (i n : Nat) (hn : i + n ≤ vs.length) : (∀ y, i ≤ y → y < i + n → (w.cell? ⟨B, y, none⟩).isSome = true) ∧ ∀ y, i ≤ y → y < i + n → w.frozen? ⟨B, y, none⟩ = false :=
  ⟨fun y _ h2 => h.one (by omega), fun y _ _ => h.f y⟩

/-- What a store of a whole element leaves. -/
structure LaidG (w u : World) (B o : Nat) (vs : List Value) : Prop where
  cv : CV u B o vs
  size : u.heap.size = w.heap.size
  block : ∀ k, k ≠ B → u.heap[k]? = w.heap[k]?
  cell : ∀ b x, b ≠ B ∨ x < o ∨ o + vs.length ≤ x → u.cell? ⟨b, x, none⟩ = w.cell? ⟨b, x, none⟩
  frozen : ∀ b x, u.frozen? ⟨b, x, none⟩ = w.frozen? ⟨b, x, none⟩
  below : ∀ n w0, n ≤ B → Below n w0 w → Below n w0 u

theorem size_setCells (b : Nat) : ∀ (vs : List Value) (o : Nat) (w : World), (w.setCells b o vs).heap.size = w.heap.size
  | [], _, _ => rfl
  | v :: r, o, w => by rw [World.setCells, size_setCells b r, World.size_setCell]
theorem block_setCells (b : Nat) {k : Nat} (hk : k ≠ b) : ∀ (vs : List Value) (o : Nat) (w : World), (w.setCells b o vs).heap[k]? = w.heap[k]?
  | [], _, _ => rfl
  | v :: r, o, w => by rw [World.setCells, block_setCells b hk r, Below.heap_setCell _ _ _ _ hk]
theorem below_setCells (b : Nat) {n : Nat} (hn : n ≤ b) (w0 : World) : ∀ (vs : List Value) (o : Nat) (w : World), Below n w0 w → Below n w0 (w.setCells b o vs)
  | [], _, _, h => h
  | v :: r, o, w, h => by rw [World.setCells]; exact below_setCells b hn w0 r (o + 1) _ (h.setCell (p := ⟨b, o, none⟩) hn v)

theorem laidG {w : World} {B o : Nat} (vs : List Value) (hs : ∀ x, o ≤ x → x < o + vs.length → (w.cell? ⟨B, x, none⟩).isSome = true) : LaidG w (w.setCells B o vs) B o vs :=
  ⟨fun j v hv => by
      have hj := (List.getElem?_eq_some_iff.mp hv).1
      rw [World.cell?_setCells_in B vs o w (fun j hj => hs _ (by omega) (by omega)) j hj, ← hv, List.getElem?_eq_getElem hj],
    size_setCells B vs o w, fun k hk => block_setCells B hk vs o w,
    fun b x hx => World.cell?_setCells_out B vs o w _ (fun h1 h2 => by simp only at h1 ⊢; omega),
    fun b x => World.frozen?_setCells B vs o w _, fun n w0 hn hb => below_setCells B hn w0 vs o w hb⟩

theorem LaidG.other {w u : World} {B o : Nat} {vs : List Value} (h : LaidG w u B o vs) {C : Nat} {us : List Value} (hc : VarG w C us) (hne : C ≠ B) : VarG u C us := hc.at_ (h.block C hne)
theorem LaidG.var {w u : World} {B : Nat} {vs us : List Value} (h : LaidG w u B 0 vs) (hc : VarG w B us) : VarG u B vs := ⟨h.cv, fun o => by rw [h.frozen]; exact hc.f o⟩

/-- A part of a variable stored. -/
theorem VarG.laid {w u : World} {B i : Nat} {vs us : List Value} (h : VarG w B vs) (hL : LaidG w u B i us) {ws : List Value} (hw : ws = vs.take i ++ (us ++ vs.drop (i + us.length))) (hi : i + us.length ≤ vs.length) : VarG u B ws := by
  subst hw
  refine ⟨fun j v hv => ?_, fun o => by rw [hL.frozen]; exact h.f o⟩
  have ht : (vs.take i).length = i := by rw [List.length_take]; omega
  rw [Nat.zero_add]
  by_cases h1 : j < i
  · rw [List.getElem?_append_left (by omega), List.getElem?_take, if_pos h1] at hv
    rw [hL.cell _ _ (.inr (.inl h1))]
    have := h.c j v hv
    rwa [Nat.zero_add] at this
  · rw [List.getElem?_append_right (by omega), ht] at hv
    by_cases h2 : j < i + us.length
    · rw [List.getElem?_append_left (by omega)] at hv
      have := hL.cv (j - i) v hv
      rwa [show i + (j - i) = j by omega] at this
    · rw [List.getElem?_append_right (by omega), List.getElem?_drop, show i + us.length + (j - i - us.length) = j by omega] at hv
      rw [hL.cell _ _ (.inr (.inr (by omega)))]
      have := h.c j v hv
      rwa [Nat.zero_add] at this

/-- One cell of a variable stored. -/
theorem VarG.set {w : World} {B : Nat} {vs : List Value} (h : VarG w B vs) (i : Nat) (v : Value) (hi : i < vs.length) : VarG (w.setCell ⟨B, i, none⟩ v) B (vs.set i v) :=
  ⟨fun j x hx => by
      rw [Nat.zero_add]
      by_cases e : i = j
      · subst e
        rw [List.getElem?_set_self hi] at hx
        rw [World.cell?_setCell_same' _ _ _ (h.c.some_ (by omega) (by omega)), hx]
      · rw [List.getElem?_set_ne e] at hx
        rw [cell_set_other _ (.inr (by omega))]
        have := h.c j x hx
        rwa [Nat.zero_add] at this,
    fun o => by rw [World.frozen?_setCell]; exact h.f o⟩

section
variable {P : Program} {ops : Array Oper} {rest : List Oper} {o : Oper} {a : Act} {Q : Exit → Act → World → Prop} {K : Act → World → Prop} {w : World}

theorem wpList_want (hw : Region.wanted o (yielded ops a.tmps) = true) (h : ∀ K : Act → World → Prop, (∀ a w, wpList P ops Q rest a w → K a w) → o.wp P a w K Q) : wpList P ops Q (o :: rest) a w :=
  wpList_step fun K hK => by rw [if_pos hw]; exact h K hK

theorem run_loadVarG {T n : Nat} (hA : ∀ w, (isAgg T).run P w = .ok true w) (hS : ∀ w, (Go.sizeOf T).run P w = .ok n w) {B x : Nat} {vs : List Value} (hn : vs.length = n) (h : CV w B x vs) : (loadVar T ⟨B, x, none⟩).run P w = .ok (.agg vs.toArray) w := by
  have hl := run_loadCells_list (P := P) w ⟨B, x, none⟩ vs (fun j v hv => by rw [gadd]; exact h j v hv)
  rw [hn] at hl
  simp only [loadVar, Sem.run_bind, hA, hS, Result.andThen_ok, if_true, hl, Sem.run_pure]

theorem run_storeVarG {T n : Nat} (hS : ∀ w, (Go.sizeOf T).run P w = .ok n w) {B x : Nat} {vs : List Value} (hn : vs.length = n) (h1 : ∀ v ∈ vs, v.oneCell' = true) (hs : ∀ y, x ≤ y → y < x + vs.length → (w.cell? ⟨B, y, none⟩).isSome = true) (hf : ∀ y, x ≤ y → y < x + vs.length → w.frozen? ⟨B, y, none⟩ = false) :
    (storeVar T ⟨B, x, none⟩ (.agg vs.toArray)).run P w = .ok () (w.setCells B x vs) := by
  have hst := run_storeCells_cells (P := P) B x vs 0 w (fun j hj => hs _ (by omega) (by omega)) (fun j hj => hf _ (by omega) (by omega)) h1
  have e1 : (Value.agg vs.toArray).cells.size = n := by show vs.toArray.size = n; rw [List.size_toArray, hn]
  have e2 : (Value.agg vs.toArray).cells.toList = vs := rfl
  simp only [storeVar, Sem.run_bind, hS, Result.andThen_ok, e1, e2]
  simp only [ne_eq, not_true_eq_false, if_false, hst]
  rfl

theorem run_storeVar1 {T : Nat} (hS : ∀ w, (Go.sizeOf T).run P w = .ok 1 w) {B x : Nat} {v : Value} (hc : v.cells = #[v]) (h1 : v.oneCell' = true) (hs : (w.cell? ⟨B, x, none⟩).isSome = true) (hf : w.frozen? ⟨B, x, none⟩ = false) :
    (storeVar T ⟨B, x, none⟩ v).run P w = .ok () (w.setCells B x [v]) := by
  have hst := run_storeCells_cells (P := P) B x [v] 0 w (fun j hj => by simp at hj; subst hj; exact hs) (fun j hj => by simp at hj; subst hj; exact hf) (fun u hu => by simp at hu; rw [hu]; exact h1)
  have e1 : v.cells.size = 1 := by rw [hc]; rfl
  have e2 : v.cells.toList = [v] := by rw [hc]
  simp only [storeVar, Sem.run_bind, hS, Result.andThen_ok, e1, e2]
  simp only [ne_eq, not_true_eq_false, if_false, hst]
  rfl

theorem wp_store1G {T : Nat} (hS : ∀ w, (Go.sizeOf T).run P w = .ok 1 w) (p v : Operand) (hop : o.op = Op.store T p v) {B x : Nat} {z : Value} (hp : a.eval p = .pointer (some ⟨B, x, none⟩)) (hv : a.eval v = z) (hc : z.cells = #[z]) (h1 : z.oneCell' = true)
    (hs : (w.cell? ⟨B, x, none⟩).isSome = true) (hf : w.frozen? ⟨B, x, none⟩ = false)
    (hK : ∀ u1, LaidG w u1 B x [z] → K (a.put o.dst undef) u1) : o.wp P a w K Q := by
  unfold Oper.wp
  simp only [execOp, hop, hp, hv, Instr.storeAt, Instr.sureAddr, Sem.run_bind, Sem.run_pure, Result.andThen_ok, run_storeVar1 hS hc h1 hs hf]
  exact hK _ (laidG [z] fun y h2 h3 => by
    have : y = x := by simp at h3; omega
    rw [this]; exact hs)

theorem wp_loadG {T n : Nat} (hA : ∀ w, (isAgg T).run P w = .ok true w) (hS : ∀ w, (Go.sizeOf T).run P w = .ok n w) (p : Operand) (hop : o.op = Op.load T p) {B x : Nat} {vs : List Value} (hp : a.eval p = .pointer (some ⟨B, x, none⟩)) (hn : vs.length = n) (hb : CV w B x vs)
    (hK : K (a.put o.dst (.agg vs.toArray)) w) : o.wp P a w K Q := by
  unfold Oper.wp
  simp only [execOp, hop, hp, Instr.loadAt, Instr.sureAddr, Sem.run_bind, Sem.run_pure, Result.andThen_ok, run_loadVarG hA hS hn hb]
  exact hK

theorem wp_storeG {T n : Nat} (hS : ∀ w, (Go.sizeOf T).run P w = .ok n w) (p v : Operand) (hop : o.op = Op.store T p v) {B x : Nat} {vs : List Value} (hp : a.eval p = .pointer (some ⟨B, x, none⟩)) (hv : a.eval v = .agg vs.toArray) (hn : vs.length = n) (h1 : ∀ v ∈ vs, v.oneCell' = true)
    (hs : ∀ y, x ≤ y → y < x + vs.length → (w.cell? ⟨B, y, none⟩).isSome = true) (hf : ∀ y, x ≤ y → y < x + vs.length → w.frozen? ⟨B, y, none⟩ = false)
    (hK : ∀ u1, LaidG w u1 B x vs → K (a.put o.dst undef) u1) : o.wp P a w K Q := by
  unfold Oper.wp
  simp only [execOp, hop, hp, hv, Instr.storeAt, Instr.sureAddr, Sem.run_bind, Sem.run_pure, Result.andThen_ok, run_storeVarG hS hn h1 hs hf]
  exact hK _ (laidG vs hs)

theorem wp_boxG {T : Nat} (x : Operand) (hop : o.op = Op.box T x) {vs : List Value} (hx : a.eval x = .agg vs.toArray)
    (hK : ∀ u1, Below w.heap.size w u1 → VarG u1 w.heap.size vs → u1.heap.size = w.heap.size + 1 → K (a.put o.dst (.pointer (some ⟨w.heap.size, 0, none⟩))) u1) : o.wp P a w K Q := by
  have h := hK (w.alloc (.cells vs.toArray T)) ((Below.refl _ _).alloc (Nat.le_refl _) _) (varG_new w vs T) (by simp)
  have e : (Value.agg vs.toArray).cells = vs.toArray := rfl
  unfold Oper.wp
  simp only [execOp, hop, hx, Instr.box, newVar, e]
  simp [newRow, Result.andThen]
  exact h

theorem wp_allocG {T : Nat} {zs : List Value} (hZ : ∀ w, (zeroValue T).run P w = .ok (.agg zs.toArray) w) (hop : o.op = Op.alloc T)
    (hK : ∀ u1, Below w.heap.size w u1 → VarG u1 w.heap.size zs → u1.heap.size = w.heap.size + 1 → K (a.put o.dst (.pointer (some ⟨w.heap.size, 0, none⟩))) u1) : o.wp P a w K Q := by
  have h := hK (w.alloc (.cells zs.toArray T)) ((Below.refl _ _).alloc (Nat.le_refl _) _) (varG_new w zs T) (by simp)
  have e : (Value.agg zs.toArray).cells = zs.toArray := rfl
  unfold Oper.wp
  simp only [execOp, hop]
  simp [Instr.alloc, hZ, newVar, newRow, go_sem, e]
  exact h

/-- Two whole elements held against each other. -/
theorem wp_binG {op : BinOp} {T T2 : TypeId} (p q : Operand) (hop : o.op = Op.binOp op T p q T2) {x y v : Value} (hp : a.eval p = x) (hq : a.eval q = y) (hg : (eqGuard op T p q x y).run P w = .ok () w) (hn : (binOp op T x y).run P w = .ok v w)
    (hK : K (a.put o.dst v) w) : o.wp P a w K Q := by
  unfold Oper.wp
  simp only [execOp, hop, hp, hq, Sem.run_bind, hg, hn, Result.andThen_ok, Sem.run_pure]
  exact hK

theorem wpList_binG {op : BinOp} {T T2 : TypeId} (p q : Operand) (hop : o.op = Op.binOp op T p q T2) (hw : Region.wanted o (yielded ops a.tmps) = true) {x y v : Value} (hp : a.eval p = x) (hq : a.eval q = y) (hG : (eqGuard op T p q x y).run P w = .ok () w) (hn : (binOp op T x y).run P w = .ok v w)
    (hK : wpList P ops Q rest (a.put o.dst v) w) : wpList P ops Q (o :: rest) a w :=
  wpList_want hw fun K hK' => wp_binG p q hop hp hq hG hn (hK' _ _ hK)

theorem wantedG {y : Nat → Option Bool} {p q : Prop} (hg : o.guard = none) (h : p) : if Region.wanted o y = true then p else q := by
  rw [if_pos (by simp [Region.wanted, hg])]; exact h

theorem wpList_loadG {T n : Nat} (hA : ∀ w, (isAgg T).run P w = .ok true w) (hS : ∀ w, (Go.sizeOf T).run P w = .ok n w) (p : Operand) (hop : o.op = Op.load T p) (hw : Region.wanted o (yielded ops a.tmps) = true) {B x : Nat} {vs : List Value} (hp : a.eval p = .pointer (some ⟨B, x, none⟩)) (hn : vs.length = n) (hb : CV w B x vs)
    (hK : wpList P ops Q rest (a.put o.dst (.agg vs.toArray)) w) : wpList P ops Q (o :: rest) a w :=
  wpList_want hw fun K hK' => wp_loadG hA hS p hop hp hn hb (hK' _ _ hK)

theorem wpList_storeG {T n : Nat} (hS : ∀ w, (Go.sizeOf T).run P w = .ok n w) (p v : Operand) (hop : o.op = Op.store T p v) (hw : Region.wanted o (yielded ops a.tmps) = true) {B x : Nat} {vs : List Value} (hp : a.eval p = .pointer (some ⟨B, x, none⟩)) (hv : a.eval v = .agg vs.toArray) (hn : vs.length = n) (h1 : ∀ v ∈ vs, v.oneCell' = true)
    (hs : ∀ y, x ≤ y → y < x + vs.length → (w.cell? ⟨B, y, none⟩).isSome = true) (hf : ∀ y, x ≤ y → y < x + vs.length → w.frozen? ⟨B, y, none⟩ = false)
    (hK : Hid (∀ u1, LaidG w u1 B x vs → wpList P ops Q rest (a.put o.dst undef) u1)) : wpList P ops Q (o :: rest) a w :=
  wpList_want hw fun K hK' => wp_storeG hS p v hop hp hv hn h1 hs hf fun u1 h1 => hK' _ _ (hK.out u1 h1)

theorem wpList_store1G {T : Nat} (hS : ∀ w, (Go.sizeOf T).run P w = .ok 1 w) (p v : Operand) (hop : o.op = Op.store T p v) (hw : Region.wanted o (yielded ops a.tmps) = true) {B x : Nat} {z : Value} (hp : a.eval p = .pointer (some ⟨B, x, none⟩)) (hv : a.eval v = z) (hc : z.cells = #[z]) (h1 : z.oneCell' = true)
    (hs : (w.cell? ⟨B, x, none⟩).isSome = true) (hf : w.frozen? ⟨B, x, none⟩ = false)
    (hK : Hid (∀ u1, LaidG w u1 B x [z] → wpList P ops Q rest (a.put o.dst undef) u1)) : wpList P ops Q (o :: rest) a w :=
  wpList_want hw fun K hK' => wp_store1G hS p v hop hp hv hc h1 hs hf fun u1 h1 => hK' _ _ (hK.out u1 h1)

theorem wpList_boxG {T : Nat} (hg : o.guard = none) (x : Operand) (hop : o.op = Op.box T x) {vs : List Value} (hx : a.eval x = .agg vs.toArray)
    (hK : Hid (∀ u1, Below w.heap.size w u1 → VarG u1 w.heap.size vs → u1.heap.size = w.heap.size + 1 → wpList P ops Q rest (a.put o.dst (.pointer (some ⟨w.heap.size, 0, none⟩))) u1)) : wpList P ops Q (o :: rest) a w :=
  wpList_plain hg fun K hK' => wp_boxG x hop hx fun u1 h1 h2 h3 => hK' _ _ (hK.out u1 h1 h2 h3)

theorem wpList_allocG {T : Nat} {zs : List Value} (hZ : ∀ w, (zeroValue T).run P w = .ok (.agg zs.toArray) w) (hg : o.guard = none) (hop : o.op = Op.alloc T)
    (hK : Hid (∀ u1, Below w.heap.size w u1 → VarG u1 w.heap.size zs → u1.heap.size = w.heap.size + 1 → wpList P ops Q rest (a.put o.dst (.pointer (some ⟨w.heap.size, 0, none⟩))) u1)) : wpList P ops Q (o :: rest) a w :=
  wpList_plain hg fun K hK' => wp_allocG hZ hop fun u1 h1 h2 h3 => hK' _ _ (hK.out u1 h1 h2 h3)
end

/-! Lists. -/

/-- A kind of element: its cells. -/
structure Elem (α : Type) where
  cells : α → List Value
  k : Nat
  pos : 0 < k
  len : ∀ x, (cells x).length = k
  one : ∀ x, ∀ v ∈ cells x, v.oneCell' = true

section
variable {α : Type} {E : Elem α}

/-- A list that can be read, in the blocks from lo to hi. -/
def GR (E : Elem α) (w : World) (lo hi : Nat) (v : Value) (xs : List α) : Prop :=
  ∃ ad cap, v = .slice ad xs.length cap ∧ xs.length ≤ cap ∧ cap ≤ maxLen ∧
    (xs = [] ∨ ∃ b off, ad = some ⟨b, off, none⟩ ∧ lo ≤ b ∧ b < hi ∧ ∀ (i : Nat) (x : α), xs[i]? = some x → CV w b (off + i * E.k) (E.cells x))

/-- A list that is owned: its cells may be written. -/
def GO (E : Elem α) (w : World) (lo hi : Nat) (v : Value) (xs : List α) : Prop :=
  xs = [] ∧ (∃ ad cap, v = .slice ad 0 cap ∧ cap ≤ maxLen) ∨
  ∃ b off cap, v = .slice (some ⟨b, off, none⟩) xs.length cap ∧ xs.length ≤ cap ∧ cap ≤ maxLen ∧ lo ≤ b ∧ b < hi ∧ (∀ (i : Nat) (x : α), xs[i]? = some x → CV w b (off + i * E.k) (E.cells x)) ∧ ∀ o, w.frozen? ⟨b, off + o, none⟩ = false

theorem GR.shape {w : World} {lo hi : Nat} {v : Value} {xs : List α} (h : GR E w lo hi v xs) : ∃ ad cap, v = .slice ad xs.length cap ∧ xs.length ≤ cap ∧ cap ≤ maxLen := by
  obtain ⟨ad, cap, hv, h1, h2, _⟩ := h; exact ⟨ad, cap, hv, h1, h2⟩

theorem GR.at_ {w : World} {lo hi : Nat} {v : Value} {xs : List α} (h : GR E w lo hi v xs) {i : Nat} {x : α} (hi' : xs[i]? = some x) :
    ∃ b off cap, v = .slice (some ⟨b, off, none⟩) xs.length cap ∧ lo ≤ b ∧ b < hi ∧ CV w b (off + i * E.k) (E.cells x) := by
  obtain ⟨ad, cap, hv, h1, h2, h3⟩ := h
  rcases h3 with rfl | ⟨b, off, rfl, h3, h4, hc⟩
  · simp at hi'
  · exact ⟨b, off, cap, hv, h3, h4, hc i x hi'⟩

theorem GR.kept {w w' : World} {lo hi : Nat} {v : Value} {xs : List α} (h : GR E w lo hi v xs) (hk : ∀ k, lo ≤ k → k < hi → w'.heap[k]? = w.heap[k]?) : GR E w' lo hi v xs := by
  obtain ⟨ad, cap, hv, h1, h2, h3⟩ := h
  refine ⟨ad, cap, hv, h1, h2, h3.imp id ?_⟩
  rintro ⟨b, off, ha, h3, h4, hc⟩
  exact ⟨b, off, ha, h3, h4, fun i x hx => (hc i x hx).kept (hk b h3 h4)⟩

theorem GR.under {w w' : World} {lo hi n : Nat} {v : Value} {xs : List α} (h : GR E w lo hi v xs) (hb : Below n w w') (hn : hi ≤ n) : GR E w' lo hi v xs :=
  h.kept fun k _ hk => hb.block k (by omega)

theorem GR.wide {w : World} {lo hi lo' hi' : Nat} {v : Value} {xs : List α} (h : GR E w lo hi v xs) (hl : lo' ≤ lo) (hh : hi ≤ hi') : GR E w lo' hi' v xs := by
  obtain ⟨ad, cap, hv, h1, h2, h3⟩ := h
  refine ⟨ad, cap, hv, h1, h2, h3.imp id ?_⟩
  rintro ⟨b, off, ha, h3, h4, hc⟩
  exact ⟨b, off, ha, by omega, by omega, hc⟩

theorem GO.gr {w : World} {lo hi : Nat} {v : Value} {xs : List α} (h : GO E w lo hi v xs) : GR E w lo hi v xs := by
  rcases h with ⟨rfl, ad, cap, rfl, hm⟩ | ⟨b, off, cap, hv, h1, h2, h3, h4, h5, _⟩
  · exact ⟨ad, cap, rfl, Nat.zero_le _, hm, .inl rfl⟩
  · exact ⟨_, cap, hv, h1, h2, .inr ⟨b, off, rfl, h3, h4, h5⟩⟩

theorem GO.kept {w w' : World} {lo hi : Nat} {v : Value} {xs : List α} (h : GO E w lo hi v xs) (hk : ∀ k, lo ≤ k → k < hi → w'.heap[k]? = w.heap[k]?) : GO E w' lo hi v xs := by
  rcases h with h | ⟨b, off, cap, hv, h1, h2, h3, h4, h5, h6⟩
  · exact .inl h
  · exact .inr ⟨b, off, cap, hv, h1, h2, h3, h4, fun i x hx => (h5 i x hx).kept (hk b h3 h4), fun o => by rw [World.frozen?_of_block (w := w) (hk b h3 h4)]; exact h6 o⟩

theorem GO.under {w w' : World} {lo hi n : Nat} {v : Value} {xs : List α} (h : GO E w lo hi v xs) (hb : Below n w w') (hn : hi ≤ n) : GO E w' lo hi v xs :=
  h.kept fun k _ hk => hb.block k (by omega)

theorem GO.wide {w : World} {lo hi lo' hi' : Nat} {v : Value} {xs : List α} (h : GO E w lo hi v xs) (hl : lo' ≤ lo) (hh : hi ≤ hi') : GO E w lo' hi' v xs := by
  rcases h with h | ⟨b, off, cap, hv, h1, h2, h3, h4, h5, h6⟩
  · exact .inl h
  · exact .inr ⟨b, off, cap, hv, h1, h2, by omega, by omega, h5, h6⟩

/-- What holds as a copy has put j of the elements into the block g, whose cells are there. -/
structure ToG (E : Elem α) (w : World) (g : Nat) (xs : List α) (j : Nat) (wr : World) : Prop where
  below : Below g w wr
  size : g < wr.heap.size
  some_ : ∀ x, x < xs.length * E.k → (wr.cell? ⟨g, x, none⟩).isSome = true
  frozen : ∀ x, wr.frozen? ⟨g, x, none⟩ = false
  done : ∀ (i : Nat) (p : α), i < j → xs[i]? = some p → CV wr g (i * E.k) (E.cells p)

theorem toG_start {w w1 : World} {T : TypeId} {xs : List α} {z : List Value} (hown : w1.ownsRow w.heap.size T E.k (.slice (some ⟨w.heap.size, 0, none⟩) xs.length xs.length) xs.length z) (hgrow : w.grownBy w1 none) : ToG E w w.heap.size xs 0 w1 := by
  refine ⟨(Below.refl _ _).grown hgrow (Nat.le_refl _) (fun k h => by cases h), hown.2.elim (fun h => by simp at h) fun ⟨g, cap, cur, hv, hg, hh, _⟩ => ?_, fun x hx => ?_, fun x => hown.frozenAt x, fun i p hi => by omega⟩
  · simp only [Value.slice.injEq, Option.some.injEq, Addr.mk.injEq, and_true, true_and] at hv
    obtain ⟨rfl, _⟩ := hv
    exact (Array.getElem?_eq_some_iff.mp hh).1
  · rw [hown.cellAt x hx]
    have hl := hown.1
    rw [List.getElem?_eq_getElem (by omega)]
    rfl

theorem ToG.next {w wr w1 u : World} {g : Nat} {xs : List α} {j : Nat} {p : α} (h : ToG E w g xs j wr) (he : xs[j]? = some p) (hb : Below wr.heap.size wr w1) (hL : LaidG w1 u g (j * E.k) (E.cells p)) : ToG E w g xs (j + 1) u := by
  obtain ⟨hb0, hs, hsm, hfr, h1⟩ := h
  have hs1 := hb.size
  have hz := hL.size
  have hle := E.len p
  have hcell : ∀ x, w1.cell? ⟨g, x, none⟩ = wr.cell? ⟨g, x, none⟩ := fun x => hb.cell (p := ⟨g, x, none⟩) hs
  refine ⟨hL.below _ _ (Nat.le_refl _) (hb0.trans (hb.mono (by omega))), by omega, fun q hq => ?_, fun q => ?_, fun i e' hi hie => ?_⟩
  · by_cases hin : j * E.k ≤ q ∧ q < j * E.k + E.k
    · exact hL.cv.some_ hin.1 (by omega)
    · rw [hL.cell _ _ (by omega), hcell]; exact hsm q hq
  · rw [hL.frozen, hb.frozen (p := ⟨g, q, none⟩) hs]; exact hfr q
  · by_cases ej : i = j
    · subst ej
      rw [he] at hie
      cases hie
      exact hL.cv
    · have hc := h1 i e' (by omega) hie
      intro q v hq
      have hql : q < E.k := by have := (List.getElem?_eq_some_iff.mp hq).1; rwa [E.len] at this
      have hij : i * E.k + E.k ≤ j * E.k := by rw [← Nat.succ_mul]; exact Nat.mul_le_mul_right _ (by omega)
      rw [hL.cell _ _ (by omega), hcell]
      exact hc q v hq

theorem ToG.go {w wr : World} {g : Nat} {xs : List α} (h : ToG E w g xs xs.length wr) (hm : xs.length ≤ maxLen) : GO E wr g wr.heap.size (.slice (some ⟨g, 0, none⟩) xs.length xs.length) xs :=
  .inr ⟨_, 0, _, rfl, Nat.le_refl _, hm, Nat.le_refl _, h.size, fun i p hp => by rw [Nat.zero_add]; exact h.done i p (List.getElem?_eq_some_iff.mp hp).1 hp, fun o => by rw [Nat.zero_add]; exact h.frozen o⟩

/-- What a store of the j-th asks. -/
theorem ToG.stores {w wr w2 : World} {g : Nat} {xs : List α} {j : Nat} (h : ToG E w g xs j wr) (hb : Below wr.heap.size wr w2) (hj : j < xs.length) (p : α) : (∀ y, j * E.k ≤ y → y < j * E.k + (E.cells p).length → (w2.cell? ⟨g, y, none⟩).isSome = true) ∧ ∀ y, j * E.k ≤ y → y < j * E.k + (E.cells p).length → w2.frozen? ⟨g, y, none⟩ = false := by
  have hl := E.len p
  have hle : j * E.k + E.k ≤ xs.length * E.k := by rw [← Nat.succ_mul]; exact Nat.mul_le_mul_right _ hj
  exact ⟨fun y h1 h2 => by rw [hb.cell (p := ⟨g, y, none⟩) h.size]; exact h.some_ y (by omega), fun y h1 h2 => by rw [hb.frozen (p := ⟨g, y, none⟩) h.size]; exact h.frozen y⟩

theorem take_succG {xs ys : List α} {k : Nat} {x y : α} (h : xs.take k = ys.take k) (hx : xs[k]? = some x) (hy : ys[k]? = some y) (e : x = y) : xs.take (k + 1) = ys.take (k + 1) := by
  rw [List.take_add_one, List.take_add_one, h, hx, hy, e]
theorem ne_atG {xs ys : List α} {k : Nat} {x y : α} (hx : xs[k]? = some x) (hy : ys[k]? = some y) (e : x ≠ y) : xs ≠ ys := by
  intro h; rw [h, hy] at hx; exact e (Option.some.inj hx).symm

theorem list_ofG {P : Nat → α → Prop} : ∀ (len : Nat), (∀ i, i < len → ∃ e, P i e) → ∃ (es : List α), es.length = len ∧ ∀ i e, es[i]? = some e → P i e
  | 0, _ => ⟨[], rfl, fun i e h => by simp at h⟩
  | len + 1, h => by
    obtain ⟨es, hl, hp⟩ := list_ofG len fun i hi => h i (by omega)
    obtain ⟨e, hes⟩ := h len (by omega)
    refine ⟨es ++ [e], by simp [hl], fun i e' he => ?_⟩
    by_cases hi : i = len
    · subst hi
      rw [List.getElem?_append_right (by omega), hl] at he
      simp at he
      subst he
      exact hes
    · have hil : i < len := by
        have := (List.getElem?_eq_some_iff.mp he).1
        simp [hl] at this
        omega
      rw [List.getElem?_append_left (by omega)] at he
      exact hp i e' he
end
end Go.Proofs.Ytkeockippmmneaa
