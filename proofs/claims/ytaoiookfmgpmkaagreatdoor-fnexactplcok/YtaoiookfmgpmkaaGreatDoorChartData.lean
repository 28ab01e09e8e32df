/-
  Charts as data: ways, acts, charts; how they lie in memory (TR: ways that can be read; TO: ways that are owned); what is ok.
-/
import Derived.Test.YtaoiookfmgpmkaaGreatDoorGenKit
import Derived.Test.YtaoiookfmgpmkaaGreatDoorInts
import Derived.Test.YtaoiookfmgpmkaaGreatDoorExprData
import Derived.Test.YtaoiookfmgpmkaaGreatDoorAddrKit
namespace Go.Proofs.YtaoiookfmgpmkaaGreatDoor
open Go.ChangeShapes Go.WideShapes Go.ChangeAt Go.RowKit
set_option linter.unusedVariables false

/-- A way. -/
structure TransD where
  fr : List Int
  to : List Int
  e : ExprD

/-- An act. -/
structure ActD where
  kind : Int
  step : Int
  tk : Int
  ta : Int
deriving DecidableEq

structure ChartD where
  steps : Int
  ts : List TransD
  acts : List ActD

def actC (a : ActD) : List Value := [.int .i64 a.kind, .int .i64 a.step, .int .i64 a.tk, .int .i64 a.ta]
theorem actC_one (a : ActD) : ∀ v ∈ actC a, v.oneCell' = true := by
  intro v hv; simp only [actC, List.mem_cons, List.not_mem_nil, or_false] at hv
  rcases hv with rfl | rfl | rfl | rfl <;> rfl
def actE : Elem ActD := ⟨actC, 4, by decide, fun _ => rfl, actC_one⟩

/-- The cells of what is reckoned, of a way. -/
def exprC (e : ExprD) (s : Value) : List Value := [.int .i64 e.k, .int .i64 e.n, .int .i64 e.ak, .int .i64 e.at_, s]
def transC (x y : Value) (e : ExprD) (s : Value) : List Value := [x, y, .int .i64 e.k, .int .i64 e.n, .int .i64 e.ak, .int .i64 e.at_, s]
theorem exprC_one (e : ExprD) {s : Value} (hs : s.oneCell' = true) : ∀ v ∈ exprC e s, v.oneCell' = true := by
  intro v hv; simp only [exprC, List.mem_cons, List.not_mem_nil, or_false] at hv
  rcases hv with rfl | rfl | rfl | rfl | rfl <;> first | rfl | exact hs
theorem transC_one (e : ExprD) {x y s : Value} (hx : x.oneCell' = true) (hy : y.oneCell' = true) (hs : s.oneCell' = true) : ∀ v ∈ transC x y e s, v.oneCell' = true := by
  intro v hv; simp only [transC, List.mem_cons, List.not_mem_nil, or_false] at hv
  rcases hv with rfl | rfl | rfl | rfl | rfl | rfl | rfl <;> first | rfl | exact hx | exact hy | exact hs

/-- The cells of a way, and what lies behind its lists. -/
structure WayR (w : World) (lo hi : Nat) (x y s : Value) (t : TransD) : Prop where
  fr : SI w lo hi x t.fr
  to : SI w lo hi y t.to
  e : KR w lo hi s t.e.kids

theorem WayR.kept {w w' : World} {lo hi : Nat} {x y s : Value} {t : TransD} (h : WayR w lo hi x y s t) (hk : ∀ k, lo ≤ k → k < hi → w'.heap[k]? = w.heap[k]?) : WayR w' lo hi x y s t := ⟨h.fr.kept hk, h.to.kept hk, h.e.kept hk⟩
theorem WayR.under {w w' : World} {lo hi n : Nat} {x y s : Value} {t : TransD} (h : WayR w lo hi x y s t) (hb : Below n w w') (hn : hi ≤ n) : WayR w' lo hi x y s t := h.kept fun k _ hk => hb.block k (by omega)
theorem WayR.wide {w : World} {lo hi lo' hi' : Nat} {x y s : Value} {t : TransD} (h : WayR w lo hi x y s t) (hl : lo' ≤ lo) (hh : hi ≤ hi') : WayR w lo' hi' x y s t := ⟨h.fr.wide hl hh, h.to.wide hl hh, h.e.wide hl hh⟩
theorem WayR.shape {w : World} {lo hi : Nat} {x y s : Value} {t : TransD} (h : WayR w lo hi x y s t) : ∃ ax cx ay cy az cz, x = .slice ax t.fr.length cx ∧ y = .slice ay t.to.length cy ∧ s = .slice az t.e.kids.length cz := by
  obtain ⟨a, c, rfl, _⟩ := h.fr
  obtain ⟨a', c', rfl, _⟩ := h.to
  obtain ⟨a'', c'', rfl, _⟩ := h.e.shape
  exact ⟨_, _, _, _, _, _, rfl, rfl, rfl⟩

/-- A list of ways that can be read. -/
def TR (w : World) (lo hi : Nat) (v : Value) (ts : List TransD) : Prop :=
  ∃ ad cap, v = .slice ad ts.length cap ∧ ts.length ≤ cap ∧ cap ≤ maxLen ∧
    (ts = [] ∨ ∃ b off, ∃ xs ys ss : Nat → Value, ad = some ⟨b, off, none⟩ ∧ lo ≤ b ∧ b < hi ∧ ∀ (i : Nat) (t : TransD), ts[i]? = some t → CV w b (off + i * 7) (transC (xs i) (ys i) t.e (ss i)) ∧ WayR w lo hi (xs i) (ys i) (ss i) t)

theorem TR.shape {w : World} {lo hi : Nat} {v : Value} {ts : List TransD} (h : TR w lo hi v ts) : ∃ ad cap, v = .slice ad ts.length cap ∧ ts.length ≤ cap ∧ cap ≤ maxLen := by
  obtain ⟨ad, cap, hv, h1, h2, _⟩ := h; exact ⟨ad, cap, hv, h1, h2⟩

theorem TR.at_ {w : World} {lo hi : Nat} {v : Value} {ts : List TransD} (h : TR w lo hi v ts) {i : Nat} {t : TransD} (hi' : ts[i]? = some t) :
    ∃ b off cap x y s, v = .slice (some ⟨b, off, none⟩) ts.length cap ∧ lo ≤ b ∧ b < hi ∧ CV w b (off + i * 7) (transC x y t.e s) ∧ WayR w lo hi x y s t := by
  obtain ⟨ad, cap, hv, h1, h2, h3⟩ := h
  rcases h3 with rfl | ⟨b, off, xs, ys, ss, rfl, h3, h4, hc⟩
  · simp at hi'
  · exact ⟨b, off, cap, _, _, _, hv, h3, h4, (hc i t hi').1, (hc i t hi').2⟩

theorem TR.kept {w w' : World} {lo hi : Nat} {v : Value} {ts : List TransD} (h : TR w lo hi v ts) (hk : ∀ k, lo ≤ k → k < hi → w'.heap[k]? = w.heap[k]?) : TR w' lo hi v ts := by
  obtain ⟨ad, cap, hv, h1, h2, h3⟩ := h
  refine ⟨ad, cap, hv, h1, h2, h3.imp id ?_⟩
  rintro ⟨b, off, xs, ys, ss, ha, h3, h4, hc⟩
  exact ⟨b, off, xs, ys, ss, ha, h3, h4, fun i t ht => ⟨(hc i t ht).1.kept (hk b h3 h4), (hc i t ht).2.kept hk⟩⟩
theorem TR.under {w w' : World} {lo hi n : Nat} {v : Value} {ts : List TransD} (h : TR w lo hi v ts) (hb : Below n w w') (hn : hi ≤ n) : TR w' lo hi v ts := h.kept fun k _ hk => hb.block k (by omega)
theorem TR.wide {w : World} {lo hi lo' hi' : Nat} {v : Value} {ts : List TransD} (h : TR w lo hi v ts) (hl : lo' ≤ lo) (hh : hi ≤ hi') : TR w lo' hi' v ts := by
  obtain ⟨ad, cap, hv, h1, h2, h3⟩ := h
  refine ⟨ad, cap, hv, h1, h2, h3.imp id ?_⟩
  rintro ⟨b, off, xs, ys, ss, ha, h3, h4, hc⟩
  exact ⟨b, off, xs, ys, ss, ha, by omega, by omega, fun i t ht => ⟨(hc i t ht).1, (hc i t ht).2.wide hl hh⟩⟩

/-- A way that is owned: its lists lie one behind another, in l to m, m to n, n to h. -/
structure WayO (w : World) (l m n h : Nat) (x y s : Value) (t : TransD) : Prop where
  fr : OI w l m x t.fr
  to : OI w m n y t.to
  e : KO w n h s t.e.kids
  le : l ≤ m ∧ m ≤ n ∧ n ≤ h

theorem WayO.r {w : World} {l m n h : Nat} {x y s : Value} {t : TransD} (o : WayO w l m n h x y s t) : WayR w l h x y s t :=
  ⟨o.fr.si.wide (by have := o.le; omega) (by have := o.le; omega), o.to.si.wide (by have := o.le; omega) (by have := o.le; omega), o.e.kr.wide (by have := o.le; omega) (by have := o.le; omega)⟩
theorem WayO.kept {w w' : World} {l m n h : Nat} {x y s : Value} {t : TransD} (o : WayO w l m n h x y s t) (hk : ∀ k, l ≤ k → k < h → w'.heap[k]? = w.heap[k]?) : WayO w' l m n h x y s t := by
  have := o.le
  exact ⟨o.fr.kept fun k h1 h2 => hk k (by omega) (by omega), o.to.kept fun k h1 h2 => hk k (by omega) (by omega), o.e.kept fun k h1 h2 => hk k (by omega) (by omega), o.le⟩

/-- Ways that are owned: the block of the ways ahead of all that lies behind them, which lies in order. -/
structure TOs (w : World) (hi b off : Nat) (ts : List TransD) (xs ys ss : Nat → Value) (l m n h : Nat → Nat) : Prop where
  way : ∀ (i : Nat) (t : TransD), ts[i]? = some t → CV w b (off + i * 7) (transC (xs i) (ys i) t.e (ss i)) ∧ WayO w (l i) (m i) (n i) (h i) (xs i) (ys i) (ss i) t
  in_ : ∀ i, i < ts.length → b < l i ∧ h i ≤ hi
  ord : ∀ i j, i < j → j < ts.length → h i ≤ l j
  fz : ∀ o, w.frozen? ⟨b, off + o, none⟩ = false

def TO (w : World) (lo hi : Nat) (v : Value) (ts : List TransD) : Prop :=
  ts = [] ∧ (∃ ad cap, v = .slice ad 0 cap ∧ cap ≤ maxLen) ∨
  ∃ b off cap xs ys ss l m n h, v = .slice (some ⟨b, off, none⟩) ts.length cap ∧ ts.length ≤ cap ∧ cap ≤ maxLen ∧ lo ≤ b ∧ b < hi ∧ TOs w hi b off ts xs ys ss l m n h

theorem TOs.kept {w w' : World} {hi b off : Nat} {ts : List TransD} {xs ys ss : Nat → Value} {l m n h : Nat → Nat} (o : TOs w hi b off ts xs ys ss l m n h) (hb : b < hi) (hk : ∀ k, b ≤ k → k < hi → w'.heap[k]? = w.heap[k]?) : TOs w' hi b off ts xs ys ss l m n h := by
  refine ⟨fun i t ht => ⟨(o.way i t ht).1.kept (hk b (Nat.le_refl _) hb), (o.way i t ht).2.kept fun k h1 h2 => ?_⟩, o.in_, o.ord, fun q => by rw [World.frozen?_of_block (w := w) (hk b (Nat.le_refl _) hb)]; exact o.fz q⟩
  have hi' := o.in_ i (List.getElem?_eq_some_iff.mp ht).1
  exact hk k (by omega) (by omega)

theorem TO.tr {w : World} {lo hi : Nat} {v : Value} {ts : List TransD} (h : TO w lo hi v ts) : TR w lo hi v ts := by
  rcases h with ⟨rfl, ad, cap, rfl, hm⟩ | ⟨b, off, cap, xs, ys, ss, l, m, n, h, hv, h1, h2, h3, h4, o⟩
  · exact ⟨ad, cap, rfl, Nat.zero_le _, hm, .inl rfl⟩
  · refine ⟨_, cap, hv, h1, h2, .inr ⟨b, off, xs, ys, ss, rfl, h3, h4, fun i t ht => ⟨(o.way i t ht).1, (o.way i t ht).2.r.wide ?_ ?_⟩⟩⟩
    · have := o.in_ i (List.getElem?_eq_some_iff.mp ht).1; omega
    · have := o.in_ i (List.getElem?_eq_some_iff.mp ht).1; omega

theorem TO.kept {w w' : World} {lo hi : Nat} {v : Value} {ts : List TransD} (h : TO w lo hi v ts) (hk : ∀ k, lo ≤ k → k < hi → w'.heap[k]? = w.heap[k]?) : TO w' lo hi v ts := by
  rcases h with h | ⟨b, off, cap, xs, ys, ss, l, m, n, h, hv, h1, h2, h3, h4, o⟩
  · exact .inl h
  · exact .inr ⟨b, off, cap, xs, ys, ss, l, m, n, h, hv, h1, h2, h3, h4, o.kept h4 fun k q1 q2 => hk k (by omega) q2⟩
theorem TO.under {w w' : World} {lo hi n : Nat} {v : Value} {ts : List TransD} (h : TO w lo hi v ts) (hb : Below n w w') (hn : hi ≤ n) : TO w' lo hi v ts := h.kept fun k _ hk => hb.block k (by omega)
theorem TOs.wide {w : World} {hi hi' b off : Nat} {ts : List TransD} {xs ys ss : Nat → Value} {l m n h : Nat → Nat} (o : TOs w hi b off ts xs ys ss l m n h) (hh : hi ≤ hi') : TOs w hi' b off ts xs ys ss l m n h :=
  ⟨o.way, fun i h1 => ⟨(o.in_ i h1).1, Nat.le_trans (o.in_ i h1).2 hh⟩, o.ord, o.fz⟩
theorem TO.wide {w : World} {lo hi lo' hi' : Nat} {v : Value} {ts : List TransD} (h : TO w lo hi v ts) (hl : lo' ≤ lo) (hh : hi ≤ hi') : TO w lo' hi' v ts := by
  rcases h with h | ⟨b, off, cap, xs, ys, ss, l, m, n, h, hv, h1, h2, h3, h4, o⟩
  · exact .inl h
  · exact .inr ⟨b, off, cap, xs, ys, ss, l, m, n, h, hv, h1, h2, by omega, by omega, o.wide hh⟩

/-- A chart that can be read. -/
def HIc (w : World) (lo hi : Nat) (v : Value) (c : ChartD) : Prop := ∃ a b, v = .agg #[.int .i64 c.steps, a, b] ∧ TR w lo hi a c.ts ∧ GR actE w lo hi b c.acts
/-- A chart that is owned. -/
def HOc (w : World) (lo hi : Nat) (v : Value) (c : ChartD) : Prop := ∃ a b mid, v = .agg #[.int .i64 c.steps, a, b] ∧ TO w lo mid a c.ts ∧ GO actE w mid hi b c.acts ∧ lo ≤ mid ∧ mid ≤ hi

theorem HIc.kept {w w' : World} {lo hi : Nat} {v : Value} {c : ChartD} (h : HIc w lo hi v c) (hk : ∀ k, lo ≤ k → k < hi → w'.heap[k]? = w.heap[k]?) : HIc w' lo hi v c := by
  obtain ⟨a, b, hv, h1, h2⟩ := h; exact ⟨a, b, hv, h1.kept hk, h2.kept hk⟩
theorem HIc.under {w w' : World} {lo hi n : Nat} {v : Value} {c : ChartD} (h : HIc w lo hi v c) (hb : Below n w w') (hn : hi ≤ n) : HIc w' lo hi v c := h.kept fun k _ hk => hb.block k (by omega)
theorem HIc.below {w w' : World} {lo hi n : Nat} {v : Value} {c : ChartD} (h : HIc w lo hi v c) (hb : Below n w w') (hn : hi ≤ n) : HIc w' lo hi v c := h.under hb hn
theorem HOc.hi {w : World} {lo hi : Nat} {v : Value} {c : ChartD} (h : HOc w lo hi v c) : HIc w lo hi v c := by
  obtain ⟨a, b, mid, hv, h1, h2, h3, h4⟩ := h; exact ⟨a, b, hv, h1.tr.wide (Nat.le_refl _) h4, h2.gr.wide h3 (Nat.le_refl _)⟩
theorem HOc.kept {w w' : World} {lo hi : Nat} {v : Value} {c : ChartD} (h : HOc w lo hi v c) (hk : ∀ k, lo ≤ k → k < hi → w'.heap[k]? = w.heap[k]?) : HOc w' lo hi v c := by
  obtain ⟨a, b, mid, hv, h1, h2, h3, h4⟩ := h
  exact ⟨a, b, mid, hv, h1.kept fun k h5 h6 => hk k h5 (by omega), h2.kept fun k h5 h6 => hk k (by omega) h6, h3, h4⟩
theorem HOc.under {w w' : World} {lo hi n : Nat} {v : Value} {c : ChartD} (h : HOc w lo hi v c) (hb : Below n w w') (hn : hi ≤ n) : HOc w' lo hi v c := h.kept fun k _ hk => hb.block k (by omega)
theorem HOc.below {w w' : World} {lo hi n : Nat} {v : Value} {c : ChartD} (h : HOc w lo hi v c) (hb : Below n w w') (hn : hi ≤ n) : HOc w' lo hi v c := h.under hb hn
theorem HIc.shape {w : World} {lo hi : Nat} {v : Value} {c : ChartD} (h : HIc w lo hi v c) : ∃ pa ca pb cb, v = .agg #[.int .i64 c.steps, .slice pa c.ts.length ca, .slice pb c.acts.length cb] := by
  obtain ⟨a, b, rfl, h1, h2⟩ := h
  obtain ⟨ad, cap, rfl, _, _⟩ := h1.shape
  obtain ⟨ad', cap', rfl, _, _⟩ := h2.shape
  exact ⟨_, _, _, _, rfl⟩

/-- How much there is in a way, in ways, in a chart. -/
def TransD.many (t : TransD) : Nat := t.fr.length + t.to.length + manyL t.e.kids
def manyT : List TransD → Nat
  | [] => 0
  | t :: ts => t.many + 1 + manyT ts
def ChartD.many (c : ChartD) : Nat := manyT c.ts + c.acts.length

theorem manyT_append (xs ys : List TransD) : manyT (xs ++ ys) = manyT xs + manyT ys := by
  induction xs with
  | nil => rw [List.nil_append, manyT]; omega
  | cons x xs ih => rw [List.cons_append, manyT, manyT, ih]; omega
theorem manyT_take_succ {ts : List TransD} {i : Nat} {t : TransD} (h : ts[i]? = some t) : manyT (ts.take (i + 1)) = manyT (ts.take i) + t.many + 1 := by
  rw [List.take_add_one, h, manyT_append]
  show manyT (ts.take i) + manyT [t] = _
  rw [manyT, manyT]
  omega
theorem manyT_take_le (ts : List TransD) (i : Nat) : manyT (ts.take i) ≤ manyT ts := by
  have h := manyT_append (ts.take i) (ts.drop i)
  rw [List.take_append_drop] at h
  omega
theorem length_le_manyT (ts : List TransD) : ts.length ≤ manyT ts := by
  induction ts with
  | nil => rw [manyT]; exact Nat.le_refl _
  | cons t ts ih => rw [manyT, List.length_cons]; omega
theorem manyT_rest (ts : List TransD) (j : Nat) (hj : j ≤ ts.length) : manyT (ts.take j) + (ts.length - j) ≤ manyT ts := by
  have h := manyT_append (ts.take j) (ts.drop j)
  rw [List.take_append_drop] at h
  have h2 := length_le_manyT (ts.drop j)
  rw [List.length_drop] at h2
  omega
theorem take_le_manyT (ts : List TransD) (j : Nat) (hj : j ≤ ts.length) : j ≤ manyT (ts.take j) := by
  have h2 := length_le_manyT (ts.take j)
  rw [List.length_take] at h2
  omega
theorem many_le_manyT {ts : List TransD} {i : Nat} {t : TransD} (h : ts[i]? = some t) : t.many + 1 ≤ manyT ts := by
  have h1 := manyT_take_succ h
  have h2 := manyT_take_le ts (i + 1)
  omega
end Go.Proofs.YtaoiookfmgpmkaaGreatDoor
