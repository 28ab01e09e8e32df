import Derived.Test.YtdlcdllmhacaaaaGreatDoorRows
import Derived.WalkKit
import Derived.ProofKit
import Derived.OpenShut
import Derived.ShutString
import Derived.Outline
import Derived.Below
import Derived.Deep.QuietTactic
import Derived.BigQuiet
import Derived.WalkSmall

/-
  Small lemmas that all our texts use: equal endings, old cells behind new blocks, one cell written.
-/
namespace Go.Proofs.YtdlcdllmhacaaaaGreatDoor
open Go.ChangeShapes Go.WideShapes Go.ChangeAt Go.RowKit

theorem ret_int {k : IntKind} {a b : Int} (h : a = b) : Ending.returned (.int k a) = .returned (.int k b) := by rw [h]
theorem ret_bool {a b : Bool} (h : a = b) : Ending.returned (.bool a) = .returned (.bool b) := by rw [h]

theorem bcell {W w1 : World} (hb : Below W.heap.size W w1) : (∀ b o, b < W.heap.size → w1.cell? ⟨b, o, none⟩ = W.cell? ⟨b, o, none⟩) ∧ (∀ b o, b < W.heap.size → w1.frozen? ⟨b, o, none⟩ = W.frozen? ⟨b, o, none⟩) :=
  ⟨fun b o h => hb.cell (p := ⟨b, o, none⟩) h, fun b o h => hb.frozen (p := ⟨b, o, none⟩) h⟩

theorem cell_set_other (w : World) {B o b o' : Nat} {v : Value} (h : b ≠ B ∨ o' ≠ o) : (w.setCell ⟨B, o, none⟩ v).cell? ⟨b, o', none⟩ = w.cell? ⟨b, o', none⟩ :=
  World.cell?_setCell_other w _ _ _ (by intro e; simp only [Addr.mk.injEq] at e; omega)

theorem below_two {w w1 w2 : World} (h1 : Below w.heap.size w w1) (h2 : Below w1.heap.size w1 w2) : Below w.heap.size w w2 :=
  h1.trans (h2.mono h1.size)

end Go.Proofs.YtdlcdllmhacaaaaGreatDoor

/-
  Trees of what is reckoned (Expr) as data, and how they lie in memory: KR: lists of kids that can be read; KO: lists that are owned, each in blocks of its own.
-/
namespace Go.Proofs.YtdlcdllmhacaaaaGreatDoor
open Go.ChangeShapes Go.WideShapes Go.ChangeAt Go.RowKit
set_option linter.unusedVariables false

/-- What is reckoned: kind, number, place, kids. -/
inductive ExprD where
  | mk (k n ak at_ : Int) (kids : List ExprD)

def ExprD.k : ExprD → Int | .mk k _ _ _ _ => k
def ExprD.n : ExprD → Int | .mk _ n _ _ _ => n
def ExprD.ak : ExprD → Int | .mk _ _ a _ _ => a
def ExprD.at_ : ExprD → Int | .mk _ _ _ t _ => t
def ExprD.kids : ExprD → List ExprD | .mk _ _ _ _ ks => ks

theorem ExprD.eta (e : ExprD) : e = .mk e.k e.n e.ak e.at_ e.kids := by cases e; rfl

mutual
/-- How many parts there are, with itself. -/
def manyE : ExprD → Nat
  | .mk _ _ _ _ ks => manyL ks + 1
def manyL : List ExprD → Nat
  | [] => 0
  | e :: es => manyE e + manyL es
end

theorem manyE_eq (e : ExprD) : manyE e = manyL e.kids + 1 := by cases e; rw [manyE]; rfl

theorem manyL_append (xs ys : List ExprD) : manyL (xs ++ ys) = manyL xs + manyL ys := by
  induction xs with
  | nil => rw [List.nil_append, manyL]; omega
  | cons x xs ih => rw [List.cons_append, manyL, manyL, ih]; omega

theorem manyL_take_succ {es : List ExprD} {i : Nat} {e : ExprD} (h : es[i]? = some e) : manyL (es.take (i + 1)) = manyL (es.take i) + manyE e := by
  rw [List.take_add_one, h, manyL_append]
  show manyL (es.take i) + manyL [e] = _
  rw [manyL, manyL]
  omega

theorem manyL_take_le (es : List ExprD) (i : Nat) : manyL (es.take i) ≤ manyL es := by
  have h := manyL_append (es.take i) (es.drop i)
  rw [List.take_append_drop] at h
  omega

theorem length_le_manyL (es : List ExprD) : es.length ≤ manyL es := by
  induction es with
  | nil => rw [manyL]; exact Nat.le_refl _
  | cons e es ih => rw [manyL, manyE_eq, List.length_cons]; omega

theorem kid_lt {es : List ExprD} {i : Nat} {e : ExprD} (h : es[i]? = some e) : manyL e.kids < manyL es := by
  have h1 := manyL_take_succ h
  have h2 := manyL_take_le es (i + 1)
  have h3 := manyE_eq e
  omega

/-- The five cells of a part. -/
structure Cell5 (w : World) (b o : Nat) (e : ExprD) (s : Value) : Prop where
  c0 : w.cell? ⟨b, o, none⟩ = some (.int .i64 e.k)
  c1 : w.cell? ⟨b, o + 1, none⟩ = some (.int .i64 e.n)
  c2 : w.cell? ⟨b, o + 2, none⟩ = some (.int .i64 e.ak)
  c3 : w.cell? ⟨b, o + 3, none⟩ = some (.int .i64 e.at_)
  c4 : w.cell? ⟨b, o + 4, none⟩ = some s

theorem Cell5.kept {w w' : World} {b o : Nat} {e : ExprD} {s : Value} (h : Cell5 w b o e s) (hk : w'.heap[b]? = w.heap[b]?) : Cell5 w' b o e s :=
  ⟨by rw [World.cell?_of_block (w := w) hk]; exact h.c0, by rw [World.cell?_of_block (w := w) hk]; exact h.c1, by rw [World.cell?_of_block (w := w) hk]; exact h.c2, by rw [World.cell?_of_block (w := w) hk]; exact h.c3, by rw [World.cell?_of_block (w := w) hk]; exact h.c4⟩

/-- A list of parts that can be read, in the blocks from lo to hi. -/
inductive KR (w : World) (lo hi : Nat) : Value → List ExprD → Prop
  | nil (ad : Option Go.Addr) (cap : Nat) (hc : cap ≤ maxLen) : KR w lo hi (.slice ad 0 cap) []
  | cons (b off cap : Nat) (es : List ExprD) (ss : Nat → Value) (h0 : es ≠ []) (h1 : es.length ≤ cap) (h2 : cap ≤ maxLen) (h3 : lo ≤ b) (h4 : b < hi)
      (hc : ∀ i e, es[i]? = some e → Cell5 w b (off + i * 5) e (ss i)) (hk : ∀ i e, es[i]? = some e → KR w lo hi (ss i) e.kids) : KR w lo hi (.slice (some ⟨b, off, none⟩) es.length cap) es

theorem KR.shape {w : World} {lo hi : Nat} {v : Value} {es : List ExprD} (h : KR w lo hi v es) : ∃ ad cap, v = .slice ad es.length cap ∧ es.length ≤ cap ∧ cap ≤ maxLen := by
  cases h with
  | nil ad cap hc => exact ⟨ad, cap, rfl, Nat.zero_le _, hc⟩
  | cons b off cap es ss h0 h1 h2 => exact ⟨_, cap, rfl, h1, h2⟩

theorem KR.at_ {w : World} {lo hi : Nat} {v : Value} {es : List ExprD} (h : KR w lo hi v es) {i : Nat} {e : ExprD} (hie : es[i]? = some e) :
    ∃ b off cap s, v = .slice (some ⟨b, off, none⟩) es.length cap ∧ lo ≤ b ∧ b < hi ∧ Cell5 w b (off + i * 5) e s ∧ KR w lo hi s e.kids := by
  cases h with
  | nil ad cap hc => simp at hie
  | cons b off cap es ss h0 h1 h2 h3 h4 hc hk => exact ⟨b, off, cap, ss i, rfl, h3, h4, hc i e hie, hk i e hie⟩

theorem KR.kept {w w' : World} {lo hi : Nat} {v : Value} {es : List ExprD} (h : KR w lo hi v es) (hk : ∀ k, lo ≤ k → k < hi → w'.heap[k]? = w.heap[k]?) : KR w' lo hi v es := by
  induction h with
  | nil ad cap hc => exact .nil ad cap hc
  | cons b off cap es ss h0 h1 h2 h3 h4 hc _ ih => exact .cons b off cap es ss h0 h1 h2 h3 h4 (fun i e hi => (hc i e hi).kept (hk b h3 h4)) fun i e hi => ih i e hi

theorem KR.under {w w' : World} {lo hi n : Nat} {v : Value} {es : List ExprD} (h : KR w lo hi v es) (hb : Below n w w') (hn : hi ≤ n) : KR w' lo hi v es :=
  h.kept fun k _ hk => hb.block k (by omega)

theorem KR.wide {w : World} {lo hi lo' hi' : Nat} {v : Value} {es : List ExprD} (h : KR w lo hi v es) (hl : lo' ≤ lo) (hh : hi ≤ hi') : KR w lo' hi' v es := by
  induction h with
  | nil ad cap hc => exact .nil ad cap hc
  | cons b off cap es ss h0 h1 h2 h3 h4 hc _ ih => exact .cons b off cap es ss h0 h1 h2 (by omega) (by omega) hc ih

/-- A list of parts that is owned: its cells may be written, and the lists of its kids lie in ranges of blocks apart from it and from one another. -/
inductive KO (w : World) : Nat → Nat → Value → List ExprD → Prop
  | nil (lo hi : Nat) (ad : Option Go.Addr) (cap : Nat) (hc : cap ≤ maxLen) : KO w lo hi (.slice ad 0 cap) []
  | cons (lo hi b off cap : Nat) (es : List ExprD) (ss : Nat → Value) (l h : Nat → Nat) (h0 : es ≠ []) (h1 : es.length ≤ cap) (h2 : cap ≤ maxLen) (h3 : lo ≤ b) (h4 : b < hi)
      (hf : ∀ o, w.frozen? ⟨b, off + o, none⟩ = false) (hc : ∀ i e, es[i]? = some e → Cell5 w b (off + i * 5) e (ss i))
      (hr : ∀ i, i < es.length → lo ≤ l i ∧ h i ≤ hi ∧ (b < l i ∨ h i ≤ b)) (hd : ∀ i j, i < j → j < es.length → h i ≤ l j ∨ h j ≤ l i)
      (hk : ∀ i e, es[i]? = some e → KO w (l i) (h i) (ss i) e.kids) : KO w lo hi (.slice (some ⟨b, off, none⟩) es.length cap) es

theorem KO.kr {w : World} {lo hi : Nat} {v : Value} {es : List ExprD} (h : KO w lo hi v es) : KR w lo hi v es := by
  induction h with
  | nil lo hi ad cap hc => exact .nil ad cap hc
  | cons lo hi b off cap es ss l h h0 h1 h2 h3 h4 hf hc hr hd _ ih =>
    refine .cons b off cap es ss h0 h1 h2 h3 h4 hc fun i e hi => ?_
    have hil : i < es.length := (List.getElem?_eq_some_iff.mp hi).1
    exact (ih i e hi).wide (hr i hil).1 (hr i hil).2.1

theorem KO.kept {w w' : World} {lo hi : Nat} {v : Value} {es : List ExprD} (h : KO w lo hi v es) (hk : ∀ k, lo ≤ k → k < hi → w'.heap[k]? = w.heap[k]?) : KO w' lo hi v es := by
  induction h with
  | nil lo hi ad cap hc => exact .nil lo hi ad cap hc
  | cons lo hi b off cap es ss l h h0 h1 h2 h3 h4 hf hc hr hd _ ih =>
    refine .cons lo hi b off cap es ss l h h0 h1 h2 h3 h4 (fun o => ?_) (fun i e hi => (hc i e hi).kept (hk b h3 h4)) hr hd fun i e hi => ih i e hi ?_
    · rw [World.frozen?_of_block (w := w) (hk b h3 h4)]; exact hf o
    · have hil : i < es.length := (List.getElem?_eq_some_iff.mp hi).1
      exact fun k hl hh => hk k (by have := (hr i hil).1; omega) (by have := (hr i hil).2.1; omega)

theorem KO.under {w w' : World} {lo hi n : Nat} {v : Value} {es : List ExprD} (h : KO w lo hi v es) (hb : Below n w w') (hn : hi ≤ n) : KO w' lo hi v es :=
  h.kept fun k _ hk => hb.block k (by omega)

theorem KO.wide {w : World} {lo hi lo' hi' : Nat} {v : Value} {es : List ExprD} (h : KO w lo hi v es) (hl : lo' ≤ lo) (hh : hi ≤ hi') : KO w lo' hi' v es := by
  cases h with
  | nil lo hi ad cap hc => exact .nil _ _ ad cap hc
  | cons lo hi b off cap es ss l h h0 h1 h2 h3 h4 hf hc hr hd hk =>
    exact .cons _ _ b off cap es ss l h h0 h1 h2 (by omega) (by omega) hf hc (fun i hi => by have := hr i hi; omega) hd hk

/-- A value of what is reckoned that reads as this. -/
def ER (w : World) (lo hi : Nat) (v : Value) (e : ExprD) : Prop := ∃ s, v = .agg #[.int .i64 e.k, .int .i64 e.n, .int .i64 e.ak, .int .i64 e.at_, s] ∧ KR w lo hi s e.kids

/-- A value that owns this. -/
def EO (w : World) (lo hi : Nat) (v : Value) (e : ExprD) : Prop := ∃ s, v = .agg #[.int .i64 e.k, .int .i64 e.n, .int .i64 e.ak, .int .i64 e.at_, s] ∧ KO w lo hi s e.kids

theorem EO.er {w : World} {lo hi : Nat} {v : Value} {e : ExprD} (h : EO w lo hi v e) : ER w lo hi v e := by
  obtain ⟨s, hv, hk⟩ := h; exact ⟨s, hv, hk.kr⟩
theorem ER.below {w w' : World} {lo hi n : Nat} {v : Value} {e : ExprD} (h : ER w lo hi v e) (hb : Below n w w') (hn : hi ≤ n) : ER w' lo hi v e := by
  obtain ⟨s, hv, hk⟩ := h; exact ⟨s, hv, hk.under hb hn⟩
theorem EO.below {w w' : World} {lo hi n : Nat} {v : Value} {e : ExprD} (h : EO w lo hi v e) (hb : Below n w w') (hn : hi ≤ n) : EO w' lo hi v e := by
  obtain ⟨s, hv, hk⟩ := h; exact ⟨s, hv, hk.under hb hn⟩
theorem EO.kept {w w' : World} {lo hi : Nat} {v : Value} {e : ExprD} (h : EO w lo hi v e) (hk : ∀ k, lo ≤ k → k < hi → w'.heap[k]? = w.heap[k]?) : EO w' lo hi v e := by
  obtain ⟨s, hv, h⟩ := h; exact ⟨s, hv, h.kept hk⟩
theorem EO.wide {w : World} {lo hi lo' hi' : Nat} {v : Value} {e : ExprD} (h : EO w lo hi v e) (hl : lo' ≤ lo) (hh : hi ≤ hi') : EO w lo' hi' v e := by
  obtain ⟨s, hv, h⟩ := h; exact ⟨s, hv, h.wide hl hh⟩

mutual
/-- The marks, counted on from k. -/
def markE (k : Int) : ExprD → ExprD
  | .mk _ _ _ _ ks => .mk k (k + 1) (k + 2) (k + 3) (markL (k + 4) ks)
def markL (k : Int) : List ExprD → List ExprD
  | [] => []
  | e :: es => markE k e :: markL (k + 4 * (manyE e : Int)) es
end

theorem markE_eq (k : Int) (e : ExprD) : markE k e = .mk k (k + 1) (k + 2) (k + 3) (markL (k + 4) e.kids) := by cases e; rw [markE]; rfl

theorem markL_length (k : Int) (es : List ExprD) : (markL k es).length = es.length := by
  induction es generalizing k with
  | nil => rw [markL]
  | cons e es ih => rw [markL, List.length_cons, List.length_cons, ih]

theorem markL_at {k : Int} {es : List ExprD} {i : Nat} {e : ExprD} (h : es[i]? = some e) : (markL k es)[i]? = some (markE (k + 4 * (manyL (es.take i) : Int)) e) := by
  induction es generalizing k i with
  | nil => simp at h
  | cons x xs ih =>
    cases i with
    | zero =>
      simp at h
      subst h
      rw [markL]
      simp [manyL]
    | succ i =>
      simp at h
      rw [markL, List.getElem?_cons_succ, ih h, List.take_succ_cons, manyL]
      congr 2
      omega

theorem mark_many (n : Nat) : ∀ (es : List ExprD) (k : Int), manyL es ≤ n → manyL (markL k es) = manyL es := by
  induction n with
  | zero =>
    intro es k h
    cases es with
    | nil => rw [markL]
    | cons e es => rw [manyL, manyE_eq] at h; omega
  | succ n ih =>
    intro es k h
    induction es generalizing k with
    | nil => rw [markL]
    | cons e es ih2 =>
      rw [manyL, manyE_eq] at h
      rw [markL, manyL, manyL, ih2 _ (by omega), markE_eq, manyE_eq, manyE_eq]
      show manyL (markL (k + 4) e.kids) + 1 + _ = _
      rw [ih _ _ (by omega)]
end Go.Proofs.YtdlcdllmhacaaaaGreatDoor

/-
  Statements (Stmt) as data, and how lists of them lie in memory: SR: lists that can be read; SO: lists that are owned, each in blocks of its own.
-/
namespace Go.Proofs.YtdlcdllmhacaaaaGreatDoor
open Go.ChangeShapes Go.WideShapes Go.ChangeAt Go.RowKit
set_option linter.unusedVariables false

/-- What is done: kind, place, what is reckoned, two lists. -/
inductive StmtD where
  | mk (k tk ta : Int) (e : ExprD) (th el : List StmtD)

def StmtD.k : StmtD → Int | .mk k _ _ _ _ _ => k
def StmtD.tk : StmtD → Int | .mk _ x _ _ _ _ => x
def StmtD.ta : StmtD → Int | .mk _ _ x _ _ _ => x
def StmtD.e : StmtD → ExprD | .mk _ _ _ x _ _ => x
def StmtD.th : StmtD → List StmtD | .mk _ _ _ _ x _ => x
def StmtD.el : StmtD → List StmtD | .mk _ _ _ _ _ x => x

theorem StmtD.eta (s : StmtD) : s = .mk s.k s.tk s.ta s.e s.th s.el := by cases s; rfl

theorem stmtD_eq {x y : StmtD} : x = y ↔ x.k = y.k ∧ (x.tk = y.tk ∧ x.ta = y.ta) ∧ x.e = y.e ∧ x.th = y.th ∧ x.el = y.el := by
  cases x; cases y; simp [StmtD.k, StmtD.tk, StmtD.ta, StmtD.e, StmtD.th, StmtD.el, and_assoc]

mutual
/-- How much there is: the statement, the parts below what it reckons, all that is within it. -/
def sizeS : StmtD → Nat
  | .mk _ _ _ e th el => manyL e.kids + sizeL th + sizeL el + 1
def sizeL : List StmtD → Nat
  | [] => 0
  | s :: ss => sizeS s + sizeL ss
end

theorem sizeS_eq (s : StmtD) : sizeS s = manyL s.e.kids + sizeL s.th + sizeL s.el + 1 := by cases s; rw [sizeS]; rfl

theorem sizeL_append (xs ys : List StmtD) : sizeL (xs ++ ys) = sizeL xs + sizeL ys := by
  induction xs with
  | nil => rw [List.nil_append, sizeL]; omega
  | cons x xs ih => rw [List.cons_append, sizeL, sizeL, ih]; omega

theorem sizeL_take_succ {ss : List StmtD} {i : Nat} {s : StmtD} (h : ss[i]? = some s) : sizeL (ss.take (i + 1)) = sizeL (ss.take i) + sizeS s := by
  rw [List.take_add_one, h, sizeL_append]
  show sizeL (ss.take i) + sizeL [s] = _
  rw [sizeL, sizeL]
  omega

theorem sizeL_take_le (ss : List StmtD) (i : Nat) : sizeL (ss.take i) ≤ sizeL ss := by
  have h := sizeL_append (ss.take i) (ss.drop i)
  rw [List.take_append_drop] at h
  omega

theorem length_le_sizeL (ss : List StmtD) : ss.length ≤ sizeL ss := by
  induction ss with
  | nil => rw [sizeL]; exact Nat.le_refl _
  | cons s ss ih => rw [sizeL, sizeS_eq, List.length_cons]; omega

theorem stmt_lt {ss : List StmtD} {i : Nat} {s : StmtD} (h : ss[i]? = some s) : manyL s.e.kids + sizeL s.th + sizeL s.el < sizeL ss := by
  have h1 := sizeL_take_succ h
  have h2 := sizeL_take_le ss (i + 1)
  have h3 := sizeS_eq s
  omega

theorem size_rest (ss : List StmtD) (j : Nat) (hj : j ≤ ss.length) : sizeL (ss.take j) + (ss.length - j) ≤ sizeL ss := by
  have h := sizeL_append (ss.take j) (ss.drop j)
  rw [List.take_append_drop] at h
  have h2 := length_le_sizeL (ss.drop j)
  rw [List.length_drop] at h2
  omega

theorem take_le_size (ss : List StmtD) (j : Nat) (hj : j ≤ ss.length) : j ≤ sizeL (ss.take j) := by
  have h2 := length_le_sizeL (ss.take j)
  rw [List.length_take] at h2
  omega

/-- The ten cells of a statement. -/
structure Cell10 (w : World) (b o : Nat) (s : StmtD) (x y z : Value) : Prop where
  c0 : w.cell? ⟨b, o, none⟩ = some (.int .i64 s.k)
  c1 : w.cell? ⟨b, o + 1, none⟩ = some (.int .i64 s.tk)
  c2 : w.cell? ⟨b, o + 2, none⟩ = some (.int .i64 s.ta)
  c3 : w.cell? ⟨b, o + 3, none⟩ = some (.int .i64 s.e.k)
  c4 : w.cell? ⟨b, o + 4, none⟩ = some (.int .i64 s.e.n)
  c5 : w.cell? ⟨b, o + 5, none⟩ = some (.int .i64 s.e.ak)
  c6 : w.cell? ⟨b, o + 6, none⟩ = some (.int .i64 s.e.at_)
  c7 : w.cell? ⟨b, o + 7, none⟩ = some x
  c8 : w.cell? ⟨b, o + 8, none⟩ = some y
  c9 : w.cell? ⟨b, o + 9, none⟩ = some z

theorem Cell10.kept {w w' : World} {b o : Nat} {s : StmtD} {x y z : Value} (h : Cell10 w b o s x y z) (hk : w'.heap[b]? = w.heap[b]?) : Cell10 w' b o s x y z :=
  ⟨by rw [World.cell?_of_block (w := w) hk]; exact h.c0, by rw [World.cell?_of_block (w := w) hk]; exact h.c1, by rw [World.cell?_of_block (w := w) hk]; exact h.c2, by rw [World.cell?_of_block (w := w) hk]; exact h.c3, by rw [World.cell?_of_block (w := w) hk]; exact h.c4,
    by rw [World.cell?_of_block (w := w) hk]; exact h.c5, by rw [World.cell?_of_block (w := w) hk]; exact h.c6, by rw [World.cell?_of_block (w := w) hk]; exact h.c7, by rw [World.cell?_of_block (w := w) hk]; exact h.c8, by rw [World.cell?_of_block (w := w) hk]; exact h.c9⟩

/-- A list of statements that can be read, in the blocks from lo to hi. -/
inductive SR (w : World) (lo hi : Nat) : Value → List StmtD → Prop
  | nil (ad : Option Go.Addr) (cap : Nat) (hc : cap ≤ maxLen) : SR w lo hi (.slice ad 0 cap) []
  | cons (b off cap : Nat) (ss : List StmtD) (x y z : Nat → Value) (h0 : ss ≠ []) (h1 : ss.length ≤ cap) (h2 : cap ≤ maxLen) (h3 : lo ≤ b) (h4 : b < hi)
      (hc : ∀ i s, ss[i]? = some s → Cell10 w b (off + i * 10) s (x i) (y i) (z i)) (he : ∀ i s, ss[i]? = some s → KR w lo hi (x i) s.e.kids)
      (ht : ∀ i s, ss[i]? = some s → SR w lo hi (y i) s.th) (hl : ∀ i s, ss[i]? = some s → SR w lo hi (z i) s.el) : SR w lo hi (.slice (some ⟨b, off, none⟩) ss.length cap) ss

theorem SR.shape {w : World} {lo hi : Nat} {v : Value} {ss : List StmtD} (h : SR w lo hi v ss) : ∃ ad cap, v = .slice ad ss.length cap ∧ ss.length ≤ cap ∧ cap ≤ maxLen := by
  cases h with
  | nil ad cap hc => exact ⟨ad, cap, rfl, Nat.zero_le _, hc⟩
  | cons b off cap ss x y z h0 h1 h2 => exact ⟨_, cap, rfl, h1, h2⟩

theorem SR.at_ {w : World} {lo hi : Nat} {v : Value} {ss : List StmtD} (h : SR w lo hi v ss) {i : Nat} {s : StmtD} (hi' : ss[i]? = some s) :
    ∃ b off cap x y z, v = .slice (some ⟨b, off, none⟩) ss.length cap ∧ lo ≤ b ∧ b < hi ∧ Cell10 w b (off + i * 10) s x y z ∧ KR w lo hi x s.e.kids ∧ SR w lo hi y s.th ∧ SR w lo hi z s.el := by
  cases h with
  | nil ad cap hc => simp at hi'
  | cons b off cap ss x y z h0 h1 h2 h3 h4 hc he ht hl => exact ⟨b, off, cap, x i, y i, z i, rfl, h3, h4, hc i s hi', he i s hi', ht i s hi', hl i s hi'⟩

theorem SR.kept {w w' : World} {lo hi : Nat} {v : Value} {ss : List StmtD} (h : SR w lo hi v ss) (hk : ∀ k, lo ≤ k → k < hi → w'.heap[k]? = w.heap[k]?) : SR w' lo hi v ss := by
  induction h with
  | nil ad cap hc => exact .nil ad cap hc
  | cons b off cap ss x y z h0 h1 h2 h3 h4 hc he _ _ iht ihl => exact .cons b off cap ss x y z h0 h1 h2 h3 h4 (fun i e hi => (hc i e hi).kept (hk b h3 h4)) (fun i e hi => (he i e hi).kept hk) (fun i e hi => iht i e hi) fun i e hi => ihl i e hi

theorem SR.under {w w' : World} {lo hi n : Nat} {v : Value} {ss : List StmtD} (h : SR w lo hi v ss) (hb : Below n w w') (hn : hi ≤ n) : SR w' lo hi v ss :=
  h.kept fun k _ hk => hb.block k (by omega)

theorem SR.wide {w : World} {lo hi lo' hi' : Nat} {v : Value} {ss : List StmtD} (h : SR w lo hi v ss) (hl : lo' ≤ lo) (hh : hi ≤ hi') : SR w lo' hi' v ss := by
  induction h with
  | nil ad cap hc => exact .nil ad cap hc
  | cons b off cap ss x y z h0 h1 h2 h3 h4 hc he _ _ iht ihl => exact .cons b off cap ss x y z h0 h1 h2 (by omega) (by omega) hc (fun i e hi => (he i e hi).wide hl hh) iht ihl

/-- Where what belongs to a statement lies: in the blocks from l to h; the kids of what it reckons from a0 to a1, its lists from b0 to b1 and from c0 to c1. -/
structure Rg where
  l : Nat
  h : Nat
  a0 : Nat
  a1 : Nat
  b0 : Nat
  b1 : Nat
  c0 : Nat
  c1 : Nat

structure Rg.Ok (r : Rg) (lo hi b : Nat) : Prop where
  lo_ : lo ≤ r.l
  hi_ : r.h ≤ hi
  apart : b < r.l ∨ r.h ≤ b
  a : r.l ≤ r.a0 ∧ r.a1 ≤ r.h
  b : r.l ≤ r.b0 ∧ r.b1 ≤ r.h
  c : r.l ≤ r.c0 ∧ r.c1 ≤ r.h
  ab : r.a1 ≤ r.b0 ∨ r.b1 ≤ r.a0
  ac : r.a1 ≤ r.c0 ∨ r.c1 ≤ r.a0
  bc : r.b1 ≤ r.c0 ∨ r.c1 ≤ r.b0

/-- A list of statements that is owned: its cells may be written, and all that belongs to one lies apart from it, from that of the others, and from one another. -/
inductive SO (w : World) : Nat → Nat → Value → List StmtD → Prop
  | nil (lo hi : Nat) (ad : Option Go.Addr) (cap : Nat) (hc : cap ≤ maxLen) : SO w lo hi (.slice ad 0 cap) []
  | cons (lo hi b off cap : Nat) (ss : List StmtD) (x y z : Nat → Value) (r : Nat → Rg) (h0 : ss ≠ []) (h1 : ss.length ≤ cap) (h2 : cap ≤ maxLen) (h3 : lo ≤ b) (h4 : b < hi)
      (hf : ∀ o, w.frozen? ⟨b, off + o, none⟩ = false) (hc : ∀ i s, ss[i]? = some s → Cell10 w b (off + i * 10) s (x i) (y i) (z i))
      (hr : ∀ i, i < ss.length → (r i).Ok lo hi b) (hd : ∀ i j, i < j → j < ss.length → (r i).h ≤ (r j).l ∨ (r j).h ≤ (r i).l)
      (he : ∀ i s, ss[i]? = some s → KO w (r i).a0 (r i).a1 (x i) s.e.kids) (ht : ∀ i s, ss[i]? = some s → SO w (r i).b0 (r i).b1 (y i) s.th)
      (hl : ∀ i s, ss[i]? = some s → SO w (r i).c0 (r i).c1 (z i) s.el) : SO w lo hi (.slice (some ⟨b, off, none⟩) ss.length cap) ss

theorem SO.sr {w : World} {lo hi : Nat} {v : Value} {ss : List StmtD} (h : SO w lo hi v ss) : SR w lo hi v ss := by
  induction h with
  | nil lo hi ad cap hc => exact .nil ad cap hc
  | cons lo hi b off cap ss x y z r h0 h1 h2 h3 h4 hf hc hr hd he _ _ iht ihl =>
    have key : ∀ i s, ss[i]? = some s → lo ≤ (r i).a0 ∧ (r i).a1 ≤ hi ∧ lo ≤ (r i).b0 ∧ (r i).b1 ≤ hi ∧ lo ≤ (r i).c0 ∧ (r i).c1 ≤ hi := fun i s hi => by
      obtain ⟨r1, r2, r3, r4, r5, r6, r7, r8, r9⟩ := hr i (List.getElem?_eq_some_iff.mp hi).1
      omega
    exact .cons b off cap ss x y z h0 h1 h2 h3 h4 hc (fun i s hi => (he i s hi).kr.wide (key i s hi).1 (key i s hi).2.1) (fun i s hi => (iht i s hi).wide (key i s hi).2.2.1 (key i s hi).2.2.2.1) fun i s hi => (ihl i s hi).wide (key i s hi).2.2.2.2.1 (key i s hi).2.2.2.2.2

theorem SO.kept {w w' : World} {lo hi : Nat} {v : Value} {ss : List StmtD} (h : SO w lo hi v ss) (hk : ∀ k, lo ≤ k → k < hi → w'.heap[k]? = w.heap[k]?) : SO w' lo hi v ss := by
  induction h with
  | nil lo hi ad cap hc => exact .nil lo hi ad cap hc
  | cons lo hi b off cap ss x y z r h0 h1 h2 h3 h4 hf hc hr hd he _ _ iht ihl =>
    have key : ∀ i s, ss[i]? = some s → lo ≤ (r i).a0 ∧ (r i).a1 ≤ hi ∧ lo ≤ (r i).b0 ∧ (r i).b1 ≤ hi ∧ lo ≤ (r i).c0 ∧ (r i).c1 ≤ hi := fun i s hi => by
      obtain ⟨r1, r2, r3, r4, r5, r6, r7, r8, r9⟩ := hr i (List.getElem?_eq_some_iff.mp hi).1
      omega
    refine .cons lo hi b off cap ss x y z r h0 h1 h2 h3 h4 (fun o => ?_) (fun i e hi => (hc i e hi).kept (hk b h3 h4)) hr hd (fun i s hi => (he i s hi).kept fun k q1 q2 => hk k ?_ ?_) (fun i s hi => iht i s hi fun k q1 q2 => hk k ?_ ?_) fun i s hi => ihl i s hi fun k q1 q2 => hk k ?_ ?_
    · rw [World.frozen?_of_block (w := w) (hk b h3 h4)]; exact hf o
    all_goals (have := key i s hi; omega)

theorem SO.under {w w' : World} {lo hi n : Nat} {v : Value} {ss : List StmtD} (h : SO w lo hi v ss) (hb : Below n w w') (hn : hi ≤ n) : SO w' lo hi v ss :=
  h.kept fun k _ hk => hb.block k (by omega)

theorem SO.wide {w : World} {lo hi lo' hi' : Nat} {v : Value} {ss : List StmtD} (h : SO w lo hi v ss) (hl : lo' ≤ lo) (hh : hi ≤ hi') : SO w lo' hi' v ss := by
  cases h with
  | nil lo hi ad cap hc => exact .nil _ _ ad cap hc
  | cons lo hi b off cap ss x y z r h0 h1 h2 h3 h4 hf hc hr hd he ht hl' =>
    exact .cons _ _ b off cap ss x y z r h0 h1 h2 (by omega) (by omega) hf hc (fun i hi => by
      obtain ⟨r1, r2, r3, r4, r5, r6, r7, r8, r9⟩ := hr i hi
      exact ⟨by omega, by omega, r3, r4, r5, r6, r7, r8, r9⟩) hd he ht hl'

/-- The value of a statement. -/
def stmtV (s : StmtD) (x y z : Value) : Value := .agg #[.int .i64 s.k, .int .i64 s.tk, .int .i64 s.ta, .int .i64 s.e.k, .int .i64 s.e.n, .int .i64 s.e.ak, .int .i64 s.e.at_, x, y, z]

/-- Ten values in one block that may be written. -/
structure TenW (u : World) (V : Nat) (x0 x1 x2 x3 x4 x5 x6 x7 x8 x9 : Value) : Prop where
  c0 : u.cell? ⟨V, 0, none⟩ = some x0
  c1 : u.cell? ⟨V, 1, none⟩ = some x1
  c2 : u.cell? ⟨V, 2, none⟩ = some x2
  c3 : u.cell? ⟨V, 3, none⟩ = some x3
  c4 : u.cell? ⟨V, 4, none⟩ = some x4
  c5 : u.cell? ⟨V, 5, none⟩ = some x5
  c6 : u.cell? ⟨V, 6, none⟩ = some x6
  c7 : u.cell? ⟨V, 7, none⟩ = some x7
  c8 : u.cell? ⟨V, 8, none⟩ = some x8
  c9 : u.cell? ⟨V, 9, none⟩ = some x9
  f : ∀ o, u.frozen? ⟨V, o, none⟩ = false

theorem tenW_new (u : World) (x0 x1 x2 x3 x4 x5 x6 x7 x8 x9 : Value) (t : TypeId) : TenW (u.alloc (.cells #[x0, x1, x2, x3, x4, x5, x6, x7, x8, x9] t)) u.heap.size x0 x1 x2 x3 x4 x5 x6 x7 x8 x9 :=
  ⟨World.cell?_alloc_new _ _ _ _, World.cell?_alloc_new _ _ _ _, World.cell?_alloc_new _ _ _ _, World.cell?_alloc_new _ _ _ _, World.cell?_alloc_new _ _ _ _, World.cell?_alloc_new _ _ _ _, World.cell?_alloc_new _ _ _ _, World.cell?_alloc_new _ _ _ _, World.cell?_alloc_new _ _ _ _, World.cell?_alloc_new _ _ _ _, fun o => World.frozen?_alloc_new _ _ _ _⟩
theorem TenW.at_ {u u' : World} {V : Nat} {x0 x1 x2 x3 x4 x5 x6 x7 x8 x9 : Value} (h : TenW u V x0 x1 x2 x3 x4 x5 x6 x7 x8 x9) (hk : u'.heap[V]? = u.heap[V]?) : TenW u' V x0 x1 x2 x3 x4 x5 x6 x7 x8 x9 :=
  ⟨by rw [World.cell?_of_block (w := u) hk]; exact h.c0, by rw [World.cell?_of_block (w := u) hk]; exact h.c1, by rw [World.cell?_of_block (w := u) hk]; exact h.c2, by rw [World.cell?_of_block (w := u) hk]; exact h.c3, by rw [World.cell?_of_block (w := u) hk]; exact h.c4, by rw [World.cell?_of_block (w := u) hk]; exact h.c5, by rw [World.cell?_of_block (w := u) hk]; exact h.c6, by rw [World.cell?_of_block (w := u) hk]; exact h.c7, by rw [World.cell?_of_block (w := u) hk]; exact h.c8, by rw [World.cell?_of_block (w := u) hk]; exact h.c9,
    fun o => by rw [World.frozen?_of_block (w := u) hk]; exact h.f o⟩
theorem TenW.under {u u' : World} {V n : Nat} {x0 x1 x2 x3 x4 x5 x6 x7 x8 x9 : Value} (h : TenW u V x0 x1 x2 x3 x4 x5 x6 x7 x8 x9) (hb : Below n u u') (hV : V < n) : TenW u' V x0 x1 x2 x3 x4 x5 x6 x7 x8 x9 := h.at_ (hb.block V hV)
theorem tenW_of_block {u : World} {B : Nat} {x0 x1 x2 x3 x4 x5 x6 x7 x8 x9 : Value} {t : TypeId} (h : u.heap[B]? = some (.cells #[x0, x1, x2, x3, x4, x5, x6, x7, x8, x9] t)) : TenW u B x0 x1 x2 x3 x4 x5 x6 x7 x8 x9 :=
  ⟨by simp [World.cell?, h], by simp [World.cell?, h], by simp [World.cell?, h], by simp [World.cell?, h], by simp [World.cell?, h], by simp [World.cell?, h], by simp [World.cell?, h], by simp [World.cell?, h], by simp [World.cell?, h], by simp [World.cell?, h], fun o => by simp [World.frozen?, h]⟩
end Go.Proofs.YtdlcdllmhacaaaaGreatDoor

/-
  Places, and what the laws' helpers do with them: toAddr, eqAddr; the model's AddrOk.
-/
namespace Go.Proofs.YtdlcdllmhacaaaaGreatDoor
open Go.ChangeShapes Go.WideShapes Go.ChangeAt Go.RowKit
set_option linter.unusedVariables false

theorem below_alloc3 (w : World) (x y z : Obj) : Below w.heap.size w (((w.alloc x).alloc y).alloc z) :=
  (((Below.refl _ _).alloc (Nat.le_refl _) _).alloc (by simp) _).alloc (by simp; omega) _

/-- A place. -/
structure AddrD where
  kind : Int
  at_ : Int
deriving DecidableEq

def AddrD.val (a : AddrD) : Value := .agg #[.int .i64 a.kind, .int .i64 a.at_]

theorem toAddr_any (w : World) (a : AddrD) :
    Calls Tryz.prog 50 #[a.val] w fun e w' => e = .returned a.val ∧ Below w.heap.size w w' := by
  unfold AddrD.val
  go_enter Tryz.func50, Tryz.ntmps50
  go_wp2
  exact bodyPost_ret (v := .agg #[.int .i64 a.kind, .int .i64 a.at_]) (by simp [results, Tryz.results50, go_sem]) rfl ⟨rfl, below_alloc3 w _ _ _⟩

theorem eqAddr_any (w : World) (a b : AddrD) :
    Calls Tryz.prog 60 #[a.val, b.val] w fun e w' => e = .returned (.bool (decide (a = b))) ∧ Below w.heap.size w w' := by
  obtain ⟨ak, aa⟩ := a
  obtain ⟨bk, ba⟩ := b
  unfold AddrD.val
  have b2 := fun o o' (m : Nat) => below_drewN (((Below.refl w.heap.size w).alloc (Nat.le_refl _) o).alloc (by simp) o') m
  by_cases h1 : ak = bk
  · by_cases h2 : aa = ba
    · subst h1 h2
      rw [decide_eq_true rfl]
      go_enter Tryz.func60, Tryz.ntmps60
      go_wp2
      go_ret
      exact ⟨rfl, b2 _ _ 0⟩
    · rw [decide_eq_false (by intro h; simp at h; exact h2 h.2)]
      have h2' : (aa == ba) = false := by simpa using h2
      subst h1
      clear h2
      go_enter Tryz.func60, Tryz.ntmps60
      go_wp2
      go_ret
      exact ⟨rfl, b2 _ _ 0⟩
  · rw [decide_eq_false (by intro h; simp at h; exact h1 h.1)]
    have h1' : (ak == bk) = false := by simpa using h1
    clear h1
    go_enter Tryz.func60, Tryz.ntmps60
    go_wp2
    go_ret
    exact ⟨rfl, b2 _ _ 0⟩

def addrOk (a : AddrD) : Bool := decide (1 ≤ a.kind) && decide (a.kind ≤ 3) && decide (0 ≤ a.at_) && decide (a.at_ < 6)

theorem addrOk_bd {a : AddrD} (h : addrOk a = true) : 1 ≤ a.kind ∧ a.kind ≤ 3 ∧ 0 ≤ a.at_ ∧ a.at_ < 6 := by
  simp [addrOk] at h; omega

theorem addrOk_val (k a : Int) (h1 : 1 ≤ k) (h2 : k ≤ 3) (h3 : 0 ≤ a) (h4 : a < 6) : addrOk ⟨k, a⟩ = true := by simp [addrOk, h1, h2, h3, h4]

set_option maxHeartbeats 400000 in
theorem sAddrOk_any (w : World) (a : AddrD) :
    Calls Tryz.prog 69 #[a.val] w fun e w' => e = .returned (.bool (addrOk a)) ∧ Below w.heap.size w w' := by
  obtain ⟨k, at_⟩ := a
  have b1 := fun o => (Below.refl w.heap.size w).alloc (Nat.le_refl _) o
  unfold AddrD.val
  by_cases h1 : 1 ≤ k
  · by_cases h2 : k ≤ 3
    · by_cases h3 : 0 ≤ at_
      · by_cases h4 : at_ < 6
        · rw [addrOk_val k at_ h1 h2 h3 h4]
          go_enter Tryz.func69, Tryz.ntmps69
          go_wp2
          go_ret
          exact ⟨rfl, b1 _⟩
        · rw [show addrOk ⟨k, at_⟩ = false by simp [addrOk, h4]]
          go_enter Tryz.func69, Tryz.ntmps69
          go_wp2
          go_ret
          exact ⟨rfl, b1 _⟩
      · rw [show addrOk ⟨k, at_⟩ = false by simp [addrOk, h3]]
        go_enter Tryz.func69, Tryz.ntmps69
        go_wp2
        go_ret
        exact ⟨rfl, b1 _⟩
    · rw [show addrOk ⟨k, at_⟩ = false by simp [addrOk, h2]]
      go_enter Tryz.func69, Tryz.ntmps69
      go_wp2
      go_ret
      exact ⟨rfl, b1 _⟩
  · rw [show addrOk ⟨k, at_⟩ = false by simp [addrOk, h1]]
    go_enter Tryz.func69, Tryz.ntmps69
    go_wp2
    go_ret
    exact ⟨rfl, b1 _⟩

end Go.Proofs.YtdlcdllmhacaaaaGreatDoor
