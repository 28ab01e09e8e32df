/-
  Trees of what is reckoned (Expr) as data, and how they lie in memory: KR: lists of kids that can be read; KO: lists that are owned, each in blocks of its own.
-/
import Derived.Test.YtkeockippmmneaaGreatKit
namespace Go.Proofs.YtkeockippmmneaaGreat
open Go.ChangeShapes Go.WideShapes Go.ChangeAt Go.RowKit
set_option linter.unusedVariables false

/-- What is reckoned: kind, number, place, kids. -/
inductive ExprD where
  | mk (k n ak at_ : Int) (kids : List ExprD)

def ExprD.k : ExprD → Int | .mk k _ _ _ _ => k
def ExprD.n : ExprD → Int | .mk _ n _ _ _ => n
def ExprD.ak : ExprD → Int | .mk _ _ a _ _ => a
def ExprD.at_ : ExprD → Int | .mk _ _ _ t _ => t
def ExprD.kids : ExprD → List ExprD | .mk _ _ _ _ ks => ks

theorem ExprD.eta (e : ExprD) : e = .mk e.k e.n e.ak e.at_ e.kids := by cases e; rfl

mutual
/-- How many parts there are, with itself. -/
def manyE : ExprD → Nat
  | .mk _ _ _ _ ks => manyL ks + 1
def manyL : List ExprD → Nat
  | [] => 0
  | e :: es => manyE e + manyL es
end

theorem manyE_eq (e : ExprD) : manyE e = manyL e.kids + 1 := by cases e; rw [manyE]; rfl

theorem manyL_append (xs ys : List ExprD) : manyL (xs ++ ys) = manyL xs + manyL ys := by
  induction xs with
  | nil => rw [List.nil_append, manyL]; omega
  | cons x xs ih => rw [List.cons_append, manyL, manyL, ih]; omega

theorem manyL_take_succ {es : List ExprD} {i : Nat} {e : ExprD} (h : es[i]? = some e) : manyL (es.take (i + 1)) = manyL (es.take i) + manyE e := by
  rw [List.take_add_one, h, manyL_append]
  show manyL (es.take i) + manyL [e] = _
  rw [manyL, manyL]
  omega

theorem manyL_take_le (es : List ExprD) (i : Nat) : manyL (es.take i) ≤ manyL es := by
  have h := manyL_append (es.take i) (es.drop i)
  rw [List.take_append_drop] at h
  omega

theorem length_le_manyL (es : List ExprD) : es.length ≤ manyL es := by
  induction es with
  | nil => rw [manyL]; exact Nat.le_refl _
  | cons e es ih => rw [manyL, manyE_eq, List.length_cons]; omega

theorem kid_lt {es : List ExprD} {i : Nat} {e : ExprD} (h : es[i]? = some e) : manyL e.kids < manyL es := by
  have h1 := manyL_take_succ h
  have h2 := manyL_take_le es (i + 1)
  have h3 := manyE_eq e
  omega

/-- The five cells of a part. -/
structure Cell5 (w : World) (b o : Nat) (e : ExprD) (s : Value) : Prop where
  c0 : w.cell? ⟨b, o, none⟩ = some (.int .i64 e.k)
  c1 : w.cell? ⟨b, o + 1, none⟩ = some (.int .i64 e.n)
  c2 : w.cell? ⟨b, o + 2, none⟩ = some (.int .i64 e.ak)
  c3 : w.cell? ⟨b, o + 3, none⟩ = some (.int .i64 e.at_)
  c4 : w.cell? ⟨b, o + 4, none⟩ = some s

theorem Cell5.kept {w w' : World} {b o : Nat} {e : ExprD} {s : Value} (h : Cell5 w b o e s) (hk : w'.heap[b]? = w.heap[b]?) : Cell5 w' b o e s :=
  ⟨by rw [World.cell?_of_block (w := w) hk]; exact h.c0, by rw [World.cell?_of_block (w := w) hk]; exact h.c1, by rw [World.cell?_of_block (w := w) hk]; exact h.c2, by rw [World.cell?_of_block (w := w) hk]; exact h.c3, by rw [World.cell?_of_block (w := w) hk]; exact h.c4⟩

/-- A list of parts that can be read, in the blocks from lo to hi. -/
inductive KR (w : World) (lo hi : Nat) : Value → List ExprD → Prop
  | nil (ad : Option Go.Addr) (cap : Nat) (hc : cap ≤ maxLen) : KR w lo hi (.slice ad 0 cap) []
  | cons (b off cap : Nat) (es : List ExprD) (ss : Nat → Value) (h0 : es ≠ []) (h1 : es.length ≤ cap) (h2 : cap ≤ maxLen) (h3 : lo ≤ b) (h4 : b < hi)
      (hc : ∀ i e, es[i]? = some e → Cell5 w b (off + i * 5) e (ss i)) (hk : ∀ i e, es[i]? = some e → KR w lo hi (ss i) e.kids) : KR w lo hi (.slice (some ⟨b, off, none⟩) es.length cap) es

theorem KR.shape {w : World} {lo hi : Nat} {v : Value} {es : List ExprD} (h : KR w lo hi v es) : ∃ ad cap, v = .slice ad es.length cap ∧ es.length ≤ cap ∧ cap ≤ maxLen := by
  cases h with
  | nil ad cap hc => exact ⟨ad, cap, rfl, Nat.zero_le _, hc⟩
  | cons b off cap es ss h0 h1 h2 => exact ⟨_, cap, rfl, h1, h2⟩

theorem KR.at_ {w : World} {lo hi : Nat} {v : Value} {es : List ExprD} (h : KR w lo hi v es) {i : Nat} {e : ExprD} (hie : es[i]? = some e) :
    ∃ b off cap s, v = .slice (some ⟨b, off, none⟩) es.length cap ∧ lo ≤ b ∧ b < hi ∧ Cell5 w b (off + i * 5) e s ∧ KR w lo hi s e.kids := by
  cases h with
  | nil ad cap hc => simp at hie
  | cons b off cap es ss h0 h1 h2 h3 h4 hc hk => exact ⟨b, off, cap, ss i, rfl, h3, h4, hc i e hie, hk i e hie⟩

theorem KR.kept {w w' : World} {lo hi : Nat} {v : Value} {es : List ExprD} (h : KR w lo hi v es) (hk : ∀ k, lo ≤ k → k < hi → w'.heap[k]? = w.heap[k]?) : KR w' lo hi v es := by
  induction h with
  | nil ad cap hc => exact .nil ad cap hc
  | cons b off cap es ss h0 h1 h2 h3 h4 hc _ ih => exact .cons b off cap es ss h0 h1 h2 h3 h4 (fun i e hi => (hc i e hi).kept (hk b h3 h4)) fun i e hi => ih i e hi

theorem KR.under {w w' : World} {lo hi n : Nat} {v : Value} {es : List ExprD} (h : KR w lo hi v es) (hb : Below n w w') (hn : hi ≤ n) : KR w' lo hi v es :=
  h.kept fun k _ hk => hb.block k (by omega)

theorem KR.wide {w : World} {lo hi lo' hi' : Nat} {v : Value} {es : List ExprD} (h : KR w lo hi v es) (hl : lo' ≤ lo) (hh : hi ≤ hi') : KR w lo' hi' v es := by
  induction h with
  | nil ad cap hc => exact .nil ad cap hc
  | cons b off cap es ss h0 h1 h2 h3 h4 hc _ ih => exact .cons b off cap es ss h0 h1 h2 (by omega) (by omega) hc ih

/-- A list of parts that is owned: its cells may be written, and the lists of its kids lie in ranges of blocks apart from it and from one another. -/
inductive KO (w : World) : Nat → Nat → Value → List ExprD → Prop
  | nil (lo hi : Nat) (ad : Option Go.Addr) (cap : Nat) (hc : cap ≤ maxLen) : KO w lo hi (.slice ad 0 cap) []
  | cons (lo hi b off cap : Nat) (es : List ExprD) (ss : Nat → Value) (l h : Nat → Nat) (h0 : es ≠ []) (h1 : es.length ≤ cap) (h2 : cap ≤ maxLen) (h3 : lo ≤ b) (h4 : b < hi)
      (hf : ∀ o, w.frozen? ⟨b, off + o, none⟩ = false) (hc : ∀ i e, es[i]? = some e → Cell5 w b (off + i * 5) e (ss i))
      (hr : ∀ i, i < es.length → lo ≤ l i ∧ h i ≤ hi ∧ (b < l i ∨ h i ≤ b)) (hd : ∀ i j, i < j → j < es.length → h i ≤ l j ∨ h j ≤ l i)
      (hk : ∀ i e, es[i]? = some e → KO w (l i) (h i) (ss i) e.kids) : KO w lo hi (.slice (some ⟨b, off, none⟩) es.length cap) es

theorem KO.kr {w : World} {lo hi : Nat} {v : Value} {es : List ExprD} (h : KO w lo hi v es) : KR w lo hi v es := by
  induction h with
  | nil lo hi ad cap hc => exact .nil ad cap hc
  | cons lo hi b off cap es ss l h h0 h1 h2 h3 h4 hf hc hr hd _ ih =>
    refine .cons b off cap es ss h0 h1 h2 h3 h4 hc fun i e hi => ?_
    have hil : i < es.length := (List.getElem?_eq_some_iff.mp hi).1
    exact (ih i e hi).wide (hr i hil).1 (hr i hil).2.1

theorem KO.kept {w w' : World} {lo hi : Nat} {v : Value} {es : List ExprD} (h : KO w lo hi v es) (hk : ∀ k, lo ≤ k → k < hi → w'.heap[k]? = w.heap[k]?) : KO w' lo hi v es := by
  induction h with
  | nil lo hi ad cap hc => exact .nil lo hi ad cap hc
  | cons lo hi b off cap es ss l h h0 h1 h2 h3 h4 hf hc hr hd _ ih =>
    refine .cons lo hi b off cap es ss l h h0 h1 h2 h3 h4 (fun o => ?_) (fun i e hi => (hc i e hi).kept (hk b h3 h4)) hr hd fun i e hi => ih i e hi ?_
    · rw [World.frozen?_of_block (w := w) (hk b h3 h4)]; exact hf o
    · have hil : i < es.length := (List.getElem?_eq_some_iff.mp hi).1
      exact fun k hl hh => hk k (by have := (hr i hil).1; omega) (by have := (hr i hil).2.1; omega)

theorem KO.under {w w' : World} {lo hi n : Nat} {v : Value} {es : List ExprD} (h : KO w lo hi v es) (hb : Below n w w') (hn : hi ≤ n) : KO w' lo hi v es :=
  h.kept fun k _ hk => hb.block k (by omega)

theorem KO.wide {w : World} {lo hi lo' hi' : Nat} {v : Value} {es : List ExprD} (h : KO w lo hi v es) (hl : lo' ≤ lo) (hh : hi ≤ hi') : KO w lo' hi' v es := by
  cases h with
  | nil lo hi ad cap hc => exact .nil _ _ ad cap hc
  | cons lo hi b off cap es ss l h h0 h1 h2 h3 h4 hf hc hr hd hk =>
    exact .cons _ _ b off cap es ss l h h0 h1 h2 (by omega) (by omega) hf hc (fun i hi => by have := hr i hi; omega) hd hk

/-- A value of what is reckoned that reads as this. -/
def ER (w : World) (lo hi : Nat) (v : Value) (e : ExprD) : Prop := ∃ s, v = .agg #[.int .i64 e.k, .int .i64 e.n, .int .i64 e.ak, .int .i64 e.at_, s] ∧ KR w lo hi s e.kids

/-- A value that owns this. -/
def EO (w : World) (lo hi : Nat) (v : Value) (e : ExprD) : Prop := ∃ s, v = .agg #[.int .i64 e.k, .int .i64 e.n, .int .i64 e.ak, .int .i64 e.at_, s] ∧ KO w lo hi s e.kids

theorem EO.er {w : World} {lo hi : Nat} {v : Value} {e : ExprD} (h : EO w lo hi v e) : ER w lo hi v e := by
  obtain ⟨s, hv, hk⟩ := h; exact ⟨s, hv, hk.kr⟩
theorem ER.below {w w' : World} {lo hi n : Nat} {v : Value} {e : ExprD} (h : ER w lo hi v e) (hb : Below n w w') (hn : hi ≤ n) : ER w' lo hi v e := by
  obtain ⟨s, hv, hk⟩ := h; exact ⟨s, hv, hk.under hb hn⟩
theorem EO.below {w w' : World} {lo hi n : Nat} {v : Value} {e : ExprD} (h : EO w lo hi v e) (hb : Below n w w') (hn : hi ≤ n) : EO w' lo hi v e := by
  obtain ⟨s, hv, hk⟩ := h; exact ⟨s, hv, hk.under hb hn⟩
theorem EO.kept {w w' : World} {lo hi : Nat} {v : Value} {e : ExprD} (h : EO w lo hi v e) (hk : ∀ k, lo ≤ k → k < hi → w'.heap[k]? = w.heap[k]?) : EO w' lo hi v e := by
  obtain ⟨s, hv, h⟩ := h; exact ⟨s, hv, h.kept hk⟩
theorem EO.wide {w : World} {lo hi lo' hi' : Nat} {v : Value} {e : ExprD} (h : EO w lo hi v e) (hl : lo' ≤ lo) (hh : hi ≤ hi') : EO w lo' hi' v e := by
  obtain ⟨s, hv, h⟩ := h; exact ⟨s, hv, h.wide hl hh⟩

mutual
/-- The marks, counted on from k. -/
def markE (k : Int) : ExprD → ExprD
  | .mk _ _ _ _ ks => .mk k (k + 1) (k + 2) (k + 3) (markL (k + 4) ks)
def markL (k : Int) : List ExprD → List ExprD
  | [] => []
  | e :: es => markE k e :: markL (k + 4 * (manyE e : Int)) es
end

theorem markE_eq (k : Int) (e : ExprD) : markE k e = .mk k (k + 1) (k + 2) (k + 3) (markL (k + 4) e.kids) := by cases e; rw [markE]; rfl

theorem markL_length (k : Int) (es : List ExprD) : (markL k es).length = es.length := by
  induction es generalizing k with
  | nil => rw [markL]
  | cons e es ih => rw [markL, List.length_cons, List.length_cons, ih]

theorem markL_at {k : Int} {es : List ExprD} {i : Nat} {e : ExprD} (h : es[i]? = some e) : (markL k es)[i]? = some (markE (k + 4 * (manyL (es.take i) : Int)) e) := by
  induction es generalizing k i with
  | nil => simp at h
  | cons x xs ih =>
    cases i with
    | zero =>
      simp at h
      subst h
      rw [markL]
      simp [manyL]
    | succ i =>
      simp at h
      rw [markL, List.getElem?_cons_succ, ih h, List.take_succ_cons, manyL]
      congr 2
      omega

theorem mark_many (n : Nat) : ∀ (es : List ExprD) (k : Int), manyL es ≤ n → manyL (markL k es) = manyL es := by
  induction n with
  | zero =>
    intro es k h
    cases es with
    | nil => rw [markL]
    | cons e es => rw [manyL, manyE_eq] at h; omega
  | succ n ih =>
    intro es k h
    induction es generalizing k with
    | nil => rw [markL]
    | cons e es ih2 =>
      rw [manyL, manyE_eq] at h
      rw [markL, manyL, manyL, ih2 _ (by omega), markE_eq, manyE_eq, manyE_eq]
      show manyL (markL (k + 4) e.kids) + 1 + _ = _
      rw [ih _ _ (by omega)]
end Go.Proofs.YtkeockippmmneaaGreat
