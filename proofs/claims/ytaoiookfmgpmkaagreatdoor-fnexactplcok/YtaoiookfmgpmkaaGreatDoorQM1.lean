import Derived.Test.YtaoiookfmgpmkaaGreatDoorRows
import Derived.WalkKit
import Derived.ProofKit
import Derived.OpenShut
import Derived.ShutString
import Derived.Outline
import Derived.Below
import Derived.Deep.QuietTactic
import Derived.BigQuiet
import Derived.WalkSmall
import Derived.Laws.ResultCell
import Derived.Laws.IdiomCopy
import Derived.Deep.WholeRow
import Derived.Maps.AppendAt
import Derived.Deep.AppendLies
import Derived.Deep.Upon

/-
 Small lemmas that all our texts use: equal endings, old cells behind new blocks, one cell written.
-/
namespace Go.Proofs.YtaoiookfmgpmkaaGreatDoor
open Go.ChangeShapes Go.WideShapes Go.ChangeAt Go.RowKit

theorem ret_int {k : IntKind} {a b : Int} (h : a = b) : Ending.returned (.int k a) = .returned (.int k b) := by rw [h]
theorem ret_bool {a b : Bool} (h : a = b) : Ending.returned (.bool a) = .returned (.bool b) := by rw [h]

theorem bcell {W w1 : World} (hb : Below W.heap.size W w1) : (∀ b o, b < W.heap.size → w1.cell? ⟨b, o, none⟩ = W.cell? ⟨b, o, none⟩) ∧ (∀ b o, b < W.heap.size → w1.frozen? ⟨b, o, none⟩ = W.frozen? ⟨b, o, none⟩) :=
 ⟨fun b o h => hb.cell (p := ⟨b, o, none⟩) h, fun b o h => hb.frozen (p := ⟨b, o, none⟩) h⟩

theorem cell_set_other (w : World) {B o b o' : Nat} {v : Value} (h : b ≠ B ∨ o' ≠ o) : (w.setCell ⟨B, o, none⟩ v).cell? ⟨b, o', none⟩ = w.cell? ⟨b, o', none⟩ :=
 World.cell?_setCell_other w _ _ _ (by intro e; simp only [Addr.mk.injEq] at e; omega)

theorem below_two {w w1 w2 : World} (h1 : Below w.heap.size w w1) (h2 : Below w1.heap.size w1 w2) : Below w.heap.size w w2 :=
 h1.trans (h2.mono h1.size)

end Go.Proofs.YtaoiookfmgpmkaaGreatDoor

/-
 Trees of what is reckoned (Expr) as data, and how they lie in memory: KR: lists of kids that can be read; KO: lists that are owned, each in blocks of its own.
-/
namespace Go.Proofs.YtaoiookfmgpmkaaGreatDoor
open Go.ChangeShapes Go.WideShapes Go.ChangeAt Go.RowKit
set_option linter.unusedVariables false

inductive ExprD where
 | mk (k n ak at_ : Int) (kids : List ExprD)

def ExprD.k : ExprD → Int | .mk k _ _ _ _ => k
def ExprD.n : ExprD → Int | .mk _ n _ _ _ => n
def ExprD.ak : ExprD → Int | .mk _ _ a _ _ => a
def ExprD.at_ : ExprD → Int | .mk _ _ _ t _ => t
def ExprD.kids : ExprD → List ExprD | .mk _ _ _ _ ks => ks

mutual
def manyE : ExprD → Nat
 | .mk _ _ _ _ ks => manyL ks + 1
def manyL : List ExprD → Nat
 | [] => 0
 | e :: es => manyE e + manyL es
end

theorem manyE_eq (e : ExprD) : manyE e = manyL e.kids + 1 := by cases e; rw [manyE]; rfl

theorem manyL_append (xs ys : List ExprD) : manyL (xs ++ ys) = manyL xs + manyL ys := by
 induction xs with
 | nil => rw [List.nil_append, manyL]; omega
 | cons x xs ih => rw [List.cons_append, manyL, manyL, ih]; omega

theorem manyL_take_succ {es : List ExprD} {i : Nat} {e : ExprD} (h : es[i]? = some e) : manyL (es.take (i + 1)) = manyL (es.take i) + manyE e := by
 rw [List.take_add_one, h, manyL_append]
 show manyL (es.take i) + manyL [e] = _
 rw [manyL, manyL]
 omega

theorem manyL_take_le (es : List ExprD) (i : Nat) : manyL (es.take i) ≤ manyL es := by
 have h := manyL_append (es.take i) (es.drop i)
 rw [List.take_append_drop] at h
 omega

theorem length_le_manyL (es : List ExprD) : es.length ≤ manyL es := by
 induction es with
 | nil => rw [manyL]; exact Nat.le_refl _
 | cons e es ih => rw [manyL, manyE_eq, List.length_cons]; omega

theorem kid_lt {es : List ExprD} {i : Nat} {e : ExprD} (h : es[i]? = some e) : manyL e.kids < manyL es := by
 have h1 := manyL_take_succ h
 have h2 := manyL_take_le es (i + 1)
 have h3 := manyE_eq e
 omega

structure Cell5 (w : World) (b o : Nat) (e : ExprD) (s : Value) : Prop where
 c0 : w.cell? ⟨b, o, none⟩ = some (.int .i64 e.k)
 c1 : w.cell? ⟨b, o + 1, none⟩ = some (.int .i64 e.n)
 c2 : w.cell? ⟨b, o + 2, none⟩ = some (.int .i64 e.ak)
 c3 : w.cell? ⟨b, o + 3, none⟩ = some (.int .i64 e.at_)
 c4 : w.cell? ⟨b, o + 4, none⟩ = some s

theorem Cell5.kept {w w' : World} {b o : Nat} {e : ExprD} {s : Value} (h : Cell5 w b o e s) (hk : w'.heap[b]? = w.heap[b]?) : Cell5 w' b o e s :=
 ⟨by rw [World.cell?_of_block (w := w) hk]; exact h.c0, by rw [World.cell?_of_block (w := w) hk]; exact h.c1, by rw [World.cell?_of_block (w := w) hk]; exact h.c2, by rw [World.cell?_of_block (w := w) hk]; exact h.c3, by rw [World.cell?_of_block (w := w) hk]; exact h.c4⟩

inductive KR (w : World) (lo hi : Nat) : Value → List ExprD → Prop
 | nil (ad : Option Go.Addr) (cap : Nat) (hc : cap ≤ maxLen) : KR w lo hi (.slice ad 0 cap) []
 | cons (b off cap : Nat) (es : List ExprD) (ss : Nat → Value) (h0 : es ≠ []) (h1 : es.length ≤ cap) (h2 : cap ≤ maxLen) (h3 : lo ≤ b) (h4 : b < hi)
   (hc : ∀ i e, es[i]? = some e → Cell5 w b (off + i * 5) e (ss i)) (hk : ∀ i e, es[i]? = some e → KR w lo hi (ss i) e.kids) : KR w lo hi (.slice (some ⟨b, off, none⟩) es.length cap) es

theorem KR.shape {w : World} {lo hi : Nat} {v : Value} {es : List ExprD} (h : KR w lo hi v es) : ∃ ad cap, v = .slice ad es.length cap ∧ es.length ≤ cap ∧ cap ≤ maxLen := by
 cases h with
 | nil ad cap hc => exact ⟨ad, cap, rfl, Nat.zero_le _, hc⟩
 | cons b off cap es ss h0 h1 h2 => exact ⟨_, cap, rfl, h1, h2⟩

theorem KR.at_ {w : World} {lo hi : Nat} {v : Value} {es : List ExprD} (h : KR w lo hi v es) {i : Nat} {e : ExprD} (hie : es[i]? = some e) :
  ∃ b off cap s, v = .slice (some ⟨b, off, none⟩) es.length cap ∧ lo ≤ b ∧ b < hi ∧ Cell5 w b (off + i * 5) e s ∧ KR w lo hi s e.kids := by
 cases h with
 | nil ad cap hc => simp at hie
 | cons b off cap es ss h0 h1 h2 h3 h4 hc hk => exact ⟨b, off, cap, ss i, rfl, h3, h4, hc i e hie, hk i e hie⟩

theorem KR.kept {w w' : World} {lo hi : Nat} {v : Value} {es : List ExprD} (h : KR w lo hi v es) (hk : ∀ k, lo ≤ k → k < hi → w'.heap[k]? = w.heap[k]?) : KR w' lo hi v es := by
 induction h with
 | nil ad cap hc => exact .nil ad cap hc
 | cons b off cap es ss h0 h1 h2 h3 h4 hc _ ih => exact .cons b off cap es ss h0 h1 h2 h3 h4 (fun i e hi => (hc i e hi).kept (hk b h3 h4)) fun i e hi => ih i e hi

theorem KR.under {w w' : World} {lo hi n : Nat} {v : Value} {es : List ExprD} (h : KR w lo hi v es) (hb : Below n w w') (hn : hi ≤ n) : KR w' lo hi v es :=
 h.kept fun k _ hk => hb.block k (by omega)

theorem KR.wide {w : World} {lo hi lo' hi' : Nat} {v : Value} {es : List ExprD} (h : KR w lo hi v es) (hl : lo' ≤ lo) (hh : hi ≤ hi') : KR w lo' hi' v es := by
 induction h with
 | nil ad cap hc => exact .nil ad cap hc
 | cons b off cap es ss h0 h1 h2 h3 h4 hc _ ih => exact .cons b off cap es ss h0 h1 h2 (by omega) (by omega) hc ih

inductive KO (w : World) : Nat → Nat → Value → List ExprD → Prop
 | nil (lo hi : Nat) (ad : Option Go.Addr) (cap : Nat) (hc : cap ≤ maxLen) : KO w lo hi (.slice ad 0 cap) []
 | cons (lo hi b off cap : Nat) (es : List ExprD) (ss : Nat → Value) (l h : Nat → Nat) (h0 : es ≠ []) (h1 : es.length ≤ cap) (h2 : cap ≤ maxLen) (h3 : lo ≤ b) (h4 : b < hi)
   (hf : ∀ o, w.frozen? ⟨b, off + o, none⟩ = false) (hc : ∀ i e, es[i]? = some e → Cell5 w b (off + i * 5) e (ss i))
   (hr : ∀ i, i < es.length → lo ≤ l i ∧ h i ≤ hi ∧ (b < l i ∨ h i ≤ b)) (hd : ∀ i j, i < j → j < es.length → h i ≤ l j ∨ h j ≤ l i)
   (hk : ∀ i e, es[i]? = some e → KO w (l i) (h i) (ss i) e.kids) : KO w lo hi (.slice (some ⟨b, off, none⟩) es.length cap) es

theorem KO.kr {w : World} {lo hi : Nat} {v : Value} {es : List ExprD} (h : KO w lo hi v es) : KR w lo hi v es := by
 induction h with
 | nil lo hi ad cap hc => exact .nil ad cap hc
 | cons lo hi b off cap es ss l h h0 h1 h2 h3 h4 hf hc hr hd _ ih =>
  refine .cons b off cap es ss h0 h1 h2 h3 h4 hc fun i e hi => ?_
  have hil : i < es.length := (List.getElem?_eq_some_iff.mp hi).1
  exact (ih i e hi).wide (hr i hil).1 (hr i hil).2.1

theorem KO.kept {w w' : World} {lo hi : Nat} {v : Value} {es : List ExprD} (h : KO w lo hi v es) (hk : ∀ k, lo ≤ k → k < hi → w'.heap[k]? = w.heap[k]?) : KO w' lo hi v es := by
 induction h with
 | nil lo hi ad cap hc => exact .nil lo hi ad cap hc
 | cons lo hi b off cap es ss l h h0 h1 h2 h3 h4 hf hc hr hd _ ih =>
  refine .cons lo hi b off cap es ss l h h0 h1 h2 h3 h4 (fun o => ?_) (fun i e hi => (hc i e hi).kept (hk b h3 h4)) hr hd fun i e hi => ih i e hi ?_
  ·rw [World.frozen?_of_block (w := w) (hk b h3 h4)]; exact hf o
  ·have hil : i < es.length := (List.getElem?_eq_some_iff.mp hi).1
   exact fun k hl hh => hk k (by have := (hr i hil).1; omega) (by have := (hr i hil).2.1; omega)

theorem KO.under {w w' : World} {lo hi n : Nat} {v : Value} {es : List ExprD} (h : KO w lo hi v es) (hb : Below n w w') (hn : hi ≤ n) : KO w' lo hi v es :=
 h.kept fun k _ hk => hb.block k (by omega)

theorem KO.wide {w : World} {lo hi lo' hi' : Nat} {v : Value} {es : List ExprD} (h : KO w lo hi v es) (hl : lo' ≤ lo) (hh : hi ≤ hi') : KO w lo' hi' v es := by
 cases h with
 | nil lo hi ad cap hc => exact .nil _ _ ad cap hc
 | cons lo hi b off cap es ss l h h0 h1 h2 h3 h4 hf hc hr hd hk =>
  exact .cons _ _ b off cap es ss l h h0 h1 h2 (by omega) (by omega) hf hc (fun i hi => by have := hr i hi; omega) hd hk

def ER (w : World) (lo hi : Nat) (v : Value) (e : ExprD) : Prop := ∃ s, v = .agg #[.int .i64 e.k, .int .i64 e.n, .int .i64 e.ak, .int .i64 e.at_, s] ∧ KR w lo hi s e.kids

def EO (w : World) (lo hi : Nat) (v : Value) (e : ExprD) : Prop := ∃ s, v = .agg #[.int .i64 e.k, .int .i64 e.n, .int .i64 e.ak, .int .i64 e.at_, s] ∧ KO w lo hi s e.kids

theorem ER.below {w w' : World} {lo hi n : Nat} {v : Value} {e : ExprD} (h : ER w lo hi v e) (hb : Below n w w') (hn : hi ≤ n) : ER w' lo hi v e := by
 obtain ⟨s, hv, hk⟩ := h; exact ⟨s, hv, hk.under hb hn⟩
theorem EO.below {w w' : World} {lo hi n : Nat} {v : Value} {e : ExprD} (h : EO w lo hi v e) (hb : Below n w w') (hn : hi ≤ n) : EO w' lo hi v e := by
 obtain ⟨s, hv, hk⟩ := h; exact ⟨s, hv, hk.under hb hn⟩
theorem EO.kept {w w' : World} {lo hi : Nat} {v : Value} {e : ExprD} (h : EO w lo hi v e) (hk : ∀ k, lo ≤ k → k < hi → w'.heap[k]? = w.heap[k]?) : EO w' lo hi v e := by
 obtain ⟨s, hv, h⟩ := h; exact ⟨s, hv, h.kept hk⟩
theorem EO.wide {w : World} {lo hi lo' hi' : Nat} {v : Value} {e : ExprD} (h : EO w lo hi v e) (hl : lo' ≤ lo) (hh : hi ≤ hi') : EO w lo' hi' v e := by
 obtain ⟨s, hv, h⟩ := h; exact ⟨s, hv, h.wide hl hh⟩

mutual
def markE (k : Int) : ExprD → ExprD
 | .mk _ _ _ _ ks => .mk k (k + 1) (k + 2) (k + 3) (markL (k + 4) ks)
def markL (k : Int) : List ExprD → List ExprD
 | [] => []
 | e :: es => markE k e :: markL (k + 4 * (manyE e : Int)) es
end

end Go.Proofs.YtaoiookfmgpmkaaGreatDoor

/-
 Statements (Stmt) as data, and how lists of them lie in memory: SR: lists that can be read; SO: lists that are owned, each in blocks of its own.
-/
namespace Go.Proofs.YtaoiookfmgpmkaaGreatDoor
open Go.ChangeShapes Go.WideShapes Go.ChangeAt Go.RowKit
set_option linter.unusedVariables false

inductive StmtD where
 | mk (k tk ta : Int) (e : ExprD) (th el : List StmtD)

def StmtD.k : StmtD → Int | .mk k _ _ _ _ _ => k
def StmtD.tk : StmtD → Int | .mk _ x _ _ _ _ => x
def StmtD.ta : StmtD → Int | .mk _ _ x _ _ _ => x
def StmtD.e : StmtD → ExprD | .mk _ _ _ x _ _ => x
def StmtD.th : StmtD → List StmtD | .mk _ _ _ _ x _ => x
def StmtD.el : StmtD → List StmtD | .mk _ _ _ _ _ x => x

theorem stmtD_eq {x y : StmtD} : x = y ↔ x.k = y.k ∧ (x.tk = y.tk ∧ x.ta = y.ta) ∧ x.e = y.e ∧ x.th = y.th ∧ x.el = y.el := by
 cases x; cases y; simp [StmtD.k, StmtD.tk, StmtD.ta, StmtD.e, StmtD.th, StmtD.el, and_assoc]

mutual
def sizeS : StmtD → Nat
 | .mk _ _ _ e th el => manyL e.kids + sizeL th + sizeL el + 1
def sizeL : List StmtD → Nat
 | [] => 0
 | s :: ss => sizeS s + sizeL ss
end

theorem sizeS_eq (s : StmtD) : sizeS s = manyL s.e.kids + sizeL s.th + sizeL s.el + 1 := by cases s; rw [sizeS]; rfl

theorem sizeL_append (xs ys : List StmtD) : sizeL (xs ++ ys) = sizeL xs + sizeL ys := by
 induction xs with
 | nil => rw [List.nil_append, sizeL]; omega
 | cons x xs ih => rw [List.cons_append, sizeL, sizeL, ih]; omega

theorem sizeL_take_succ {ss : List StmtD} {i : Nat} {s : StmtD} (h : ss[i]? = some s) : sizeL (ss.take (i + 1)) = sizeL (ss.take i) + sizeS s := by
 rw [List.take_add_one, h, sizeL_append]
 show sizeL (ss.take i) + sizeL [s] = _
 rw [sizeL, sizeL]
 omega

theorem sizeL_take_le (ss : List StmtD) (i : Nat) : sizeL (ss.take i) ≤ sizeL ss := by
 have h := sizeL_append (ss.take i) (ss.drop i)
 rw [List.take_append_drop] at h
 omega

theorem length_le_sizeL (ss : List StmtD) : ss.length ≤ sizeL ss := by
 induction ss with
 | nil => rw [sizeL]; exact Nat.le_refl _
 | cons s ss ih => rw [sizeL, sizeS_eq, List.length_cons]; omega

theorem stmt_lt {ss : List StmtD} {i : Nat} {s : StmtD} (h : ss[i]? = some s) : manyL s.e.kids + sizeL s.th + sizeL s.el < sizeL ss := by
 have h1 := sizeL_take_succ h
 have h2 := sizeL_take_le ss (i + 1)
 have h3 := sizeS_eq s
 omega

theorem size_rest (ss : List StmtD) (j : Nat) (hj : j ≤ ss.length) : sizeL (ss.take j) + (ss.length - j) ≤ sizeL ss := by
 have h := sizeL_append (ss.take j) (ss.drop j)
 rw [List.take_append_drop] at h
 have h2 := length_le_sizeL (ss.drop j)
 rw [List.length_drop] at h2
 omega

theorem take_le_size (ss : List StmtD) (j : Nat) (hj : j ≤ ss.length) : j ≤ sizeL (ss.take j) := by
 have h2 := length_le_sizeL (ss.take j)
 rw [List.length_take] at h2
 omega

structure Cell10 (w : World) (b o : Nat) (s : StmtD) (x y z : Value) : Prop where
 c0 : w.cell? ⟨b, o, none⟩ = some (.int .i64 s.k)
 c1 : w.cell? ⟨b, o + 1, none⟩ = some (.int .i64 s.tk)
 c2 : w.cell? ⟨b, o + 2, none⟩ = some (.int .i64 s.ta)
 c3 : w.cell? ⟨b, o + 3, none⟩ = some (.int .i64 s.e.k)
 c4 : w.cell? ⟨b, o + 4, none⟩ = some (.int .i64 s.e.n)
 c5 : w.cell? ⟨b, o + 5, none⟩ = some (.int .i64 s.e.ak)
 c6 : w.cell? ⟨b, o + 6, none⟩ = some (.int .i64 s.e.at_)
 c7 : w.cell? ⟨b, o + 7, none⟩ = some x
 c8 : w.cell? ⟨b, o + 8, none⟩ = some y
 c9 : w.cell? ⟨b, o + 9, none⟩ = some z

theorem Cell10.kept {w w' : World} {b o : Nat} {s : StmtD} {x y z : Value} (h : Cell10 w b o s x y z) (hk : w'.heap[b]? = w.heap[b]?) : Cell10 w' b o s x y z :=
 ⟨by rw [World.cell?_of_block (w := w) hk]; exact h.c0, by rw [World.cell?_of_block (w := w) hk]; exact h.c1, by rw [World.cell?_of_block (w := w) hk]; exact h.c2, by rw [World.cell?_of_block (w := w) hk]; exact h.c3, by rw [World.cell?_of_block (w := w) hk]; exact h.c4,
  by rw [World.cell?_of_block (w := w) hk]; exact h.c5, by rw [World.cell?_of_block (w := w) hk]; exact h.c6, by rw [World.cell?_of_block (w := w) hk]; exact h.c7, by rw [World.cell?_of_block (w := w) hk]; exact h.c8, by rw [World.cell?_of_block (w := w) hk]; exact h.c9⟩

inductive SR (w : World) (lo hi : Nat) : Value → List StmtD → Prop
 | nil (ad : Option Go.Addr) (cap : Nat) (hc : cap ≤ maxLen) : SR w lo hi (.slice ad 0 cap) []
 | cons (b off cap : Nat) (ss : List StmtD) (x y z : Nat → Value) (h0 : ss ≠ []) (h1 : ss.length ≤ cap) (h2 : cap ≤ maxLen) (h3 : lo ≤ b) (h4 : b < hi)
   (hc : ∀ i s, ss[i]? = some s → Cell10 w b (off + i * 10) s (x i) (y i) (z i)) (he : ∀ i s, ss[i]? = some s → KR w lo hi (x i) s.e.kids)
   (ht : ∀ i s, ss[i]? = some s → SR w lo hi (y i) s.th) (hl : ∀ i s, ss[i]? = some s → SR w lo hi (z i) s.el) : SR w lo hi (.slice (some ⟨b, off, none⟩) ss.length cap) ss

theorem SR.shape {w : World} {lo hi : Nat} {v : Value} {ss : List StmtD} (h : SR w lo hi v ss) : ∃ ad cap, v = .slice ad ss.length cap ∧ ss.length ≤ cap ∧ cap ≤ maxLen := by
 cases h with
 | nil ad cap hc => exact ⟨ad, cap, rfl, Nat.zero_le _, hc⟩
 | cons b off cap ss x y z h0 h1 h2 => exact ⟨_, cap, rfl, h1, h2⟩

theorem SR.at_ {w : World} {lo hi : Nat} {v : Value} {ss : List StmtD} (h : SR w lo hi v ss) {i : Nat} {s : StmtD} (hi' : ss[i]? = some s) :
  ∃ b off cap x y z, v = .slice (some ⟨b, off, none⟩) ss.length cap ∧ lo ≤ b ∧ b < hi ∧ Cell10 w b (off + i * 10) s x y z ∧ KR w lo hi x s.e.kids ∧ SR w lo hi y s.th ∧ SR w lo hi z s.el := by
 cases h with
 | nil ad cap hc => simp at hi'
 | cons b off cap ss x y z h0 h1 h2 h3 h4 hc he ht hl => exact ⟨b, off, cap, x i, y i, z i, rfl, h3, h4, hc i s hi', he i s hi', ht i s hi', hl i s hi'⟩

theorem SR.kept {w w' : World} {lo hi : Nat} {v : Value} {ss : List StmtD} (h : SR w lo hi v ss) (hk : ∀ k, lo ≤ k → k < hi → w'.heap[k]? = w.heap[k]?) : SR w' lo hi v ss := by
 induction h with
 | nil ad cap hc => exact .nil ad cap hc
 | cons b off cap ss x y z h0 h1 h2 h3 h4 hc he _ _ iht ihl => exact .cons b off cap ss x y z h0 h1 h2 h3 h4 (fun i e hi => (hc i e hi).kept (hk b h3 h4)) (fun i e hi => (he i e hi).kept hk) (fun i e hi => iht i e hi) fun i e hi => ihl i e hi

theorem SR.under {w w' : World} {lo hi n : Nat} {v : Value} {ss : List StmtD} (h : SR w lo hi v ss) (hb : Below n w w') (hn : hi ≤ n) : SR w' lo hi v ss :=
 h.kept fun k _ hk => hb.block k (by omega)

theorem SR.wide {w : World} {lo hi lo' hi' : Nat} {v : Value} {ss : List StmtD} (h : SR w lo hi v ss) (hl : lo' ≤ lo) (hh : hi ≤ hi') : SR w lo' hi' v ss := by
 induction h with
 | nil ad cap hc => exact .nil ad cap hc
 | cons b off cap ss x y z h0 h1 h2 h3 h4 hc he _ _ iht ihl => exact .cons b off cap ss x y z h0 h1 h2 (by omega) (by omega) hc (fun i e hi => (he i e hi).wide hl hh) iht ihl

structure Rg where
 l : Nat
 h : Nat
 a0 : Nat
 a1 : Nat
 b0 : Nat
 b1 : Nat
 c0 : Nat
 c1 : Nat

structure Rg.Ok (r : Rg) (lo hi b : Nat) : Prop where
 lo_ : lo ≤ r.l
 hi_ : r.h ≤ hi
 apart : b < r.l ∨ r.h ≤ b
 a : r.l ≤ r.a0 ∧ r.a1 ≤ r.h
 b : r.l ≤ r.b0 ∧ r.b1 ≤ r.h
 c : r.l ≤ r.c0 ∧ r.c1 ≤ r.h
 ab : r.a1 ≤ r.b0 ∨ r.b1 ≤ r.a0
 ac : r.a1 ≤ r.c0 ∨ r.c1 ≤ r.a0
 bc : r.b1 ≤ r.c0 ∨ r.c1 ≤ r.b0

inductive SO (w : World) : Nat → Nat → Value → List StmtD → Prop
 | nil (lo hi : Nat) (ad : Option Go.Addr) (cap : Nat) (hc : cap ≤ maxLen) : SO w lo hi (.slice ad 0 cap) []
 | cons (lo hi b off cap : Nat) (ss : List StmtD) (x y z : Nat → Value) (r : Nat → Rg) (h0 : ss ≠ []) (h1 : ss.length ≤ cap) (h2 : cap ≤ maxLen) (h3 : lo ≤ b) (h4 : b < hi)
   (hf : ∀ o, w.frozen? ⟨b, off + o, none⟩ = false) (hc : ∀ i s, ss[i]? = some s → Cell10 w b (off + i * 10) s (x i) (y i) (z i))
   (hr : ∀ i, i < ss.length → (r i).Ok lo hi b) (hd : ∀ i j, i < j → j < ss.length → (r i).h ≤ (r j).l ∨ (r j).h ≤ (r i).l)
   (he : ∀ i s, ss[i]? = some s → KO w (r i).a0 (r i).a1 (x i) s.e.kids) (ht : ∀ i s, ss[i]? = some s → SO w (r i).b0 (r i).b1 (y i) s.th)
   (hl : ∀ i s, ss[i]? = some s → SO w (r i).c0 (r i).c1 (z i) s.el) : SO w lo hi (.slice (some ⟨b, off, none⟩) ss.length cap) ss

theorem SO.sr {w : World} {lo hi : Nat} {v : Value} {ss : List StmtD} (h : SO w lo hi v ss) : SR w lo hi v ss := by
 induction h with
 | nil lo hi ad cap hc => exact .nil ad cap hc
 | cons lo hi b off cap ss x y z r h0 h1 h2 h3 h4 hf hc hr hd he _ _ iht ihl =>
  have key : ∀ i s, ss[i]? = some s → lo ≤ (r i).a0 ∧ (r i).a1 ≤ hi ∧ lo ≤ (r i).b0 ∧ (r i).b1 ≤ hi ∧ lo ≤ (r i).c0 ∧ (r i).c1 ≤ hi := fun i s hi => by
   obtain ⟨r1, r2, r3, r4, r5, r6, r7, r8, r9⟩ := hr i (List.getElem?_eq_some_iff.mp hi).1
   omega
  exact .cons b off cap ss x y z h0 h1 h2 h3 h4 hc (fun i s hi => (he i s hi).kr.wide (key i s hi).1 (key i s hi).2.1) (fun i s hi => (iht i s hi).wide (key i s hi).2.2.1 (key i s hi).2.2.2.1) fun i s hi => (ihl i s hi).wide (key i s hi).2.2.2.2.1 (key i s hi).2.2.2.2.2

theorem SO.kept {w w' : World} {lo hi : Nat} {v : Value} {ss : List StmtD} (h : SO w lo hi v ss) (hk : ∀ k, lo ≤ k → k < hi → w'.heap[k]? = w.heap[k]?) : SO w' lo hi v ss := by
 induction h with
 | nil lo hi ad cap hc => exact .nil lo hi ad cap hc
 | cons lo hi b off cap ss x y z r h0 h1 h2 h3 h4 hf hc hr hd he _ _ iht ihl =>
  have key : ∀ i s, ss[i]? = some s → lo ≤ (r i).a0 ∧ (r i).a1 ≤ hi ∧ lo ≤ (r i).b0 ∧ (r i).b1 ≤ hi ∧ lo ≤ (r i).c0 ∧ (r i).c1 ≤ hi := fun i s hi => by
   obtain ⟨r1, r2, r3, r4, r5, r6, r7, r8, r9⟩ := hr i (List.getElem?_eq_some_iff.mp hi).1
   omega
  refine .cons lo hi b off cap ss x y z r h0 h1 h2 h3 h4 (fun o => ?_) (fun i e hi => (hc i e hi).kept (hk b h3 h4)) hr hd (fun i s hi => (he i s hi).kept fun k q1 q2 => hk k ?_ ?_) (fun i s hi => iht i s hi fun k q1 q2 => hk k ?_ ?_) fun i s hi => ihl i s hi fun k q1 q2 => hk k ?_ ?_
  ·rw [World.frozen?_of_block (w := w) (hk b h3 h4)]; exact hf o
  all_goals (have := key i s hi; omega)

theorem SO.under {w w' : World} {lo hi n : Nat} {v : Value} {ss : List StmtD} (h : SO w lo hi v ss) (hb : Below n w w') (hn : hi ≤ n) : SO w' lo hi v ss :=
 h.kept fun k _ hk => hb.block k (by omega)

theorem SO.wide {w : World} {lo hi lo' hi' : Nat} {v : Value} {ss : List StmtD} (h : SO w lo hi v ss) (hl : lo' ≤ lo) (hh : hi ≤ hi') : SO w lo' hi' v ss := by
 cases h with
 | nil lo hi ad cap hc => exact .nil _ _ ad cap hc
 | cons lo hi b off cap ss x y z r h0 h1 h2 h3 h4 hf hc hr hd he ht hl' =>
  exact .cons _ _ b off cap ss x y z r h0 h1 h2 (by omega) (by omega) hf hc (fun i hi => by
   obtain ⟨r1, r2, r3, r4, r5, r6, r7, r8, r9⟩ := hr i hi
   exact ⟨by omega, by omega, r3, r4, r5, r6, r7, r8, r9⟩) hd he ht hl'

def stmtV (s : StmtD) (x y z : Value) : Value := .agg #[.int .i64 s.k, .int .i64 s.tk, .int .i64 s.ta, .int .i64 s.e.k, .int .i64 s.e.n, .int .i64 s.e.ak, .int .i64 s.e.at_, x, y, z]

structure TenW (u : World) (V : Nat) (x0 x1 x2 x3 x4 x5 x6 x7 x8 x9 : Value) : Prop where
 c0 : u.cell? ⟨V, 0, none⟩ = some x0
 c1 : u.cell? ⟨V, 1, none⟩ = some x1
 c2 : u.cell? ⟨V, 2, none⟩ = some x2
 c3 : u.cell? ⟨V, 3, none⟩ = some x3
 c4 : u.cell? ⟨V, 4, none⟩ = some x4
 c5 : u.cell? ⟨V, 5, none⟩ = some x5
 c6 : u.cell? ⟨V, 6, none⟩ = some x6
 c7 : u.cell? ⟨V, 7, none⟩ = some x7
 c8 : u.cell? ⟨V, 8, none⟩ = some x8
 c9 : u.cell? ⟨V, 9, none⟩ = some x9
 f : ∀ o, u.frozen? ⟨V, o, none⟩ = false

theorem tenW_new (u : World) (x0 x1 x2 x3 x4 x5 x6 x7 x8 x9 : Value) (t : TypeId) : TenW (u.alloc (.cells #[x0, x1, x2, x3, x4, x5, x6, x7, x8, x9] t)) u.heap.size x0 x1 x2 x3 x4 x5 x6 x7 x8 x9 :=
 ⟨World.cell?_alloc_new _ _ _ _, World.cell?_alloc_new _ _ _ _, World.cell?_alloc_new _ _ _ _, World.cell?_alloc_new _ _ _ _, World.cell?_alloc_new _ _ _ _, World.cell?_alloc_new _ _ _ _, World.cell?_alloc_new _ _ _ _, World.cell?_alloc_new _ _ _ _, World.cell?_alloc_new _ _ _ _, World.cell?_alloc_new _ _ _ _, fun o => World.frozen?_alloc_new _ _ _ _⟩
theorem TenW.at_ {u u' : World} {V : Nat} {x0 x1 x2 x3 x4 x5 x6 x7 x8 x9 : Value} (h : TenW u V x0 x1 x2 x3 x4 x5 x6 x7 x8 x9) (hk : u'.heap[V]? = u.heap[V]?) : TenW u' V x0 x1 x2 x3 x4 x5 x6 x7 x8 x9 :=
 ⟨by rw [World.cell?_of_block (w := u) hk]; exact h.c0, by rw [World.cell?_of_block (w := u) hk]; exact h.c1, by rw [World.cell?_of_block (w := u) hk]; exact h.c2, by rw [World.cell?_of_block (w := u) hk]; exact h.c3, by rw [World.cell?_of_block (w := u) hk]; exact h.c4, by rw [World.cell?_of_block (w := u) hk]; exact h.c5, by rw [World.cell?_of_block (w := u) hk]; exact h.c6, by rw [World.cell?_of_block (w := u) hk]; exact h.c7, by rw [World.cell?_of_block (w := u) hk]; exact h.c8, by rw [World.cell?_of_block (w := u) hk]; exact h.c9,
  fun o => by rw [World.frozen?_of_block (w := u) hk]; exact h.f o⟩
theorem TenW.under {u u' : World} {V n : Nat} {x0 x1 x2 x3 x4 x5 x6 x7 x8 x9 : Value} (h : TenW u V x0 x1 x2 x3 x4 x5 x6 x7 x8 x9) (hb : Below n u u') (hV : V < n) : TenW u' V x0 x1 x2 x3 x4 x5 x6 x7 x8 x9 := h.at_ (hb.block V hV)
theorem tenW_of_block {u : World} {B : Nat} {x0 x1 x2 x3 x4 x5 x6 x7 x8 x9 : Value} {t : TypeId} (h : u.heap[B]? = some (.cells #[x0, x1, x2, x3, x4, x5, x6, x7, x8, x9] t)) : TenW u B x0 x1 x2 x3 x4 x5 x6 x7 x8 x9 :=
 ⟨by simp [World.cell?, h], by simp [World.cell?, h], by simp [World.cell?, h], by simp [World.cell?, h], by simp [World.cell?, h], by simp [World.cell?, h], by simp [World.cell?, h], by simp [World.cell?, h], by simp [World.cell?, h], by simp [World.cell?, h], fun o => by simp [World.frozen?, h]⟩
end Go.Proofs.YtaoiookfmgpmkaaGreatDoor

/-
 Worlds that differ in a range of blocks alone.
-/
namespace Go.Proofs.YtaoiookfmgpmkaaGreatDoor
open Go.ChangeShapes Go.WideShapes Go.ChangeAt Go.RowKit
set_option linter.unusedVariables false

structure Out (lo hi : Nat) (w w' : World) : Prop where
 os : w'.os = w.os
 tape : w'.tape = w.tape
 output : w'.output = w.output
 size : w.heap.size ≤ w'.heap.size
 block : ∀ k, k < w.heap.size → k < lo ∨ hi ≤ k → w'.heap[k]? = w.heap[k]?

theorem Out.trans {lo hi : Nat} {a b c : World} (h : Out lo hi a b) (k : Out lo hi b c) : Out lo hi a c :=
 ⟨k.os.trans h.os, k.tape.trans h.tape, k.output.trans h.output, Nat.le_trans h.size k.size, fun i h1 h2 => (k.block i (Nat.lt_of_lt_of_le h1 h.size) h2).trans (h.block i h1 h2)⟩

theorem Out.below {lo hi n : Nat} {w w' : World} (h : Out lo hi w w') (h1 : n ≤ lo) (h2 : n ≤ w.heap.size) : Below n w w' :=
 ⟨h.os, h.tape, h.output, h.size, fun k hk => h.block k (by omega) (.inl (by omega))⟩
end Go.Proofs.YtaoiookfmgpmkaaGreatDoor

/-
 Elements of several cells, in general: CV, cells one behind another; VarG, a variable of them; GR, a list that can be read; GO, a list that is owned; and the steps of a walk that box, make, load and store one whole.
-/
namespace Go.Proofs.YtaoiookfmgpmkaaGreatDoor
open Go.ChangeShapes Go.WideShapes Go.ChangeAt Go.RowKit
set_option linter.unusedVariables false
set_option linter.unusedSimpArgs false

theorem gadd (B o j : Nat) : (⟨B, o, none⟩ : Go.Addr).add j = ⟨B, o + j, none⟩ := by unfold Go.Addr.add; split <;> simp_all

def CV (w : World) (b o : Nat) (vs : List Value) : Prop := ∀ (j : Nat) (v : Value), vs[j]? = some v → w.cell? ⟨b, o + j, none⟩ = some v

theorem CV.kept {w w' : World} {b o : Nat} {vs : List Value} (h : CV w b o vs) (hk : w'.heap[b]? = w.heap[b]?) : CV w' b o vs :=
 fun j v hv => by rw [World.cell?_of_block (w := w) hk]; exact h j v hv
theorem CV.below {w w' : World} {b o n : Nat} {vs : List Value} (h : CV w b o vs) (hb : Below n w w') (hn : b < n) : CV w' b o vs := h.kept (hb.block b hn)
theorem CV.some_ {w : World} {b o : Nat} {vs : List Value} (h : CV w b o vs) {x : Nat} (h1 : o ≤ x) (h2 : x < o + vs.length) : (w.cell? ⟨b, x, none⟩).isSome = true := by
 have h3 := h (x - o) vs[x - o] (List.getElem?_eq_getElem (by omega))
 rw [show o + (x - o) = x by omega] at h3
 rw [h3]; rfl
theorem CV.part {w : World} {b o : Nat} {vs : List Value} (h : CV w b o vs) (i n : Nat) : CV w b (o + i) ((vs.drop i).take n) := fun j v hv => by
 rw [List.getElem?_take] at hv
 split at hv
 ·rw [List.getElem?_drop] at hv
  have := h (i + j) v hv
  rwa [← Nat.add_assoc] at this
 ·cases hv

theorem cv_new (w : World) (vs : List Value) (t : TypeId) : CV (w.alloc (.cells vs.toArray t)) w.heap.size 0 vs := fun j v hv => by
 rw [Nat.zero_add, cell_of_row _ _ j vs.toArray t (0, 0) (heap_alloc_last w _)]
 simpa using hv

structure VarG (w : World) (B : Nat) (vs : List Value) : Prop where
 c : CV w B 0 vs
 f : ∀ o, w.frozen? ⟨B, o, none⟩ = false

theorem VarG.at_ {w w' : World} {B : Nat} {vs : List Value} (h : VarG w B vs) (hk : w'.heap[B]? = w.heap[B]?) : VarG w' B vs :=
 ⟨h.c.kept hk, fun o => by rw [World.frozen?_of_block (w := w) hk]; exact h.f o⟩
theorem VarG.below {w w' : World} {B n : Nat} {vs : List Value} (h : VarG w B vs) (hb : Below n w w') (hB : B < n) : VarG w' B vs := h.at_ (hb.block B hB)
theorem varG_new (w : World) (vs : List Value) (t : TypeId) : VarG (w.alloc (.cells vs.toArray t)) w.heap.size vs :=
 ⟨cv_new w vs t, fun o => World.frozen?_alloc_new _ _ _ _⟩

theorem VarG.one {w : World} {B : Nat} {vs : List Value} (h : VarG w B vs) {i : Nat} (hi : i < vs.length) : (w.cell? ⟨B, i, none⟩).isSome = true := h.c.some_ (Nat.zero_le _) (by omega)
theorem VarG.run {w : World} {B : Nat} {vs : List Value} (h : VarG w B vs) (i n : Nat) (hn : i + n ≤ vs.length) : (∀ y, i ≤ y → y < i + n → (w.cell? ⟨B, y, none⟩).isSome = true) ∧ ∀ y, i ≤ y → y < i + n → w.frozen? ⟨B, y, none⟩ = false :=
 ⟨fun y _ h2 => h.one (by omega), fun y _ _ => h.f y⟩

structure LaidG (w u : World) (B o : Nat) (vs : List Value) : Prop where
 cv : CV u B o vs
 size : u.heap.size = w.heap.size
 block : ∀ k, k ≠ B → u.heap[k]? = w.heap[k]?
 cell : ∀ b x, b ≠ B ∨ x < o ∨ o + vs.length ≤ x → u.cell? ⟨b, x, none⟩ = w.cell? ⟨b, x, none⟩
 frozen : ∀ b x, u.frozen? ⟨b, x, none⟩ = w.frozen? ⟨b, x, none⟩
 below : ∀ n w0, n ≤ B → Below n w0 w → Below n w0 u

theorem size_setCells (b : Nat) : ∀ (vs : List Value) (o : Nat) (w : World), (w.setCells b o vs).heap.size = w.heap.size
 | [], _, _ => rfl
 | v :: r, o, w => by rw [World.setCells, size_setCells b r, World.size_setCell]
theorem block_setCells (b : Nat) {k : Nat} (hk : k ≠ b) : ∀ (vs : List Value) (o : Nat) (w : World), (w.setCells b o vs).heap[k]? = w.heap[k]?
 | [], _, _ => rfl
 | v :: r, o, w => by rw [World.setCells, block_setCells b hk r, Below.heap_setCell _ _ _ _ hk]
theorem below_setCells (b : Nat) {n : Nat} (hn : n ≤ b) (w0 : World) : ∀ (vs : List Value) (o : Nat) (w : World), Below n w0 w → Below n w0 (w.setCells b o vs)
 | [], _, _, h => h
 | v :: r, o, w, h => by rw [World.setCells]; exact below_setCells b hn w0 r (o + 1) _ (h.setCell (p := ⟨b, o, none⟩) hn v)

theorem laidG {w : World} {B o : Nat} (vs : List Value) (hs : ∀ x, o ≤ x → x < o + vs.length → (w.cell? ⟨B, x, none⟩).isSome = true) : LaidG w (w.setCells B o vs) B o vs :=
 ⟨fun j v hv => by
   have hj := (List.getElem?_eq_some_iff.mp hv).1
   rw [World.cell?_setCells_in B vs o w (fun j hj => hs _ (by omega) (by omega)) j hj, ← hv, List.getElem?_eq_getElem hj],
  size_setCells B vs o w, fun k hk => block_setCells B hk vs o w,
  fun b x hx => World.cell?_setCells_out B vs o w _ (fun h1 h2 => by simp only at h1 ⊢; omega),
  fun b x => World.frozen?_setCells B vs o w _, fun n w0 hn hb => below_setCells B hn w0 vs o w hb⟩

theorem LaidG.other {w u : World} {B o : Nat} {vs : List Value} (h : LaidG w u B o vs) {C : Nat} {us : List Value} (hc : VarG w C us) (hne : C ≠ B) : VarG u C us := hc.at_ (h.block C hne)
theorem LaidG.var {w u : World} {B : Nat} {vs us : List Value} (h : LaidG w u B 0 vs) (hc : VarG w B us) : VarG u B vs := ⟨h.cv, fun o => by rw [h.frozen]; exact hc.f o⟩

theorem VarG.laid {w u : World} {B i : Nat} {vs us : List Value} (h : VarG w B vs) (hL : LaidG w u B i us) {ws : List Value} (hw : ws = vs.take i ++ (us ++ vs.drop (i + us.length))) (hi : i + us.length ≤ vs.length) : VarG u B ws := by
 subst hw
 refine ⟨fun j v hv => ?_, fun o => by rw [hL.frozen]; exact h.f o⟩
 have ht : (vs.take i).length = i := by rw [List.length_take]; omega
 rw [Nat.zero_add]
 by_cases h1 : j < i
 ·rw [List.getElem?_append_left (by omega), List.getElem?_take, if_pos h1] at hv
  rw [hL.cell _ _ (.inr (.inl h1))]
  have := h.c j v hv
  rwa [Nat.zero_add] at this
 ·rw [List.getElem?_append_right (by omega), ht] at hv
  by_cases h2 : j < i + us.length
  ·rw [List.getElem?_append_left (by omega)] at hv
   have := hL.cv (j - i) v hv
   rwa [show i + (j - i) = j by omega] at this
  ·rw [List.getElem?_append_right (by omega), List.getElem?_drop, show i + us.length + (j - i - us.length) = j by omega] at hv
   rw [hL.cell _ _ (.inr (.inr (by omega)))]
   have := h.c j v hv
   rwa [Nat.zero_add] at this

theorem VarG.set {w : World} {B : Nat} {vs : List Value} (h : VarG w B vs) (i : Nat) (v : Value) (hi : i < vs.length) : VarG (w.setCell ⟨B, i, none⟩ v) B (vs.set i v) :=
 ⟨fun j x hx => by
   rw [Nat.zero_add]
   by_cases e : i = j
   ·subst e
    rw [List.getElem?_set_self hi] at hx
    rw [World.cell?_setCell_same' _ _ _ (h.c.some_ (by omega) (by omega)), hx]
   ·rw [List.getElem?_set_ne e] at hx
    rw [cell_set_other _ (.inr (by omega))]
    have := h.c j x hx
    rwa [Nat.zero_add] at this,
  fun o => by rw [World.frozen?_setCell]; exact h.f o⟩

section
variable {P : Program} {ops : Array Oper} {rest : List Oper} {o : Oper} {a : Act} {Q : Exit → Act → World → Prop} {K : Act → World → Prop} {w : World}

theorem wpList_want (hw : Region.wanted o (yielded ops a.tmps) = true) (h : ∀ K : Act → World → Prop, (∀ a w, wpList P ops Q rest a w → K a w) → o.wp P a w K Q) : wpList P ops Q (o :: rest) a w :=
 wpList_step fun K hK => by rw [if_pos hw]; exact h K hK

theorem run_loadVarG {T n : Nat} (hA : ∀ w, (isAgg T).run P w = .ok true w) (hS : ∀ w, (Go.sizeOf T).run P w = .ok n w) {B x : Nat} {vs : List Value} (hn : vs.length = n) (h : CV w B x vs) : (loadVar T ⟨B, x, none⟩).run P w = .ok (.agg vs.toArray) w := by
 have hl := run_loadCells_list (P := P) w ⟨B, x, none⟩ vs (fun j v hv => by rw [gadd]; exact h j v hv)
 rw [hn] at hl
 simp only [loadVar, Sem.run_bind, hA, hS, Result.andThen_ok, if_true, hl, Sem.run_pure]

theorem run_storeVarG {T n : Nat} (hS : ∀ w, (Go.sizeOf T).run P w = .ok n w) {B x : Nat} {vs : List Value} (hn : vs.length = n) (h1 : ∀ v ∈ vs, v.oneCell' = true) (hs : ∀ y, x ≤ y → y < x + vs.length → (w.cell? ⟨B, y, none⟩).isSome = true) (hf : ∀ y, x ≤ y → y < x + vs.length → w.frozen? ⟨B, y, none⟩ = false) :
  (storeVar T ⟨B, x, none⟩ (.agg vs.toArray)).run P w = .ok () (w.setCells B x vs) := by
 have hst := run_storeCells_cells (P := P) B x vs 0 w (fun j hj => hs _ (by omega) (by omega)) (fun j hj => hf _ (by omega) (by omega)) h1
 have e1 : (Value.agg vs.toArray).cells.size = n := by show vs.toArray.size = n; rw [List.size_toArray, hn]
 have e2 : (Value.agg vs.toArray).cells.toList = vs := rfl
 simp only [storeVar, Sem.run_bind, hS, Result.andThen_ok, e1, e2]
 simp only [ne_eq, not_true_eq_false, if_false, hst]
 rfl

theorem run_storeVar1 {T : Nat} (hS : ∀ w, (Go.sizeOf T).run P w = .ok 1 w) {B x : Nat} {v : Value} (hc : v.cells = #[v]) (h1 : v.oneCell' = true) (hs : (w.cell? ⟨B, x, none⟩).isSome = true) (hf : w.frozen? ⟨B, x, none⟩ = false) :
  (storeVar T ⟨B, x, none⟩ v).run P w = .ok () (w.setCells B x [v]) := by
 have hst := run_storeCells_cells (P := P) B x [v] 0 w (fun j hj => by simp at hj; subst hj; exact hs) (fun j hj => by simp at hj; subst hj; exact hf) (fun u hu => by simp at hu; rw [hu]; exact h1)
 have e1 : v.cells.size = 1 := by rw [hc]; rfl
 have e2 : v.cells.toList = [v] := by rw [hc]
 simp only [storeVar, Sem.run_bind, hS, Result.andThen_ok, e1, e2]
 simp only [ne_eq, not_true_eq_false, if_false, hst]
 rfl

theorem wp_store1G {T : Nat} (hS : ∀ w, (Go.sizeOf T).run P w = .ok 1 w) (p v : Operand) (hop : o.op = Op.store T p v) {B x : Nat} {z : Value} (hp : a.eval p = .pointer (some ⟨B, x, none⟩)) (hv : a.eval v = z) (hc : z.cells = #[z]) (h1 : z.oneCell' = true)
  (hs : (w.cell? ⟨B, x, none⟩).isSome = true) (hf : w.frozen? ⟨B, x, none⟩ = false)
  (hK : ∀ u1, LaidG w u1 B x [z] → K (a.put o.dst undef) u1) : o.wp P a w K Q := by
 unfold Oper.wp
 simp only [execOp, hop, hp, hv, Instr.storeAt, Instr.sureAddr, Sem.run_bind, Sem.run_pure, Result.andThen_ok, run_storeVar1 hS hc h1 hs hf]
 exact hK _ (laidG [z] fun y h2 h3 => by
  have : y = x := by simp at h3; omega
  rw [this]; exact hs)

theorem wp_loadG {T n : Nat} (hA : ∀ w, (isAgg T).run P w = .ok true w) (hS : ∀ w, (Go.sizeOf T).run P w = .ok n w) (p : Operand) (hop : o.op = Op.load T p) {B x : Nat} {vs : List Value} (hp : a.eval p = .pointer (some ⟨B, x, none⟩)) (hn : vs.length = n) (hb : CV w B x vs)
  (hK : K (a.put o.dst (.agg vs.toArray)) w) : o.wp P a w K Q := by
 unfold Oper.wp
 simp only [execOp, hop, hp, Instr.loadAt, Instr.sureAddr, Sem.run_bind, Sem.run_pure, Result.andThen_ok, run_loadVarG hA hS hn hb]
 exact hK

theorem wp_storeG {T n : Nat} (hS : ∀ w, (Go.sizeOf T).run P w = .ok n w) (p v : Operand) (hop : o.op = Op.store T p v) {B x : Nat} {vs : List Value} (hp : a.eval p = .pointer (some ⟨B, x, none⟩)) (hv : a.eval v = .agg vs.toArray) (hn : vs.length = n) (h1 : ∀ v ∈ vs, v.oneCell' = true)
  (hs : ∀ y, x ≤ y → y < x + vs.length → (w.cell? ⟨B, y, none⟩).isSome = true) (hf : ∀ y, x ≤ y → y < x + vs.length → w.frozen? ⟨B, y, none⟩ = false)
  (hK : ∀ u1, LaidG w u1 B x vs → K (a.put o.dst undef) u1) : o.wp P a w K Q := by
 unfold Oper.wp
 simp only [execOp, hop, hp, hv, Instr.storeAt, Instr.sureAddr, Sem.run_bind, Sem.run_pure, Result.andThen_ok, run_storeVarG hS hn h1 hs hf]
 exact hK _ (laidG vs hs)

theorem wp_boxG {T : Nat} (x : Operand) (hop : o.op = Op.box T x) {vs : List Value} (hx : a.eval x = .agg vs.toArray)
  (hK : ∀ u1, Below w.heap.size w u1 → VarG u1 w.heap.size vs → u1.heap.size = w.heap.size + 1 → K (a.put o.dst (.pointer (some ⟨w.heap.size, 0, none⟩))) u1) : o.wp P a w K Q := by
 have h := hK (w.alloc (.cells vs.toArray T)) ((Below.refl _ _).alloc (Nat.le_refl _) _) (varG_new w vs T) (by simp)
 have e : (Value.agg vs.toArray).cells = vs.toArray := rfl
 unfold Oper.wp
 simp only [execOp, hop, hx, Instr.box, newVar, e]
 simp [newRow, Result.andThen]
 exact h

theorem wp_allocG {T : Nat} {zs : List Value} (hZ : ∀ w, (zeroValue T).run P w = .ok (.agg zs.toArray) w) (hop : o.op = Op.alloc T)
  (hK : ∀ u1, Below w.heap.size w u1 → VarG u1 w.heap.size zs → u1.heap.size = w.heap.size + 1 → K (a.put o.dst (.pointer (some ⟨w.heap.size, 0, none⟩))) u1) : o.wp P a w K Q := by
 have h := hK (w.alloc (.cells zs.toArray T)) ((Below.refl _ _).alloc (Nat.le_refl _) _) (varG_new w zs T) (by simp)
 have e : (Value.agg zs.toArray).cells = zs.toArray := rfl
 unfold Oper.wp
 simp only [execOp, hop]
 simp [Instr.alloc, hZ, newVar, newRow, go_sem, e]
 exact h

theorem wp_binG {op : BinOp} {T T2 : TypeId} (p q : Operand) (hop : o.op = Op.binOp op T p q T2) {x y v : Value} (hp : a.eval p = x) (hq : a.eval q = y) (hg : (eqGuard op T p q x y).run P w = .ok () w) (hn : (binOp op T x y).run P w = .ok v w)
  (hK : K (a.put o.dst v) w) : o.wp P a w K Q := by
 unfold Oper.wp
 simp only [execOp, hop, hp, hq, Sem.run_bind, hg, hn, Result.andThen_ok, Sem.run_pure]
 exact hK

theorem wpList_binG {op : BinOp} {T T2 : TypeId} (p q : Operand) (hop : o.op = Op.binOp op T p q T2) (hw : Region.wanted o (yielded ops a.tmps) = true) {x y v : Value} (hp : a.eval p = x) (hq : a.eval q = y) (hG : (eqGuard op T p q x y).run P w = .ok () w) (hn : (binOp op T x y).run P w = .ok v w)
  (hK : wpList P ops Q rest (a.put o.dst v) w) : wpList P ops Q (o :: rest) a w :=
 wpList_want hw fun K hK' => wp_binG p q hop hp hq hG hn (hK' _ _ hK)

theorem wantedG {y : Nat → Option Bool} {p q : Prop} (hg : o.guard = none) (h : p) : if Region.wanted o y = true then p else q := by
 rw [if_pos (by simp [Region.wanted, hg])]; exact h

theorem wpList_loadG {T n : Nat} (hA : ∀ w, (isAgg T).run P w = .ok true w) (hS : ∀ w, (Go.sizeOf T).run P w = .ok n w) (p : Operand) (hop : o.op = Op.load T p) (hw : Region.wanted o (yielded ops a.tmps) = true) {B x : Nat} {vs : List Value} (hp : a.eval p = .pointer (some ⟨B, x, none⟩)) (hn : vs.length = n) (hb : CV w B x vs)
  (hK : wpList P ops Q rest (a.put o.dst (.agg vs.toArray)) w) : wpList P ops Q (o :: rest) a w :=
 wpList_want hw fun K hK' => wp_loadG hA hS p hop hp hn hb (hK' _ _ hK)

theorem wpList_storeG {T n : Nat} (hS : ∀ w, (Go.sizeOf T).run P w = .ok n w) (p v : Operand) (hop : o.op = Op.store T p v) (hw : Region.wanted o (yielded ops a.tmps) = true) {B x : Nat} {vs : List Value} (hp : a.eval p = .pointer (some ⟨B, x, none⟩)) (hv : a.eval v = .agg vs.toArray) (hn : vs.length = n) (h1 : ∀ v ∈ vs, v.oneCell' = true)
  (hs : ∀ y, x ≤ y → y < x + vs.length → (w.cell? ⟨B, y, none⟩).isSome = true) (hf : ∀ y, x ≤ y → y < x + vs.length → w.frozen? ⟨B, y, none⟩ = false)
  (hK : Hid (∀ u1, LaidG w u1 B x vs → wpList P ops Q rest (a.put o.dst undef) u1)) : wpList P ops Q (o :: rest) a w :=
 wpList_want hw fun K hK' => wp_storeG hS p v hop hp hv hn h1 hs hf fun u1 h1 => hK' _ _ (hK.out u1 h1)

theorem wpList_store1G {T : Nat} (hS : ∀ w, (Go.sizeOf T).run P w = .ok 1 w) (p v : Operand) (hop : o.op = Op.store T p v) (hw : Region.wanted o (yielded ops a.tmps) = true) {B x : Nat} {z : Value} (hp : a.eval p = .pointer (some ⟨B, x, none⟩)) (hv : a.eval v = z) (hc : z.cells = #[z]) (h1 : z.oneCell' = true)
  (hs : (w.cell? ⟨B, x, none⟩).isSome = true) (hf : w.frozen? ⟨B, x, none⟩ = false)
  (hK : Hid (∀ u1, LaidG w u1 B x [z] → wpList P ops Q rest (a.put o.dst undef) u1)) : wpList P ops Q (o :: rest) a w :=
 wpList_want hw fun K hK' => wp_store1G hS p v hop hp hv hc h1 hs hf fun u1 h1 => hK' _ _ (hK.out u1 h1)

theorem wpList_boxG {T : Nat} (hg : o.guard = none) (x : Operand) (hop : o.op = Op.box T x) {vs : List Value} (hx : a.eval x = .agg vs.toArray)
  (hK : Hid (∀ u1, Below w.heap.size w u1 → VarG u1 w.heap.size vs → u1.heap.size = w.heap.size + 1 → wpList P ops Q rest (a.put o.dst (.pointer (some ⟨w.heap.size, 0, none⟩))) u1)) : wpList P ops Q (o :: rest) a w :=
 wpList_plain hg fun K hK' => wp_boxG x hop hx fun u1 h1 h2 h3 => hK' _ _ (hK.out u1 h1 h2 h3)

theorem wpList_allocG {T : Nat} {zs : List Value} (hZ : ∀ w, (zeroValue T).run P w = .ok (.agg zs.toArray) w) (hg : o.guard = none) (hop : o.op = Op.alloc T)
  (hK : Hid (∀ u1, Below w.heap.size w u1 → VarG u1 w.heap.size zs → u1.heap.size = w.heap.size + 1 → wpList P ops Q rest (a.put o.dst (.pointer (some ⟨w.heap.size, 0, none⟩))) u1)) : wpList P ops Q (o :: rest) a w :=
 wpList_plain hg fun K hK' => wp_allocG hZ hop fun u1 h1 h2 h3 => hK' _ _ (hK.out u1 h1 h2 h3)
end

/-! Lists. -/

structure Elem (α : Type) where
 cells : α → List Value
 k : Nat
 pos : 0 < k
 len : ∀ x, (cells x).length = k
 one : ∀ x, ∀ v ∈ cells x, v.oneCell' = true

section
variable {α : Type} {E : Elem α}

def GR (E : Elem α) (w : World) (lo hi : Nat) (v : Value) (xs : List α) : Prop :=
 ∃ ad cap, v = .slice ad xs.length cap ∧ xs.length ≤ cap ∧ cap ≤ maxLen ∧
  (xs = [] ∨ ∃ b off, ad = some ⟨b, off, none⟩ ∧ lo ≤ b ∧ b < hi ∧ ∀ (i : Nat) (x : α), xs[i]? = some x → CV w b (off + i * E.k) (E.cells x))

def GO (E : Elem α) (w : World) (lo hi : Nat) (v : Value) (xs : List α) : Prop :=
 xs = [] ∧ (∃ ad cap, v = .slice ad 0 cap ∧ cap ≤ maxLen) ∨
 ∃ b off cap, v = .slice (some ⟨b, off, none⟩) xs.length cap ∧ xs.length ≤ cap ∧ cap ≤ maxLen ∧ lo ≤ b ∧ b < hi ∧ (∀ (i : Nat) (x : α), xs[i]? = some x → CV w b (off + i * E.k) (E.cells x)) ∧ ∀ o, w.frozen? ⟨b, off + o, none⟩ = false

theorem GR.shape {w : World} {lo hi : Nat} {v : Value} {xs : List α} (h : GR E w lo hi v xs) : ∃ ad cap, v = .slice ad xs.length cap ∧ xs.length ≤ cap ∧ cap ≤ maxLen := by
 obtain ⟨ad, cap, hv, h1, h2, _⟩ := h; exact ⟨ad, cap, hv, h1, h2⟩

theorem GR.at_ {w : World} {lo hi : Nat} {v : Value} {xs : List α} (h : GR E w lo hi v xs) {i : Nat} {x : α} (hi' : xs[i]? = some x) :
  ∃ b off cap, v = .slice (some ⟨b, off, none⟩) xs.length cap ∧ lo ≤ b ∧ b < hi ∧ CV w b (off + i * E.k) (E.cells x) := by
 obtain ⟨ad, cap, hv, h1, h2, h3⟩ := h
 rcases h3 with rfl | ⟨b, off, rfl, h3, h4, hc⟩
 ·simp at hi'
 ·exact ⟨b, off, cap, hv, h3, h4, hc i x hi'⟩

theorem GR.kept {w w' : World} {lo hi : Nat} {v : Value} {xs : List α} (h : GR E w lo hi v xs) (hk : ∀ k, lo ≤ k → k < hi → w'.heap[k]? = w.heap[k]?) : GR E w' lo hi v xs := by
 obtain ⟨ad, cap, hv, h1, h2, h3⟩ := h
 refine ⟨ad, cap, hv, h1, h2, h3.imp id ?_⟩
 rintro ⟨b, off, ha, h3, h4, hc⟩
 exact ⟨b, off, ha, h3, h4, fun i x hx => (hc i x hx).kept (hk b h3 h4)⟩

theorem GR.under {w w' : World} {lo hi n : Nat} {v : Value} {xs : List α} (h : GR E w lo hi v xs) (hb : Below n w w') (hn : hi ≤ n) : GR E w' lo hi v xs :=
 h.kept fun k _ hk => hb.block k (by omega)

theorem GR.wide {w : World} {lo hi lo' hi' : Nat} {v : Value} {xs : List α} (h : GR E w lo hi v xs) (hl : lo' ≤ lo) (hh : hi ≤ hi') : GR E w lo' hi' v xs := by
 obtain ⟨ad, cap, hv, h1, h2, h3⟩ := h
 refine ⟨ad, cap, hv, h1, h2, h3.imp id ?_⟩
 rintro ⟨b, off, ha, h3, h4, hc⟩
 exact ⟨b, off, ha, by omega, by omega, hc⟩

theorem GO.gr {w : World} {lo hi : Nat} {v : Value} {xs : List α} (h : GO E w lo hi v xs) : GR E w lo hi v xs := by
 rcases h with ⟨rfl, ad, cap, rfl, hm⟩ | ⟨b, off, cap, hv, h1, h2, h3, h4, h5, _⟩
 ·exact ⟨ad, cap, rfl, Nat.zero_le _, hm, .inl rfl⟩
 ·exact ⟨_, cap, hv, h1, h2, .inr ⟨b, off, rfl, h3, h4, h5⟩⟩

theorem GO.kept {w w' : World} {lo hi : Nat} {v : Value} {xs : List α} (h : GO E w lo hi v xs) (hk : ∀ k, lo ≤ k → k < hi → w'.heap[k]? = w.heap[k]?) : GO E w' lo hi v xs := by
 rcases h with h | ⟨b, off, cap, hv, h1, h2, h3, h4, h5, h6⟩
 ·exact .inl h
 ·exact .inr ⟨b, off, cap, hv, h1, h2, h3, h4, fun i x hx => (h5 i x hx).kept (hk b h3 h4), fun o => by rw [World.frozen?_of_block (w := w) (hk b h3 h4)]; exact h6 o⟩

theorem GO.under {w w' : World} {lo hi n : Nat} {v : Value} {xs : List α} (h : GO E w lo hi v xs) (hb : Below n w w') (hn : hi ≤ n) : GO E w' lo hi v xs :=
 h.kept fun k _ hk => hb.block k (by omega)

theorem GO.wide {w : World} {lo hi lo' hi' : Nat} {v : Value} {xs : List α} (h : GO E w lo hi v xs) (hl : lo' ≤ lo) (hh : hi ≤ hi') : GO E w lo' hi' v xs := by
 rcases h with h | ⟨b, off, cap, hv, h1, h2, h3, h4, h5, h6⟩
 ·exact .inl h
 ·exact .inr ⟨b, off, cap, hv, h1, h2, by omega, by omega, h5, h6⟩

structure ToG (E : Elem α) (w : World) (g : Nat) (xs : List α) (j : Nat) (wr : World) : Prop where
 below : Below g w wr
 size : g < wr.heap.size
 some_ : ∀ x, x < xs.length * E.k → (wr.cell? ⟨g, x, none⟩).isSome = true
 frozen : ∀ x, wr.frozen? ⟨g, x, none⟩ = false
 done : ∀ (i : Nat) (p : α), i < j → xs[i]? = some p → CV wr g (i * E.k) (E.cells p)

theorem toG_start {w w1 : World} {T : TypeId} {xs : List α} {z : List Value} (hown : w1.ownsRow w.heap.size T E.k (.slice (some ⟨w.heap.size, 0, none⟩) xs.length xs.length) xs.length z) (hgrow : w.grownBy w1 none) : ToG E w w.heap.size xs 0 w1 := by
 refine ⟨(Below.refl _ _).grown hgrow (Nat.le_refl _) (fun k h => by cases h), hown.2.elim (fun h => by simp at h) fun ⟨g, cap, cur, hv, hg, hh, _⟩ => ?_, fun x hx => ?_, fun x => hown.frozenAt x, fun i p hi => by omega⟩
 ·simp only [Value.slice.injEq, Option.some.injEq, Addr.mk.injEq, and_true, true_and] at hv
  obtain ⟨rfl, _⟩ := hv
  exact (Array.getElem?_eq_some_iff.mp hh).1
 ·rw [hown.cellAt x hx]
  have hl := hown.1
  rw [List.getElem?_eq_getElem (by omega)]
  rfl

theorem ToG.next {w wr w1 u : World} {g : Nat} {xs : List α} {j : Nat} {p : α} (h : ToG E w g xs j wr) (he : xs[j]? = some p) (hb : Below wr.heap.size wr w1) (hL : LaidG w1 u g (j * E.k) (E.cells p)) : ToG E w g xs (j + 1) u := by
 obtain ⟨hb0, hs, hsm, hfr, h1⟩ := h
 have hs1 := hb.size
 have hz := hL.size
 have hle := E.len p
 have hcell : ∀ x, w1.cell? ⟨g, x, none⟩ = wr.cell? ⟨g, x, none⟩ := fun x => hb.cell (p := ⟨g, x, none⟩) hs
 refine ⟨hL.below _ _ (Nat.le_refl _) (hb0.trans (hb.mono (by omega))), by omega, fun q hq => ?_, fun q => ?_, fun i e' hi hie => ?_⟩
 ·by_cases hin : j * E.k ≤ q ∧ q < j * E.k + E.k
  ·exact hL.cv.some_ hin.1 (by omega)
  ·rw [hL.cell _ _ (by omega), hcell]; exact hsm q hq
 ·rw [hL.frozen, hb.frozen (p := ⟨g, q, none⟩) hs]; exact hfr q
 ·by_cases ej : i = j
  ·subst ej
   rw [he] at hie
   cases hie
   exact hL.cv
  ·have hc := h1 i e' (by omega) hie
   intro q v hq
   have hql : q < E.k := by have := (List.getElem?_eq_some_iff.mp hq).1; rwa [E.len] at this
   have hij : i * E.k + E.k ≤ j * E.k := by rw [← Nat.succ_mul]; exact Nat.mul_le_mul_right _ (by omega)
   rw [hL.cell _ _ (by omega), hcell]
   exact hc q v hq

theorem ToG.go {w wr : World} {g : Nat} {xs : List α} (h : ToG E w g xs xs.length wr) (hm : xs.length ≤ maxLen) : GO E wr g wr.heap.size (.slice (some ⟨g, 0, none⟩) xs.length xs.length) xs :=
 .inr ⟨_, 0, _, rfl, Nat.le_refl _, hm, Nat.le_refl _, h.size, fun i p hp => by rw [Nat.zero_add]; exact h.done i p (List.getElem?_eq_some_iff.mp hp).1 hp, fun o => by rw [Nat.zero_add]; exact h.frozen o⟩

theorem ToG.stores {w wr w2 : World} {g : Nat} {xs : List α} {j : Nat} (h : ToG E w g xs j wr) (hb : Below wr.heap.size wr w2) (hj : j < xs.length) (p : α) : (∀ y, j * E.k ≤ y → y < j * E.k + (E.cells p).length → (w2.cell? ⟨g, y, none⟩).isSome = true) ∧ ∀ y, j * E.k ≤ y → y < j * E.k + (E.cells p).length → w2.frozen? ⟨g, y, none⟩ = false := by
 have hl := E.len p
 have hle : j * E.k + E.k ≤ xs.length * E.k := by rw [← Nat.succ_mul]; exact Nat.mul_le_mul_right _ hj
 exact ⟨fun y h1 h2 => by rw [hb.cell (p := ⟨g, y, none⟩) h.size]; exact h.some_ y (by omega), fun y h1 h2 => by rw [hb.frozen (p := ⟨g, y, none⟩) h.size]; exact h.frozen y⟩

theorem list_ofG {P : Nat → α → Prop} : ∀ (len : Nat), (∀ i, i < len → ∃ e, P i e) → ∃ (es : List α), es.length = len ∧ ∀ i e, es[i]? = some e → P i e
 | 0, _ => ⟨[], rfl, fun i e h => by simp at h⟩
 | len + 1, h => by
  obtain ⟨es, hl, hp⟩ := list_ofG len fun i hi => h i (by omega)
  obtain ⟨e, hes⟩ := h len (by omega)
  refine ⟨es ++ [e], by simp [hl], fun i e' he => ?_⟩
  by_cases hi : i = len
  ·subst hi
   rw [List.getElem?_append_right (by omega), hl] at he
   simp at he
   subst he
   exact hes
  ·have hil : i < len := by
    have := (List.getElem?_eq_some_iff.mp he).1
    simp [hl] at this
    omega
   rw [List.getElem?_append_left (by omega)] at he
   exact hp i e' he
end
end Go.Proofs.YtaoiookfmgpmkaaGreatDoor

/-
 Blocks as data: whether one is ok, a new one, one step of one.
-/
namespace Go.Proofs.YtaoiookfmgpmkaaGreatDoor
open Go.ChangeShapes Go.WideShapes Go.ChangeAt Go.RowKit
set_option linter.unusedVariables false

structure BlockD where
 kind : Int
 n : Int
 on : Bool
 was : Bool
 t : Int
deriving DecidableEq

theorem BlockD.ext' {a b : BlockD} (h1 : a.kind = b.kind) (h2 : a.n = b.n) (h3 : a.on = b.on) (h4 : a.was = b.was) (h5 : a.t = b.t) : a = b := by
 cases a; cases b; simp_all

def BlockD.val (b : BlockD) : Value := .agg #[.int .i64 b.kind, .int .i64 b.n, .bool b.on, .bool b.was, .int .i64 b.t]

def noB : BlockD := ⟨0, 0, false, false, 0⟩

def mostB (k : Int) : Int := if k = 1 ∨ k = 2 ∨ k = 3 then 1000 else if k = 4 ∨ k = 5 then 0 else -1

def numB (k n : Int) : Bool := decide (0 ≤ n) && decide (n ≤ mostB k)

def blockOk (b : BlockD) : Bool := numB b.kind b.n && numB b.kind b.t

def blockNew (k n : Int) : BlockD := if numB k n then ⟨k, n, false, false, 0⟩ else noB

theorem mostB_cases (k : Int) : ((k = 1 ∨ k = 2 ∨ k = 3) ∧ mostB k = 1000) ∨ ((k = 4 ∨ k = 5) ∧ mostB k = 0) ∨ ((k < 1 ∨ 5 < k) ∧ mostB k = -1) := by
 unfold mostB
 by_cases h : k = 1 ∨ k = 2 ∨ k = 3
 ·exact .inl ⟨h, if_pos h⟩
 ·rw [if_neg h]
  by_cases h' : k = 4 ∨ k = 5
  ·exact .inr (.inl ⟨h', if_pos h'⟩)
  ·exact .inr (.inr ⟨by omega, if_neg h'⟩)

theorem blockOk_iff (b : BlockD) : blockOk b = true ↔ (0 ≤ b.n ∧ b.n ≤ mostB b.kind) ∧ (0 ≤ b.t ∧ b.t ≤ mostB b.kind) := by
 unfold blockOk numB; simp

theorem noB_bad : blockOk noB = false := by decide

theorem blockNew_ok {k n : Int} (h : numB k n = true) : blockOk (blockNew k n) = true := by
 unfold blockNew
 rw [if_pos h]
 unfold numB at h
 simp only [Bool.and_eq_true, decide_eq_true_eq] at h
 exact (blockOk_iff _).2 ⟨h, by show (0 : Int) ≤ 0; omega, by show (0 : Int) ≤ mostB k; omega⟩

end Go.Proofs.YtaoiookfmgpmkaaGreatDoor

/-
 Places, and what the laws' helpers do with them: toAddr, eqAddr; the model's AddrOk.
-/
namespace Go.Proofs.YtaoiookfmgpmkaaGreatDoor
open Go.ChangeShapes Go.WideShapes Go.ChangeAt Go.RowKit
set_option linter.unusedVariables false

theorem below_alloc3 (w : World) (x y z : Obj) : Below w.heap.size w (((w.alloc x).alloc y).alloc z) :=
 (((Below.refl _ _).alloc (Nat.le_refl _) _).alloc (by simp) _).alloc (by simp; omega) _

structure AddrD where
 kind : Int
 at_ : Int
deriving DecidableEq

def AddrD.val (a : AddrD) : Value := .agg #[.int .i64 a.kind, .int .i64 a.at_]

theorem toAddr_any (w : World) (a : AddrD) :
  Calls Tryz.prog 140 #[a.val] w fun e w' => e = .returned a.val ∧ Below w.heap.size w w' := by
 unfold AddrD.val
 go_enter Tryz.func140, Tryz.ntmps140
 go_wp2
 exact bodyPost_ret (v := .agg #[.int .i64 a.kind, .int .i64 a.at_]) (by simp [results, Tryz.results140, go_sem]) rfl ⟨rfl, below_alloc3 w _ _ _⟩

theorem eqAddr_any (w : World) (a b : AddrD) :
  Calls Tryz.prog 158 #[a.val, b.val] w fun e w' => e = .returned (.bool (decide (a = b))) ∧ Below w.heap.size w w' := by
 obtain ⟨ak, aa⟩ := a
 obtain ⟨bk, ba⟩ := b
 unfold AddrD.val
 have b2 := fun o o' (m : Nat) => below_drewN (((Below.refl w.heap.size w).alloc (Nat.le_refl _) o).alloc (by simp) o') m
 by_cases h1 : ak = bk
 ·by_cases h2 : aa = ba
  ·subst h1 h2
   rw [decide_eq_true rfl]
   go_enter Tryz.func158, Tryz.ntmps158
   go_wp2
   go_ret
   exact ⟨rfl, b2 _ _ 0⟩
  ·rw [decide_eq_false (by intro h; simp at h; exact h2 h.2)]
   have h2' : (aa == ba) = false := by simpa using h2
   subst h1
   clear h2
   go_enter Tryz.func158, Tryz.ntmps158
   go_wp2
   go_ret
   exact ⟨rfl, b2 _ _ 0⟩
 ·rw [decide_eq_false (by intro h; simp at h; exact h1 h.1)]
  have h1' : (ak == bk) = false := by simpa using h1
  clear h1
  go_enter Tryz.func158, Tryz.ntmps158
  go_wp2
  go_ret
  exact ⟨rfl, b2 _ _ 0⟩

def addrOk (a : AddrD) : Bool := decide (1 ≤ a.kind) && decide (a.kind ≤ 3) && decide (0 ≤ a.at_) && decide (a.at_ < 6)

theorem addrOk_val (k a : Int) (h1 : 1 ≤ k) (h2 : k ≤ 3) (h3 : 0 ≤ a) (h4 : a < 6) : addrOk ⟨k, a⟩ = true := by simp [addrOk, h1, h2, h3, h4]

set_option maxHeartbeats 400000 in
theorem sAddrOk_any (w : World) (a : AddrD) :
  Calls Tryz.prog 174 #[a.val] w fun e w' => e = .returned (.bool (addrOk a)) ∧ Below w.heap.size w w' := by
 obtain ⟨k, at_⟩ := a
 have b1 := fun o => (Below.refl w.heap.size w).alloc (Nat.le_refl _) o
 unfold AddrD.val
 by_cases h1 : 1 ≤ k
 ·by_cases h2 : k ≤ 3
  ·by_cases h3 : 0 ≤ at_
   ·by_cases h4 : at_ < 6
    ·rw [addrOk_val k at_ h1 h2 h3 h4]
     go_enter Tryz.func174, Tryz.ntmps174
     go_wp2
     go_ret
     exact ⟨rfl, b1 _⟩
    ·rw [show addrOk ⟨k, at_⟩ = false by simp [addrOk, h4]]
     go_enter Tryz.func174, Tryz.ntmps174
     go_wp2
     go_ret
     exact ⟨rfl, b1 _⟩
   ·rw [show addrOk ⟨k, at_⟩ = false by simp [addrOk, h3]]
    go_enter Tryz.func174, Tryz.ntmps174
    go_wp2
    go_ret
    exact ⟨rfl, b1 _⟩
  ·rw [show addrOk ⟨k, at_⟩ = false by simp [addrOk, h2]]
   go_enter Tryz.func174, Tryz.ntmps174
   go_wp2
   go_ret
   exact ⟨rfl, b1 _⟩
 ·rw [show addrOk ⟨k, at_⟩ = false by simp [addrOk, h1]]
  go_enter Tryz.func174, Tryz.ntmps174
  go_wp2
  go_ret
  exact ⟨rfl, b1 _⟩

end Go.Proofs.YtaoiookfmgpmkaaGreatDoor

/-
 Nets as data: inputs, wires, drives, what is ok, in which order wires are told.
-/
namespace Go.Proofs.YtaoiookfmgpmkaaGreatDoor
open Go.ChangeShapes Go.WideShapes Go.ChangeAt Go.RowKit
set_option linter.unusedVariables false

structure SrcD where
 kind : Int
 at_ : Int
 ak : Int
 aat : Int
 no : Bool
deriving DecidableEq

structure WireD where
 kind : Int
 n : Int
 a : SrcD
 b : SrcD
deriving DecidableEq

structure DriveD where
 tk : Int
 ta : Int
 wire : Int
deriving DecidableEq

structure NetD where
 ws : List WireD
 ds : List DriveD
deriving DecidableEq

def srcC (s : SrcD) : List Value := [.int .i64 s.kind, .int .i64 s.at_, .int .i64 s.ak, .int .i64 s.aat, .bool s.no]
def wireC (w : WireD) : List Value := [.int .i64 w.kind, .int .i64 w.n, .int .i64 w.a.kind, .int .i64 w.a.at_, .int .i64 w.a.ak, .int .i64 w.a.aat, .bool w.a.no, .int .i64 w.b.kind, .int .i64 w.b.at_, .int .i64 w.b.ak, .int .i64 w.b.aat, .bool w.b.no]
def driveC (d : DriveD) : List Value := [.int .i64 d.tk, .int .i64 d.ta, .int .i64 d.wire]
def blockC (b : BlockD) : List Value := [.int .i64 b.kind, .int .i64 b.n, .bool b.on, .bool b.was, .int .i64 b.t]

def SrcD.val (s : SrcD) : Value := .agg (srcC s).toArray
def WireD.val (w : WireD) : Value := .agg (wireC w).toArray
def DriveD.val (d : DriveD) : Value := .agg (driveC d).toArray

theorem srcC_one (s : SrcD) : ∀ v ∈ srcC s, v.oneCell' = true := by
 intro v hv; simp only [srcC, List.mem_cons, List.not_mem_nil, or_false] at hv
 rcases hv with rfl | rfl | rfl | rfl | rfl <;> rfl
theorem wireC_one (w : WireD) : ∀ v ∈ wireC w, v.oneCell' = true := by
 intro v hv; simp only [wireC, List.mem_cons, List.not_mem_nil, or_false] at hv
 rcases hv with rfl | rfl | rfl | rfl | rfl | rfl | rfl | rfl | rfl | rfl | rfl | rfl <;> rfl
theorem driveC_one (d : DriveD) : ∀ v ∈ driveC d, v.oneCell' = true := by
 intro v hv; simp only [driveC, List.mem_cons, List.not_mem_nil, or_false] at hv
 rcases hv with rfl | rfl | rfl <;> rfl
theorem blockC_one (b : BlockD) : ∀ v ∈ blockC b, v.oneCell' = true := by
 intro v hv; simp only [blockC, List.mem_cons, List.not_mem_nil, or_false] at hv
 rcases hv with rfl | rfl | rfl | rfl | rfl <;> rfl

def wireE : Elem WireD := ⟨wireC, 12, by decide, fun _ => rfl, wireC_one⟩
def driveE : Elem DriveD := ⟨driveC, 3, by decide, fun _ => rfl, driveC_one⟩
def blockE : Elem BlockD := ⟨blockC, 5, by decide, fun _ => rfl, blockC_one⟩
def boolE : Elem Bool := ⟨fun x => [.bool x], 1, by decide, fun _ => rfl, fun x v hv => by simp at hv; rw [hv]; rfl⟩

def NI (w : World) (lo hi : Nat) (v : Value) (n : NetD) : Prop := ∃ a b, v = .agg #[a, b] ∧ GR wireE w lo hi a n.ws ∧ GR driveE w lo hi b n.ds

theorem NI.kept {w w' : World} {lo hi : Nat} {v : Value} {n : NetD} (h : NI w lo hi v n) (hk : ∀ k, lo ≤ k → k < hi → w'.heap[k]? = w.heap[k]?) : NI w' lo hi v n := by
 obtain ⟨a, b, hv, h1, h2⟩ := h; exact ⟨a, b, hv, h1.kept hk, h2.kept hk⟩
theorem NI.under {w w' : World} {lo hi n : Nat} {v : Value} {x : NetD} (h : NI w lo hi v x) (hb : Below n w w') (hn : hi ≤ n) : NI w' lo hi v x := h.kept fun k _ hk => hb.block k (by omega)
theorem NI.wide {w : World} {lo hi lo' hi' : Nat} {v : Value} {n : NetD} (h : NI w lo hi v n) (hl : lo' ≤ lo) (hh : hi ≤ hi') : NI w lo' hi' v n := by
 obtain ⟨a, b, hv, h1, h2⟩ := h; exact ⟨a, b, hv, h1.wide hl hh, h2.wide hl hh⟩

def NOw (w : World) (lo hi : Nat) (v : Value) (n : NetD) : Prop := ∃ a b mid, v = .agg #[a, b] ∧ GO wireE w lo mid a n.ws ∧ GO driveE w mid hi b n.ds ∧ lo ≤ mid ∧ mid ≤ hi

theorem NOw.ni {w : World} {lo hi : Nat} {v : Value} {n : NetD} (h : NOw w lo hi v n) : NI w lo hi v n := by
 obtain ⟨a, b, mid, hv, h1, h2, h3, h4⟩ := h; exact ⟨a, b, hv, h1.gr.wide (Nat.le_refl _) h4, h2.gr.wide h3 (Nat.le_refl _)⟩
theorem NOw.kept {w w' : World} {lo hi : Nat} {v : Value} {n : NetD} (h : NOw w lo hi v n) (hk : ∀ k, lo ≤ k → k < hi → w'.heap[k]? = w.heap[k]?) : NOw w' lo hi v n := by
 obtain ⟨a, b, mid, hv, h1, h2, h3, h4⟩ := h
 exact ⟨a, b, mid, hv, h1.kept fun k h5 h6 => hk k h5 (by omega), h2.kept fun k h5 h6 => hk k (by omega) h6, h3, h4⟩
theorem NOw.under {w w' : World} {lo hi n : Nat} {v : Value} {x : NetD} (h : NOw w lo hi v x) (hb : Below n w w') (hn : hi ≤ n) : NOw w' lo hi v x := h.kept fun k _ hk => hb.block k (by omega)

theorem NI.below {w w' : World} {lo hi n : Nat} {v : Value} {x : NetD} (h : NI w lo hi v x) (hb : Below n w w') (hn : hi ≤ n) : NI w' lo hi v x := h.under hb hn
theorem NOw.below {w w' : World} {lo hi n : Nat} {v : Value} {x : NetD} (h : NOw w lo hi v x) (hb : Below n w w') (hn : hi ≤ n) : NOw w' lo hi v x := h.under hb hn
theorem NI.shape {w : World} {lo hi : Nat} {v : Value} {n : NetD} (h : NI w lo hi v n) : ∃ pa ca pb cb, v = .agg #[.slice pa n.ws.length ca, .slice pb n.ds.length cb] := by
 obtain ⟨a, b, rfl, h1, h2⟩ := h
 obtain ⟨ad, cap, rfl, _, _⟩ := h1.shape
 obtain ⟨ad', cap', rfl, _, _⟩ := h2.shape
 exact ⟨_, _, _, _, rfl⟩

def NetD.many (n : NetD) : Nat := n.ws.length + n.ds.length

/-! What is ok. -/

def noSrc : SrcD := ⟨0, 0, 0, 0, false⟩
def gateK (k : Int) : Bool := decide (11 ≤ k) && decide (k ≤ 13)
def twoK (k : Int) : Bool := gateK k || (k == 3 || k == 5)
def srcOk (s : SrcD) (n : Nat) : Bool :=
 if s.kind = 1 then addrOk ⟨s.ak, s.aat⟩ && s.at_ == 0
 else if s.kind = 2 ∨ s.kind = 3 then decide (0 ≤ s.at_) && (decide (s.at_ < n) && (s.ak == 0 && s.aat == 0))
 else false
def numW (w : WireD) : Bool := if gateK w.kind then w.n == 0 else numB w.kind w.n
def wireOk (w : WireD) (n : Nat) : Bool := numW w && (srcOk w.a n && (if twoK w.kind then srcOk w.b n else decide (w.b = noSrc)))
def driveOk (d : DriveD) (n : Nat) : Bool := addrOk ⟨d.tk, d.ta⟩ && (d.tk != 1 && (decide (0 ≤ d.wire) && decide (d.wire < n)))
def freshD (ds : List DriveD) (d : DriveD) : Bool := ds.all fun e => !(e.tk == d.tk && e.ta == d.ta)
def drivesOk (ds : List DriveD) (n : Nat) : Bool := (List.range ds.length).all fun i => match ds[i]? with | some d => driveOk d n && freshD (ds.take i) d | none => true

/-! The order. -/

def waitsS (s : SrcD) (ord : List Nat) : Bool := s.kind == 2 && !(ord.contains s.at_.toNat)
def waitsW (w : WireD) (ord : List Nat) : Bool := waitsS w.a ord || waitsS w.b ord
def canW (ws : List WireD) (ord : List Nat) (i : Nat) : Bool := match ws[i]? with | some w => !ord.contains i && !waitsW w ord | none => false
def pickW (ws : List WireD) (ord : List Nat) : Option Nat := (List.range ws.length).find? (canW ws ord)
def tellW (ws : List WireD) : Nat → List Nat → List Nat
 | 0, ord => ord
 | k + 1, ord => match pickW ws ord with | none => ord | some i => tellW ws k (ord ++ [i])
def orderW (ws : List WireD) : List Nat := tellW ws ws.length []

def netOk (n : NetD) : Bool :=
 decide (n.ws.length ≤ 8) && (decide (n.ds.length ≤ 4) && (n.ws.all (fun w => wireOk w n.ws.length) && (drivesOk n.ds n.ws.length && decide ((orderW n.ws).length = n.ws.length))))

theorem pickW_some {ws : List WireD} {ord : List Nat} {i : Nat} (h : pickW ws ord = some i) : i < ws.length ∧ canW ws ord i = true := by
 unfold pickW at h
 exact ⟨by have := List.mem_of_find?_eq_some h; simpa using this, List.find?_some h⟩

theorem canW_not {ws : List WireD} {ord : List Nat} {i : Nat} (h : canW ws ord i = true) : i ∉ ord := by
 unfold canW at h
 split at h
 ·simp only [Bool.and_eq_true, Bool.not_eq_true'] at h
  intro hm
  have := h.1
  simp [hm] at this
 ·cases h

structure OrdW (ws : List WireD) (ord : List Nat) : Prop where
 lt : ∀ i ∈ ord, i < ws.length
 nodup : ord.Nodup

theorem OrdW.next {ws : List WireD} {ord : List Nat} {i : Nat} (h : OrdW ws ord) (hp : pickW ws ord = some i) : OrdW ws (ord ++ [i]) := by
 obtain ⟨h1, h2⟩ := pickW_some hp
 have h3 := canW_not h2
 refine ⟨fun j hj => ?_, ?_⟩
 ·rcases List.mem_append.mp hj with hj | hj
  ·exact h.lt j hj
  ·simp at hj; omega
 ·rw [List.nodup_append]
  refine ⟨h.nodup, by simp, fun a ha b hb => ?_⟩
  simp at hb
  subst hb
  intro e
  subst e
  exact h3 ha

theorem ordW_nil (ws : List WireD) : OrdW ws [] := ⟨fun i hi => by simp at hi, List.nodup_nil⟩

theorem nodup_le : ∀ (n : Nat) (l : List Nat), (∀ i ∈ l, i < n) → l.Nodup → l.length ≤ n
 | 0, l, h1, _ => by
  cases l with
  | nil => exact Nat.le_refl _
  | cons a l => have := h1 a (by simp); omega
 | n + 1, l, h1, h2 => by
  by_cases hm : n ∈ l
  ·have h3 := nodup_le n (l.erase n) (fun i hi => by
    rw [h2.mem_erase_iff] at hi
    have := h1 i hi.2
    have := hi.1
    omega) (h2.erase n)
   rw [List.length_erase_of_mem hm] at h3
   omega
  ·have h3 := nodup_le n l (fun i hi => by
    have := h1 i hi
    have : i ≠ n := fun e => hm (e ▸ hi)
    omega) h2
   omega

theorem OrdW.le {ws : List WireD} {ord : List Nat} (h : OrdW ws ord) : ord.length ≤ ws.length := nodup_le _ _ h.lt h.nodup

theorem tellW_ord {ws : List WireD} : ∀ (k : Nat) (ord : List Nat), OrdW ws ord → OrdW ws (tellW ws k ord)
 | 0, ord, h => h
 | k + 1, ord, h => by
  rw [tellW]
  cases hp : pickW ws ord with
  | none => exact h
  | some i => exact tellW_ord k _ (h.next hp)

theorem wireOk_two {w : WireD} {n : Nat} (h : wireOk w n = true) : srcOk w.a n = true ∧ (srcOk w.b n = true ∨ w.b = noSrc) := by
 unfold wireOk at h
 simp only [Bool.and_eq_true] at h
 refine ⟨h.2.1, ?_⟩
 have := h.2.2
 split at this
 ·exact .inl this
 ·exact .inr (by simpa using this)

theorem srcOk_wire {s : SrcD} {n : Nat} (h : srcOk s n = true) (hk : s.kind = 2 ∨ s.kind = 3) : 0 ≤ s.at_ ∧ s.at_ < n := by
 unfold srcOk at h
 rw [if_neg (by omega), if_pos hk] at h
 simp only [Bool.and_eq_true, decide_eq_true_eq] at h
 exact ⟨h.1, h.2.1⟩

theorem wireOk_at {w : WireD} {n : Nat} (h : wireOk w n = true) : (w.a.kind = 2 → 0 ≤ w.a.at_ ∧ w.a.at_ < n) ∧ (w.b.kind = 2 → 0 ≤ w.b.at_ ∧ w.b.at_ < n) := by
 obtain ⟨h1, h2⟩ := wireOk_two h
 refine ⟨fun hk => srcOk_wire h1 (.inl hk), fun hk => ?_⟩
 rcases h2 with h2 | h2
 ·exact srcOk_wire h2 (.inl hk)
 ·rw [h2] at hk; simp [noSrc] at hk
end Go.Proofs.YtaoiookfmgpmkaaGreatDoor

/-
 Lists of numbers in memory, and what the laws' helpers do with them: szIntS counts, eqIntS compares, toIntS copies into new memory, markIntS writes, heldIntS reads back.
-/
namespace Go.Proofs.YtaoiookfmgpmkaaGreatDoor
open Go.ChangeShapes Go.WideShapes Go.ChangeAt Go.RowKit
set_option linter.unusedVariables false

def CI (w : World) (b off : Nat) (xs : List Int) : Prop :=
 ∀ i x, xs[i]? = some x → w.cell? ⟨b, off + i, none⟩ = some (.int .i64 x)

def SI (w : World) (lo hi : Nat) (v : Value) (xs : List Int) : Prop :=
 ∃ a cap, v = .slice a xs.length cap ∧ xs.length ≤ cap ∧ cap ≤ maxLen ∧
  (xs = [] ∨ ∃ b off, a = some ⟨b, off, none⟩ ∧ lo ≤ b ∧ b < hi ∧ CI w b off xs)

theorem SI.kept {w w' : World} {lo hi : Nat} {v : Value} {xs : List Int} (h : SI w lo hi v xs) (hk : ∀ k, lo ≤ k → k < hi → w'.heap[k]? = w.heap[k]?) : SI w' lo hi v xs := by
 obtain ⟨a, cap, hv, h1, h2, h3⟩ := h
 refine ⟨a, cap, hv, h1, h2, ?_⟩
 rcases h3 with h0 | ⟨b, off, ha, hl, hh, hc⟩
 ·exact .inl h0
 ·refine .inr ⟨b, off, ha, hl, hh, fun i x hx => ?_⟩
  rw [World.cell?_of_block (w := w) (hk b hl hh)]
  exact hc i x hx

theorem SI.below {w w' : World} {lo hi n : Nat} {v : Value} {xs : List Int} (h : SI w lo hi v xs) (hb : Below n w w') (hn : hi ≤ n) : SI w' lo hi v xs :=
 h.kept fun k _ hk => hb.block k (by omega)

theorem SI.wide {w : World} {lo hi lo' hi' : Nat} {v : Value} {xs : List Int} (h : SI w lo hi v xs) (h1 : lo' ≤ lo) (h2 : hi ≤ hi') : SI w lo' hi' v xs := by
 obtain ⟨a, cap, hv, h3, h4, h5⟩ := h
 refine ⟨a, cap, hv, h3, h4, ?_⟩
 rcases h5 with h0 | ⟨b, off, ha, hl, hh, hc⟩
 ·exact .inl h0
 ·exact .inr ⟨b, off, ha, by omega, by omega, hc⟩

theorem szIntS_any (w : World) (lo hi : Nat) (v : Value) (xs : List Int) (left : Int) (h : SI w lo hi v xs) (hl : 0 ≤ left) (hl' : left ≤ 1048576) :
  Calls Tryz.prog 100 #[v, .int .i64 left] w fun e w' => e = .returned (.int .i64 (if left < xs.length then -1 else left - xs.length)) ∧ w' = w := by
 obtain ⟨a, cap, rfl, h1, h2, h3⟩ := h
 clear h3
 unfold maxLen at h2
 by_cases h : left < xs.length
 ·rw [if_pos h]
  go_enter Tryz.func100, Tryz.ntmps100
  go_wp2
  go_ret
  exact ⟨rfl, rfl⟩
 ·rw [if_neg h]
  go_enter Tryz.func100, Tryz.ntmps100
  go_wp2
  go_ret
  exact ⟨rfl, rfl⟩

theorem eq_take_succ {xs ys : List Int} {k : Nat} {x y : Int} (h : xs.take k = ys.take k) (hx : xs[k]? = some x) (hy : ys[k]? = some y) (e : x = y) : xs.take (k + 1) = ys.take (k + 1) := by
 rw [List.take_add_one, List.take_add_one, h, hx, hy, e]

theorem ne_at {xs ys : List Int} {k : Nat} {x y : Int} (hx : xs[k]? = some x) (hy : ys[k]? = some y) (e : x ≠ y) : xs ≠ ys := by
 intro h; rw [h, hy] at hx; exact e (Option.some.inj hx).symm

set_option maxHeartbeats 400000 in
theorem eqIntS_any (w : World) (lo hi lo' hi' : Nat) (va vb : Value) (xs ys : List Int) (ha : SI w lo hi va xs) (hb : SI w lo' hi' vb ys) :
  Calls Tryz.prog 118 #[va, vb] w fun e w' => ∃ m, e = .returned (.bool (decide (xs = ys))) ∧ w' = w.drewN m := by
 obtain ⟨a, cap, rfl, h1, h2, h3⟩ := ha
 obtain ⟨a', cap', rfl, h1', h2', h3'⟩ := hb
 unfold maxLen at h2 h2'
 by_cases hl : xs.length = ys.length
 ·have hl2 : ((xs.length : Int) != (ys.length : Int)) = false := by simp; omega
  go_enter Tryz.func118, Tryz.ntmps118
  go_wp2
  go_loopw [5] (fun i wr => ∃ k m : Nat, k ≤ xs.length ∧ i = .int .i64 k ∧ wr = w.drewN m ∧ xs.take k = ys.take k) (fun i _ => xs.length - (intOf i).toNat)
  case atStart => exact ⟨0, 0, Nat.zero_le _, rfl, rfl, rfl⟩
  case round =>
   obtain ⟨k, m, hk, rfl, rfl, htk⟩ := hrel
   by_cases hlt : k < xs.length
   ·obtain ⟨x, hx⟩ : ∃ x, xs[k]? = some x := ⟨xs[k], List.getElem?_eq_getElem hlt⟩
    obtain ⟨y, hy⟩ : ∃ y, ys[k]? = some y := ⟨ys[k]'(by omega), List.getElem?_eq_getElem (by omega)⟩
    rcases h3 with h0 | ⟨b, off, rfl, _, _, hc⟩
    ·rw [h0] at hlt; simp at hlt
    rcases h3' with h0 | ⟨b', off', rfl, _, _, hc'⟩
    ·rw [h0] at hl; simp at hl; rw [hl] at hlt; simp at hlt
    have c1 := hc k x hx
    have c2 := hc' k y hy
    have HX : Hid (xs[k]? = some x) := hx
    have HY : Hid (ys[k]? = some y) := hy
    have HT : Hid (xs.take k = ys.take k) := htk
    have hlt' : k < ys.length := by omega
    clear hx hy htk hc hc' hl
    by_cases hxy : x = y
    ·have hxy' : (x == y) = true := by simpa using hxy
     have HE : Hid (x = y) := hxy
     clear hxy
     go_wp2_with fail
     go_quiet (fail)
     go_wp2
     go_roundw
     case rel => exact ⟨k + 1, m + nq, by omega, by go_num, by simp, eq_take_succ HT.out HX.out HY.out HE.out⟩
     case measure => simp [intOf]; omega
    ·have hxy' : (x == y) = false := by simpa using hxy
     have HE : Hid (x ≠ y) := hxy
     clear hxy
     go_wp2_with fail
     go_quiet (fail)
     go_wp2
     go_ret
     exact ⟨m + nq, ret_bool (decide_eq_false (ne_at HX.out HY.out HE.out)).symm, by simp⟩
   ·have HT : Hid (xs.take k = ys.take k) := htk
    clear htk
    go_wp2
    go_ret
    exact ⟨m, ret_bool (decide_eq_true (by have := HT.out; rwa [List.take_of_length_le (by omega), List.take_of_length_le (by omega)] at this)).symm, rfl⟩
 ·have hl2 : ((xs.length : Int) != (ys.length : Int)) = true := by simp; omega
  go_enter Tryz.func118, Tryz.ntmps118
  go_wp2
  go_ret
  exact ⟨0, ret_bool (decide_eq_false (by intro h; exact hl (by rw [h]))).symm, rfl⟩

theorem info_int : (Tryz.prog.info? 3).map (fun i => (i.zero, i.size, i.bytes)) = some (some (.int .i64 0), 1, 8) := by kernel_rfl

def OI (w : World) (lo hi : Nat) (v : Value) (xs : List Int) : Prop :=
 xs = [] ∧ (∃ a cap, v = .slice a 0 cap ∧ cap ≤ maxLen) ∨
 ∃ g off cap, v = .slice (some ⟨g, off, none⟩) xs.length cap ∧ xs.length ≤ cap ∧ cap ≤ maxLen ∧ lo ≤ g ∧ g < hi ∧ CI w g off xs ∧ ∀ i, w.frozen? ⟨g, off + i, none⟩ = false

theorem OI.si {w : World} {lo hi : Nat} {v : Value} {xs : List Int} (h : OI w lo hi v xs) : SI w lo hi v xs := by
 rcases h with ⟨rfl, a, cap, rfl, hm⟩ | ⟨g, off, cap, hv, h1, h2, h3, h4, h5, _⟩
 ·exact ⟨a, cap, rfl, Nat.zero_le _, hm, .inl rfl⟩
 ·exact ⟨_, cap, hv, h1, h2, .inr ⟨g, off, rfl, h3, h4, h5⟩⟩

theorem OI.kept {w w' : World} {lo hi : Nat} {v : Value} {xs : List Int} (h : OI w lo hi v xs) (hk : ∀ k, lo ≤ k → k < hi → w'.heap[k]? = w.heap[k]?) : OI w' lo hi v xs := by
 rcases h with h | ⟨g, off, cap, hv, h1, h2, h3, h4, h5, h6⟩
 ·exact .inl h
 ·refine .inr ⟨g, off, cap, hv, h1, h2, h3, h4, fun i x hx => ?_, fun i => ?_⟩
  ·rw [World.cell?_of_block (w := w) (hk g h3 h4)]; exact h5 i x hx
  ·rw [World.frozen?_of_block (w := w) (hk g h3 h4)]; exact h6 i

theorem OI.below {w w' : World} {lo hi n : Nat} {v : Value} {xs : List Int} (h : OI w lo hi v xs) (hb : Below n w w') (hn : hi ≤ n) : OI w' lo hi v xs :=
 h.kept fun k _ hk => hb.block k (by omega)

theorem OI.wide {w : World} {lo hi lo' hi' : Nat} {v : Value} {xs : List Int} (h : OI w lo hi v xs) (h1 : lo' ≤ lo) (h2 : hi ≤ hi') : OI w lo' hi' v xs := by
 rcases h with h | ⟨g, off, cap, hv, h3, h4, h5, h6, h7, h8⟩
 ·exact .inl h
 ·exact .inr ⟨g, off, cap, hv, h3, h4, by omega, by omega, h7, h8⟩

set_option maxHeartbeats 400000 in
theorem toIntS_any (w : World) (lo hi : Nat) (v : Value) (xs : List Int) (h : SI w lo hi v xs) (hhi : hi ≤ w.heap.size) (hx : xs.length ≤ 1048576) :
  Calls Tryz.prog 107 #[v] w fun e w' => ∃ v', e = .returned v' ∧ OI w' w.heap.size w'.heap.size v' xs ∧ Below w.heap.size w w' := by
 obtain ⟨a, cap, rfl, h1, h2, h3⟩ := h
 unfold maxLen at h2
 obtain ⟨i0, hi0, hz0, hz1, hz2⟩ := info_parts info_int
 go_enter Tryz.func107, Tryz.ntmps107
 go_wp2_with (at_make; refine wpList_make_full _ rfl _ _ 49 rfl w.heap.size 3 i0 (.int .i64 0) 1 Tryz.underlying49 hi0 hz0 hz1 .i64 .i64 _ _ xs.length rfl rfl rfl rfl (by rw [hz2]; omega) (by unfold maxLen; omega) (Nat.le_refl _) ?_; intro w1 hown hgrow)
 have hb1 : Below w.heap.size w w1 := (Below.refl _ _).grown hgrow (Nat.le_refl _) (fun k h => by cases h)
 have hs1 : w.heap.size < w1.heap.size := hown.2.elim (fun h => by simp at h) fun ⟨g, cap, cur, hv, hg, hh, _⟩ => by
  simp only [Value.slice.injEq, Option.some.injEq, Addr.mk.injEq, and_true, true_and] at hv
  obtain ⟨rfl, _⟩ := hv
  exact (Array.getElem?_eq_some_iff.mp hh).1
 go_loopw [4] (fun i wr => ∃ (k : Nat) (ys : List Value), k ≤ xs.length ∧ i = .int .i64 k ∧
   wr.ownsRow w.heap.size 3 1 (.slice (some ⟨w.heap.size, 0, none⟩) xs.length xs.length) xs.length ys ∧ Below w.heap.size w wr ∧ w.heap.size < wr.heap.size ∧
   ∀ i x, i < k → xs[i]? = some x → ys[i]? = some (.int .i64 x)) (fun i _ => xs.length - (intOf i).toNat)
 case atStart => exact ⟨0, _, Nat.zero_le _, rfl, hown, hb1, hs1, fun i x h => by omega⟩
 case round =>
  clear hown hgrow hb1 hs1 w1
  obtain ⟨k, ys, hk, rfl, hown, hb, hs, hy⟩ := hrel
  by_cases hlt : k < xs.length
  ·rcases h3 with h0 | ⟨b, off, rfl, _, hbh, hc⟩
   ·rw [h0] at hlt; simp at hlt
   obtain ⟨x, hx⟩ : ∃ x, xs[k]? = some x := ⟨xs[k], List.getElem?_eq_getElem hlt⟩
   have c1 : wr.cell? ⟨b, off + k, none⟩ = some (.int .i64 x) := by rw [hb.cell (p := ⟨b, off + k, none⟩) (by show b < _; omega)]; exact hc k x hx
   have hyl : ys.length = xs.length := by have := hown.1; omega
   obtain ⟨u, hu⟩ : ∃ u, ys[k]? = some u := ⟨ys[k]'(by omega), List.getElem?_eq_getElem (by omega)⟩
   have c2 : wr.cell? ⟨w.heap.size, k, none⟩ = some u := by rw [hown.cellAt k (by omega)]; exact hu
   have c3 : wr.frozen? ⟨w.heap.size, k, none⟩ = false := hown.frozenAt k
   have hst := (hown.stored k (.int .i64 x)).1
   have hb' : Below w.heap.size w (wr.setCell ⟨w.heap.size, k, none⟩ (.int .i64 x)) := hb.setCell (Nat.le_refl _) _
   have HR : Hid (∀ i z, i < k + 1 → xs[i]? = some z → (ys.set k (.int .i64 x))[i]? = some (.int .i64 z)) := by
    intro i z hi hz
    by_cases e : i = k
    ·rw [e, hx] at hz; rw [e, List.getElem?_set_self (by omega), Option.some.inj hz]
    ·rw [List.getElem?_set_ne (by omega)]; exact hy i z (by omega) hz
   have HS : Hid ((wr.setCell ⟨w.heap.size, k, none⟩ (.int .i64 x)).ownsRow w.heap.size 3 1 (.slice (some ⟨w.heap.size, 0, none⟩) xs.length xs.length) xs.length (ys.set k (.int .i64 x))) := hst
   have hs' : w.heap.size < (wr.setCell ⟨w.heap.size, k, none⟩ (.int .i64 x)).heap.size := by simpa [World.setCell] using hs
   have HB : Hid (Below w.heap.size w (wr.setCell ⟨w.heap.size, k, none⟩ (.int .i64 x)) ∧ w.heap.size < (wr.setCell ⟨w.heap.size, k, none⟩ (.int .i64 x)).heap.size) := ⟨hb', hs'⟩
   clear hst hb' hs' hy hx hu hc hown hb
   go_wp2
   go_roundw
   case rel => exact ⟨k + 1, _, by omega, by go_num, HS.out, HB.out.1, HB.out.2, HR.out⟩
   case measure => simp [intOf]; omega
  ·have hkl : k = xs.length := by omega
   have HO : Hid (OI wr w.heap.size wr.heap.size (.slice (some ⟨w.heap.size, 0, none⟩) xs.length xs.length) xs) := by
    refine .inr ⟨w.heap.size, 0, xs.length, rfl, Nat.le_refl _, by unfold maxLen; omega, Nat.le_refl _, hs, fun i x hx => ?_, fun i => hown.frozenAt _⟩
    have hil : i < xs.length := (List.getElem?_eq_some_iff.mp hx).1
    rw [Nat.zero_add, hown.cellAt i (by omega)]
    exact hy i x (by omega) hx
   clear hown hy hkl
   go_wp2
   go_ret
   exact ⟨_, rfl, HO.out, hb⟩

structure Wrote (P : Nat → Nat → Prop) (w w' : World) : Prop where
 os : w'.os = w.os
 tape : w'.tape = w.tape
 output : w'.output = w.output
 size : w'.heap.size = w.heap.size
 block : ∀ k, (∀ o, ¬ P k o) → w'.heap[k]? = w.heap[k]?
 cell : ∀ b o, ¬ P b o → w'.cell? ⟨b, o, none⟩ = w.cell? ⟨b, o, none⟩
 frozen : ∀ b o, w'.frozen? ⟨b, o, none⟩ = w.frozen? ⟨b, o, none⟩

theorem Wrote.refl (P : Nat → Nat → Prop) (w : World) : Wrote P w w := ⟨rfl, rfl, rfl, rfl, fun _ _ => rfl, fun _ _ _ => rfl, fun _ _ => rfl⟩

theorem Wrote.trans {P : Nat → Nat → Prop} {a b c : World} (h : Wrote P a b) (k : Wrote P b c) : Wrote P a c :=
 ⟨k.os.trans h.os, k.tape.trans h.tape, k.output.trans h.output, k.size.trans h.size, fun i hi => (k.block i hi).trans (h.block i hi),
  fun b o hp => (k.cell b o hp).trans (h.cell b o hp), fun b o => (k.frozen b o).trans (h.frozen b o)⟩

theorem Wrote.mono {P Q : Nat → Nat → Prop} {a b : World} (h : Wrote P a b) (hPQ : ∀ i o, P i o → Q i o) : Wrote Q a b :=
 ⟨h.os, h.tape, h.output, h.size, fun k hk => h.block k fun o hp => hk o (hPQ k o hp), fun b o hq => h.cell b o fun hp => hq (hPQ b o hp), h.frozen⟩

theorem Wrote.setCell {P : Nat → Nat → Prop} {a w : World} (h : Wrote P a w) {b o : Nat} (hp : P b o) (u : Value) : Wrote P a (w.setCell ⟨b, o, none⟩ u) :=
 h.trans ⟨rfl, rfl, rfl, by simp [World.setCell], fun k hk => Below.heap_setCell _ _ _ _ (fun e => hk o (by rw [e]; exact hp)),
  fun b' o' hp' => World.cell?_setCell_other w _ _ _ (by intro e; simp only [Addr.mk.injEq] at e; obtain ⟨rfl, rfl, _⟩ := e; exact hp' hp),
  fun b' o' => World.frozen?_setCell _ _ _ _⟩

theorem Wrote.below {P : Nat → Nat → Prop} {a b : World} (h : Wrote P a b) {n : Nat} (hn : ∀ i o, P i o → n ≤ i) : Below n a b :=
 ⟨h.os, h.tape, h.output, by rw [h.size]; exact Nat.le_refl _, fun k hk => h.block k fun o hp => by have := hn k o hp; omega⟩

def Foot (v : Value) (n : Nat) (b o : Nat) : Prop :=
 ∃ g off l cap, v = .slice (some ⟨g, off, none⟩) l cap ∧ b = g ∧ off ≤ o ∧ o < off + n

def marks (k : Int) (n : Nat) : List Int := (List.range n).map fun (i : Nat) => k + (i : Int)

end Go.Proofs.YtaoiookfmgpmkaaGreatDoor

/-
 Charts as data: ways, acts, charts; how they lie in memory (TR: ways that can be read; TO: ways that are owned); what is ok.
-/
namespace Go.Proofs.YtaoiookfmgpmkaaGreatDoor
open Go.ChangeShapes Go.WideShapes Go.ChangeAt Go.RowKit
set_option linter.unusedVariables false

structure TransD where
 fr : List Int
 to : List Int
 e : ExprD

structure ActD where
 kind : Int
 step : Int
 tk : Int
 ta : Int
deriving DecidableEq

structure ChartD where
 steps : Int
 ts : List TransD
 acts : List ActD

def actC (a : ActD) : List Value := [.int .i64 a.kind, .int .i64 a.step, .int .i64 a.tk, .int .i64 a.ta]
theorem actC_one (a : ActD) : ∀ v ∈ actC a, v.oneCell' = true := by
 intro v hv; simp only [actC, List.mem_cons, List.not_mem_nil, or_false] at hv
 rcases hv with rfl | rfl | rfl | rfl <;> rfl
def actE : Elem ActD := ⟨actC, 4, by decide, fun _ => rfl, actC_one⟩

def exprC (e : ExprD) (s : Value) : List Value := [.int .i64 e.k, .int .i64 e.n, .int .i64 e.ak, .int .i64 e.at_, s]
def transC (x y : Value) (e : ExprD) (s : Value) : List Value := [x, y, .int .i64 e.k, .int .i64 e.n, .int .i64 e.ak, .int .i64 e.at_, s]
theorem exprC_one (e : ExprD) {s : Value} (hs : s.oneCell' = true) : ∀ v ∈ exprC e s, v.oneCell' = true := by
 intro v hv; simp only [exprC, List.mem_cons, List.not_mem_nil, or_false] at hv
 rcases hv with rfl | rfl | rfl | rfl | rfl <;> first | rfl | exact hs
theorem transC_one (e : ExprD) {x y s : Value} (hx : x.oneCell' = true) (hy : y.oneCell' = true) (hs : s.oneCell' = true) : ∀ v ∈ transC x y e s, v.oneCell' = true := by
 intro v hv; simp only [transC, List.mem_cons, List.not_mem_nil, or_false] at hv
 rcases hv with rfl | rfl | rfl | rfl | rfl | rfl | rfl <;> first | rfl | exact hx | exact hy | exact hs

structure WayR (w : World) (lo hi : Nat) (x y s : Value) (t : TransD) : Prop where
 fr : SI w lo hi x t.fr
 to : SI w lo hi y t.to
 e : KR w lo hi s t.e.kids

theorem WayR.kept {w w' : World} {lo hi : Nat} {x y s : Value} {t : TransD} (h : WayR w lo hi x y s t) (hk : ∀ k, lo ≤ k → k < hi → w'.heap[k]? = w.heap[k]?) : WayR w' lo hi x y s t := ⟨h.fr.kept hk, h.to.kept hk, h.e.kept hk⟩
theorem WayR.under {w w' : World} {lo hi n : Nat} {x y s : Value} {t : TransD} (h : WayR w lo hi x y s t) (hb : Below n w w') (hn : hi ≤ n) : WayR w' lo hi x y s t := h.kept fun k _ hk => hb.block k (by omega)
theorem WayR.wide {w : World} {lo hi lo' hi' : Nat} {x y s : Value} {t : TransD} (h : WayR w lo hi x y s t) (hl : lo' ≤ lo) (hh : hi ≤ hi') : WayR w lo' hi' x y s t := ⟨h.fr.wide hl hh, h.to.wide hl hh, h.e.wide hl hh⟩
theorem WayR.shape {w : World} {lo hi : Nat} {x y s : Value} {t : TransD} (h : WayR w lo hi x y s t) : ∃ ax cx ay cy az cz, x = .slice ax t.fr.length cx ∧ y = .slice ay t.to.length cy ∧ s = .slice az t.e.kids.length cz := by
 obtain ⟨a, c, rfl, _⟩ := h.fr
 obtain ⟨a', c', rfl, _⟩ := h.to
 obtain ⟨a'', c'', rfl, _⟩ := h.e.shape
 exact ⟨_, _, _, _, _, _, rfl, rfl, rfl⟩

def TR (w : World) (lo hi : Nat) (v : Value) (ts : List TransD) : Prop :=
 ∃ ad cap, v = .slice ad ts.length cap ∧ ts.length ≤ cap ∧ cap ≤ maxLen ∧
  (ts = [] ∨ ∃ b off, ∃ xs ys ss : Nat → Value, ad = some ⟨b, off, none⟩ ∧ lo ≤ b ∧ b < hi ∧ ∀ (i : Nat) (t : TransD), ts[i]? = some t → CV w b (off + i * 7) (transC (xs i) (ys i) t.e (ss i)) ∧ WayR w lo hi (xs i) (ys i) (ss i) t)

theorem TR.shape {w : World} {lo hi : Nat} {v : Value} {ts : List TransD} (h : TR w lo hi v ts) : ∃ ad cap, v = .slice ad ts.length cap ∧ ts.length ≤ cap ∧ cap ≤ maxLen := by
 obtain ⟨ad, cap, hv, h1, h2, _⟩ := h; exact ⟨ad, cap, hv, h1, h2⟩

theorem TR.at_ {w : World} {lo hi : Nat} {v : Value} {ts : List TransD} (h : TR w lo hi v ts) {i : Nat} {t : TransD} (hi' : ts[i]? = some t) :
  ∃ b off cap x y s, v = .slice (some ⟨b, off, none⟩) ts.length cap ∧ lo ≤ b ∧ b < hi ∧ CV w b (off + i * 7) (transC x y t.e s) ∧ WayR w lo hi x y s t := by
 obtain ⟨ad, cap, hv, h1, h2, h3⟩ := h
 rcases h3 with rfl | ⟨b, off, xs, ys, ss, rfl, h3, h4, hc⟩
 ·simp at hi'
 ·exact ⟨b, off, cap, _, _, _, hv, h3, h4, (hc i t hi').1, (hc i t hi').2⟩

theorem TR.kept {w w' : World} {lo hi : Nat} {v : Value} {ts : List TransD} (h : TR w lo hi v ts) (hk : ∀ k, lo ≤ k → k < hi → w'.heap[k]? = w.heap[k]?) : TR w' lo hi v ts := by
 obtain ⟨ad, cap, hv, h1, h2, h3⟩ := h
 refine ⟨ad, cap, hv, h1, h2, h3.imp id ?_⟩
 rintro ⟨b, off, xs, ys, ss, ha, h3, h4, hc⟩
 exact ⟨b, off, xs, ys, ss, ha, h3, h4, fun i t ht => ⟨(hc i t ht).1.kept (hk b h3 h4), (hc i t ht).2.kept hk⟩⟩
theorem TR.under {w w' : World} {lo hi n : Nat} {v : Value} {ts : List TransD} (h : TR w lo hi v ts) (hb : Below n w w') (hn : hi ≤ n) : TR w' lo hi v ts := h.kept fun k _ hk => hb.block k (by omega)
theorem TR.wide {w : World} {lo hi lo' hi' : Nat} {v : Value} {ts : List TransD} (h : TR w lo hi v ts) (hl : lo' ≤ lo) (hh : hi ≤ hi') : TR w lo' hi' v ts := by
 obtain ⟨ad, cap, hv, h1, h2, h3⟩ := h
 refine ⟨ad, cap, hv, h1, h2, h3.imp id ?_⟩
 rintro ⟨b, off, xs, ys, ss, ha, h3, h4, hc⟩
 exact ⟨b, off, xs, ys, ss, ha, by omega, by omega, fun i t ht => ⟨(hc i t ht).1, (hc i t ht).2.wide hl hh⟩⟩

structure WayO (w : World) (l m n h : Nat) (x y s : Value) (t : TransD) : Prop where
 fr : OI w l m x t.fr
 to : OI w m n y t.to
 e : KO w n h s t.e.kids
 le : l ≤ m ∧ m ≤ n ∧ n ≤ h

theorem WayO.r {w : World} {l m n h : Nat} {x y s : Value} {t : TransD} (o : WayO w l m n h x y s t) : WayR w l h x y s t :=
 ⟨o.fr.si.wide (by have := o.le; omega) (by have := o.le; omega), o.to.si.wide (by have := o.le; omega) (by have := o.le; omega), o.e.kr.wide (by have := o.le; omega) (by have := o.le; omega)⟩
theorem WayO.kept {w w' : World} {l m n h : Nat} {x y s : Value} {t : TransD} (o : WayO w l m n h x y s t) (hk : ∀ k, l ≤ k → k < h → w'.heap[k]? = w.heap[k]?) : WayO w' l m n h x y s t := by
 have := o.le
 exact ⟨o.fr.kept fun k h1 h2 => hk k (by omega) (by omega), o.to.kept fun k h1 h2 => hk k (by omega) (by omega), o.e.kept fun k h1 h2 => hk k (by omega) (by omega), o.le⟩

structure TOs (w : World) (hi b off : Nat) (ts : List TransD) (xs ys ss : Nat → Value) (l m n h : Nat → Nat) : Prop where
 way : ∀ (i : Nat) (t : TransD), ts[i]? = some t → CV w b (off + i * 7) (transC (xs i) (ys i) t.e (ss i)) ∧ WayO w (l i) (m i) (n i) (h i) (xs i) (ys i) (ss i) t
 in_ : ∀ i, i < ts.length → b < l i ∧ h i ≤ hi
 ord : ∀ i j, i < j → j < ts.length → h i ≤ l j
 fz : ∀ o, w.frozen? ⟨b, off + o, none⟩ = false

def TO (w : World) (lo hi : Nat) (v : Value) (ts : List TransD) : Prop :=
 ts = [] ∧ (∃ ad cap, v = .slice ad 0 cap ∧ cap ≤ maxLen) ∨
 ∃ b off cap xs ys ss l m n h, v = .slice (some ⟨b, off, none⟩) ts.length cap ∧ ts.length ≤ cap ∧ cap ≤ maxLen ∧ lo ≤ b ∧ b < hi ∧ TOs w hi b off ts xs ys ss l m n h

theorem TOs.kept {w w' : World} {hi b off : Nat} {ts : List TransD} {xs ys ss : Nat → Value} {l m n h : Nat → Nat} (o : TOs w hi b off ts xs ys ss l m n h) (hb : b < hi) (hk : ∀ k, b ≤ k → k < hi → w'.heap[k]? = w.heap[k]?) : TOs w' hi b off ts xs ys ss l m n h := by
 refine ⟨fun i t ht => ⟨(o.way i t ht).1.kept (hk b (Nat.le_refl _) hb), (o.way i t ht).2.kept fun k h1 h2 => ?_⟩, o.in_, o.ord, fun q => by rw [World.frozen?_of_block (w := w) (hk b (Nat.le_refl _) hb)]; exact o.fz q⟩
 have hi' := o.in_ i (List.getElem?_eq_some_iff.mp ht).1
 exact hk k (by omega) (by omega)

theorem TO.tr {w : World} {lo hi : Nat} {v : Value} {ts : List TransD} (h : TO w lo hi v ts) : TR w lo hi v ts := by
 rcases h with ⟨rfl, ad, cap, rfl, hm⟩ | ⟨b, off, cap, xs, ys, ss, l, m, n, h, hv, h1, h2, h3, h4, o⟩
 ·exact ⟨ad, cap, rfl, Nat.zero_le _, hm, .inl rfl⟩
 ·refine ⟨_, cap, hv, h1, h2, .inr ⟨b, off, xs, ys, ss, rfl, h3, h4, fun i t ht => ⟨(o.way i t ht).1, (o.way i t ht).2.r.wide ?_ ?_⟩⟩⟩
  ·have := o.in_ i (List.getElem?_eq_some_iff.mp ht).1; omega
  ·have := o.in_ i (List.getElem?_eq_some_iff.mp ht).1; omega

theorem TO.kept {w w' : World} {lo hi : Nat} {v : Value} {ts : List TransD} (h : TO w lo hi v ts) (hk : ∀ k, lo ≤ k → k < hi → w'.heap[k]? = w.heap[k]?) : TO w' lo hi v ts := by
 rcases h with h | ⟨b, off, cap, xs, ys, ss, l, m, n, h, hv, h1, h2, h3, h4, o⟩
 ·exact .inl h
 ·exact .inr ⟨b, off, cap, xs, ys, ss, l, m, n, h, hv, h1, h2, h3, h4, o.kept h4 fun k q1 q2 => hk k (by omega) q2⟩
theorem TO.under {w w' : World} {lo hi n : Nat} {v : Value} {ts : List TransD} (h : TO w lo hi v ts) (hb : Below n w w') (hn : hi ≤ n) : TO w' lo hi v ts := h.kept fun k _ hk => hb.block k (by omega)
theorem TOs.wide {w : World} {hi hi' b off : Nat} {ts : List TransD} {xs ys ss : Nat → Value} {l m n h : Nat → Nat} (o : TOs w hi b off ts xs ys ss l m n h) (hh : hi ≤ hi') : TOs w hi' b off ts xs ys ss l m n h :=
 ⟨o.way, fun i h1 => ⟨(o.in_ i h1).1, Nat.le_trans (o.in_ i h1).2 hh⟩, o.ord, o.fz⟩
theorem TO.wide {w : World} {lo hi lo' hi' : Nat} {v : Value} {ts : List TransD} (h : TO w lo hi v ts) (hl : lo' ≤ lo) (hh : hi ≤ hi') : TO w lo' hi' v ts := by
 rcases h with h | ⟨b, off, cap, xs, ys, ss, l, m, n, h, hv, h1, h2, h3, h4, o⟩
 ·exact .inl h
 ·exact .inr ⟨b, off, cap, xs, ys, ss, l, m, n, h, hv, h1, h2, by omega, by omega, o.wide hh⟩

def HIc (w : World) (lo hi : Nat) (v : Value) (c : ChartD) : Prop := ∃ a b, v = .agg #[.int .i64 c.steps, a, b] ∧ TR w lo hi a c.ts ∧ GR actE w lo hi b c.acts
def HOc (w : World) (lo hi : Nat) (v : Value) (c : ChartD) : Prop := ∃ a b mid, v = .agg #[.int .i64 c.steps, a, b] ∧ TO w lo mid a c.ts ∧ GO actE w mid hi b c.acts ∧ lo ≤ mid ∧ mid ≤ hi

theorem HIc.kept {w w' : World} {lo hi : Nat} {v : Value} {c : ChartD} (h : HIc w lo hi v c) (hk : ∀ k, lo ≤ k → k < hi → w'.heap[k]? = w.heap[k]?) : HIc w' lo hi v c := by
 obtain ⟨a, b, hv, h1, h2⟩ := h; exact ⟨a, b, hv, h1.kept hk, h2.kept hk⟩
theorem HIc.under {w w' : World} {lo hi n : Nat} {v : Value} {c : ChartD} (h : HIc w lo hi v c) (hb : Below n w w') (hn : hi ≤ n) : HIc w' lo hi v c := h.kept fun k _ hk => hb.block k (by omega)
theorem HIc.below {w w' : World} {lo hi n : Nat} {v : Value} {c : ChartD} (h : HIc w lo hi v c) (hb : Below n w w') (hn : hi ≤ n) : HIc w' lo hi v c := h.under hb hn
theorem HOc.hi {w : World} {lo hi : Nat} {v : Value} {c : ChartD} (h : HOc w lo hi v c) : HIc w lo hi v c := by
 obtain ⟨a, b, mid, hv, h1, h2, h3, h4⟩ := h; exact ⟨a, b, hv, h1.tr.wide (Nat.le_refl _) h4, h2.gr.wide h3 (Nat.le_refl _)⟩
theorem HOc.kept {w w' : World} {lo hi : Nat} {v : Value} {c : ChartD} (h : HOc w lo hi v c) (hk : ∀ k, lo ≤ k → k < hi → w'.heap[k]? = w.heap[k]?) : HOc w' lo hi v c := by
 obtain ⟨a, b, mid, hv, h1, h2, h3, h4⟩ := h
 exact ⟨a, b, mid, hv, h1.kept fun k h5 h6 => hk k h5 (by omega), h2.kept fun k h5 h6 => hk k (by omega) h6, h3, h4⟩
theorem HOc.under {w w' : World} {lo hi n : Nat} {v : Value} {c : ChartD} (h : HOc w lo hi v c) (hb : Below n w w') (hn : hi ≤ n) : HOc w' lo hi v c := h.kept fun k _ hk => hb.block k (by omega)
theorem HOc.below {w w' : World} {lo hi n : Nat} {v : Value} {c : ChartD} (h : HOc w lo hi v c) (hb : Below n w w') (hn : hi ≤ n) : HOc w' lo hi v c := h.under hb hn
theorem HIc.shape {w : World} {lo hi : Nat} {v : Value} {c : ChartD} (h : HIc w lo hi v c) : ∃ pa ca pb cb, v = .agg #[.int .i64 c.steps, .slice pa c.ts.length ca, .slice pb c.acts.length cb] := by
 obtain ⟨a, b, rfl, h1, h2⟩ := h
 obtain ⟨ad, cap, rfl, _, _⟩ := h1.shape
 obtain ⟨ad', cap', rfl, _, _⟩ := h2.shape
 exact ⟨_, _, _, _, rfl⟩

def TransD.many (t : TransD) : Nat := t.fr.length + t.to.length + manyL t.e.kids
def manyT : List TransD → Nat
 | [] => 0
 | t :: ts => t.many + 1 + manyT ts
def ChartD.many (c : ChartD) : Nat := manyT c.ts + c.acts.length

theorem manyT_append (xs ys : List TransD) : manyT (xs ++ ys) = manyT xs + manyT ys := by
 induction xs with
 | nil => rw [List.nil_append, manyT]; omega
 | cons x xs ih => rw [List.cons_append, manyT, manyT, ih]; omega
theorem manyT_take_succ {ts : List TransD} {i : Nat} {t : TransD} (h : ts[i]? = some t) : manyT (ts.take (i + 1)) = manyT (ts.take i) + t.many + 1 := by
 rw [List.take_add_one, h, manyT_append]
 show manyT (ts.take i) + manyT [t] = _
 rw [manyT, manyT]
 omega
theorem manyT_take_le (ts : List TransD) (i : Nat) : manyT (ts.take i) ≤ manyT ts := by
 have h := manyT_append (ts.take i) (ts.drop i)
 rw [List.take_append_drop] at h
 omega
theorem length_le_manyT (ts : List TransD) : ts.length ≤ manyT ts := by
 induction ts with
 | nil => rw [manyT]; exact Nat.le_refl _
 | cons t ts ih => rw [manyT, List.length_cons]; omega
theorem manyT_rest (ts : List TransD) (j : Nat) (hj : j ≤ ts.length) : manyT (ts.take j) + (ts.length - j) ≤ manyT ts := by
 have h := manyT_append (ts.take j) (ts.drop j)
 rw [List.take_append_drop] at h
 have h2 := length_le_manyT (ts.drop j)
 rw [List.length_drop] at h2
 omega
theorem take_le_manyT (ts : List TransD) (j : Nat) (hj : j ≤ ts.length) : j ≤ manyT (ts.take j) := by
 have h2 := length_le_manyT (ts.take j)
 rw [List.length_take] at h2
 omega
theorem many_le_manyT {ts : List TransD} {i : Nat} {t : TransD} (h : ts[i]? = some t) : t.many + 1 ≤ manyT ts := by
 have h1 := manyT_take_succ h
 have h2 := manyT_take_le ts (i + 1)
 omega
end Go.Proofs.YtaoiookfmgpmkaaGreatDoor
