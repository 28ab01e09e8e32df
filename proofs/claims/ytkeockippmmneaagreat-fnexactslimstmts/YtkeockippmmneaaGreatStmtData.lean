/-
  Statements (Stmt) as data, and how lists of them lie in memory: SR: lists that can be read; SO: lists that are owned, each in blocks of its own.
-/
import Derived.Test.YtkeockippmmneaaGreatExprData
namespace Go.Proofs.YtkeockippmmneaaGreat
open Go.ChangeShapes Go.WideShapes Go.ChangeAt Go.RowKit
set_option linter.unusedVariables false

/-- What is done: kind, place, what is reckoned, two lists. -/
inductive StmtD where
  | mk (k tk ta : Int) (e : ExprD) (th el : List StmtD)

def StmtD.k : StmtD → Int | .mk k _ _ _ _ _ => k
def StmtD.tk : StmtD → Int | .mk _ x _ _ _ _ => x
def StmtD.ta : StmtD → Int | .mk _ _ x _ _ _ => x
def StmtD.e : StmtD → ExprD | .mk _ _ _ x _ _ => x
def StmtD.th : StmtD → List StmtD | .mk _ _ _ _ x _ => x
def StmtD.el : StmtD → List StmtD | .mk _ _ _ _ _ x => x

theorem StmtD.eta (s : StmtD) : s = .mk s.k s.tk s.ta s.e s.th s.el := by cases s; rfl

theorem stmtD_eq {x y : StmtD} : x = y ↔ x.k = y.k ∧ (x.tk = y.tk ∧ x.ta = y.ta) ∧ x.e = y.e ∧ x.th = y.th ∧ x.el = y.el := by
  cases x; cases y; simp [StmtD.k, StmtD.tk, StmtD.ta, StmtD.e, StmtD.th, StmtD.el, and_assoc]

mutual
/-- How much there is: the statement, the parts below what it reckons, all that is within it. -/
def sizeS : StmtD → Nat
  | .mk _ _ _ e th el => manyL e.kids + sizeL th + sizeL el + 1
def sizeL : List StmtD → Nat
  | [] => 0
  | s :: ss => sizeS s + sizeL ss
end

theorem sizeS_eq (s : StmtD) : sizeS s = manyL s.e.kids + sizeL s.th + sizeL s.el + 1 := by cases s; rw [sizeS]; rfl

theorem sizeL_append (xs ys : List StmtD) : sizeL (xs ++ ys) = sizeL xs + sizeL ys := by
  induction xs with
  | nil => rw [List.nil_append, sizeL]; omega
  | cons x xs ih => rw [List.cons_append, sizeL, sizeL, ih]; omega

theorem sizeL_take_succ {ss : List StmtD} {i : Nat} {s : StmtD} (h : ss[i]? = some s) : sizeL (ss.take (i + 1)) = sizeL (ss.take i) + sizeS s := by
  rw [List.take_add_one, h, sizeL_append]
  show sizeL (ss.take i) + sizeL [s] = _
  rw [sizeL, sizeL]
  omega

theorem sizeL_take_le (ss : List StmtD) (i : Nat) : sizeL (ss.take i) ≤ sizeL ss := by
  have h := sizeL_append (ss.take i) (ss.drop i)
  rw [List.take_append_drop] at h
  omega

theorem length_le_sizeL (ss : List StmtD) : ss.length ≤ sizeL ss := by
  induction ss with
  | nil => rw [sizeL]; exact Nat.le_refl _
  | cons s ss ih => rw [sizeL, sizeS_eq, List.length_cons]; omega

theorem stmt_lt {ss : List StmtD} {i : Nat} {s : StmtD} (h : ss[i]? = some s) : manyL s.e.kids + sizeL s.th + sizeL s.el < sizeL ss := by
  have h1 := sizeL_take_succ h
  have h2 := sizeL_take_le ss (i + 1)
  have h3 := sizeS_eq s
  omega

theorem size_rest (ss : List StmtD) (j : Nat) (hj : j ≤ ss.length) : sizeL (ss.take j) + (ss.length - j) ≤ sizeL ss := by
  have h := sizeL_append (ss.take j) (ss.drop j)
  rw [List.take_append_drop] at h
  have h2 := length_le_sizeL (ss.drop j)
  rw [List.length_drop] at h2
  omega

theorem take_le_size (ss : List StmtD) (j : Nat) (hj : j ≤ ss.length) : j ≤ sizeL (ss.take j) := by
  have h2 := length_le_sizeL (ss.take j)
  rw [List.length_take] at h2
  omega

/-- The ten cells of a statement. -/
structure Cell10 (w : World) (b o : Nat) (s : StmtD) (x y z : Value) : Prop where
  c0 : w.cell? ⟨b, o, none⟩ = some (.int .i64 s.k)
  c1 : w.cell? ⟨b, o + 1, none⟩ = some (.int .i64 s.tk)
  c2 : w.cell? ⟨b, o + 2, none⟩ = some (.int .i64 s.ta)
  c3 : w.cell? ⟨b, o + 3, none⟩ = some (.int .i64 s.e.k)
  c4 : w.cell? ⟨b, o + 4, none⟩ = some (.int .i64 s.e.n)
  c5 : w.cell? ⟨b, o + 5, none⟩ = some (.int .i64 s.e.ak)
  c6 : w.cell? ⟨b, o + 6, none⟩ = some (.int .i64 s.e.at_)
  c7 : w.cell? ⟨b, o + 7, none⟩ = some x
  c8 : w.cell? ⟨b, o + 8, none⟩ = some y
  c9 : w.cell? ⟨b, o + 9, none⟩ = some z

theorem Cell10.kept {w w' : World} {b o : Nat} {s : StmtD} {x y z : Value} (h : Cell10 w b o s x y z) (hk : w'.heap[b]? = w.heap[b]?) : Cell10 w' b o s x y z :=
  ⟨by rw [World.cell?_of_block (w := w) hk]; exact h.c0, by rw [World.cell?_of_block (w := w) hk]; exact h.c1, by rw [World.cell?_of_block (w := w) hk]; exact h.c2, by rw [World.cell?_of_block (w := w) hk]; exact h.c3, by rw [World.cell?_of_block (w := w) hk]; exact h.c4,
    by rw [World.cell?_of_block (w := w) hk]; exact h.c5, by rw [World.cell?_of_block (w := w) hk]; exact h.c6, by rw [World.cell?_of_block (w := w) hk]; exact h.c7, by rw [World.cell?_of_block (w := w) hk]; exact h.c8, by rw [World.cell?_of_block (w := w) hk]; exact h.c9⟩

/-- A list of statements that can be read, in the blocks from lo to hi. -/
inductive SR (w : World) (lo hi : Nat) : Value → List StmtD → Prop
  | nil (ad : Option Go.Addr) (cap : Nat) (hc : cap ≤ maxLen) : SR w lo hi (.slice ad 0 cap) []
  | cons (b off cap : Nat) (ss : List StmtD) (x y z : Nat → Value) (h0 : ss ≠ []) (h1 : ss.length ≤ cap) (h2 : cap ≤ maxLen) (h3 : lo ≤ b) (h4 : b < hi)
      (hc : ∀ i s, ss[i]? = some s → Cell10 w b (off + i * 10) s (x i) (y i) (z i)) (he : ∀ i s, ss[i]? = some s → KR w lo hi (x i) s.e.kids)
      (ht : ∀ i s, ss[i]? = some s → SR w lo hi (y i) s.th) (hl : ∀ i s, ss[i]? = some s → SR w lo hi (z i) s.el) : SR w lo hi (.slice (some ⟨b, off, none⟩) ss.length cap) ss

theorem SR.shape {w : World} {lo hi : Nat} {v : Value} {ss : List StmtD} (h : SR w lo hi v ss) : ∃ ad cap, v = .slice ad ss.length cap ∧ ss.length ≤ cap ∧ cap ≤ maxLen := by
  cases h with
  | nil ad cap hc => exact ⟨ad, cap, rfl, Nat.zero_le _, hc⟩
  | cons b off cap ss x y z h0 h1 h2 => exact ⟨_, cap, rfl, h1, h2⟩

theorem SR.at_ {w : World} {lo hi : Nat} {v : Value} {ss : List StmtD} (h : SR w lo hi v ss) {i : Nat} {s : StmtD} (hi' : ss[i]? = some s) :
    ∃ b off cap x y z, v = .slice (some ⟨b, off, none⟩) ss.length cap ∧ lo ≤ b ∧ b < hi ∧ Cell10 w b (off + i * 10) s x y z ∧ KR w lo hi x s.e.kids ∧ SR w lo hi y s.th ∧ SR w lo hi z s.el := by
  cases h with
  | nil ad cap hc => simp at hi'
  | cons b off cap ss x y z h0 h1 h2 h3 h4 hc he ht hl => exact ⟨b, off, cap, x i, y i, z i, rfl, h3, h4, hc i s hi', he i s hi', ht i s hi', hl i s hi'⟩

theorem SR.kept {w w' : World} {lo hi : Nat} {v : Value} {ss : List StmtD} (h : SR w lo hi v ss) (hk : ∀ k, lo ≤ k → k < hi → w'.heap[k]? = w.heap[k]?) : SR w' lo hi v ss := by
  induction h with
  | nil ad cap hc => exact .nil ad cap hc
  | cons b off cap ss x y z h0 h1 h2 h3 h4 hc he _ _ iht ihl => exact .cons b off cap ss x y z h0 h1 h2 h3 h4 (fun i e hi => (hc i e hi).kept (hk b h3 h4)) (fun i e hi => (he i e hi).kept hk) (fun i e hi => iht i e hi) fun i e hi => ihl i e hi

theorem SR.under {w w' : World} {lo hi n : Nat} {v : Value} {ss : List StmtD} (h : SR w lo hi v ss) (hb : Below n w w') (hn : hi ≤ n) : SR w' lo hi v ss :=
  h.kept fun k _ hk => hb.block k (by omega)

theorem SR.wide {w : World} {lo hi lo' hi' : Nat} {v : Value} {ss : List StmtD} (h : SR w lo hi v ss) (hl : lo' ≤ lo) (hh : hi ≤ hi') : SR w lo' hi' v ss := by
  induction h with
  | nil ad cap hc => exact .nil ad cap hc
  | cons b off cap ss x y z h0 h1 h2 h3 h4 hc he _ _ iht ihl => exact .cons b off cap ss x y z h0 h1 h2 (by omega) (by omega) hc (fun i e hi => (he i e hi).wide hl hh) iht ihl

/-- Where what belongs to a statement lies: in the blocks from l to h; the kids of what it reckons from a0 to a1, its lists from b0 to b1 and from c0 to c1. -/
structure Rg where
  l : Nat
  h : Nat
  a0 : Nat
  a1 : Nat
  b0 : Nat
  b1 : Nat
  c0 : Nat
  c1 : Nat

structure Rg.Ok (r : Rg) (lo hi b : Nat) : Prop where
  lo_ : lo ≤ r.l
  hi_ : r.h ≤ hi
  apart : b < r.l ∨ r.h ≤ b
  a : r.l ≤ r.a0 ∧ r.a1 ≤ r.h
  b : r.l ≤ r.b0 ∧ r.b1 ≤ r.h
  c : r.l ≤ r.c0 ∧ r.c1 ≤ r.h
  ab : r.a1 ≤ r.b0 ∨ r.b1 ≤ r.a0
  ac : r.a1 ≤ r.c0 ∨ r.c1 ≤ r.a0
  bc : r.b1 ≤ r.c0 ∨ r.c1 ≤ r.b0

/-- A list of statements that is owned: its cells may be written, and all that belongs to one lies apart from it, from that of the others, and from one another. -/
inductive SO (w : World) : Nat → Nat → Value → List StmtD → Prop
  | nil (lo hi : Nat) (ad : Option Go.Addr) (cap : Nat) (hc : cap ≤ maxLen) : SO w lo hi (.slice ad 0 cap) []
  | cons (lo hi b off cap : Nat) (ss : List StmtD) (x y z : Nat → Value) (r : Nat → Rg) (h0 : ss ≠ []) (h1 : ss.length ≤ cap) (h2 : cap ≤ maxLen) (h3 : lo ≤ b) (h4 : b < hi)
      (hf : ∀ o, w.frozen? ⟨b, off + o, none⟩ = false) (hc : ∀ i s, ss[i]? = some s → Cell10 w b (off + i * 10) s (x i) (y i) (z i))
      (hr : ∀ i, i < ss.length → (r i).Ok lo hi b) (hd : ∀ i j, i < j → j < ss.length → (r i).h ≤ (r j).l ∨ (r j).h ≤ (r i).l)
      (he : ∀ i s, ss[i]? = some s → KO w (r i).a0 (r i).a1 (x i) s.e.kids) (ht : ∀ i s, ss[i]? = some s → SO w (r i).b0 (r i).b1 (y i) s.th)
      (hl : ∀ i s, ss[i]? = some s → SO w (r i).c0 (r i).c1 (z i) s.el) : SO w lo hi (.slice (some ⟨b, off, none⟩) ss.length cap) ss

theorem SO.sr {w : World} {lo hi : Nat} {v : Value} {ss : List StmtD} (h : SO w lo hi v ss) : SR w lo hi v ss := by
  induction h with
  | nil lo hi ad cap hc => exact .nil ad cap hc
  | cons lo hi b off cap ss x y z r h0 h1 h2 h3 h4 hf hc hr hd he _ _ iht ihl =>
    have key : ∀ i s, ss[i]? = some s → lo ≤ (r i).a0 ∧ (r i).a1 ≤ hi ∧ lo ≤ (r i).b0 ∧ (r i).b1 ≤ hi ∧ lo ≤ (r i).c0 ∧ (r i).c1 ≤ hi := fun i s hi => by
      obtain ⟨r1, r2, r3, r4, r5, r6, r7, r8, r9⟩ := hr i (List.getElem?_eq_some_iff.mp hi).1
      omega
    exact .cons b off cap ss x y z h0 h1 h2 h3 h4 hc (fun i s hi => (he i s hi).kr.wide (key i s hi).1 (key i s hi).2.1) (fun i s hi => (iht i s hi).wide (key i s hi).2.2.1 (key i s hi).2.2.2.1) fun i s hi => (ihl i s hi).wide (key i s hi).2.2.2.2.1 (key i s hi).2.2.2.2.2

theorem SO.kept {w w' : World} {lo hi : Nat} {v : Value} {ss : List StmtD} (h : SO w lo hi v ss) (hk : ∀ k, lo ≤ k → k < hi → w'.heap[k]? = w.heap[k]?) : SO w' lo hi v ss := by
  induction h with
  | nil lo hi ad cap hc => exact .nil lo hi ad cap hc
  | cons lo hi b off cap ss x y z r h0 h1 h2 h3 h4 hf hc hr hd he _ _ iht ihl =>
    have key : ∀ i s, ss[i]? = some s → lo ≤ (r i).a0 ∧ (r i).a1 ≤ hi ∧ lo ≤ (r i).b0 ∧ (r i).b1 ≤ hi ∧ lo ≤ (r i).c0 ∧ (r i).c1 ≤ hi := fun i s hi => by
      obtain ⟨r1, r2, r3, r4, r5, r6, r7, r8, r9⟩ := hr i (List.getElem?_eq_some_iff.mp hi).1
      omega
    refine .cons lo hi b off cap ss x y z r h0 h1 h2 h3 h4 (fun o => ?_) (fun i e hi => (hc i e hi).kept (hk b h3 h4)) hr hd (fun i s hi => (he i s hi).kept fun k q1 q2 => hk k ?_ ?_) (fun i s hi => iht i s hi fun k q1 q2 => hk k ?_ ?_) fun i s hi => ihl i s hi fun k q1 q2 => hk k ?_ ?_
    · rw [World.frozen?_of_block (w := w) (hk b h3 h4)]; exact hf o
    all_goals (have := key i s hi; omega)

theorem SO.under {w w' : World} {lo hi n : Nat} {v : Value} {ss : List StmtD} (h : SO w lo hi v ss) (hb : Below n w w') (hn : hi ≤ n) : SO w' lo hi v ss :=
  h.kept fun k _ hk => hb.block k (by omega)

theorem SO.wide {w : World} {lo hi lo' hi' : Nat} {v : Value} {ss : List StmtD} (h : SO w lo hi v ss) (hl : lo' ≤ lo) (hh : hi ≤ hi') : SO w lo' hi' v ss := by
  cases h with
  | nil lo hi ad cap hc => exact .nil _ _ ad cap hc
  | cons lo hi b off cap ss x y z r h0 h1 h2 h3 h4 hf hc hr hd he ht hl' =>
    exact .cons _ _ b off cap ss x y z r h0 h1 h2 (by omega) (by omega) hf hc (fun i hi => by
      obtain ⟨r1, r2, r3, r4, r5, r6, r7, r8, r9⟩ := hr i hi
      exact ⟨by omega, by omega, r3, r4, r5, r6, r7, r8, r9⟩) hd he ht hl'

/-- The value of a statement. -/
def stmtV (s : StmtD) (x y z : Value) : Value := .agg #[.int .i64 s.k, .int .i64 s.tk, .int .i64 s.ta, .int .i64 s.e.k, .int .i64 s.e.n, .int .i64 s.e.ak, .int .i64 s.e.at_, x, y, z]

/-- Ten values in one block that may be written. -/
structure TenW (u : World) (V : Nat) (x0 x1 x2 x3 x4 x5 x6 x7 x8 x9 : Value) : Prop where
  c0 : u.cell? ⟨V, 0, none⟩ = some x0
  c1 : u.cell? ⟨V, 1, none⟩ = some x1
  c2 : u.cell? ⟨V, 2, none⟩ = some x2
  c3 : u.cell? ⟨V, 3, none⟩ = some x3
  c4 : u.cell? ⟨V, 4, none⟩ = some x4
  c5 : u.cell? ⟨V, 5, none⟩ = some x5
  c6 : u.cell? ⟨V, 6, none⟩ = some x6
  c7 : u.cell? ⟨V, 7, none⟩ = some x7
  c8 : u.cell? ⟨V, 8, none⟩ = some x8
  c9 : u.cell? ⟨V, 9, none⟩ = some x9
  f : ∀ o, u.frozen? ⟨V, o, none⟩ = false

theorem tenW_new (u : World) (x0 x1 x2 x3 x4 x5 x6 x7 x8 x9 : Value) (t : TypeId) : TenW (u.alloc (.cells #[x0, x1, x2, x3, x4, x5, x6, x7, x8, x9] t)) u.heap.size x0 x1 x2 x3 x4 x5 x6 x7 x8 x9 :=
  ⟨World.cell?_alloc_new _ _ _ _, World.cell?_alloc_new _ _ _ _, World.cell?_alloc_new _ _ _ _, World.cell?_alloc_new _ _ _ _, World.cell?_alloc_new _ _ _ _, World.cell?_alloc_new _ _ _ _, World.cell?_alloc_new _ _ _ _, World.cell?_alloc_new _ _ _ _, World.cell?_alloc_new _ _ _ _, World.cell?_alloc_new _ _ _ _, fun o => World.frozen?_alloc_new _ _ _ _⟩
theorem TenW.at_ {u u' : World} {V : Nat} {x0 x1 x2 x3 x4 x5 x6 x7 x8 x9 : Value} (h : TenW u V x0 x1 x2 x3 x4 x5 x6 x7 x8 x9) (hk : u'.heap[V]? = u.heap[V]?) : TenW u' V x0 x1 x2 x3 x4 x5 x6 x7 x8 x9 :=
  ⟨by rw [World.cell?_of_block (w := u) hk]; exact h.c0, by rw [World.cell?_of_block (w := u) hk]; exact h.c1, by rw [World.cell?_of_block (w := u) hk]; exact h.c2, by rw [World.cell?_of_block (w := u) hk]; exact h.c3, by rw [World.cell?_of_block (w := u) hk]; exact h.c4, by rw [World.cell?_of_block (w := u) hk]; exact h.c5, by rw [World.cell?_of_block (w := u) hk]; exact h.c6, by rw [World.cell?_of_block (w := u) hk]; exact h.c7, by rw [World.cell?_of_block (w := u) hk]; exact h.c8, by rw [World.cell?_of_block (w := u) hk]; exact h.c9,
    fun o => by rw [World.frozen?_of_block (w := u) hk]; exact h.f o⟩
theorem TenW.under {u u' : World} {V n : Nat} {x0 x1 x2 x3 x4 x5 x6 x7 x8 x9 : Value} (h : TenW u V x0 x1 x2 x3 x4 x5 x6 x7 x8 x9) (hb : Below n u u') (hV : V < n) : TenW u' V x0 x1 x2 x3 x4 x5 x6 x7 x8 x9 := h.at_ (hb.block V hV)
theorem tenW_of_block {u : World} {B : Nat} {x0 x1 x2 x3 x4 x5 x6 x7 x8 x9 : Value} {t : TypeId} (h : u.heap[B]? = some (.cells #[x0, x1, x2, x3, x4, x5, x6, x7, x8, x9] t)) : TenW u B x0 x1 x2 x3 x4 x5 x6 x7 x8 x9 :=
  ⟨by simp [World.cell?, h], by simp [World.cell?, h], by simp [World.cell?, h], by simp [World.cell?, h], by simp [World.cell?, h], by simp [World.cell?, h], by simp [World.cell?, h], by simp [World.cell?, h], by simp [World.cell?, h], by simp [World.cell?, h], fun o => by simp [World.frozen?, h]⟩
end Go.Proofs.YtkeockippmmneaaGreat
