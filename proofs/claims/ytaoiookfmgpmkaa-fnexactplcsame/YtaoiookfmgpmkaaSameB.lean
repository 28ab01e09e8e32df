/-
  Pairs of lists of statements that are still to be held against each other, as data and in memory.
-/
import Derived.Test.YtaoiookfmgpmkaaSameA
import Derived.Test.YtaoiookfmgpmkaaSameMapT
import Derived.Test.YtaoiookfmgpmkaaStmtPre
namespace Go.Proofs.Ytaoiookfmgpmkaa
open Go.ChangeShapes Go.WideShapes Go.ChangeAt Go.RowKit
set_option linter.unusedVariables false
set_option maxRecDepth 100000

/-- A pair: two lists, where they lie; the first one's in the blocks from l to h. -/
structure ItemT where
  a : List StmtD
  s : Value
  b : List StmtD
  t : Value
  l : Nat
  h : Nat

def ItemT.cells (p : ItemT) : List Value := [p.s, p.t]

def rowQ (ps : List ItemT) : List Value := ps.flatMap ItemT.cells

theorem rowQ_length (ps : List ItemT) : (rowQ ps).length = ps.length * 2 := by
  induction ps with
  | nil => rfl
  | cons p ps ih => unfold rowQ at *; rw [List.flatMap_cons, List.length_append, ih, List.length_cons]; simp [ItemT.cells]; omega

theorem rowQ_append (ps qs : List ItemT) : rowQ (ps ++ qs) = rowQ ps ++ rowQ qs := by
  unfold rowQ; rw [List.flatMap_append]

theorem rowQ_snoc (ps : List ItemT) (p : ItemT) : rowQ (ps ++ [p]) = rowQ ps ++ p.cells := by
  rw [rowQ_append]; unfold rowQ; simp

theorem rowQ_last (ps : List ItemT) (p : ItemT) (i : Nat) (hi : i < 2) : (rowQ (ps ++ [p]))[ps.length * 2 + i]? = p.cells[i]? := by
  rw [rowQ_snoc, List.getElem?_append_right (by rw [rowQ_length]; omega), rowQ_length]
  congr 1
  omega

/-- A pair's lists can be read; the first one is owned. -/
structure ItemTOk (w : World) (lo hi : Nat) (p : ItemT) : Prop where
  ka : SO w p.l p.h p.s p.a
  hh : p.h ≤ w.heap.size
  kb : SR w lo hi p.t p.b
  na : sizeL p.a ≤ 1048576
  nb : sizeL p.b ≤ 1048576

def sumQ : List ItemT → Nat
  | [] => 0
  | p :: ps => 1 + 2 * cntL p.a + sumQ ps

theorem sumQ_append (ps qs : List ItemT) : sumQ (ps ++ qs) = sumQ ps + sumQ qs := by
  induction ps with
  | nil => rw [List.nil_append, sumQ]; omega
  | cons p ps ih => rw [List.cons_append, sumQ, sumQ, ih]; omega

theorem length_le_sumQ (ps : List ItemT) : ps.length ≤ sumQ ps := by
  induction ps with
  | nil => rw [sumQ]; exact Nat.le_refl _
  | cons p ps ih => rw [sumQ, List.length_cons]; omega

/-- The pairs of the lists within the first j statements. -/
def kidsT (f : Nat → ItemT × ItemT) : Nat → List ItemT
  | 0 => []
  | j + 1 => kidsT f j ++ [(f j).1, (f j).2]

theorem kidsT_length (f : Nat → ItemT × ItemT) (j : Nat) : (kidsT f j).length = 2 * j := by
  induction j with
  | zero => rfl
  | succ j ih => rw [kidsT, List.length_append, ih]; simp; omega

theorem mem_kidsT {f : Nat → ItemT × ItemT} {j : Nat} {k : ItemT} : k ∈ kidsT f j ↔ ∃ i, i < j ∧ (k = (f i).1 ∨ k = (f i).2) := by
  induction j with
  | zero => simp [kidsT]
  | succ j ih =>
    rw [kidsT, List.mem_append, ih]
    constructor
    · rintro (⟨i, hi, h⟩ | h)
      · exact ⟨i, by omega, h⟩
      · exact ⟨j, by omega, by simpa using h⟩
    · rintro ⟨i, hi, h⟩
      by_cases e : i = j
      · subst e; exact .inr (by simpa using h)
      · exact .inl ⟨i, by omega, h⟩

def DisT (x y : ItemT) : Prop := x.h ≤ y.l ∨ y.h ≤ x.l

/-- The pairs of what is within. -/
structure KidT (w : World) (lo hi : Nat) (p : ItemT) (b off cap b' off' cap' : Nat) (f : Nat → ItemT × ItemT) : Prop where
  sa : p.s = .slice (some ⟨b, off, none⟩) p.a.length cap
  sb : p.t = .slice (some ⟨b', off', none⟩) p.b.length cap'
  at_ : ∀ (j : Nat) (x y : StmtD), p.a[j]? = some x → p.b[j]? = some y → ∃ a1x c1x l1 h1 a1y c1y, Cell10 w b (off + j * 10) x (.slice a1x x.e.kids.length c1x) (f j).1.s (f j).2.s ∧ Cell10 w b' (off' + j * 10) y (.slice a1y y.e.kids.length c1y) (f j).1.t (f j).2.t ∧
    KO w l1 h1 (.slice a1x x.e.kids.length c1x) x.e.kids ∧ h1 ≤ w.heap.size ∧ KR w lo hi (.slice a1y y.e.kids.length c1y) y.e.kids ∧ (f j).1.a = x.th ∧ (f j).1.b = y.th ∧ (f j).2.a = x.el ∧ (f j).2.b = y.el
  ok : ∀ j, j < p.a.length → ItemTOk w lo hi (f j).1 ∧ ItemTOk w lo hi (f j).2
  rng : ∀ j, j < p.a.length → (p.l ≤ (f j).1.l ∧ (f j).1.h ≤ p.h ∧ (b < (f j).1.l ∨ (f j).1.h ≤ b)) ∧ (p.l ≤ (f j).2.l ∧ (f j).2.h ≤ p.h ∧ (b < (f j).2.l ∨ (f j).2.h ≤ b))
  dis : (kidsT f p.a.length).Pairwise DisT
  row : RowAt w b off
  blk : p.l ≤ b ∧ b < p.h
  blk' : lo ≤ b' ∧ b' < hi

theorem pairwise_kidsT {f : Nat → ItemT × ItemT} {r : Nat → Rg} {n : Nat} (hd : ∀ i j, i < j → j < n → (r i).h ≤ (r j).l ∨ (r j).h ≤ (r i).l)
    (h1 : ∀ i, i < n → (r i).l ≤ (f i).1.l ∧ (f i).1.h ≤ (r i).h ∧ (r i).l ≤ (f i).2.l ∧ (f i).2.h ≤ (r i).h ∧ DisT (f i).1 (f i).2) : ∀ m, m ≤ n → (kidsT f m).Pairwise DisT
  | 0, _ => List.Pairwise.nil
  | m + 1, hm => by
    rw [kidsT, List.pairwise_append]
    refine ⟨pairwise_kidsT hd h1 m (by omega), ?_, ?_⟩
    · exact List.Pairwise.cons (fun y hy => by rw [List.mem_singleton] at hy; subst hy; exact (h1 m (by omega)).2.2.2.2) (List.pairwise_singleton _ _)
    · intro x hx y hy
      obtain ⟨i, hi, hxi⟩ := mem_kidsT.1 hx
      have q1 := h1 i (by omega)
      have q2 := h1 m (by omega)
      have q3 := hd i m hi (by omega)
      unfold DisT
      have hy' : y = (f m).1 ∨ y = (f m).2 := by simpa using hy
      rcases hxi with rfl | rfl <;> rcases hy' with rfl | rfl <;> omega

theorem kid_itemsT {w : World} {lo hi : Nat} {p : ItemT} (h : ItemTOk w lo hi p) (hl : p.a.length = p.b.length) (h0 : 0 < p.a.length) : ∃ b off cap b' off' cap' f, KidT w lo hi p b off cap b' off' cap' f := by
  obtain ⟨ka, hh, kb, na, nb⟩ := h
  obtain ⟨pa, ps, pb, pt, pl, ph⟩ := p
  simp only at *
  cases ka with
  | nil => simp at h0
  | cons _ _ b off cap _ x y z r hn h1 h2 h3 h4 hf hc hr hd he ht hl' =>
    cases kb with
    | nil => simp at hl; rw [hl] at h0; simp at h0
    | cons b' off' cap' _ x' y' z' hn' h1' h2' h3' h4' hc' he' ht' hl'' =>
      have key : ∀ j, j < pa.length → ∃ s s', pa[j]? = some s ∧ pb[j]? = some s' := fun j hj => ⟨pa[j], pb[j]'(by omega), List.getElem?_eq_getElem _, List.getElem?_eq_getElem _⟩
      refine ⟨b, off, cap, b', off', cap', fun j => (⟨((pa[j]?).map StmtD.th).getD [], y j, ((pb[j]?).map StmtD.th).getD [], y' j, (r j).b0, (r j).b1⟩, ⟨((pa[j]?).map StmtD.el).getD [], z j, ((pb[j]?).map StmtD.el).getD [], z' j, (r j).c0, (r j).c1⟩), ⟨rfl, rfl, ?_, ?_, ?_, ?_, ?_, ⟨h3, h4⟩, ⟨h3', h4'⟩⟩⟩
      · intro j s s' hj hj'
        obtain ⟨a1x, c1x, e1, _, _⟩ := (he j s hj).kr.shape
        obtain ⟨a1y, c1y, e2, _, _⟩ := (he' j s' hj').shape
        have hjl : j < pa.length := (List.getElem?_eq_some_iff.mp hj).1
        have hrj := hr j hjl
        refine ⟨a1x, c1x, (r j).a0, (r j).a1, a1y, c1y, ?_, ?_, ?_, ?_, ?_, ?_, ?_, ?_, ?_⟩
        · rw [← e1]; exact hc j s hj
        · rw [← e2]; exact hc' j s' hj'
        · rw [← e1]; exact he j s hj
        · have := hrj.a; have := hrj.hi_; omega
        · rw [← e2]; exact he' j s' hj'
        · simp only [hj]; rfl
        · simp only [hj']; rfl
        · simp only [hj]; rfl
        · simp only [hj']; rfl
      · intro j hj
        obtain ⟨s, s', hs, hs'⟩ := key j hj
        have q1 := stmt_lt hs
        have q2 := stmt_lt hs'
        have hrj := hr j hj
        obtain ⟨r1, r2, r3, r4, r5, r6, r7, r8, r9⟩ := hrj
        refine ⟨⟨?_, ?_, ?_, ?_, ?_⟩, ⟨?_, ?_, ?_, ?_, ?_⟩⟩
        · simp only [hs]; exact ht j s hs
        · simp only; omega
        · simp only [hs']; exact ht' j s' hs'
        · simp only [hs]; show sizeL s.th ≤ _; omega
        · simp only [hs']; show sizeL s'.th ≤ _; omega
        · simp only [hs]; exact hl' j s hs
        · simp only; omega
        · simp only [hs']; exact hl'' j s' hs'
        · simp only [hs]; show sizeL s.el ≤ _; omega
        · simp only [hs']; show sizeL s'.el ≤ _; omega
      · intro j hj
        obtain ⟨r1, r2, r3, r4, r5, r6, r7, r8, r9⟩ := hr j hj
        refine ⟨⟨?_, ?_, ?_⟩, ⟨?_, ?_, ?_⟩⟩ <;> (simp only; omega)
      · refine pairwise_kidsT (r := r) (n := pa.length) hd (fun i hi => ?_) _ (Nat.le_refl _)
        obtain ⟨r1, r2, r3, r4, r5, r6, r7, r8, r9⟩ := hr i hi
        unfold DisT
        refine ⟨?_, ?_, ?_, ?_, ?_⟩ <;> (simp only; omega)
      · obtain ⟨e0, _, he0, _⟩ := key 0 h0
        have := (hc 0 e0 he0).c0
        exact ⟨⟨_, by simpa using this⟩, hf⟩

theorem KidT.sum {w : World} {lo hi : Nat} {p : ItemT} {b off cap b' off' cap' : Nat} {f : Nat → ItemT × ItemT} (h : KidT w lo hi p b off cap b' off' cap' f) (hl : p.a.length = p.b.length) : ∀ j, j ≤ p.a.length → sumQ (kidsT f j) = 2 * cntL (p.a.take j)
  | 0, _ => by rw [kidsT, sumQ, List.take_zero, cntL]
  | j + 1, hj => by
    have ih := KidT.sum h hl j (by omega)
    obtain ⟨_, _, _, _, _, _, _, _, _, _, _, e1, _, e2, _⟩ := h.at_ j p.a[j] (p.b[j]'(by omega)) (List.getElem?_eq_getElem _) (List.getElem?_eq_getElem _)
    rw [kidsT, sumQ_append, ih, cntL_take_succ (List.getElem?_eq_getElem (by omega)), cntS_eq, sumQ, sumQ, sumQ, e1, e2]
    omega

theorem KidT.eq {w : World} {lo hi : Nat} {p : ItemT} {b off cap b' off' cap' : Nat} {f : Nat → ItemT × ItemT} (h : KidT w lo hi p b off cap b' off' cap' f) (hl : p.a.length = p.b.length)
    (hb : ∀ i x y, i < p.a.length → p.a[i]? = some x → p.b[i]? = some y → BareT x y) : p.a = p.b ↔ ∀ k ∈ kidsT f p.a.length, k.a = k.b := by
  constructor
  · intro e k hk
    obtain ⟨i, hi, hki⟩ := mem_kidsT.1 hk
    obtain ⟨_, _, _, _, _, _, _, _, _, _, _, e1, e2, e3, e4⟩ := h.at_ i p.a[i] (p.b[i]'(by omega)) (List.getElem?_eq_getElem _) (List.getElem?_eq_getElem _)
    have hab : p.a[i] = p.b[i]'(by omega) := by simp only [e]
    rcases hki with rfl | rfl
    · rw [e1, e2, hab]
    · rw [e3, e4, hab]
  · intro hall
    apply List.ext_getElem?
    intro j
    by_cases hj : j < p.a.length
    · have hj' : j < p.b.length := by omega
      obtain ⟨_, _, _, _, _, _, _, _, _, _, _, e1, e2, e3, e4⟩ := h.at_ j p.a[j] p.b[j] (List.getElem?_eq_getElem _) (List.getElem?_eq_getElem _)
      have k1 := hall (f j).1 (mem_kidsT.2 ⟨j, hj, .inl rfl⟩)
      have k2 := hall (f j).2 (mem_kidsT.2 ⟨j, hj, .inr rfl⟩)
      rw [e1, e2] at k1
      rw [e3, e4] at k2
      rw [List.getElem?_eq_getElem hj, List.getElem?_eq_getElem hj']
      congr 1
      exact bareT_eq.2 ⟨hb j _ _ hj (List.getElem?_eq_getElem _) (List.getElem?_eq_getElem _), k1, k2⟩
    · rw [List.getElem?_eq_none (by omega), List.getElem?_eq_none (by omega)]
end Go.Proofs.Ytaoiookfmgpmkaa
