/-
  Pairs of parts that are still to be held against each other, as data and in memory.
-/
import Derived.Test.YtkeockippmmneaaAlikeA
import Derived.Test.YtkeockippmmneaaAlikeMap
namespace Go.Proofs.Ytkeockippmmneaa
open Go.ChangeShapes Go.WideShapes Go.ChangeAt Go.RowKit
set_option linter.unusedVariables false
set_option maxRecDepth 100000

/-- A pair: two parts, where their kids lie; the first one's in the blocks from l to h. -/
structure Item where
  a : ExprD
  s : Value
  b : ExprD
  t : Value
  l : Nat
  h : Nat

def Item.cells (p : Item) : List Value := [.int .i64 p.a.k, .int .i64 p.a.n, .int .i64 p.a.ak, .int .i64 p.a.at_, p.s, .int .i64 p.b.k, .int .i64 p.b.n, .int .i64 p.b.ak, .int .i64 p.b.at_, p.t]

def rowP (ps : List Item) : List Value := ps.flatMap Item.cells

theorem rowP_length (ps : List Item) : (rowP ps).length = ps.length * 10 := by
  induction ps with
  | nil => rfl
  | cons p ps ih => unfold rowP at *; rw [List.flatMap_cons, List.length_append, ih, List.length_cons]; simp [Item.cells]; omega

theorem rowP_snoc (ps : List Item) (p : Item) : rowP (ps ++ [p]) = rowP ps ++ p.cells := by
  unfold rowP; rw [List.flatMap_append]; simp

theorem rowP_last (ps : List Item) (p : Item) (i : Nat) (hi : i < 10) : (rowP (ps ++ [p]))[ps.length * 10 + i]? = p.cells[i]? := by
  rw [rowP_snoc, List.getElem?_append_right (by rw [rowP_length]; omega), rowP_length]
  congr 1
  omega

/-- A pair's parts can be read; the first one's lists are owned. -/
structure ItemOk (w : World) (lo hi N : Nat) (p : Item) : Prop where
  ka : KO w p.l p.h p.s p.a.kids
  hh : p.h ≤ w.heap.size
  kb : KR w lo hi p.t p.b.kids
  na : manyE p.a ≤ N
  nb : manyE p.b ≤ N

def sumE : List Item → Nat
  | [] => 0
  | p :: ps => manyE p.a + sumE ps

theorem sumE_append (ps qs : List Item) : sumE (ps ++ qs) = sumE ps + sumE qs := by
  induction ps with
  | nil => rw [List.nil_append, sumE]; omega
  | cons p ps ih => rw [List.cons_append, sumE, sumE, ih]; omega

theorem length_le_sumE (ps : List Item) : ps.length ≤ sumE ps := by
  induction ps with
  | nil => rw [sumE]; exact Nat.le_refl _
  | cons p ps ih => rw [sumE, List.length_cons, manyE_eq]; omega

theorem bareB_iff (a b : ExprD) : bareB a b = true ↔ a.k = b.k ∧ a.n = b.n ∧ a.ak = b.ak ∧ a.at_ = b.at_ ∧ a.kids.length = b.kids.length := by
  unfold bareB
  simp only [Bool.and_eq_true, beq_iff_eq]
  constructor
  · rintro ⟨h1, h2, ⟨h3, h4⟩, h5⟩; exact ⟨h1, h2, h3, h4, by omega⟩
  · rintro ⟨h1, h2, h3, h4, h5⟩; exact ⟨h1, h2, ⟨h3, h4⟩, by omega⟩

theorem eq_of_bare {a b : ExprD} (h : bareB a b = true) : a = b ↔ a.kids = b.kids := by
  obtain ⟨h1, h2, h3, h4, _⟩ := (bareB_iff a b).1 h
  constructor
  · intro e; rw [e]
  · intro e; rw [ExprD.eta a, ExprD.eta b, h1, h2, h3, h4, e]

theorem bare_of_eq {a b : ExprD} (h : a = b) : bareB a b = true := by rw [bareB_iff]; subst h; exact ⟨rfl, rfl, rfl, rfl, rfl⟩

/-- The pairs of the kids. -/
structure KidItems (w : World) (lo hi N : Nat) (p : Item) (b off cap b' off' cap' : Nat) (ks : List Item) : Prop where
  sa : p.s = .slice (some ⟨b, off, none⟩) p.a.kids.length cap
  sb : p.t = .slice (some ⟨b', off', none⟩) p.b.kids.length cap'
  len : ks.length = p.a.kids.length
  at_ : ∀ (j : Nat) (k : Item), ks[j]? = some k → p.a.kids[j]? = some k.a ∧ p.b.kids[j]? = some k.b ∧ Cell5 w b (off + j * 5) k.a k.s ∧ Cell5 w b' (off' + j * 5) k.b k.t
  ok : ∀ k ∈ ks, ItemOk w lo hi N k
  rng : ∀ k ∈ ks, p.l ≤ k.l ∧ k.h ≤ p.h ∧ (b < k.l ∨ k.h ≤ b)
  dis : ks.Pairwise fun x y => x.h ≤ y.l ∨ y.h ≤ x.l
  row : RowAt w b off
  blk : p.l ≤ b ∧ b < p.h
  blk' : lo ≤ b' ∧ b' < hi

theorem manyE_at {es : List ExprD} {i : Nat} {e : ExprD} (h : es[i]? = some e) : manyE e ≤ manyL es := by
  have h1 := manyL_take_succ h
  have h2 := manyL_take_le es (i + 1)
  omega

theorem kid_items {w : World} {lo hi N : Nat} {p : Item} (h : ItemOk w lo hi N p) (hl : p.a.kids.length = p.b.kids.length) (h0 : 0 < p.a.kids.length) : ∃ b off cap b' off' cap' ks, KidItems w lo hi N p b off cap b' off' cap' ks := by
  obtain ⟨ka, hh, kb, na, nb⟩ := h
  obtain ⟨pa, ps, pb, pt, pl, ph⟩ := p
  simp only at *
  generalize hes : pa.kids = es at *
  generalize hfs : pb.kids = fs at *
  cases ka with
  | nil => simp at h0
  | cons _ _ b off cap _ ss l h hn h1 h2 h3 h4 hf hc hr hd hk =>
    cases kb with
    | nil => simp at hl; rw [hl] at h0; simp at h0
    | cons b' off' cap' _ tt hn' h1' h2' h3' h4' hc' hk' =>
      have hma : manyL es + 1 ≤ N := by rw [manyE_eq, hes] at na; omega
      have hmb : manyL fs + 1 ≤ N := by rw [manyE_eq, hfs] at nb; omega
      have hget : ∀ (j : Nat) (k : Item), ((List.range es.length).map fun i => (⟨(es[i]?).getD (.mk 0 0 0 0 []), ss i, (fs[i]?).getD (.mk 0 0 0 0 []), tt i, l i, h i⟩ : Item))[j]? = some k →
          j < es.length ∧ es[j]? = some k.a ∧ fs[j]? = some k.b ∧ k.s = ss j ∧ k.t = tt j ∧ k.l = l j ∧ k.h = h j := by
        intro j k hjk
        rw [List.getElem?_map] at hjk
        obtain ⟨i, hi, rfl⟩ := Option.map_eq_some_iff.mp hjk
        have hj : j < es.length := by have := (List.getElem?_eq_some_iff.mp hi).1; simpa using this
        have hij : i = j := by rw [List.getElem?_range hj] at hi; exact (Option.some.inj hi).symm
        subst hij
        refine ⟨hj, ?_, ?_, rfl, rfl, rfl, rfl⟩
        · show es[i]? = some ((es[i]?).getD _); rw [List.getElem?_eq_getElem hj]; rfl
        · show fs[i]? = some ((fs[i]?).getD _); rw [List.getElem?_eq_getElem (by omega)]; rfl
      refine ⟨b, off, cap, b', off', cap', (List.range es.length).map fun i => (⟨(es[i]?).getD (.mk 0 0 0 0 []), ss i, (fs[i]?).getD (.mk 0 0 0 0 []), tt i, l i, h i⟩ : Item), ⟨by simp only [hes], by simp only [hfs], by simp [hes], ?_, ?_, ?_, ?_, ?_, ⟨h3, h4⟩, ⟨h3', h4'⟩⟩⟩
      · intro j k hjk
        obtain ⟨hj, e1, e2, e3, e4, _, _⟩ := hget j k hjk
        simp only [hes, hfs]
        exact ⟨e1, e2, by rw [e3]; exact hc j _ e1, by rw [e4]; exact hc' j _ e2⟩
      · intro k hk9
        obtain ⟨j, hjk⟩ := List.mem_iff_getElem?.mp hk9
        obtain ⟨hj, e1, e2, e3, e4, e5, e6⟩ := hget j k hjk
        have hrj := hr j hj
        exact ⟨by rw [e3, e5, e6]; exact hk j _ e1, by rw [e6]; omega, by rw [e4]; exact hk' j _ e2, by have := manyE_at e1; omega, by have := manyE_at e2; omega⟩
      · intro k hk9
        obtain ⟨j, hjk⟩ := List.mem_iff_getElem?.mp hk9
        obtain ⟨hj, e1, e2, e3, e4, e5, e6⟩ := hget j k hjk
        have hrj := hr j hj
        rw [e5, e6]
        exact hrj
      · rw [List.pairwise_iff_getElem]
        intro i j hi hj hij
        obtain ⟨hi', _, _, _, _, e5, e6⟩ := hget i _ (List.getElem?_eq_getElem hi)
        obtain ⟨hj', _, _, _, _, e5', e6'⟩ := hget j _ (List.getElem?_eq_getElem hj)
        rw [e5, e6, e5', e6']
        exact hd i j hij hj'
      · obtain ⟨e0, he0⟩ : ∃ e0, es[0]? = some e0 := ⟨es[0], List.getElem?_eq_getElem h0⟩
        have := (hc 0 e0 he0).c0
        exact ⟨⟨_, by simpa using this⟩, hf⟩

theorem KidItems.eq {w : World} {lo hi N : Nat} {p : Item} {b off cap b' off' cap' : Nat} {ks : List Item} (h : KidItems w lo hi N p b off cap b' off' cap' ks) (hb : bareB p.a p.b = true) : p.a = p.b ↔ ∀ k ∈ ks, k.a = k.b := by
  rw [eq_of_bare hb]
  have hl := ((bareB_iff _ _).1 hb).2.2.2.2
  constructor
  · intro e k hk
    obtain ⟨j, hjk⟩ := List.mem_iff_getElem?.mp hk
    obtain ⟨e1, e2, _, _⟩ := h.at_ j k hjk
    rw [e, e2] at e1
    exact (Option.some.inj e1).symm
  · intro hall
    apply List.ext_getElem?
    intro j
    by_cases hj : j < p.a.kids.length
    · obtain ⟨k, hk⟩ : ∃ k, ks[j]? = some k := ⟨ks[j]'(by rw [h.len]; exact hj), List.getElem?_eq_getElem _⟩
      obtain ⟨e1, e2, _, _⟩ := h.at_ j k hk
      rw [e1, e2, hall k (List.mem_of_getElem? hk)]
    · rw [List.getElem?_eq_none (by omega), List.getElem?_eq_none (by omega)]

theorem sumE_of {es : List ExprD} : ∀ {ks : List Item}, ks.length = es.length → (∀ (j : Nat) (k : Item), ks[j]? = some k → es[j]? = some k.a) → sumE ks = manyL es := by
  induction es with
  | nil => intro ks hl _; obtain rfl := List.eq_nil_of_length_eq_zero hl; rfl
  | cons e es ih =>
    intro ks hl h
    cases ks with
    | nil => simp at hl
    | cons k ks =>
      have h0 := h 0 k rfl
      simp at h0
      rw [sumE, manyL, ← h0, ih (by simpa using hl) fun j k' hk => by have := h (j + 1) k' (by simpa using hk); simpa using this]

theorem KidItems.sum {w : World} {lo hi N : Nat} {p : Item} {b off cap b' off' cap' : Nat} {ks : List Item} (h : KidItems w lo hi N p b off cap b' off' cap' ks) : sumE ks + 1 = manyE p.a := by
  rw [sumE_of h.len fun j k hk => (h.at_ j k hk).1, manyE_eq]
end Go.Proofs.Ytkeockippmmneaa
