/-
  Chapter 10's program: a list of kids in memory of its own (ownList), made shorter one by one.
-/
import Derived.Test.YtkeockippmmneaaGreatSlimR
import Derived.Test.YtkeockippmmneaaGreatQS2
namespace Go.Proofs.YtkeockippmmneaaGreat
open Go.ChangeShapes Go.WideShapes Go.ChangeAt Go.RowKit
set_option linter.unusedVariables false
set_option maxRecDepth 100000

/-- A part's own cells: what it is, and where its kids lie. -/
structure ShellD where
  e : ExprD
  ad : Option Go.Addr
  cap : Nat

def ShellD.s (q : ShellD) : Value := .slice q.ad q.e.kids.length q.cap
def shellC (q : ShellD) : List Value := [.int .i64 q.e.k, .int .i64 q.e.n, .int .i64 q.e.ak, .int .i64 q.e.at_, q.s]
def shellE : Elem ShellD where
  cells := shellC
  k := 5
  pos := by decide
  len := fun _ => rfl
  one := fun q v hv => by
    simp only [shellC, ShellD.s, List.mem_cons, List.not_mem_nil, or_false] at hv
    rcases hv with rfl | rfl | rfl | rfl | rfl <;> rfl

theorem cell5_cv {w : World} {b o : Nat} {q : ShellD} (h : Cell5 w b o q.e q.s) : CV w b o (shellE.cells q) := fun j v hj => by
  match j, hj with
  | 0, hj => simp [shellE, shellC] at hj; subst hj; exact h.c0
  | 1, hj => simp [shellE, shellC] at hj; subst hj; exact h.c1
  | 2, hj => simp [shellE, shellC] at hj; subst hj; exact h.c2
  | 3, hj => simp [shellE, shellC] at hj; subst hj; exact h.c3
  | 4, hj => simp [shellE, shellC] at hj; subst hj; exact h.c4
  | j + 5, hj => simp [shellE, shellC] at hj

theorem cv_cell5 {w : World} {b o : Nat} {q : ShellD} (h : CV w b o (shellE.cells q)) : Cell5 w b o q.e q.s :=
  ⟨h 0 _ rfl, h 1 _ rfl, h 2 _ rfl, h 3 _ rfl, h 4 _ rfl⟩

/-- A list of kids, as shells. -/
theorem KR.shells {w : World} {lo hi : Nat} {s : Value} {es : List ExprD} (h : KR w lo hi s es) :
    ∃ qs : List ShellD, qs.map ShellD.e = es ∧ GR shellE w lo hi s qs ∧ ∀ q, q ∈ qs → KR w lo hi q.s q.e.kids := by
  obtain ⟨ad, cap, hv, h1, h2⟩ := h.shape
  obtain ⟨qs, hl, hq⟩ := list_ofG (P := fun i (q : ShellD) => es[i]? = some q.e ∧ (∃ b off cap, s = .slice (some ⟨b, off, none⟩) es.length cap ∧ lo ≤ b ∧ b < hi ∧ Cell5 w b (off + i * 5) q.e q.s) ∧ KR w lo hi q.s q.e.kids) es.length fun i hi => by
    obtain ⟨b, off, cap', s', hv', h3, h4, h5, h6⟩ := h.at_ (List.getElem?_eq_getElem hi)
    obtain ⟨a', c', hs, _, _⟩ := h6.shape
    subst hs
    exact ⟨⟨es[i], a', c'⟩, List.getElem?_eq_getElem hi, ⟨b, off, cap', hv', h3, h4, h5⟩, h6⟩
  have hm : qs.map ShellD.e = es := by
    apply List.ext_getElem? ; intro i
    rw [List.getElem?_map]
    rcases Nat.lt_or_ge i es.length with hi | hi
    · obtain ⟨q, hqi⟩ : ∃ q, qs[i]? = some q := ⟨qs[i]'(by omega), List.getElem?_eq_getElem _⟩
      rw [hqi, (hq i q hqi).1]; rfl
    · rw [List.getElem?_eq_none (by omega), List.getElem?_eq_none hi]; rfl
  refine ⟨qs, hm, ?_, fun q hqm => ?_⟩
  · refine ⟨ad, cap, by rw [hl]; exact hv, by omega, h2, ?_⟩
    cases qs with
    | nil => exact .inl rfl
    | cons q0 qs0 =>
      obtain ⟨_, ⟨b, off, cap', hv', h3, h4, _⟩, _⟩ := hq 0 q0 rfl
      rw [hv] at hv'
      simp only [Value.slice.injEq, true_and] at hv'
      refine .inr ⟨b, off, hv'.1, h3, h4, fun i q hqi => ?_⟩
      obtain ⟨_, ⟨b2, off2, cap2, hv2, _, _, hc⟩, _⟩ := hq i q hqi
      rw [hv, hv'.1] at hv2
      simp only [Value.slice.injEq, Option.some.injEq, Go.Addr.mk.injEq, true_and, and_true] at hv2
      obtain ⟨⟨rfl, rfl⟩, _⟩ := hv2
      exact cell5_cv hc
  · obtain ⟨i, hi, rfl⟩ := List.mem_iff_getElem.1 hqm
    exact (hq i _ (List.getElem?_eq_getElem hi)).2.2

set_option maxHeartbeats 4000000 in
theorem ownExprs_any (w : World) (lo hi : Nat) (s : Value) (qs : List ShellD) (h : GR shellE w lo hi s qs) (hl : qs.length ≤ 16777216) :
    Calls Tryz.prog 48 #[s] w fun en w' => ∃ v', en = .returned v' ∧ GO shellE w' w.heap.size w'.heap.size v' qs ∧ Below w.heap.size w w' := by
  obtain ⟨ad, cap, rfl, h1, h2⟩ := h.shape
  have R0 : RowG shellE 42 w w.heap.size (.slice none 0 0) ([] : List ShellD) := rowG_nil _ _ _
  go_enter Tryz.func48, Tryz.ntmps48
  go_wp2_with (at_builtin; refine wpList_appG (E := shellE) Tryz.underlying40 info_expr rfl (by decide) rfl _ _ rfl w.heap.size lo hi rfl rfl R0 h (Nat.le_refl _) (by simpa using hl) ?_)
  intro v' w' hA
  have hrow := hA.row
  have hgo := hrow.go
  have hb := hA.below R0 (Nat.le_refl _) (Nat.le_refl _)
  clear hA
  go_wp2
  go_ret
  exact ⟨_, rfl, hgo, hb⟩

/-- What holds as j kids have been made shorter, in a row of their own. -/
structure SlI (n0 b off d : Nat) (qs : List ShellD) (ss : Nat → Value) (l h : Nat → Nat) (j : Nat) (wr : World) : Prop where
  done : ∀ i q, i < j → qs[i]? = some q → Cell5 wr b (off + i * 5) (slimD d q.e) (ss i) ∧ KO wr (l i) (h i) (ss i) (slimD d q.e).kids
  todo : ∀ i q, j ≤ i → qs[i]? = some q → Cell5 wr b (off + i * 5) q.e q.s
  rng : ∀ i, i < j → b < l i ∧ l i ≤ h i ∧ h i ≤ wr.heap.size
  apart : ∀ i i', i < i' → i' < j → h i ≤ l i'
  frozen : ∀ o, wr.frozen? ⟨b, off + o, none⟩ = false
  lt : n0 ≤ b ∧ b < wr.heap.size

theorem SlI.grow {n0 b off d : Nat} {qs : List ShellD} {ss : Nat → Value} {l h : Nat → Nat} {j : Nat} {wr u : World} (k : SlI n0 b off d qs ss l h j wr) (hb : Below wr.heap.size wr u) : SlI n0 b off d qs ss l h j u := by
  have hk := hb.block b k.lt.2
  refine ⟨fun i q hi hq => ?_, fun i q hi hq => (k.todo i q hi hq).kept hk, fun i hi => ?_, k.apart, fun o => by rw [World.frozen?_of_block hk]; exact k.frozen o, k.lt.1, Nat.lt_of_lt_of_le k.lt.2 hb.size⟩
  · obtain ⟨h1, h2⟩ := k.done i q hi hq
    exact ⟨h1.kept hk, h2.under hb (k.rng i hi).2.2⟩
  · have := k.rng i hi; have := hb.size; omega

/-- What is outside the row is written. -/
theorem SlI.next {n0 b off d : Nat} {qs : List ShellD} {ss : Nat → Value} {l h : Nat → Nat} {j lo hi : Nat} {u u5 : World} {q : ShellD} {s' : Value} (k : SlI n0 b off d qs ss l h j u) (hq : qs[j]? = some q)
    (hk : KO u lo hi s' (slimD d q.e).kids) (h1 : b < lo) (h2 : lo ≤ hi) (h3 : hi ≤ u.heap.size) (hlo : ∀ i, i < j → h i ≤ lo)
    (hc : Cell5 u5 b (off + j * 5) (slimD d q.e) s') (ho : ∀ b' x, b' ≠ b ∨ x < off + j * 5 ∨ off + j * 5 + 5 ≤ x → u5.cell? ⟨b', x, none⟩ = u.cell? ⟨b', x, none⟩) (hf : ∀ b x, u5.frozen? ⟨b, x, none⟩ = u.frozen? ⟨b, x, none⟩)
    (hh : ∀ k, k ≠ b → u5.heap[k]? = u.heap[k]?) (hz : u5.heap.size = u.heap.size) :
    SlI n0 b off d qs (fun i => if i = j then s' else ss i) (fun i => if i = j then lo else l i) (fun i => if i = j then hi else h i) (j + 1) u5 := by
  refine ⟨fun i q' hi hq' => ?_, fun i q' hi hq' => ?_, fun i hi => ?_, fun i i' h4 h5 => ?_, fun o => by rw [hf]; exact k.frozen o, k.lt.1, by rw [hz]; exact k.lt.2⟩
  · by_cases e : i = j
    · subst e
      rw [hq] at hq'; cases hq'
      simp only [if_true]
      exact ⟨hc, hk.kept fun x hx1 hx2 => hh x (by omega)⟩
    · simp only [if_neg e]
      obtain ⟨h6, h7⟩ := k.done i q' (by omega) hq'
      have hr := k.rng i (by omega)
      refine ⟨⟨?_, ?_, ?_, ?_, ?_⟩, h7.kept fun x hx1 hx2 => hh x (by omega)⟩
      · rw [ho _ _ (by omega)]; exact h6.c0
      · rw [ho _ _ (by omega)]; exact h6.c1
      · rw [ho _ _ (by omega)]; exact h6.c2
      · rw [ho _ _ (by omega)]; exact h6.c3
      · rw [ho _ _ (by omega)]; exact h6.c4
  · have h6 := k.todo i q' (by omega) hq'
    refine ⟨?_, ?_, ?_, ?_, ?_⟩
    · rw [ho _ _ (by omega)]; exact h6.c0
    · rw [ho _ _ (by omega)]; exact h6.c1
    · rw [ho _ _ (by omega)]; exact h6.c2
    · rw [ho _ _ (by omega)]; exact h6.c3
    · rw [ho _ _ (by omega)]; exact h6.c4
  · by_cases e : i = j
    · subst e; simp only [if_true]; omega
    · simp only [if_neg e]; have := k.rng i (by omega); omega
  · by_cases e : i' = j
    · subst e
      simp only [if_true]
      rw [if_neg (by omega)]
      exact hlo i h4
    · simp only [if_neg e]
      rw [if_neg (by omega)]
      exact k.apart i i' h4 (by omega)

theorem SlI.ko {n0 b off d cap : Nat} {qs : List ShellD} {ss : Nat → Value} {l h : Nat → Nat} {wr : World} (k : SlI n0 b off d qs ss l h qs.length wr) (h0 : qs ≠ []) (h1 : qs.length ≤ cap) (h2 : cap ≤ maxLen) :
    KO wr n0 wr.heap.size (.slice (some ⟨b, off, none⟩) qs.length cap) ((qs.map ShellD.e).map (slimD d)) := by
  have hlen : ((qs.map ShellD.e).map (slimD d)).length = qs.length := by simp
  have hback : ∀ i e, ((qs.map ShellD.e).map (slimD d))[i]? = some e → ∃ q : ShellD, qs[i]? = some q ∧ e = slimD d q.e := fun i e hie => by
    rw [List.getElem?_map, List.getElem?_map] at hie
    cases hq : qs[i]? with
    | none => rw [hq] at hie; simp at hie
    | some q => rw [hq] at hie; simp at hie; exact ⟨q, hq, hie.symm⟩
  have H := KO.cons (w := wr) n0 wr.heap.size b off cap ((qs.map ShellD.e).map (slimD d)) ss l h (fun hq => h0 (List.eq_nil_of_length_eq_zero (by rw [← hlen, hq]; rfl))) (by rw [hlen]; exact h1) h2 k.lt.1 k.lt.2 k.frozen (fun i e hie => ?_) (fun i hi => ?_) (fun i j hij hj => ?_) (fun i e hie => ?_)
  · rw [hlen] at H; exact H
  · obtain ⟨q, hq, rfl⟩ := hback i e hie
    exact (k.done i q (List.getElem?_eq_some_iff.mp hq).1 hq).1
  · have := k.rng i (by rw [hlen] at hi; exact hi); have := k.lt; omega
  · exact .inl (k.apart i j hij (by rw [hlen] at hj; exact hj))
  · obtain ⟨q, hq, rfl⟩ := hback i e hie
    exact (k.done i q (List.getElem?_eq_some_iff.mp hq).1 hq).2

/-- The kids at work: none, or a row. -/
def SlK (n0 d : Nat) (v' : Value) (qs : List ShellD) (j : Nat) (wr : World) : Prop :=
  (qs = [] ∧ ∃ ad cap, v' = .slice ad 0 cap ∧ cap ≤ maxLen) ∨ ∃ b off cap ss l h, qs ≠ [] ∧ v' = .slice (some ⟨b, off, none⟩) qs.length cap ∧ qs.length ≤ cap ∧ cap ≤ maxLen ∧ SlI n0 b off d qs ss l h j wr

theorem SlK.start {w : World} {n0 d : Nat} {v' : Value} {qs : List ShellD} (h : GO shellE w n0 w.heap.size v' qs) : SlK n0 d v' qs 0 w := by
  rcases h with ⟨h1, h2⟩ | ⟨b, off, cap, hv, h1, h2, h3, h4, h5, h6⟩
  · exact .inl ⟨h1, h2⟩
  · by_cases h0 : qs = []
    · subst h0; exact .inl ⟨rfl, _, cap, hv, h2⟩
    · exact .inr ⟨b, off, cap, fun _ => undef, fun _ => 0, fun _ => 0, h0, hv, h1, h2, ⟨fun i q hi => by omega, fun i q _ hq => cv_cell5 (h5 i q hq), fun i hi => by omega, fun i i' _ hi => by omega, h6, h3, h4⟩⟩

theorem SlK.ko {wr : World} {n0 d : Nat} {v' : Value} {qs : List ShellD} (h : SlK n0 d v' qs qs.length wr) : KO wr n0 wr.heap.size v' ((qs.map ShellD.e).map (slimD d)) := by
  rcases h with ⟨rfl, ad, cap, rfl, hc⟩ | ⟨b, off, cap, ss, l, h, h0, rfl, h1, h2, k⟩
  · exact .nil _ _ ad cap hc
  · exact k.ko h0 h1 h2

theorem SlK.grow {wr u : World} {n0 d j : Nat} {v' : Value} {qs : List ShellD} (h : SlK n0 d v' qs j wr) (hb : Below wr.heap.size wr u) : SlK n0 d v' qs j u := by
  rcases h with h | ⟨b, off, cap, ss, l, h, h0, rfl, h1, h2, k⟩
  · exact .inl h
  · exact .inr ⟨b, off, cap, ss, l, h, h0, rfl, h1, h2, k.grow hb⟩
end Go.Proofs.YtkeockippmmneaaGreat
