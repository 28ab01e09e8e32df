/-
  Lists of parts that grow in memory by append.
-/
import Derived.Test.YtkeockippmmneaaGreatQS1
namespace Go.Proofs.YtkeockippmmneaaGreat
open Go.ChangeShapes Go.WideShapes Go.ChangeAt Go.RowKit
set_option linter.unusedVariables false

/-- The five cells of each part of a list, one behind another. -/
def rowE : List (ExprD × Value) → List Value
  | [] => []
  | p :: ps => .int .i64 p.1.k :: .int .i64 p.1.n :: .int .i64 p.1.ak :: .int .i64 p.1.at_ :: p.2 :: rowE ps

theorem rowE_length (ps : List (ExprD × Value)) : (rowE ps).length = ps.length * 5 := by
  induction ps with
  | nil => rfl
  | cons p ps ih => rw [rowE]; simp only [List.length_cons]; omega

theorem rowE_snoc (ps : List (ExprD × Value)) (p : ExprD × Value) : rowE (ps ++ [p]) = rowE ps ++ [.int .i64 p.1.k, .int .i64 p.1.n, .int .i64 p.1.ak, .int .i64 p.1.at_, p.2] := by
  induction ps with
  | nil => rfl
  | cons q ps ih => rw [List.cons_append, rowE, rowE, ih]; rfl

theorem rowE_at {ps : List (ExprD × Value)} {i : Nat} {p : ExprD × Value} (h : ps[i]? = some p) : (rowE ps)[i * 5]? = some (.int .i64 p.1.k) ∧ (rowE ps)[i * 5 + 1]? = some (.int .i64 p.1.n) ∧ (rowE ps)[i * 5 + 2]? = some (.int .i64 p.1.ak) ∧ (rowE ps)[i * 5 + 3]? = some (.int .i64 p.1.at_) ∧ (rowE ps)[i * 5 + 4]? = some p.2 := by
  induction ps generalizing i with
  | nil => simp at h
  | cons q ps ih =>
    cases i with
    | zero =>
      simp at h
      subst h
      exact ⟨rfl, rfl, rfl, rfl, rfl⟩
    | succ i =>
      simp at h
      have := ih h
      have e : (i + 1) * 5 = i * 5 + 1 + 1 + 1 + 1 + 1 := by omega
      rw [rowE, e]
      exact this

/-- A list of parts that grows: its row is owned from base on, the lists of its parts lie in ranges of their own. -/
structure KP (w : World) (base : Nat) (v : Value) (ps : List (ExprD × Value)) (l h : Nat → Nat) : Prop where
  own : w.ownsRow base 42 5 v ps.length (rowE ps)
  kids : ∀ i p, ps[i]? = some p → KO w (l i) (h i) p.2 p.1.kids
  rng : ∀ i, i < ps.length → base ≤ l i ∧ l i ≤ h i ∧ h i ≤ w.heap.size
  off : ∀ i g, i < ps.length → v.ownBlock = some g → g < l i ∨ h i ≤ g
  dis : ∀ i j, i < j → j < ps.length → h i ≤ l j

theorem KP.nil (w : World) (base : Nat) : KP w base (.slice none 0 0) [] (fun _ => 0) (fun _ => 0) :=
  ⟨World.ownsRow_nil _ _ _ _, fun i p h => by simp at h, fun i h => by simp at h, fun i g h => by simp at h, fun i j _ h => by simp at h⟩

theorem KP.ko {w : World} {base : Nat} {v : Value} {ps : List (ExprD × Value)} {l h : Nat → Nat} (k : KP w base v ps l h) : KO w base w.heap.size v (ps.map Prod.fst) := by
  rcases k.own.2 with ⟨rfl, hn⟩ | ⟨g, cap, cur, rfl, hb, hh, hc, hm, _⟩
  · obtain rfl := List.eq_nil_of_length_eq_zero hn
    exact .nil _ _ _ _ (Nat.zero_le _)
  · by_cases he : ps = []
    · subst he; exact .nil _ _ _ _ hm
    · have hl : (ps.map Prod.fst).length = ps.length := by simp
      have H := KO.cons (w := w) base w.heap.size g 0 cap (ps.map Prod.fst) (fun i => ((ps[i]?).map Prod.snd).getD undef) l h (by simpa using he) (by rw [hl]; exact hc) hm hb (Array.getElem?_eq_some_iff.mp hh).1 (fun o => by rw [Nat.zero_add]; exact k.own.frozenAt o) (fun i e hie => ?_) (fun i hi => ?_) (fun i j hij hj => .inl (k.dis i j hij (by rw [hl] at hj; exact hj))) (fun i e hie => ?_)
      · rw [hl] at H; exact H
      · rw [List.getElem?_map] at hie
        obtain ⟨p, hp, rfl⟩ := Option.map_eq_some_iff.mp hie
        obtain ⟨a0, a1, a2, a3, a4⟩ := rowE_at hp
        have hil : i < ps.length := (List.getElem?_eq_some_iff.mp hp).1
        rw [hp, Nat.zero_add]
        exact ⟨by rw [k.own.cellAt _ (by omega)]; exact a0, by rw [k.own.cellAt _ (by omega)]; exact a1, by rw [k.own.cellAt _ (by omega)]; exact a2, by rw [k.own.cellAt _ (by omega)]; exact a3, by rw [k.own.cellAt _ (by omega)]; exact a4⟩
      · rw [hl] at hi
        have h1 := k.rng i hi
        have h2 := k.off i g hi rfl
        omega
      · rw [List.getElem?_map] at hie
        obtain ⟨p, hp, rfl⟩ := Option.map_eq_some_iff.mp hie
        simp only [hp]
        exact k.kids i p hp

theorem KP.size {w : World} {base : Nat} {v : Value} {ps : List (ExprD × Value)} {l h : Nat → Nat} (k : KP w base v ps l h) : ∀ g, v.ownBlock = some g → base ≤ g ∧ g < w.heap.size := fun g hg => by
  rcases k.own.2 with ⟨rfl, _⟩ | ⟨g', cap, cur, rfl, hb, hh, _⟩
  · cases hg
  · simp only [Value.ownBlock, Option.some.injEq] at hg
    subst hg
    exact ⟨hb, (Array.getElem?_eq_some_iff.mp hh).1⟩

/-- The list stays, where its blocks stay. -/
theorem KP.kept {w w' : World} {base : Nat} {v : Value} {ps : List (ExprD × Value)} {l h : Nat → Nat} (k : KP w base v ps l h) (hk : ∀ q, base ≤ q → q < w.heap.size → w'.heap[q]? = w.heap[q]?) (hs : w.heap.size ≤ w'.heap.size) : KP w' base v ps l h := by
  refine ⟨⟨k.own.1, ?_⟩, fun i p hp => (k.kids i p hp).kept fun q h1 h2 => ?_, fun i hi => ?_, k.off, k.dis⟩
  · rcases k.own.2 with ⟨rfl, hn⟩ | ⟨g, cap, cur, rfl, hb, hh, r⟩
    · exact .inl ⟨rfl, hn⟩
    · exact .inr ⟨g, cap, cur, rfl, hb, by rw [hk g hb (Array.getElem?_eq_some_iff.mp hh).1]; exact hh, r⟩
  · have := k.rng i (List.getElem?_eq_some_iff.mp hp).1
    exact hk q (by omega) (by omega)
  · have := k.rng i hi
    omega

/-- One part more. -/
theorem KP.snoc {w w' u : World} {base : Nat} {v v' : Value} {ps : List (ExprD × Value)} {l h : Nat → Nat} (k : KP w base v ps l h) {e : ExprD} {s : Value} {lo hi : Nat} (hbs : base ≤ w.heap.size) (hlo : w.heap.size ≤ lo) (hlh : lo ≤ hi) (hhi : hi ≤ w'.heap.size)
    (hko : KO w' lo hi s e.kids) (hold : ∀ q, base ≤ q → q < w.heap.size → w'.heap[q]? = w.heap[q]?)
    (hown : u.ownsRow base 42 5 v' (ps.length + 1) (rowE ps ++ [.int .i64 e.k, .int .i64 e.n, .int .i64 e.ak, .int .i64 e.at_, s])) (hg : w'.grownBy u v.ownBlock)
    (hat : ∀ g, v'.ownBlock = some g → v.ownBlock = some g ∨ w'.heap.size ≤ g) : KP u base v' (ps ++ [(e, s)]) (fun i => if i = ps.length then lo else l i) (fun i => if i = ps.length then hi else h i) := by
  have hus := hg.size
  have hne : ∀ i, i < ps.length → ∀ q, l i ≤ q → q < h i → some q ≠ v.ownBlock := fun i hi q h1 h2 hq => by
    have := k.off i q hi hq.symm
    omega
  refine ⟨?_, fun i p hp => ?_, fun i hi => ?_, fun i g hi hv => ?_, fun i j hij hj => ?_⟩
  · rw [rowE_snoc, List.length_append]; exact hown
  · by_cases hil : i < ps.length
    · rw [List.getElem?_append_left hil] at hp
      have hr := k.rng i hil
      simp only [if_neg (Nat.ne_of_lt hil)]
      refine (k.kids i p hp).kept fun q h1 h2 => ?_
      rw [hg.block q (by omega) (hne i hil q h1 h2)]
      exact hold q (by omega) (by omega)
    · rw [List.getElem?_append_right (by omega)] at hp
      have : i = ps.length := by
        have := (List.getElem?_eq_some_iff.mp hp).1
        simp at this
        omega
      subst this
      simp at hp
      subst hp
      simp only [if_true]
      refine hko.kept fun q h1 h2 => hg.block q (by omega) fun hq => ?_
      have := (k.size q hq.symm).2
      omega
  · simp only [List.length_append, List.length_cons, List.length_nil] at hi
    by_cases hil : i < ps.length
    · simp only [if_neg (Nat.ne_of_lt hil)]
      have := k.rng i hil
      omega
    · obtain rfl : i = ps.length := by omega
      simp only [if_true]

      omega
  · simp only [List.length_append, List.length_cons, List.length_nil] at hi
    by_cases hil : i < ps.length
    · simp only [if_neg (Nat.ne_of_lt hil)]
      have := k.rng i hil
      rcases hat g hv with h1 | h1
      · exact k.off i g hil h1
      · omega
    · obtain rfl : i = ps.length := by omega
      simp only [if_true]
      rcases hat g hv with h1 | h1
      · have := (k.size g h1).2; omega
      · omega
  · simp only [List.length_append, List.length_cons, List.length_nil] at hj
    have hi : i < ps.length := by omega
    simp only [if_neg (Nat.ne_of_lt hi)]
    by_cases hjl : j < ps.length
    · simp only [if_neg (Nat.ne_of_lt hjl)]; exact k.dis i j hij hjl
    · obtain rfl : j = ps.length := by omega
      simp only [if_true]
      have := k.rng i hi
      omega
/-- Five cells of one block are stored. -/
theorem five_store {u : World} {R : Nat} {a b c d e : Value} (h : Five u R a b c d e) (v0 v1 v2 v3 v4 : Value) :
    ∃ u1, ((((u.setCell ⟨R, 0, none⟩ v0).setCell ⟨R, 1, none⟩ v1).setCell ⟨R, 2, none⟩ v2).setCell ⟨R, 3, none⟩ v3).setCell ⟨R, 4, none⟩ v4 = u1 ∧ Five u1 R v0 v1 v2 v3 v4 ∧
      (∀ k, k ≠ R → u1.heap[k]? = u.heap[k]?) ∧ u1.heap.size = u.heap.size ∧ ∀ n w, n ≤ R → Below n w u → Below n w u1 :=
  ⟨_, rfl, ((((h.set0 _).set1 _).set2 _).set3 _).set4 _, fun k hk => by rw [Below.heap_setCell _ _ _ _ hk, Below.heap_setCell _ _ _ _ hk, Below.heap_setCell _ _ _ _ hk, Below.heap_setCell _ _ _ _ hk, Below.heap_setCell _ _ _ _ hk],
    by simp [World.setCell], fun n w hn hb => ((((hb.setCell hn _).setCell hn _).setCell hn _).setCell hn _).setCell hn _⟩

theorem Five.grown {u u' : World} {B : Nat} {v0 v1 v2 v3 v4 : Value} {row : Option Nat} (h : Five u B v0 v1 v2 v3 v4) (hg : u.grownBy u' row) (hlt : B < u.heap.size) (hne : some B ≠ row) : Five u' B v0 v1 v2 v3 v4 := by
  have hk := hg.block B hlt hne
  exact ⟨by rw [World.cell?_of_block (w := u) hk]; exact h.c0, by rw [World.cell?_of_block (w := u) hk]; exact h.c1, by rw [World.cell?_of_block (w := u) hk]; exact h.c2, by rw [World.cell?_of_block (w := u) hk]; exact h.c3, by rw [World.cell?_of_block (w := u) hk]; exact h.c4, fun o => by rw [World.frozen?_of_block (w := u) hk]; exact h.f o⟩

theorem two_blocks_new (u : World) (o : Obj) (cs : Array Value) (t : TypeId) : ((u.alloc o).alloc (.cells cs t)).heap[u.heap.size + 1]? = some (.cells cs t (0, 0)) := by
  have h := heap_alloc_new (u.alloc o) (.cells cs t)
  rw [World.size_alloc] at h
  exact h

end Go.Proofs.YtkeockippmmneaaGreat
