/-
  What the laws' helpers markStmtS and heldStmtS do, exactly. (Written by our generator gen_stmtmarkx.py.)
-/
import Derived.Test.YtkeockippmmneaaGreatQS1
import Derived.Test.YtkeockippmmneaaGreatExprMark
namespace Go.Proofs.YtkeockippmmneaaGreat
open Go.ChangeShapes Go.WideShapes Go.ChangeAt Go.RowKit
set_option linter.unusedVariables false
set_option maxRecDepth 100000

mutual
/-- How many marks a statement takes. -/
def tkS : StmtD → Nat
  | .mk _ _ _ e th el => 7 + 4 * manyL e.kids + tkL th + tkL el
def tkL : List StmtD → Nat
  | [] => 0
  | s :: ss => tkS s + tkL ss
end

mutual
/-- The marks, counted on from k. -/
def mkS (k : Int) : StmtD → StmtD
  | .mk _ _ _ e th el => .mk k (k + 1) (k + 2) (.mk (k + 3) (k + 4) (k + 5) (k + 6) (markL (k + 7) e.kids)) (mkTL (k + 7 + 4 * (manyL e.kids : Int)) th) (mkTL (k + 7 + 4 * (manyL e.kids : Int) + (tkL th : Int)) el)
def mkTL (k : Int) : List StmtD → List StmtD
  | [] => []
  | s :: ss => mkS k s :: mkTL (k + (tkS s : Int)) ss
end

theorem tkS_eq (s : StmtD) : tkS s = 7 + 4 * manyL s.e.kids + tkL s.th + tkL s.el := by cases s; rw [tkS]; rfl
theorem mkS_eq (k : Int) (s : StmtD) : mkS k s = .mk k (k + 1) (k + 2) (.mk (k + 3) (k + 4) (k + 5) (k + 6) (markL (k + 7) s.e.kids)) (mkTL (k + 7 + 4 * (manyL s.e.kids : Int)) s.th) (mkTL (k + 7 + 4 * (manyL s.e.kids : Int) + (tkL s.th : Int)) s.el) := by cases s; rw [mkS]; rfl

theorem tkL_append (xs ys : List StmtD) : tkL (xs ++ ys) = tkL xs + tkL ys := by
  induction xs with
  | nil => rw [List.nil_append, tkL]; omega
  | cons x xs ih => rw [List.cons_append, tkL, tkL, ih]; omega

theorem tkL_take_succ {ss : List StmtD} {i : Nat} {s : StmtD} (h : ss[i]? = some s) : tkL (ss.take (i + 1)) = tkL (ss.take i) + tkS s := by
  rw [List.take_add_one, h, tkL_append]
  show tkL (ss.take i) + tkL [s] = _
  rw [tkL, tkL]
  omega

theorem tkL_take_le (ss : List StmtD) (i : Nat) : tkL (ss.take i) ≤ tkL ss := by
  have h := tkL_append (ss.take i) (ss.drop i)
  rw [List.take_append_drop] at h
  omega

theorem tk_size_aux (n : Nat) : ∀ ss : List StmtD, sizeL ss ≤ n → tkL ss ≤ 7 * sizeL ss := by
  induction n with
  | zero =>
    intro ss h
    cases ss with
    | nil => rw [tkL]; omega
    | cons e es => rw [sizeL, sizeS_eq] at h; omega
  | succ n ih =>
    intro ss h
    induction ss with
    | nil => rw [tkL]; omega
    | cons e es ih2 =>
      rw [sizeL, sizeS_eq] at h
      have h1 := ih e.th (by omega)
      have h2 := ih e.el (by omega)
      have h3 := ih2 (by omega)
      rw [tkL, tkS_eq, sizeL, sizeS_eq]
      omega
theorem tk_size (ss : List StmtD) : tkL ss ≤ 7 * sizeL ss := tk_size_aux _ ss (Nat.le_refl _)

theorem mkTL_length (k : Int) (ss : List StmtD) : (mkTL k ss).length = ss.length := by
  induction ss generalizing k with
  | nil => rw [mkTL]
  | cons s ss ih => rw [mkTL, List.length_cons, List.length_cons, ih]

theorem mkTL_at {k : Int} {ss : List StmtD} {i : Nat} {s : StmtD} (h : ss[i]? = some s) : (mkTL k ss)[i]? = some (mkS (k + (tkL (ss.take i) : Int)) s) := by
  induction ss generalizing k i with
  | nil => simp at h
  | cons x xs ih =>
    cases i with
    | zero =>
      simp at h
      subst h
      rw [mkTL]
      simp [tkL]
    | succ i =>
      simp at h
      rw [mkTL, List.getElem?_cons_succ, ih h, List.take_succ_cons, tkL]
      congr 2
      omega

/-- The mark at which the i-th statement begins. -/
def tAt (k : Int) (ss : List StmtD) (i : Nat) : Int := k + (tkL (ss.take i) : Int)
theorem tAt_succ {k : Int} {ss : List StmtD} {i : Nat} {s : StmtD} (h : ss[i]? = some s) : tAt k ss (i + 1) = tAt k ss i + 7 + 4 * (manyL s.e.kids : Int) + (tkL s.th : Int) + (tkL s.el : Int) := by
  unfold tAt
  rw [tkL_take_succ h, tkS_eq]
  omega

theorem mkTL_back {k : Int} {ss : List StmtD} {i : Nat} {s' : StmtD} (h : (mkTL k ss)[i]? = some s') : ∃ s, ss[i]? = some s ∧ s' = mkS (tAt k ss i) s := by
  have hl : i < ss.length := by have := (List.getElem?_eq_some_iff.mp h).1; rwa [mkTL_length] at this
  refine ⟨ss[i], List.getElem?_eq_getElem hl, ?_⟩
  rw [mkTL_at (List.getElem?_eq_getElem hl)] at h
  exact (Option.some.inj h).symm

/-- Seven cells stored one behind another. -/
theorem store7x {u : World} {B o : Nat} (hs : ∀ x, o ≤ x → x < o + 7 → (u.cell? ⟨B, x, none⟩).isSome = true) (v0 v1 v2 v3 v4 v5 v6 : Value) :
    ∃ u1, ((((((u.setCell ⟨B, o, none⟩ v0).setCell ⟨B, o + 1, none⟩ v1).setCell ⟨B, o + 2, none⟩ v2).setCell ⟨B, o + 3, none⟩ v3).setCell ⟨B, o + 4, none⟩ v4).setCell ⟨B, o + 5, none⟩ v5).setCell ⟨B, o + 6, none⟩ v6 = u1 ∧
      (u1.cell? ⟨B, o, none⟩ = some v0 ∧ u1.cell? ⟨B, o + 1, none⟩ = some v1 ∧ u1.cell? ⟨B, o + 2, none⟩ = some v2 ∧ u1.cell? ⟨B, o + 3, none⟩ = some v3 ∧ u1.cell? ⟨B, o + 4, none⟩ = some v4 ∧ u1.cell? ⟨B, o + 5, none⟩ = some v5 ∧ u1.cell? ⟨B, o + 6, none⟩ = some v6) ∧
      (∀ b x, b ≠ B ∨ x < o ∨ o + 7 ≤ x → u1.cell? ⟨b, x, none⟩ = u.cell? ⟨b, x, none⟩) ∧ (∀ b x, u1.frozen? ⟨b, x, none⟩ = u.frozen? ⟨b, x, none⟩) ∧ (∀ k, k ≠ B → u1.heap[k]? = u.heap[k]?) ∧ u1.heap.size = u.heap.size ∧ ∀ lo hi w, lo ≤ B → B < hi → Out lo hi w u → Out lo hi w u1 := by
  have hc : ∀ x, o ≤ x → x < o + 7 → ∀ u' : World, u'.cell? ⟨B, x, none⟩ = u.cell? ⟨B, x, none⟩ → ∀ v, (u'.setCell ⟨B, x, none⟩ v).cell? ⟨B, x, none⟩ = some v := fun x h1 h2 u' hu v => World.cell?_setCell_same' _ _ _ (by rw [hu]; exact hs x h1 h2)
  refine ⟨_, rfl, ⟨?_, ?_, ?_, ?_, ?_, ?_, ?_⟩, ?_, ?_, ?_, ?_, ?_⟩
  · rw [cell_set_other _ (.inr (by omega)), cell_set_other _ (.inr (by omega)), cell_set_other _ (.inr (by omega)), cell_set_other _ (.inr (by omega)), cell_set_other _ (.inr (by omega)), cell_set_other _ (.inr (by omega))]
    exact hc o (by omega) (by omega) _ rfl _
  · rw [cell_set_other _ (.inr (by omega)), cell_set_other _ (.inr (by omega)), cell_set_other _ (.inr (by omega)), cell_set_other _ (.inr (by omega)), cell_set_other _ (.inr (by omega))]
    exact hc (o + 1) (by omega) (by omega) _ (by rw [cell_set_other _ (.inr (by omega))]) _
  · rw [cell_set_other _ (.inr (by omega)), cell_set_other _ (.inr (by omega)), cell_set_other _ (.inr (by omega)), cell_set_other _ (.inr (by omega))]
    exact hc (o + 2) (by omega) (by omega) _ (by rw [cell_set_other _ (.inr (by omega)), cell_set_other _ (.inr (by omega))]) _
  · rw [cell_set_other _ (.inr (by omega)), cell_set_other _ (.inr (by omega)), cell_set_other _ (.inr (by omega))]
    exact hc (o + 3) (by omega) (by omega) _ (by rw [cell_set_other _ (.inr (by omega)), cell_set_other _ (.inr (by omega)), cell_set_other _ (.inr (by omega))]) _
  · rw [cell_set_other _ (.inr (by omega)), cell_set_other _ (.inr (by omega))]
    exact hc (o + 4) (by omega) (by omega) _ (by rw [cell_set_other _ (.inr (by omega)), cell_set_other _ (.inr (by omega)), cell_set_other _ (.inr (by omega)), cell_set_other _ (.inr (by omega))]) _
  · rw [cell_set_other _ (.inr (by omega))]
    exact hc (o + 5) (by omega) (by omega) _ (by rw [cell_set_other _ (.inr (by omega)), cell_set_other _ (.inr (by omega)), cell_set_other _ (.inr (by omega)), cell_set_other _ (.inr (by omega)), cell_set_other _ (.inr (by omega))]) _
  · exact hc (o + 6) (by omega) (by omega) _ (by rw [cell_set_other _ (.inr (by omega)), cell_set_other _ (.inr (by omega)), cell_set_other _ (.inr (by omega)), cell_set_other _ (.inr (by omega)), cell_set_other _ (.inr (by omega)), cell_set_other _ (.inr (by omega))]) _
  · intro b x hx
    rw [cell_set_other _ (by omega), cell_set_other _ (by omega), cell_set_other _ (by omega), cell_set_other _ (by omega), cell_set_other _ (by omega), cell_set_other _ (by omega), cell_set_other _ (by omega)]
  · intro b x
    rw [World.frozen?_setCell, World.frozen?_setCell, World.frozen?_setCell, World.frozen?_setCell, World.frozen?_setCell, World.frozen?_setCell, World.frozen?_setCell]
  · intro k hk
    rw [Below.heap_setCell _ _ _ _ hk, Below.heap_setCell _ _ _ _ hk, Below.heap_setCell _ _ _ _ hk, Below.heap_setCell _ _ _ _ hk, Below.heap_setCell _ _ _ _ hk, Below.heap_setCell _ _ _ _ hk, Below.heap_setCell _ _ _ _ hk]
  · simp [World.setCell]
  · intro lo hi w h1 h2 h
    exact ((((((h.set _ h1 h2).set _ h1 h2).set _ h1 h2).set _ h1 h2).set _ h1 h2).set _ h1 h2).set _ h1 h2


/-- What holds as j statements of an owned list have been marked. -/
structure MarkU (w : World) (lo hi b off : Nat) (ss : List StmtD) (x y z : Nat → Value) (r : Nat → Rg) (k : Int) (j : Nat) (wr : World) : Prop where
  out : Out lo hi w wr
  done : ∀ i s, i < j → ss[i]? = some s → Cell10 wr b (off + i * 10) (mkS (tAt k ss i) s) (x i) (y i) (z i) ∧ KO wr (r i).a0 (r i).a1 (x i) (mkS (tAt k ss i) s).e.kids ∧ SO wr (r i).b0 (r i).b1 (y i) (mkS (tAt k ss i) s).th ∧ SO wr (r i).c0 (r i).c1 (z i) (mkS (tAt k ss i) s).el
  todo : ∀ i s, j ≤ i → ss[i]? = some s → Cell10 wr b (off + i * 10) s (x i) (y i) (z i) ∧ KO wr (r i).a0 (r i).a1 (x i) s.e.kids ∧ SO wr (r i).b0 (r i).b1 (y i) s.th ∧ SO wr (r i).c0 (r i).c1 (z i) s.el
  frozen : ∀ o, wr.frozen? ⟨b, off + o, none⟩ = false

theorem MarkU.next {w wr u u' : World} {lo hi b off : Nat} {ss : List StmtD} {x y z : Nat → Value} {r : Nat → Rg} {k : Int} {j : Nat} {s0 : StmtD} (m : MarkU w lo hi b off ss x y z r k j wr) (hs0 : ss[j]? = some s0) (hj : j < ss.length) (hlo : lo ≤ b) (hhi : b < hi) (hw : hi ≤ wr.heap.size)
    (hr : ∀ i, i < ss.length → (r i).Ok lo hi b) (hd : ∀ i j, i < j → j < ss.length → (r i).h ≤ (r j).l ∨ (r j).h ≤ (r i).l)
    (ho : ∀ b' x, b' ≠ b ∨ x < off + j * 10 ∨ off + j * 10 + 7 ≤ x → u.cell? ⟨b', x, none⟩ = wr.cell? ⟨b', x, none⟩) (hf : ∀ b x, u.frozen? ⟨b, x, none⟩ = wr.frozen? ⟨b, x, none⟩) (hh : ∀ k, k ≠ b → u.heap[k]? = wr.heap[k]?) (hz : u.heap.size = wr.heap.size)
    (hbl : ∀ lo hi w, lo ≤ b → b < hi → Out lo hi w wr → Out lo hi w u) (hu : Out (r j).l (r j).h u u')
    (hc : u.cell? ⟨b, off + j * 10, none⟩ = some (.int .i64 (tAt k ss j)) ∧ u.cell? ⟨b, off + j * 10 + 1, none⟩ = some (.int .i64 (tAt k ss j + 1)) ∧ u.cell? ⟨b, off + j * 10 + 2, none⟩ = some (.int .i64 (tAt k ss j + 2)) ∧ u.cell? ⟨b, off + j * 10 + 3, none⟩ = some (.int .i64 (tAt k ss j + 3)) ∧ u.cell? ⟨b, off + j * 10 + 4, none⟩ = some (.int .i64 (tAt k ss j + 4)) ∧ u.cell? ⟨b, off + j * 10 + 5, none⟩ = some (.int .i64 (tAt k ss j + 5)) ∧ u.cell? ⟨b, off + j * 10 + 6, none⟩ = some (.int .i64 (tAt k ss j + 6)))
    (hk : KO u' (r j).a0 (r j).a1 (x j) (mkS (tAt k ss j) s0).e.kids ∧ SO u' (r j).b0 (r j).b1 (y j) (mkS (tAt k ss j) s0).th ∧ SO u' (r j).c0 (r j).c1 (z j) (mkS (tAt k ss j) s0).el) : MarkU w lo hi b off ss x y z r k (j + 1) u' := by
  have hrj := hr j hj
  obtain ⟨o1, o2, o3, o4, o5, o6, o7, o8, o9⟩ := id hrj
  have hbu : u'.heap[b]? = u.heap[b]? := hu.block b (by omega) (by omega)
  have hcell : ∀ x, u'.cell? ⟨b, x, none⟩ = u.cell? ⟨b, x, none⟩ := fun x => World.cell?_of_block hbu
  refine ⟨(hbl _ _ _ hlo hhi m.out).trans (hu.wide (by omega) (by omega)), fun i s hi his => ?_, fun i s hi his => ?_, fun o => ?_⟩
  · by_cases ej : i = j
    · subst ej
      rw [hs0] at his
      cases his
      have c := (m.todo i s0 (Nat.le_refl _) hs0).1
      refine ⟨⟨?_, ?_, ?_, ?_, ?_, ?_, ?_, ?_, ?_, ?_⟩, hk⟩
      · rw [hcell, hc.1, mkS_eq]; rfl
      · rw [hcell, hc.2.1, mkS_eq]; rfl
      · rw [hcell, hc.2.2.1, mkS_eq]; rfl
      · rw [hcell, hc.2.2.2.1, mkS_eq]; rfl
      · rw [hcell, hc.2.2.2.2.1, mkS_eq]; rfl
      · rw [hcell, hc.2.2.2.2.2.1, mkS_eq]; rfl
      · rw [hcell, hc.2.2.2.2.2.2, mkS_eq]; rfl
      · rw [hcell, ho _ _ (by omega)]; exact c.c7
      · rw [hcell, ho _ _ (by omega)]; exact c.c8
      · rw [hcell, ho _ _ (by omega)]; exact c.c9
    have hil : i < ss.length := (List.getElem?_eq_some_iff.mp his).1
    obtain ⟨d, d1, d2, d3⟩ := m.done i s (by omega) his
    obtain ⟨p1, p2, p3, p4, p5, p6, p7, p8, p9⟩ := hr i hil
    have hdij := (hd i j (by omega) hj).symm
    have hkeep : ∀ q, (r i).l ≤ q → q < (r i).h → u'.heap[q]? = wr.heap[q]? := fun q h1 h2 => by
      rw [hu.block q (by omega) (by omega)]
      exact hh q (by omega)
    refine ⟨⟨?_, ?_, ?_, ?_, ?_, ?_, ?_, ?_, ?_, ?_⟩, d1.kept fun q h1 h2 => hkeep q (by omega) (by omega), d2.kept fun q h1 h2 => hkeep q (by omega) (by omega), d3.kept fun q h1 h2 => hkeep q (by omega) (by omega)⟩
    · rw [hcell, ho _ _ (by omega)]; exact d.c0
    · rw [hcell, ho _ _ (by omega)]; exact d.c1
    · rw [hcell, ho _ _ (by omega)]; exact d.c2
    · rw [hcell, ho _ _ (by omega)]; exact d.c3
    · rw [hcell, ho _ _ (by omega)]; exact d.c4
    · rw [hcell, ho _ _ (by omega)]; exact d.c5
    · rw [hcell, ho _ _ (by omega)]; exact d.c6
    · rw [hcell, ho _ _ (by omega)]; exact d.c7
    · rw [hcell, ho _ _ (by omega)]; exact d.c8
    · rw [hcell, ho _ _ (by omega)]; exact d.c9
  · have hil : i < ss.length := (List.getElem?_eq_some_iff.mp his).1
    obtain ⟨d, d1, d2, d3⟩ := m.todo i s (by omega) his
    obtain ⟨p1, p2, p3, p4, p5, p6, p7, p8, p9⟩ := hr i hil
    have hdij := hd j i (by omega) hil
    have hkeep : ∀ q, (r i).l ≤ q → q < (r i).h → u'.heap[q]? = wr.heap[q]? := fun q h1 h2 => by
      rw [hu.block q (by omega) (by omega)]
      exact hh q (by omega)
    refine ⟨⟨?_, ?_, ?_, ?_, ?_, ?_, ?_, ?_, ?_, ?_⟩, d1.kept fun q h1 h2 => hkeep q (by omega) (by omega), d2.kept fun q h1 h2 => hkeep q (by omega) (by omega), d3.kept fun q h1 h2 => hkeep q (by omega) (by omega)⟩
    · rw [hcell, ho _ _ (by omega)]; exact d.c0
    · rw [hcell, ho _ _ (by omega)]; exact d.c1
    · rw [hcell, ho _ _ (by omega)]; exact d.c2
    · rw [hcell, ho _ _ (by omega)]; exact d.c3
    · rw [hcell, ho _ _ (by omega)]; exact d.c4
    · rw [hcell, ho _ _ (by omega)]; exact d.c5
    · rw [hcell, ho _ _ (by omega)]; exact d.c6
    · rw [hcell, ho _ _ (by omega)]; exact d.c7
    · rw [hcell, ho _ _ (by omega)]; exact d.c8
    · rw [hcell, ho _ _ (by omega)]; exact d.c9
  · rw [World.frozen?_of_block hbu, hf]; exact m.frozen o

theorem MarkU.so {w wr : World} {lo hi b off cap : Nat} {ss : List StmtD} {x y z : Nat → Value} {r : Nat → Rg} {k : Int} (m : MarkU w lo hi b off ss x y z r k ss.length wr) (h0 : ss ≠ []) (h1 : ss.length ≤ cap) (h2 : cap ≤ maxLen) (h3 : lo ≤ b) (h4 : b < hi)
    (hr : ∀ i, i < ss.length → (r i).Ok lo hi b) (hd : ∀ i j, i < j → j < ss.length → (r i).h ≤ (r j).l ∨ (r j).h ≤ (r i).l) : SO wr lo hi (.slice (some ⟨b, off, none⟩) ss.length cap) (mkTL k ss) := by
  have hlen := mkTL_length k ss
  have hne : mkTL k ss ≠ [] := fun hq => h0 (List.eq_nil_of_length_eq_zero (by rw [← hlen, hq]; rfl))
  have key : ∀ i s', (mkTL k ss)[i]? = some s' → Cell10 wr b (off + i * 10) s' (x i) (y i) (z i) ∧ KO wr (r i).a0 (r i).a1 (x i) s'.e.kids ∧ SO wr (r i).b0 (r i).b1 (y i) s'.th ∧ SO wr (r i).c0 (r i).c1 (z i) s'.el := fun i s' hie => by
    obtain ⟨s, hs, rfl⟩ := mkTL_back hie
    exact m.done i s (List.getElem?_eq_some_iff.mp hs).1 hs
  have H := SO.cons (w := wr) lo hi b off cap (mkTL k ss) x y z r hne (by rw [hlen]; exact h1) h2 h3 h4 m.frozen (fun i s' h => (key i s' h).1) (fun i hi => hr i (by rw [hlen] at hi; exact hi)) (fun i j hij hj => hd i j hij (by rw [hlen] at hj; exact hj)) (fun i s' h => (key i s' h).2.1) (fun i s' h => (key i s' h).2.2.1) (fun i s' h => (key i s' h).2.2.2)
  rw [hlen] at H; exact H

/-- What markStmtS does. -/
def MarkTX (n : Nat) : Prop := ∀ (w : World) (lo hi : Nat) (v : Value) (ss : List StmtD) (k : Int), sizeL ss ≤ n → 0 ≤ k → k + (tkL ss : Int) ≤ 1000000000 → SO w lo hi v ss → hi ≤ w.heap.size →
  Calls Tryz.prog 9 #[v, .int .i64 k] w fun en w' => en = .returned (.int .i64 (k + (tkL ss : Int))) ∧ SO w' lo hi v (mkTL k ss) ∧ Out lo hi w w'

set_option maxHeartbeats 8000000 in
theorem markX_step {n : Nat} (H : ∀ m, m < n → MarkTX m) : MarkTX n := by
  intro w lo hi v ss k hn hk0 hkm hso hhi
  cases hso with
  | nil _ _ ad cap hc =>
    unfold maxLen at hc
    have e1 : tkL ([] : List StmtD) = 0 := by rw [tkL]
    rw [e1, mkTL]
    clear e1 hn hkm
    go_enter Tryz.func9, Tryz.ntmps9
    go_wp2_with fail
    go_loopw [1, 5] (fun q i wr => q = .int .i64 k ∧ i = .int .i64 0 ∧ wr = w) (fun _ _ _ => 0)
    case atStart => exact ⟨rfl, rfl, rfl⟩
    case round =>
      obtain ⟨rfl, rfl, rfl⟩ := hrel
      go_wp2
      go_ret
      exact ⟨ret_int (by omega), .nil _ _ _ _ hc, out_of_below (Below.refl _ _) _ _⟩
  | cons _ _ b off cap _ x y z r h0 h1 h2 h3 h4 hf hc hr hd he ht hl =>
    have hmx : ss.length ≤ 9223372036854775807 := by unfold maxLen at h2; omega
    have HI : Hid (MarkU w lo hi b off ss x y z r k 0 w) := ⟨out_of_below (Below.refl _ _) _ _, fun i s hi => by omega, fun i s _ hie => ⟨hc i s hie, he i s hie, ht i s hie, hl i s hie⟩, hf⟩
    have HRR : Hid ((∀ i, i < ss.length → (r i).Ok lo hi b) ∧ (∀ i j, i < j → j < ss.length → (r i).h ≤ (r j).l ∨ (r j).h ≤ (r i).l)) := ⟨hr, hd⟩
    have HM : Hid (sizeL ss ≤ n ∧ k + (tkL ss : Int) ≤ 1000000000) := ⟨hn, hkm⟩
    clear hf hc hr hd he ht hl hn hkm
    go_enter Tryz.func9, Tryz.ntmps9
    go_wp2_with fail
    go_loopw [1, 5] (fun q i wr => ∃ (j : Nat), j ≤ ss.length ∧ q = .int .i64 (tAt k ss j) ∧ i = .int .i64 j ∧ Hid (MarkU w lo hi b off ss x y z r k j wr)) (fun _ i _ => ss.length - (intOf i).toNat)
    case atStart => exact ⟨0, Nat.zero_le _, by simp [tAt, tkL], rfl, HI.out⟩
    case round =>
      clear HI
      obtain ⟨j, hj, rfl, rfl, HI⟩ := hrel
      have hle : 0 ≤ tAt k ss j ∧ tAt k ss j ≤ 1000000000 := by
        have h5 := tkL_take_le ss j
        have h6 := HM.out.2
        unfold tAt
        omega
      by_cases hlt : j < ss.length
      · obtain ⟨s, hs⟩ : ∃ s, ss[j]? = some s := ⟨ss[j], List.getElem?_eq_getElem hlt⟩
        have hlt' : (j : Int) < (ss.length : Int) := by omega
        have hws := HI.out.out.size
        obtain ⟨hc10, hkx, hky, hkz⟩ := HI.out.todo j s (Nat.le_refl _) hs
        have hsm : ∀ q, off + j * 10 ≤ q → q < off + j * 10 + 7 → (wr.cell? ⟨b, q, none⟩).isSome = true := fun q h5 h6 => by
          obtain rfl | rfl | rfl | rfl | rfl | rfl | rfl : q = off + j * 10 ∨ q = off + j * 10 + 1 ∨ q = off + j * 10 + 2 ∨ q = off + j * 10 + 3 ∨ q = off + j * 10 + 4 ∨ q = off + j * 10 + 5 ∨ q = off + j * 10 + 6 := by omega
          · rw [hc10.c0]; rfl
          · rw [hc10.c1]; rfl
          · rw [hc10.c2]; rfl
          · rw [hc10.c3]; rfl
          · rw [hc10.c4]; rfl
          · rw [hc10.c5]; rfl
          · rw [hc10.c6]; rfl
        obtain ⟨u, hu, hcc, ho, hff, hh, hz, hbl⟩ := store7x hsm (.int .i64 (tAt k ss j)) (.int .i64 (tAt k ss j + 1)) (.int .i64 (tAt k ss j + 2)) (.int .i64 (tAt k ss j + 3)) (.int .i64 (tAt k ss j + 4)) (.int .i64 (tAt k ss j + 5)) (.int .i64 (tAt k ss j + 6))
        have hkl := stmt_lt hs
        have hms := tAt_succ (k := k) hs
        have hmle : tAt k ss (j + 1) ≤ 1000000000 := by
          have h5 := tkL_take_le ss (j + 1)
          have h6 := HM.out.2
          unfold tAt
          omega
        have hme := mkS_eq (tAt k ss j) s
        obtain ⟨p1, p2, p3, p4, p5, p6, p7, p8, p9⟩ := HRR.out.1 j hlt
        have hC := markS _ u (r j).a0 (r j).a1 (x j) s.e.kids (tAt k ss j + 7) (Nat.le_refl _) (by omega) (by omega) (hkx.kept fun q q1 q2 => hh q (by omega)) (by omega)
        have HN : Hid (∀ u', Out (r j).l (r j).h u u' → KO u' (r j).a0 (r j).a1 (x j) (markL (tAt k ss j + 7) s.e.kids) ∧ SO u' (r j).b0 (r j).b1 (y j) (mkTL (tAt k ss j + 7 + 4 * (manyL s.e.kids : Int)) s.th) ∧ SO u' (r j).c0 (r j).c1 (z j) (mkTL (tAt k ss j + 7 + 4 * (manyL s.e.kids : Int) + (tkL s.th : Int)) s.el) → MarkU w lo hi b off ss x y z r k (j + 1) u') := fun u' a2 a3 =>
          HI.out.next hs hlt h3 h4 (by omega) HRR.out.1 HRR.out.2 ho hff hh hz hbl a2 hcc (by rw [hme]; exact a3)
        have HU : Hid (_ = u) := hu
        have HS : Hid (SO u (r j).b0 (r j).b1 (y j) s.th ∧ SO u (r j).c0 (r j).c1 (z j) s.el ∧ sizeL s.th < n ∧ sizeL s.el < n) := ⟨hky.kept fun q q1 q2 => hh q (by omega), hkz.kept fun q q1 q2 => hh q (by omega), by have := HM.out.1; omega, by have := HM.out.1; omega⟩
        obtain ⟨c0, c1, c2, c3, c4, c5, c6, c7, c8, c9⟩ := hc10
        have f0 := HI.out.frozen (j * 10)
        have f1 := HI.out.frozen (j * 10 + 1)
        have f2 := HI.out.frozen (j * 10 + 2)
        have f3 := HI.out.frozen (j * 10 + 3)
        have f4 := HI.out.frozen (j * 10 + 4)
        have f5 := HI.out.frozen (j * 10 + 5)
        have f6 := HI.out.frozen (j * 10 + 6)
        rw [← Nat.add_assoc] at f1 f2 f3 f4 f5 f6
        obtain ⟨ax, cx, hsx, _, _⟩ := hkx.kr.shape
        obtain ⟨ay, cy, hsy, _, _⟩ := hky.sr.shape
        obtain ⟨az, cz, hsz, _, _⟩ := hkz.sr.shape
        rw [hsx] at c7 hC HN
        rw [hsy] at c8 HS HN
        rw [hsz] at c9 HS HN
        have HC : Hid (u.cell? ⟨b, off + j * 10 + 7, none⟩ = some (.slice ax s.e.kids.length cx) ∧ u.cell? ⟨b, off + j * 10 + 8, none⟩ = some (.slice ay s.th.length cy) ∧ u.cell? ⟨b, off + j * 10 + 9, none⟩ = some (.slice az s.el.length cz)) :=
          ⟨by rw [ho _ _ (by omega)]; exact c7, by rw [ho _ _ (by omega)]; exact c8, by rw [ho _ _ (by omega)]; exact c9⟩
        have HMS : Hid (tAt k ss (j + 1) = tAt k ss j + 7 + 4 * (manyL s.e.kids : Int) + (tkL s.th : Int) + (tkL s.el : Int) ∧ tAt k ss (j + 1) ≤ 1000000000) := ⟨hms, hmle⟩
        have hsu : u.heap.size = wr.heap.size := hz
        clear hu ho hff hh hz hbl hms hkx hky hkz hsx hsy hsz hkl hmle HI hcc hsm hme
        obtain ⟨M, hM⟩ : ∃ M, tAt k ss j = M := ⟨_, rfl⟩
        rw [hM] at hle HN hC HMS HU
        try rw [hM]
        clear hM
        go_wp2_with fail
        rw [show M + 1 + 1 = M + 2 by omega, show M + 2 + 1 = M + 3 by omega, show M + 3 + 1 = M + 4 by omega, show M + 4 + 1 = M + 5 by omega, show M + 5 + 1 = M + 6 by omega, show M + 6 + 1 = M + 7 by omega, show off + j * 10 + 1 + 1 = off + j * 10 + 2 from rfl, show off + j * 10 + 3 + 1 = off + j * 10 + 4 from rfl, show off + j * 10 + 3 + 2 + 1 = off + j * 10 + 6 from rfl, HU.out]
        refine hC.mono ?_
        clear hC c0 c1 c2 c3 c4 c5 c6 c7 c8 c9 f0 f1 f2 f3 f4 f5 f6 HU
        rintro e1 u1 ⟨rfl, b2, a2⟩
        have S1 := a2.size
        have hC2 := H (sizeL s.th) HS.out.2.2.1 u1 (r j).b0 (r j).b1 _ s.th (M + 7 + 4 * (manyL s.e.kids : Int)) (Nat.le_refl _) (by omega) (by have := HMS.out; omega) (HS.out.1.kept fun q q1 q2 => a2.block q (by omega) (by omega)) (by omega)
        have c8 : u1.cell? ⟨b, off + j * 10 + 8, none⟩ = some (.slice ay s.th.length cy) := by rw [World.cell?_of_block (w := u) (a2.block b (by omega) (by omega))]; exact HC.out.2.1
        have HO1 : Hid (Out (r j).a0 (r j).a1 u u1 ∧ KO u1 (r j).a0 (r j).a1 (.slice ax s.e.kids.length cx) (markL (M + 7) s.e.kids)) := ⟨a2, b2⟩
        have hb2 : M + 7 + 4 * (manyL s.e.kids : Int) ≤ 1000000000 := by have := HMS.out; omega
        clear a2 b2
        go_wp2_with fail
        refine hC2.mono ?_
        clear hC2 c8
        rintro e2 u2 ⟨rfl, b3, a3⟩
        have S2 := a3.size
        have hC3 := H (sizeL s.el) HS.out.2.2.2 u2 (r j).c0 (r j).c1 _ s.el (M + 7 + 4 * (manyL s.e.kids : Int) + (tkL s.th : Int)) (Nat.le_refl _) (by omega) (by have := HMS.out; omega) (HS.out.2.1.kept fun q q1 q2 => (a3.block q (by omega) (by omega)).trans (HO1.out.1.block q (by omega) (by omega))) (by omega)
        have c9 : u2.cell? ⟨b, off + j * 10 + 9, none⟩ = some (.slice az s.el.length cz) := by rw [World.cell?_of_block (w := u) ((a3.block b (by omega) (by omega)).trans (HO1.out.1.block b (by omega) (by omega)))]; exact HC.out.2.2
        have HO2 : Hid (Out (r j).l (r j).h u u2 ∧ KO u2 (r j).a0 (r j).a1 (.slice ax s.e.kids.length cx) (markL (M + 7) s.e.kids) ∧ SO u2 (r j).b0 (r j).b1 (.slice ay s.th.length cy) (mkTL (M + 7 + 4 * (manyL s.e.kids : Int)) s.th)) := ⟨(HO1.out.1.wide (by omega) (by omega)).trans (a3.wide (by omega) (by omega)), HO1.out.2.kept fun q q1 q2 => a3.block q (by omega) (by omega), b3⟩
        have hb3 : M + 7 + 4 * (manyL s.e.kids : Int) + (tkL s.th : Int) ≤ 1000000000 := by have := HMS.out; omega
        clear a3 b3 HO1
        go_wp2_with fail
        refine hC3.mono ?_
        clear hC3 c9
        rintro e3 u3 ⟨rfl, b4, a4⟩
        have HI' : Hid (MarkU w lo hi b off ss x y z r k (j + 1) u3) := HN.out u3 (HO2.out.1.trans (a4.wide (by omega) (by omega))) ⟨HO2.out.2.1.kept fun q q1 q2 => a4.block q (by omega) (by omega), HO2.out.2.2.kept fun q q1 q2 => a4.block q (by omega) (by omega), b4⟩
        clear a4 b4 HO2 HN HS HC p1 p2 p3 p4 p5 p6 p7 p8 p9
        go_wp2
        go_roundw
        case rel => exact ⟨j + 1, by omega, by rw [HMS.out.1], by go_num, HI'.out⟩
        case measure => simp [intOf]; omega
      · obtain rfl : j = ss.length := by omega
        have HO : Hid (SO wr lo hi (.slice (some ⟨b, off, none⟩) ss.length cap) (mkTL k ss) ∧ Out lo hi w wr) := ⟨HI.out.so h0 h1 h2 h3 h4 HRR.out.1 HRR.out.2, HI.out.out⟩
        have hR : tAt k ss ss.length = k + (tkL ss : Int) := by unfold tAt; rw [List.take_length]
        have HR : Hid (tAt k ss ss.length = k + (tkL ss : Int)) := hR
        clear HI hR
        generalize tAt k ss ss.length = M at *
        go_wp2
        go_ret
        exact ⟨ret_int HR.out, HO.out⟩

theorem markX (n : Nat) : MarkTX n := by
  induction n using Nat.strongRecOn with
  | ind n ih => exact markX_step ih

/-- What heldStmtS answers of what is marked. -/
def HeldX (n : Nat) : Prop := ∀ (w : World) (lo hi : Nat) (v : Value) (ss : List StmtD) (k : Int), sizeL ss ≤ n → 0 ≤ k → k + (tkL ss : Int) ≤ 1000000000 → SR w lo hi v (mkTL k ss) → hi ≤ w.heap.size →
  Calls Tryz.prog 10 #[v, .int .i64 k] w fun en w' => en = .returned (.int .i64 (k + (tkL ss : Int))) ∧ w' = w

set_option maxHeartbeats 8000000 in
theorem heldX_step {n : Nat} (H : ∀ m, m < n → HeldX m) : HeldX n := by
  intro w lo hi v ss k hn hk0 hkm hkr hhi
  obtain ⟨ad, cap, rfl, hc1, hc2⟩ := hkr.shape
  rw [mkTL_length] at hkr hc1 ⊢
  have hmx : ss.length ≤ 9223372036854775807 := by unfold maxLen at hc2; omega
  have HK : Hid (SR w lo hi (.slice ad ss.length cap) (mkTL k ss)) := hkr
  have HM : Hid (sizeL ss ≤ n ∧ k + (tkL ss : Int) ≤ 1000000000) := ⟨hn, hkm⟩
  clear hkr hn hkm hc1 hc2
  go_enter Tryz.func10, Tryz.ntmps10
  go_wp2_with fail
  go_loopw [1, 5] (fun q i wr => wr = w ∧ ∃ j : Nat, j ≤ ss.length ∧ q = .int .i64 (tAt k ss j) ∧ i = .int .i64 j) (fun _ i _ => ss.length - (intOf i).toNat)
  case atStart => exact ⟨rfl, 0, Nat.zero_le _, by simp [tAt, tkL], rfl⟩
  case round =>
    obtain ⟨rfl, j, hj, rfl, rfl⟩ := hrel
    have hle : 0 ≤ tAt k ss j ∧ tAt k ss j ≤ 1000000000 := by
      have h5 := tkL_take_le ss j
      have h6 := HM.out.2
      unfold tAt
      omega
    by_cases hlt : j < ss.length
    · obtain ⟨s, hs⟩ : ∃ s, ss[j]? = some s := ⟨ss[j], List.getElem?_eq_getElem hlt⟩
      have hlt' : (j : Int) < (ss.length : Int) := by omega
      obtain ⟨b, off, cap', sx, sy, sz, hv, hb1, hb2, h5, hkx, hky, hkz⟩ := HK.out.at_ (mkTL_at hs)
      rw [mkTL_length] at hv
      simp only [Value.slice.injEq, true_and] at hv
      obtain ⟨rfl, rfl⟩ := hv
      have hkl := stmt_lt hs
      have hms := tAt_succ (k := k) hs
      have hmle : tAt k ss (j + 1) ≤ 1000000000 := by
        have h5 := tkL_take_le ss (j + 1)
        have h6 := HM.out.2
        unfold tAt
        omega
      rw [mkS_eq] at h5 hkx hky hkz
      have h5 : Cell10 wr b (off + j * 10) (.mk (tAt k ss j) (tAt k ss j + 1) (tAt k ss j + 2) (.mk (tAt k ss j + 3) (tAt k ss j + 4) (tAt k ss j + 5) (tAt k ss j + 6) (markL (tAt k ss j + 7) s.e.kids)) (mkTL (tAt k ss j + 7 + 4 * (manyL s.e.kids : Int)) s.th) (mkTL (tAt k ss j + 7 + 4 * (manyL s.e.kids : Int) + (tkL s.th : Int)) s.el)) sx sy sz := h5
      have hkx : KR wr lo hi sx (markL (tAt k ss j + 7) s.e.kids) := hkx
      have hky : SR wr lo hi sy (mkTL (tAt k ss j + 7 + 4 * (manyL s.e.kids : Int)) s.th) := hky
      have hkz : SR wr lo hi sz (mkTL (tAt k ss j + 7 + 4 * (manyL s.e.kids : Int) + (tkL s.th : Int)) s.el) := hkz
      have hC1 := heldS _ wr lo hi sx s.e.kids (tAt k ss j + 7) (Nat.le_refl _) (by omega) (by omega) hkx hhi
      have hC2 := H (sizeL s.th) (by have := HM.out.1; omega) wr lo hi sy s.th (tAt k ss j + 7 + 4 * (manyL s.e.kids : Int)) (Nat.le_refl _) (by omega) (by omega) hky hhi
      have hC3 := H (sizeL s.el) (by have := HM.out.1; omega) wr lo hi sz s.el (tAt k ss j + 7 + 4 * (manyL s.e.kids : Int) + (tkL s.th : Int)) (Nat.le_refl _) (by omega) (by omega) hkz hhi
      have HMS : Hid (tAt k ss (j + 1) = tAt k ss j + 7 + 4 * (manyL s.e.kids : Int) + (tkL s.th : Int) + (tkL s.el : Int)) := hms
      obtain ⟨ax, cx, hss, _, _⟩ := hkx.shape
      rw [markL_length] at hss
      subst hss
      obtain ⟨ay, cy, hss, _, _⟩ := hky.shape
      rw [mkTL_length] at hss
      subst hss
      obtain ⟨az, cz, hss, _, _⟩ := hkz.shape
      rw [mkTL_length] at hss
      subst hss
      clear hkx hky hkz hkl hms
      generalize tAt k ss j = M at *
      have c0 : wr.cell? ⟨b, off + j * 10, none⟩ = some (.int .i64 M) := h5.c0
      have c1 : wr.cell? ⟨b, off + j * 10 + 1, none⟩ = some (.int .i64 (M + 1)) := h5.c1
      have c2 : wr.cell? ⟨b, off + j * 10 + 2, none⟩ = some (.int .i64 (M + 1 + 1)) := by rw [h5.c2]; show some (Value.int .i64 (M + 2)) = _; congr 2; omega
      have c3 : wr.cell? ⟨b, off + j * 10 + 3, none⟩ = some (.int .i64 (M + 1 + 1 + 1)) := by rw [h5.c3]; show some (Value.int .i64 (M + 3)) = _; congr 2; omega
      have c4 : wr.cell? ⟨b, off + j * 10 + 4, none⟩ = some (.int .i64 (M + 1 + 1 + 1 + 1)) := by rw [h5.c4]; show some (Value.int .i64 (M + 4)) = _; congr 2; omega
      have c5 : wr.cell? ⟨b, off + j * 10 + 5, none⟩ = some (.int .i64 (M + 1 + 1 + 1 + 1 + 1)) := by rw [h5.c5]; show some (Value.int .i64 (M + 5)) = _; congr 2; omega
      have c6 : wr.cell? ⟨b, off + j * 10 + 6, none⟩ = some (.int .i64 (M + 1 + 1 + 1 + 1 + 1 + 1)) := by rw [h5.c6]; show some (Value.int .i64 (M + 6)) = _; congr 2; omega
      have c7 := h5.c7
      have c8 := h5.c8
      have c9 := h5.c9
      have hp1 : ¬ (M + 7 + 4 * (manyL s.e.kids : Int)) < 0 := by omega
      have hp2 : ¬ (M + 7 + 4 * (manyL s.e.kids : Int) + (tkL s.th : Int)) < 0 := by omega
      have hp3 : ¬ (M + 7 + 4 * (manyL s.e.kids : Int) + (tkL s.th : Int) + (tkL s.el : Int)) < 0 := by omega
      clear h5
      go_wp2_with fail
      rw [show M + 1 + 1 + 1 + 1 + 1 + 1 + 1 = M + 7 by omega]
      refine hC1.mono ?_
      rintro e1 w1 ⟨rfl, h1⟩
      rw [h1]
      clear hC1 h1 w1
      go_wp2_with fail
      refine hC2.mono ?_
      rintro e1 w1 ⟨rfl, h1⟩
      rw [h1]
      clear hC2 h1 w1
      go_wp2_with fail
      refine hC3.mono ?_
      rintro e1 w1 ⟨rfl, h1⟩
      rw [h1]
      clear hC3 h1 w1
      go_wp2
      go_roundw
      case rel => exact ⟨trivial, j + 1, by omega, by rw [HMS.out], by go_num⟩
      case measure => simp [intOf]; omega
    · obtain rfl : j = ss.length := by omega
      have hR : tAt k ss ss.length = k + (tkL ss : Int) := by unfold tAt; rw [List.take_length]
      have HR : Hid (tAt k ss ss.length = k + (tkL ss : Int)) := hR
      clear hR
      generalize tAt k ss ss.length = M at *
      go_wp2
      go_ret
      exact ⟨ret_int HR.out, rfl⟩

theorem heldX (n : Nat) : HeldX n := by
  induction n using Nat.strongRecOn with
  | ind n ih => exact heldX_step ih
end Go.Proofs.YtkeockippmmneaaGreat
