/-
  What the laws' helpers markExpr and heldExpr do.
-/
import Derived.Test.YtkeockippmmneaaGreatQS1
import Derived.Test.YtkeockippmmneaaGreatQS2
namespace Go.Proofs.YtkeockippmmneaaGreat
open Go.ChangeShapes Go.WideShapes Go.ChangeAt Go.RowKit
set_option linter.unusedVariables false

theorem Out.set {lo hi b o : Nat} {w u : World} (h : Out lo hi w u) (x : Value) (h1 : lo ≤ b) (h2 : b < hi) : Out lo hi w (u.setCell ⟨b, o, none⟩ x) :=
  ⟨by rw [show (u.setCell ⟨b, o, none⟩ x).os = u.os by simp [World.setCell]]; exact h.os, by rw [show (u.setCell ⟨b, o, none⟩ x).tape = u.tape by simp [World.setCell]]; exact h.tape, by rw [show (u.setCell ⟨b, o, none⟩ x).output = u.output by simp [World.setCell]]; exact h.output,
    by rw [World.size_setCell]; exact h.size, fun k hk ho => by rw [Below.heap_setCell _ _ _ _ (by show k ≠ b; omega)]; exact h.block k hk ho⟩

theorem Out.wide {lo hi lo' hi' : Nat} {w u : World} (h : Out lo hi w u) (h1 : lo' ≤ lo) (h2 : hi ≤ hi') : Out lo' hi' w u :=
  ⟨h.os, h.tape, h.output, h.size, fun k hk ho => h.block k hk (by omega)⟩

/-- Four cells stored one behind another. -/
theorem store4 {u : World} {B o : Nat} (hs : ∀ x, o ≤ x → x < o + 4 → (u.cell? ⟨B, x, none⟩).isSome = true) (v0 v1 v2 v3 : Value) :
    ∃ u1, (((u.setCell ⟨B, o, none⟩ v0).setCell ⟨B, o + 1, none⟩ v1).setCell ⟨B, o + 2, none⟩ v2).setCell ⟨B, o + 3, none⟩ v3 = u1 ∧
      (u1.cell? ⟨B, o, none⟩ = some v0 ∧ u1.cell? ⟨B, o + 1, none⟩ = some v1 ∧ u1.cell? ⟨B, o + 2, none⟩ = some v2 ∧ u1.cell? ⟨B, o + 3, none⟩ = some v3) ∧
      (∀ b x, b ≠ B ∨ x < o ∨ o + 4 ≤ x → u1.cell? ⟨b, x, none⟩ = u.cell? ⟨b, x, none⟩) ∧ (∀ b x, u1.frozen? ⟨b, x, none⟩ = u.frozen? ⟨b, x, none⟩) ∧ (∀ k, k ≠ B → u1.heap[k]? = u.heap[k]?) ∧ u1.heap.size = u.heap.size ∧ ∀ lo hi w, lo ≤ B → B < hi → Out lo hi w u → Out lo hi w u1 := by
  obtain ⟨x0, h0⟩ := Option.isSome_iff_exists.mp (hs o (by omega) (by omega))
  obtain ⟨x1, h1⟩ := Option.isSome_iff_exists.mp (hs (o + 1) (by omega) (by omega))
  obtain ⟨x2, h2⟩ := Option.isSome_iff_exists.mp (hs (o + 2) (by omega) (by omega))
  obtain ⟨x3, h3⟩ := Option.isSome_iff_exists.mp (hs (o + 3) (by omega) (by omega))
  refine ⟨_, rfl, ⟨?_, ?_, ?_, ?_⟩, ?_, ?_, ?_, ?_, ?_⟩
  · rw [cell_set_other _ (.inr (by omega)), cell_set_other _ (.inr (by omega)), cell_set_other _ (.inr (by omega))]
    exact World.cell?_setCell_same _ _ _ h0
  · rw [cell_set_other _ (.inr (by omega)), cell_set_other _ (.inr (by omega))]
    exact World.cell?_setCell_same _ _ _ (by rw [cell_set_other _ (.inr (by omega))]; exact h1)
  · rw [cell_set_other _ (.inr (by omega))]
    exact World.cell?_setCell_same _ _ _ (by rw [cell_set_other _ (.inr (by omega)), cell_set_other _ (.inr (by omega))]; exact h2)
  · exact World.cell?_setCell_same _ _ _ (by rw [cell_set_other _ (.inr (by omega)), cell_set_other _ (.inr (by omega)), cell_set_other _ (.inr (by omega))]; exact h3)
  · intro b x hx
    rw [cell_set_other _ (by omega), cell_set_other _ (by omega), cell_set_other _ (by omega), cell_set_other _ (by omega)]
  · intro b x
    rw [World.frozen?_setCell, World.frozen?_setCell, World.frozen?_setCell, World.frozen?_setCell]
  · intro k hk
    rw [Below.heap_setCell _ _ _ _ hk, Below.heap_setCell _ _ _ _ hk, Below.heap_setCell _ _ _ _ hk, Below.heap_setCell _ _ _ _ hk]
  · simp [World.setCell]
  · intro lo hi w h1 h2 h
    exact (((h.set _ h1 h2).set _ h1 h2).set _ h1 h2).set _ h1 h2

/-- The mark at which the i-th part begins. -/
def mAt (k : Int) (es : List ExprD) (i : Nat) : Int := k + 4 * (manyL (es.take i) : Int)

theorem mAt_succ {k : Int} {es : List ExprD} {i : Nat} {e : ExprD} (h : es[i]? = some e) : mAt k es (i + 1) = mAt k es i + 4 + 4 * (manyL e.kids : Int) := by
  unfold mAt
  rw [manyL_take_succ h, manyE_eq]
  omega

/-- What holds as j parts of an owned list have been marked. -/
structure MarkI (w : World) (lo hi b off : Nat) (es : List ExprD) (ss : Nat → Value) (l h : Nat → Nat) (k : Int) (j : Nat) (wr : World) : Prop where
  out : Out lo hi w wr
  done : ∀ i e, i < j → es[i]? = some e → Cell5 wr b (off + i * 5) (markE (mAt k es i) e) (ss i) ∧ KO wr (l i) (h i) (ss i) (markL (mAt k es i + 4) e.kids)
  todo : ∀ i e, j ≤ i → es[i]? = some e → Cell5 wr b (off + i * 5) e (ss i) ∧ KO wr (l i) (h i) (ss i) e.kids
  frozen : ∀ o, wr.frozen? ⟨b, off + o, none⟩ = false

theorem MarkI.next {w wr u u' : World} {lo hi b off : Nat} {es : List ExprD} {ss : Nat → Value} {l h : Nat → Nat} {k : Int} {j : Nat} {e : ExprD} (m : MarkI w lo hi b off es ss l h k j wr) (he : es[j]? = some e) (hlo : lo ≤ b) (hhi : b < hi) (hw : hi ≤ wr.heap.size)
    (hr : ∀ i, i < es.length → lo ≤ l i ∧ h i ≤ hi ∧ (b < l i ∨ h i ≤ b)) (hd : ∀ i j, i < j → j < es.length → h i ≤ l j ∨ h j ≤ l i)
    (hc : u.cell? ⟨b, off + j * 5, none⟩ = some (.int .i64 (mAt k es j)) ∧ u.cell? ⟨b, off + j * 5 + 1, none⟩ = some (.int .i64 (mAt k es j + 1)) ∧ u.cell? ⟨b, off + j * 5 + 2, none⟩ = some (.int .i64 (mAt k es j + 2)) ∧ u.cell? ⟨b, off + j * 5 + 3, none⟩ = some (.int .i64 (mAt k es j + 3)))
    (ho : ∀ b' x, b' ≠ b ∨ x < off + j * 5 ∨ off + j * 5 + 4 ≤ x → u.cell? ⟨b', x, none⟩ = wr.cell? ⟨b', x, none⟩) (hf : ∀ b x, u.frozen? ⟨b, x, none⟩ = wr.frozen? ⟨b, x, none⟩) (hh : ∀ k, k ≠ b → u.heap[k]? = wr.heap[k]?) (hz : u.heap.size = wr.heap.size)
    (hbl : ∀ lo hi w, lo ≤ b → b < hi → Out lo hi w wr → Out lo hi w u)
    (hk : KO u' (l j) (h j) (ss j) (markL (mAt k es j + 4) e.kids)) (hu : Out (l j) (h j) u u') : MarkI w lo hi b off es ss l h k (j + 1) u' := by
  have hjl : j < es.length := (List.getElem?_eq_some_iff.mp he).1
  have hrj := hr j hjl
  have hbu : u'.heap[b]? = u.heap[b]? := hu.block b (by omega) (by omega)
  have hcell : ∀ x, u'.cell? ⟨b, x, none⟩ = u.cell? ⟨b, x, none⟩ := fun x => World.cell?_of_block hbu
  have hkeep : ∀ i, i < es.length → i ≠ j → ∀ q, l i ≤ q → q < h i → u'.heap[q]? = wr.heap[q]? := fun i hi hne q h1 h2 => by
    have hri := hr i hi
    have hdij : h i ≤ l j ∨ h j ≤ l i := by
      rcases Nat.lt_or_gt_of_ne hne with hlt | hgt
      · exact hd i j hlt hjl
      · exact (hd j i hgt hi).symm
    rw [hu.block q (by omega) (by omega)]
    exact hh q (by omega)
  refine ⟨(hbl _ _ _ hlo hhi m.out).trans (hu.wide hrj.1 hrj.2.1), fun i e' hi hie => ?_, fun i e' hi hie => ?_, fun o => ?_⟩
  · by_cases ej : i = j
    · subst ej
      rw [he] at hie
      cases hie
      have c4 := (m.todo i e (Nat.le_refl _) he).1.c4
      refine ⟨⟨?_, ?_, ?_, ?_, ?_⟩, hk⟩
      · rw [hcell, hc.1, markE_eq]; rfl
      · rw [hcell, hc.2.1, markE_eq]; rfl
      · rw [hcell, hc.2.2.1, markE_eq]; rfl
      · rw [hcell, hc.2.2.2, markE_eq]; rfl
      · rw [hcell, ho _ _ (by omega)]; exact c4
    · have hij : i < j := by omega
      obtain ⟨d, dk⟩ := m.done i e' hij hie
      refine ⟨⟨?_, ?_, ?_, ?_, ?_⟩, dk.kept (hkeep i (by omega) ej)⟩
      · rw [hcell, ho _ _ (by omega)]; exact d.c0
      · rw [hcell, ho _ _ (by omega)]; exact d.c1
      · rw [hcell, ho _ _ (by omega)]; exact d.c2
      · rw [hcell, ho _ _ (by omega)]; exact d.c3
      · rw [hcell, ho _ _ (by omega)]; exact d.c4
  · have hil : i < es.length := (List.getElem?_eq_some_iff.mp hie).1
    obtain ⟨d, dk⟩ := m.todo i e' (by omega) hie
    refine ⟨⟨?_, ?_, ?_, ?_, ?_⟩, dk.kept (hkeep i hil (by omega))⟩
    · rw [hcell, ho _ _ (by omega)]; exact d.c0
    · rw [hcell, ho _ _ (by omega)]; exact d.c1
    · rw [hcell, ho _ _ (by omega)]; exact d.c2
    · rw [hcell, ho _ _ (by omega)]; exact d.c3
    · rw [hcell, ho _ _ (by omega)]; exact d.c4
  · rw [World.frozen?_of_block hbu, hf]; exact m.frozen o

theorem markL_back {k : Int} {es : List ExprD} {i : Nat} {e' : ExprD} (h : (markL k es)[i]? = some e') : ∃ e, es[i]? = some e ∧ e' = markE (mAt k es i) e := by
  have hl : i < es.length := by have := (List.getElem?_eq_some_iff.mp h).1; rwa [markL_length] at this
  refine ⟨es[i], List.getElem?_eq_getElem hl, ?_⟩
  rw [markL_at (List.getElem?_eq_getElem hl)] at h
  exact (Option.some.inj h).symm

theorem MarkI.ko {w wr : World} {lo hi b off cap : Nat} {es : List ExprD} {ss : Nat → Value} {l h : Nat → Nat} {k : Int} (m : MarkI w lo hi b off es ss l h k es.length wr) (h0 : es ≠ []) (h1 : es.length ≤ cap) (h2 : cap ≤ maxLen) (h3 : lo ≤ b) (h4 : b < hi)
    (hr : ∀ i, i < es.length → lo ≤ l i ∧ h i ≤ hi ∧ (b < l i ∨ h i ≤ b)) (hd : ∀ i j, i < j → j < es.length → h i ≤ l j ∨ h j ≤ l i) : KO wr lo hi (.slice (some ⟨b, off, none⟩) es.length cap) (markL k es) := by
  have hlen := markL_length k es
  have hne : markL k es ≠ [] := fun hq => h0 (List.eq_nil_of_length_eq_zero (by rw [← hlen, hq]; rfl))
  have H := KO.cons (w := wr) lo hi b off cap (markL k es) ss l h hne (by rw [hlen]; exact h1) h2 h3 h4 m.frozen (fun i e' hie => ?_) (fun i hi => hr i (by rw [hlen] at hi; exact hi)) (fun i j hij hj => hd i j hij (by rw [hlen] at hj; exact hj)) (fun i e' hie => ?_)
  · rw [hlen] at H; exact H
  · obtain ⟨e, he, rfl⟩ := markL_back hie
    exact (m.done i e (List.getElem?_eq_some_iff.mp he).1 he).1
  · obtain ⟨e, he, rfl⟩ := markL_back hie
    rw [markE_eq]
    exact (m.done i e (List.getElem?_eq_some_iff.mp he).1 he).2

/-- What markExprS does. -/
def MarkS (n : Nat) : Prop := ∀ (w : World) (lo hi : Nat) (v : Value) (es : List ExprD) (k : Int), manyL es ≤ n → 0 ≤ k → k + 4 * (manyL es : Int) ≤ 1000000000 → KO w lo hi v es → hi ≤ w.heap.size →
  Calls Tryz.prog 19 #[v, .int .i64 k] w fun en w' => en = .returned (.int .i64 (k + 4 * (manyL es : Int))) ∧ KO w' lo hi v (markL k es) ∧ Out lo hi w w'

set_option maxHeartbeats 4000000 in
theorem mark_step {n : Nat} (H : ∀ m, m < n → MarkS m) : MarkS n := by
  intro w lo hi v es k hn hk0 hkm hko hhi
  cases hko with
  | nil _ _ ad cap hc =>
    unfold maxLen at hc
    have e1 : manyL ([] : List ExprD) = 0 := by rw [manyL]
    rw [e1, markL]
    clear e1 hn hkm
    go_enter Tryz.func19, Tryz.ntmps19
    go_wp2_with fail
    go_loopw [1, 5] (fun q i wr => q = .int .i64 k ∧ i = .int .i64 0 ∧ wr = w) (fun _ _ _ => 0)
    case atStart => exact ⟨rfl, rfl, rfl⟩
    case round =>
      obtain ⟨rfl, rfl, rfl⟩ := hrel
      go_wp2
      go_ret
      exact ⟨ret_int (by omega), .nil _ _ _ _ hc, out_of_below (Below.refl _ _) _ _⟩
  | cons _ _ b off cap _ ss l h h0 h1 h2 h3 h4 hf hc hr hd hk =>
    have hmx : es.length ≤ 9223372036854775807 := by unfold maxLen at h2; omega
    have HI : Hid (MarkI w lo hi b off es ss l h k 0 w) := ⟨out_of_below (Below.refl _ _) _ _, fun i e hi => by omega, fun i e _ hie => ⟨hc i e hie, hk i e hie⟩, hf⟩
    have HRR : Hid ((∀ i, i < es.length → lo ≤ l i ∧ h i ≤ hi ∧ (b < l i ∨ h i ≤ b)) ∧ (∀ i j, i < j → j < es.length → h i ≤ l j ∨ h j ≤ l i)) := ⟨hr, hd⟩
    have HM : Hid (manyL es ≤ n ∧ k + 4 * (manyL es : Int) ≤ 1000000000) := ⟨hn, hkm⟩
    clear hf hc hr hd hk hn hkm
    go_enter Tryz.func19, Tryz.ntmps19
    go_wp2_with fail
    go_loopw [1, 5] (fun q i wr => ∃ j : Nat, j ≤ es.length ∧ q = .int .i64 (mAt k es j) ∧ i = .int .i64 j ∧ MarkI w lo hi b off es ss l h k j wr) (fun _ i _ => es.length - (intOf i).toNat)
    case atStart => exact ⟨0, Nat.zero_le _, by simp [mAt, manyL], rfl, HI.out⟩
    case round =>
      clear HI
      obtain ⟨j, hj, rfl, rfl, hI⟩ := hrel
      have hle : 0 ≤ mAt k es j ∧ mAt k es j ≤ 1000000000 := by
        have h5 := manyL_take_le es j
        have h6 := HM.out.2
        unfold mAt
        omega
      by_cases hlt : j < es.length
      · obtain ⟨e, he⟩ : ∃ e, es[j]? = some e := ⟨es[j], List.getElem?_eq_getElem hlt⟩
        have hlt' : (j : Int) < (es.length : Int) := by omega
        have hws := hI.out.size
        obtain ⟨hc5, hkk⟩ := hI.todo j e (Nat.le_refl _) he
        have hsm : ∀ x, off + j * 5 ≤ x → x < off + j * 5 + 4 → (wr.cell? ⟨b, x, none⟩).isSome = true := fun x h5 h6 => by
          obtain rfl | rfl | rfl | rfl : x = off + j * 5 ∨ x = off + j * 5 + 1 ∨ x = off + j * 5 + 2 ∨ x = off + j * 5 + 3 := by omega
          · rw [hc5.c0]; rfl
          · rw [hc5.c1]; rfl
          · rw [hc5.c2]; rfl
          · rw [hc5.c3]; rfl
        obtain ⟨u, hu, hc, ho, hff, hh, hz, hbl⟩ := store4 hsm (.int .i64 (mAt k es j)) (.int .i64 (mAt k es j + 1)) (.int .i64 (mAt k es j + 2)) (.int .i64 (mAt k es j + 3))
        have hkl := kid_lt he
        have hms := mAt_succ (k := k) he
        have hmle : mAt k es (j + 1) ≤ 1000000000 := by
          have h5 := manyL_take_le es (j + 1)
          have h6 := HM.out.2
          unfold mAt
          omega
        have hrj := HRR.out.1 j hlt
        have hC := H (manyL e.kids) (by have := HM.out.1; omega) u (l j) (h j) (ss j) e.kids (mAt k es j + 4) (Nat.le_refl _) (by omega) (by omega) (hkk.kept fun q q1 q2 => hh q (by omega)) (by omega)
        have HN : ∀ u', KO u' (l j) (h j) (ss j) (markL (mAt k es j + 4) e.kids) → Out (l j) (h j) u u' → MarkI w lo hi b off es ss l h k (j + 1) u' := fun u' a1 a2 =>
          hI.next he h3 h4 (by omega) HRR.out.1 HRR.out.2 hc ho hff hh hz hbl a1 a2
        have HNN : Hid (∀ u', KO u' (l j) (h j) (ss j) (markL (mAt k es j + 4) e.kids) → Out (l j) (h j) u u' → MarkI w lo hi b off es ss l h k (j + 1) u') := HN
        have HU : Hid (_ = u) := hu
        have HMS : Hid (mAt k es (j + 1) = mAt k es j + 4 + 4 * (manyL e.kids : Int)) := hms
        obtain ⟨c0, c1, c2, c3, c4⟩ := hc5
        have f0 := hI.frozen (j * 5)
        have f1 := hI.frozen (j * 5 + 1)
        have f2 := hI.frozen (j * 5 + 2)
        have f3 := hI.frozen (j * 5 + 3)
        rw [← Nat.add_assoc] at f1 f2 f3
        obtain ⟨ads, cps, hss, _, _⟩ := hkk.kr.shape
        rw [hss] at c4
        rw [hss] at hC HNN
        have c4u : u.cell? ⟨b, off + j * 5 + 4, none⟩ = some (.slice ads e.kids.length cps) := by rw [ho _ _ (by omega)]; exact c4
        have HC4 : Hid (u.cell? ⟨b, off + j * 5 + 4, none⟩ = some (.slice ads e.kids.length cps)) := c4u
        clear hu hc ho hff hh hz hbl hI HN hms hkk hsm hss hkl c4u
        generalize mAt k es j = M at *
        go_wp2_with fail
        rw [show M + 1 + 1 = M + 2 by omega, show M + 2 + 1 = M + 3 by omega, show M + 3 + 1 = M + 4 by omega, show off + j * 5 + 2 + 1 = off + j * 5 + 3 from rfl, HU.out]
        refine hC.mono ?_
        rintro e1 u' ⟨rfl, a1, a2⟩
        have HI' : Hid (MarkI w lo hi b off es ss l h k (j + 1) u') := HNN.out u' a1 a2
        clear a1 a2 hC HNN c0 c1 c2 c3 c4
        go_wp2
        go_roundw
        case rel => exact ⟨j + 1, by omega, by rw [HMS.out], by go_num, HI'.out⟩
        case measure => simp [intOf]; omega
      · obtain rfl : j = es.length := by omega
        have HKO : Hid (KO wr lo hi (.slice (some ⟨b, off, none⟩) es.length cap) (markL k es) ∧ Out lo hi w wr) := ⟨hI.ko h0 h1 h2 h3 h4 HRR.out.1 HRR.out.2, hI.out⟩
        have hR : mAt k es es.length = k + 4 * (manyL es : Int) := by unfold mAt; rw [List.take_length]
        have HR : Hid (mAt k es es.length = k + 4 * (manyL es : Int)) := hR
        clear hI hR
        generalize mAt k es es.length = M at *
        go_wp2
        go_ret
        exact ⟨ret_int HR.out, HKO.out.1, HKO.out.2⟩

theorem markS (n : Nat) : MarkS n := by
  induction n using Nat.strongRecOn with
  | ind n ih => exact mark_step ih


/-- What heldExprS answers of what is marked. -/
def HeldS (n : Nat) : Prop := ∀ (w : World) (lo hi : Nat) (v : Value) (es : List ExprD) (k : Int), manyL es ≤ n → 0 ≤ k → k + 4 * (manyL es : Int) ≤ 1000000000 → KR w lo hi v (markL k es) → hi ≤ w.heap.size →
  Calls Tryz.prog 20 #[v, .int .i64 k] w fun en w' => en = .returned (.int .i64 (k + 4 * (manyL es : Int))) ∧ w' = w

set_option maxHeartbeats 4000000 in
theorem held_step {n : Nat} (H : ∀ m, m < n → HeldS m) : HeldS n := by
  intro w lo hi v es k hn hk0 hkm hkr hhi
  obtain ⟨ad, cap, rfl, hc1, hc2⟩ := hkr.shape
  rw [markL_length] at hkr hc1 ⊢
  have hmx : es.length ≤ 9223372036854775807 := by unfold maxLen at hc2; omega
  have HK : Hid (KR w lo hi (.slice ad es.length cap) (markL k es)) := hkr
  have HM : Hid (manyL es ≤ n ∧ k + 4 * (manyL es : Int) ≤ 1000000000) := ⟨hn, hkm⟩
  clear hkr hn hkm hc1 hc2
  go_enter Tryz.func20, Tryz.ntmps20
  go_wp2_with fail
  go_loopw [1, 5] (fun q i wr => wr = w ∧ ∃ j : Nat, j ≤ es.length ∧ q = .int .i64 (mAt k es j) ∧ i = .int .i64 j) (fun _ i _ => es.length - (intOf i).toNat)
  case atStart => exact ⟨rfl, 0, Nat.zero_le _, by simp [mAt, manyL], rfl⟩
  case round =>
    obtain ⟨rfl, j, hj, rfl, rfl⟩ := hrel
    have hle : 0 ≤ mAt k es j ∧ mAt k es j ≤ 1000000000 := by
      have h5 := manyL_take_le es j
      have h6 := HM.out.2
      unfold mAt
      omega
    by_cases hlt : j < es.length
    · obtain ⟨e, he⟩ : ∃ e, es[j]? = some e := ⟨es[j], List.getElem?_eq_getElem hlt⟩
      have hlt' : (j : Int) < (es.length : Int) := by omega
      obtain ⟨b, off, cap', s, hv, hb1, hb2, h5, hk⟩ := HK.out.at_ (markL_at he)
      rw [markL_length] at hv
      simp only [Value.slice.injEq, true_and] at hv
      obtain ⟨rfl, rfl⟩ := hv
      have hkl := kid_lt he
      have hms := mAt_succ (k := k) he
      have hmle : mAt k es (j + 1) ≤ 1000000000 := by
        have h5 := manyL_take_le es (j + 1)
        have h6 := HM.out.2
        unfold mAt
        omega
      rw [markE_eq] at h5 hk
      have h5 : Cell5 wr b (off + j * 5) (.mk (mAt k es j) (mAt k es j + 1) (mAt k es j + 2) (mAt k es j + 3) (markL (mAt k es j + 4) e.kids)) s := h5
      have hk : KR wr lo hi s (markL (mAt k es j + 4) e.kids) := hk
      have hC := H (manyL e.kids) (by have := HM.out.1; omega) wr lo hi s e.kids (mAt k es j + 4) (Nat.le_refl _) (by omega) (by omega) hk hhi
      have HMS : Hid (mAt k es (j + 1) = mAt k es j + 4 + 4 * (manyL e.kids : Int)) := hms
      obtain ⟨ads, cps, hss, _, _⟩ := hk.shape
      rw [markL_length] at hss
      subst hss
      clear hk hkl hms
      generalize mAt k es j = M at *
      have c0 : wr.cell? ⟨b, off + j * 5, none⟩ = some (.int .i64 M) := h5.c0
      have c1 : wr.cell? ⟨b, off + j * 5 + 1, none⟩ = some (.int .i64 (M + 1)) := h5.c1
      have c2 : wr.cell? ⟨b, off + j * 5 + 2, none⟩ = some (.int .i64 (M + 1 + 1)) := by rw [h5.c2]; show some (Value.int .i64 (M + 2)) = _; congr 2; omega
      have c3 : wr.cell? ⟨b, off + j * 5 + 3, none⟩ = some (.int .i64 (M + 1 + 1 + 1)) := by rw [h5.c3]; show some (Value.int .i64 (M + 3)) = _; congr 2; omega
      have c4 := h5.c4
      have hpos : ¬ (M + 4 + 4 * (manyL e.kids : Int)) < 0 := by omega
      clear h5
      go_wp2_with fail
      rw [show M + 1 + 1 + 1 + 1 = M + 4 by omega]
      refine hC.mono ?_
      rintro e1 u' ⟨rfl, rfl⟩
      clear hC
      go_wp2
      go_roundw
      case rel => exact ⟨trivial, j + 1, by omega, by rw [HMS.out], by go_num⟩
      case measure => simp [intOf]; omega
    · obtain rfl : j = es.length := by omega
      have hR : mAt k es es.length = k + 4 * (manyL es : Int) := by unfold mAt; rw [List.take_length]
      have HR : Hid (mAt k es es.length = k + 4 * (manyL es : Int)) := hR
      clear hR
      generalize mAt k es es.length = M at *
      go_wp2
      go_ret
      exact ⟨ret_int HR.out, rfl⟩

theorem heldS (n : Nat) : HeldS n := by
  induction n using Nat.strongRecOn with
  | ind n ih => exact held_step ih

end Go.Proofs.YtkeockippmmneaaGreat
