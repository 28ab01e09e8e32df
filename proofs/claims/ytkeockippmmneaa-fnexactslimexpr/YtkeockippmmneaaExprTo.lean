/-
  toExpr, toExprS: the laws' helpers that copy into new memory.
-/
import Derived.Test.YtkeockippmmneaaExprData
import Derived.Test.YtkeockippmmneaaAddrKit
namespace Go.Proofs.Ytkeockippmmneaa
open Go.ChangeShapes Go.WideShapes Go.ChangeAt Go.RowKit
set_option linter.unusedVariables false

/-- A variable of five cells that may be written. -/
structure Five (u : World) (B : Nat) (v0 v1 v2 v3 v4 : Value) : Prop where
  c0 : u.cell? ⟨B, 0, none⟩ = some v0
  c1 : u.cell? ⟨B, 1, none⟩ = some v1
  c2 : u.cell? ⟨B, 2, none⟩ = some v2
  c3 : u.cell? ⟨B, 3, none⟩ = some v3
  c4 : u.cell? ⟨B, 4, none⟩ = some v4
  f : ∀ o, u.frozen? ⟨B, o, none⟩ = false

theorem five_new (u : World) (v0 v1 v2 v3 v4 : Value) (t : TypeId) : Five (u.alloc (.cells #[v0, v1, v2, v3, v4] t)) u.heap.size v0 v1 v2 v3 v4 :=
  ⟨World.cell?_alloc_new _ _ _ _, World.cell?_alloc_new _ _ _ _, World.cell?_alloc_new _ _ _ _, World.cell?_alloc_new _ _ _ _, World.cell?_alloc_new _ _ _ _, fun o => World.frozen?_alloc_new _ _ _ _⟩

theorem Five.under {u u' : World} {B n : Nat} {v0 v1 v2 v3 v4 : Value} (h : Five u B v0 v1 v2 v3 v4) (hb : Below n u u') (hB : B < n) : Five u' B v0 v1 v2 v3 v4 :=
  ⟨by rw [hb.cell (p := ⟨B, 0, none⟩) hB]; exact h.c0, by rw [hb.cell (p := ⟨B, 1, none⟩) hB]; exact h.c1, by rw [hb.cell (p := ⟨B, 2, none⟩) hB]; exact h.c2, by rw [hb.cell (p := ⟨B, 3, none⟩) hB]; exact h.c3, by rw [hb.cell (p := ⟨B, 4, none⟩) hB]; exact h.c4, fun o => by rw [hb.frozen (p := ⟨B, o, none⟩) hB]; exact h.f o⟩

theorem Five.set0 {u : World} {B : Nat} {v0 v1 v2 v3 v4 : Value} (h : Five u B v0 v1 v2 v3 v4) (x : Value) : Five (u.setCell ⟨B, 0, none⟩ x) B x v1 v2 v3 v4 :=
  ⟨World.cell?_setCell_same _ _ _ h.c0, by rw [cell_set_other _ (.inr (by omega))]; exact h.c1, by rw [cell_set_other _ (.inr (by omega))]; exact h.c2, by rw [cell_set_other _ (.inr (by omega))]; exact h.c3, by rw [cell_set_other _ (.inr (by omega))]; exact h.c4, fun o => by rw [World.frozen?_setCell]; exact h.f o⟩
theorem Five.set1 {u : World} {B : Nat} {v0 v1 v2 v3 v4 : Value} (h : Five u B v0 v1 v2 v3 v4) (x : Value) : Five (u.setCell ⟨B, 1, none⟩ x) B v0 x v2 v3 v4 :=
  ⟨by rw [cell_set_other _ (.inr (by omega))]; exact h.c0, World.cell?_setCell_same _ _ _ h.c1, by rw [cell_set_other _ (.inr (by omega))]; exact h.c2, by rw [cell_set_other _ (.inr (by omega))]; exact h.c3, by rw [cell_set_other _ (.inr (by omega))]; exact h.c4, fun o => by rw [World.frozen?_setCell]; exact h.f o⟩
theorem Five.set2 {u : World} {B : Nat} {v0 v1 v2 v3 v4 : Value} (h : Five u B v0 v1 v2 v3 v4) (x : Value) : Five (u.setCell ⟨B, 2, none⟩ x) B v0 v1 x v3 v4 :=
  ⟨by rw [cell_set_other _ (.inr (by omega))]; exact h.c0, by rw [cell_set_other _ (.inr (by omega))]; exact h.c1, World.cell?_setCell_same _ _ _ h.c2, by rw [cell_set_other _ (.inr (by omega))]; exact h.c3, by rw [cell_set_other _ (.inr (by omega))]; exact h.c4, fun o => by rw [World.frozen?_setCell]; exact h.f o⟩
theorem Five.set3 {u : World} {B : Nat} {v0 v1 v2 v3 v4 : Value} (h : Five u B v0 v1 v2 v3 v4) (x : Value) : Five (u.setCell ⟨B, 3, none⟩ x) B v0 v1 v2 x v4 :=
  ⟨by rw [cell_set_other _ (.inr (by omega))]; exact h.c0, by rw [cell_set_other _ (.inr (by omega))]; exact h.c1, by rw [cell_set_other _ (.inr (by omega))]; exact h.c2, World.cell?_setCell_same _ _ _ h.c3, by rw [cell_set_other _ (.inr (by omega))]; exact h.c4, fun o => by rw [World.frozen?_setCell]; exact h.f o⟩
theorem Five.set4 {u : World} {B : Nat} {v0 v1 v2 v3 v4 : Value} (h : Five u B v0 v1 v2 v3 v4) (x : Value) : Five (u.setCell ⟨B, 4, none⟩ x) B v0 v1 v2 v3 x :=
  ⟨by rw [cell_set_other _ (.inr (by omega))]; exact h.c0, by rw [cell_set_other _ (.inr (by omega))]; exact h.c1, by rw [cell_set_other _ (.inr (by omega))]; exact h.c2, by rw [cell_set_other _ (.inr (by omega))]; exact h.c3, World.cell?_setCell_same _ _ _ h.c4, fun o => by rw [World.frozen?_setCell]; exact h.f o⟩

theorem Five.other {u : World} {B B' o : Nat} {v0 v1 v2 v3 v4 : Value} (h : Five u B v0 v1 v2 v3 v4) (x : Value) (hne : B ≠ B') : Five (u.setCell ⟨B', o, none⟩ x) B v0 v1 v2 v3 v4 :=
  ⟨by rw [cell_set_other _ (.inl hne)]; exact h.c0, by rw [cell_set_other _ (.inl hne)]; exact h.c1, by rw [cell_set_other _ (.inl hne)]; exact h.c2, by rw [cell_set_other _ (.inl hne)]; exact h.c3, by rw [cell_set_other _ (.inl hne)]; exact h.c4, fun o => by rw [World.frozen?_setCell]; exact h.f o⟩

/-- What toExprS answers of lists of at most n parts. -/
def ToS (n : Nat) : Prop := ∀ (w : World) (lo hi : Nat) (v : Value) (es : List ExprD), manyL es ≤ n → manyL es ≤ 1048576 → KR w lo hi v es → hi ≤ w.heap.size →
  Calls Try.prog 25 #[v] w fun e w' => ∃ v', e = .returned v' ∧ KO w' w.heap.size w'.heap.size v' es ∧ Below w.heap.size w w'

set_option maxHeartbeats 1000000 in
theorem toExpr_of {n : Nat} (H : ToS n) (w : World) (lo hi : Nat) (k m a t : Int) (s : Value) (es : List ExprD) (hn : manyL es ≤ n) (hm : manyL es ≤ 1048576) (h : KR w lo hi s es) (hhi : hi ≤ w.heap.size) :
    Calls Try.prog 8 #[.agg #[.int .i64 k, .int .i64 m, .int .i64 a, .int .i64 t, s]] w fun e w' => ∃ s', e = .returned (.agg #[.int .i64 k, .int .i64 m, .int .i64 a, .int .i64 t, s']) ∧ KO w' w.heap.size w'.heap.size s' es ∧ Below w.heap.size w w' := by
  obtain ⟨ad, cap, rfl, hc1, hc2⟩ := h.shape
  have HK : Hid (KR w lo hi (.slice ad es.length cap) es) := h
  clear h
  go_enter Try.func8, Try.ntmps8
  go_wp2_with fail
  obtain ⟨u0, hu0, G0, X0, R0, O0, S0⟩ : ∃ u0, ((w.alloc (.cells #[.int .i64 k, .int .i64 m, .int .i64 a, .int .i64 t, .slice ad es.length cap] 26)).alloc (.cells #[.int .i64 0, .int .i64 0, .int .i64 0, .int .i64 0, .slice none 0 0] 31)).alloc (.cells #[.int .i64 k, .int .i64 m, .int .i64 0, .int .i64 0, .slice none 0 0] 31) = u0 ∧ Below w.heap.size w u0 ∧
      u0.cell? ⟨w.heap.size, 4, none⟩ = some (.slice ad es.length cap) ∧ Five u0 (w.heap.size + 1) (.int .i64 0) (.int .i64 0) (.int .i64 0) (.int .i64 0) (.slice none 0 0) ∧ Five u0 (w.heap.size + 2) (.int .i64 k) (.int .i64 m) (.int .i64 0) (.int .i64 0) (.slice none 0 0) ∧ u0.heap.size = w.heap.size + 3 := by
    have n1 := five_new w (.int .i64 k) (.int .i64 m) (.int .i64 a) (.int .i64 t) (.slice ad es.length cap) 26
    obtain ⟨w1, e1⟩ : ∃ w1, w.alloc (.cells #[.int .i64 k, .int .i64 m, .int .i64 a, .int .i64 t, .slice ad es.length cap] 26) = w1 := ⟨_, rfl⟩
    have s1 : w1.heap.size = w.heap.size + 1 := by rw [← e1]; simp
    have g1 : Below w.heap.size w w1 := by rw [← e1]; exact (Below.refl _ _).alloc (Nat.le_refl _) _
    rw [e1] at n1 ⊢
    have n2 := five_new w1 (.int .i64 0) (.int .i64 0) (.int .i64 0) (.int .i64 0) (.slice none 0 0) 31
    obtain ⟨w2, e2⟩ : ∃ w2, w1.alloc (.cells #[.int .i64 0, .int .i64 0, .int .i64 0, .int .i64 0, .slice none 0 0] 31) = w2 := ⟨_, rfl⟩
    have s2 : w2.heap.size = w1.heap.size + 1 := by rw [← e2]; simp
    have g2 : Below w1.heap.size w1 w2 := by rw [← e2]; exact (Below.refl _ _).alloc (Nat.le_refl _) _
    rw [e2] at n2 ⊢
    have n3 := five_new w2 (.int .i64 k) (.int .i64 m) (.int .i64 0) (.int .i64 0) (.slice none 0 0) 31
    have g3 : Below w2.heap.size w2 (w2.alloc (.cells #[.int .i64 k, .int .i64 m, .int .i64 0, .int .i64 0, .slice none 0 0] 31)) := (Below.refl _ _).alloc (Nat.le_refl _) _
    refine ⟨_, rfl, below_two (below_two g1 g2) g3, ((n1.under g2 (by omega)).under g3 (by omega)).c4, ?_, ?_, by rw [World.size_alloc]; omega⟩
    · have := n2.under g3 (by omega); rwa [s1] at this
    · have := n3; rwa [s2, s1] at this
  rw [hu0]
  clear hu0
  refine (toAddr_any _ ⟨a, t⟩).mono ?_
  rintro e1 u1 ⟨rfl, g1⟩
  have S1 := g1.size
  have G1 := G0.trans (g1.mono (by omega))
  have X1 : u1.cell? ⟨w.heap.size, 4, none⟩ = some (.slice ad es.length cap) := by rw [g1.cell (p := ⟨w.heap.size, 4, none⟩) (by show w.heap.size < u0.heap.size; omega)]; exact X0
  have R1 := R0.under g1 (by omega)
  have O1 := O0.under g1 (by omega)
  have ev : AddrD.val ⟨a, t⟩ = .agg #[.int .i64 a, .int .i64 t] := rfl
  rw [ev]
  clear ev
  obtain ⟨o0, o1, o2, o3, o4, of⟩ := O1
  have of2 := of 2
  have of3 := of 3
  have HF : Hid (∀ o, u1.frozen? ⟨w.heap.size + 2, o, none⟩ = false) := of
  clear g1 X0 R0 O0 G0 of
  go_wp2_with fail
  have O1 : Five u1 (w.heap.size + 2) (.int .i64 k) (.int .i64 m) (.int .i64 0) (.int .i64 0) (.slice none 0 0) := ⟨o0, o1, o2, o3, o4, HF.out⟩
  obtain ⟨u2, hu2, G2, X2, R2, O2, S2⟩ : ∃ u2, (u1.setCell ⟨w.heap.size + 2, 2, none⟩ (.int .i64 a)).setCell ⟨w.heap.size + 2, 3, none⟩ (.int .i64 t) = u2 ∧ Below w.heap.size w u2 ∧ u2.cell? ⟨w.heap.size, 4, none⟩ = some (.slice ad es.length cap) ∧ Five u2 (w.heap.size + 1) (.int .i64 0) (.int .i64 0) (.int .i64 0) (.int .i64 0) (.slice none 0 0) ∧ Five u2 (w.heap.size + 2) (.int .i64 k) (.int .i64 m) (.int .i64 a) (.int .i64 t) (.slice none 0 0) ∧ u2.heap.size = u1.heap.size :=
    ⟨_, rfl, (G1.setCell (by show w.heap.size ≤ w.heap.size + 2; omega) _).setCell (by show w.heap.size ≤ w.heap.size + 2; omega) _, by rw [cell_set_other _ (.inl (by omega)), cell_set_other _ (.inl (by omega))]; exact X1, (R1.other _ (by omega)).other _ (by omega), (O1.set2 _).set3 _, by simp [World.setCell]⟩
  rw [show w.heap.size + 1 + 1 = w.heap.size + 2 from rfl, hu2]
  clear hu2 G1 X1 R1 O1 o0 o1 o2 o3 o4 of2 of3
  refine (H _ lo hi _ es hn hm (HK.out.under G2 hhi) (by omega)).mono ?_
  rintro e2 u3 ⟨s', rfl, K3, g3⟩
  have S3 := g3.size
  have G3 := G2.trans (g3.mono (by omega))
  have R3 := R2.under g3 (by omega)
  have O3 := O2.under g3 (by omega)
  obtain ⟨ad', cap', rfl, hd1, hd2⟩ := K3.kr.shape
  obtain ⟨u4, hu4, O4, R4, G4, K4, S4⟩ : ∃ u4, u3.setCell ⟨w.heap.size + 2, 4, none⟩ (.slice ad' es.length cap') = u4 ∧ Five u4 (w.heap.size + 2) (.int .i64 k) (.int .i64 m) (.int .i64 a) (.int .i64 t) (.slice ad' es.length cap') ∧ Five u4 (w.heap.size + 1) (.int .i64 0) (.int .i64 0) (.int .i64 0) (.int .i64 0) (.slice none 0 0) ∧ Below w.heap.size w u4 ∧ KO u4 u2.heap.size u3.heap.size (.slice ad' es.length cap') es ∧ u4.heap.size = u3.heap.size :=
    ⟨_, rfl, O3.set4 _, R3.other _ (by omega), G3.setCell (by show w.heap.size ≤ w.heap.size + 2; omega) _, K3.kept fun q h1 h2 => Below.heap_setCell _ _ _ _ (by show q ≠ w.heap.size + 2; omega), by simp [World.setCell]⟩
  obtain ⟨u5, hu5, R5, G5, K5, S5⟩ : ∃ u5, ((((u4.setCell ⟨w.heap.size + 1, 0, none⟩ (.int .i64 k)).setCell ⟨w.heap.size + 1, 1, none⟩ (.int .i64 m)).setCell ⟨w.heap.size + 1, 2, none⟩ (.int .i64 a)).setCell ⟨w.heap.size + 1, 3, none⟩ (.int .i64 t)).setCell ⟨w.heap.size + 1, 4, none⟩ (.slice ad' es.length cap') = u5 ∧ Five u5 (w.heap.size + 1) (.int .i64 k) (.int .i64 m) (.int .i64 a) (.int .i64 t) (.slice ad' es.length cap') ∧ Below w.heap.size w u5 ∧ KO u5 u2.heap.size u3.heap.size (.slice ad' es.length cap') es ∧ u5.heap.size = u4.heap.size :=
    ⟨_, rfl, ((((R4.set0 _).set1 _).set2 _).set3 _).set4 _, ((((G4.setCell (by show w.heap.size ≤ w.heap.size + 1; omega) _).setCell (by show w.heap.size ≤ w.heap.size + 1; omega) _).setCell (by show w.heap.size ≤ w.heap.size + 1; omega) _).setCell (by show w.heap.size ≤ w.heap.size + 1; omega) _).setCell (by show w.heap.size ≤ w.heap.size + 1; omega) _,
      K4.kept fun q h1 h2 => by
        rw [Below.heap_setCell _ _ _ _ (by show q ≠ w.heap.size + 1; omega), Below.heap_setCell _ _ _ _ (by show q ≠ w.heap.size + 1; omega), Below.heap_setCell _ _ _ _ (by show q ≠ w.heap.size + 1; omega), Below.heap_setCell _ _ _ _ (by show q ≠ w.heap.size + 1; omega), Below.heap_setCell _ _ _ _ (by show q ≠ w.heap.size + 1; omega)], by simp [World.setCell]⟩
  have HU4 : Hid (u3.setCell ⟨w.heap.size + 2, 4, none⟩ (.slice ad' es.length cap') = u4) := hu4
  have HU5 : Hid (((((u4.setCell ⟨w.heap.size + 1, 0, none⟩ (.int .i64 k)).setCell ⟨w.heap.size + 1, 1, none⟩ (.int .i64 m)).setCell ⟨w.heap.size + 1, 2, none⟩ (.int .i64 a)).setCell ⟨w.heap.size + 1, 3, none⟩ (.int .i64 t)).setCell ⟨w.heap.size + 1, 4, none⟩ (.slice ad' es.length cap') = u5) := hu5
  have HKK : Hid (KO u5 w.heap.size u5.heap.size (.slice ad' es.length cap') es) := K5.wide (by omega) (by omega)
  have c4 := O3.c4
  have c4f := O3.f 4
  have HO4 : Hid (Five u4 (w.heap.size + 2) (.int .i64 k) (.int .i64 m) (.int .i64 a) (.int .i64 t) (.slice ad' es.length cap')) := O4
  have HR4 : Hid (Five u4 (w.heap.size + 1) (.int .i64 0) (.int .i64 0) (.int .i64 0) (.int .i64 0) (.slice none 0 0)) := R4
  have HR5 : Hid (Five u5 (w.heap.size + 1) (.int .i64 k) (.int .i64 m) (.int .i64 a) (.int .i64 t) (.slice ad' es.length cap')) := R5
  have o0 := O3.c0
  have o1 := O3.c1
  have o2 := O3.c2
  have o3 := O3.c3
  have p0 := R3.c0
  have p1 := R3.c1
  have p2 := R3.c2
  have p3 := R3.c3
  have p4 := R3.c4
  have q0 := R3.f 0
  have q1 := R3.f 1
  have q2 := R3.f 2
  have q3 := R3.f 3
  have q4 := R3.f 4
  clear hu4 hu5 K5 K4 K3 O4 R4 R5 O3 R3 g3 G3 G2 G4 X2 R2 O2 HK
  go_wp2
  rw [HU4.out, HU5.out]
  obtain ⟨r0, r1, r2, r3, r4, _⟩ := HR5.out
  exact bodyPost_ret (v := .agg #[.int .i64 k, .int .i64 m, .int .i64 a, .int .i64 t, .slice ad' es.length cap']) (by simp [results, Try.results8, go_sem, r0, r1, r2, r3, r4]) rfl ⟨_, rfl, HKK.out, G5⟩

theorem info_expr : (Try.prog.info? 31).map (fun i => (i.zero, i.size, i.bytes)) = some (some (.agg #[.int .i64 0, .int .i64 0, .int .i64 0, .int .i64 0, .slice none 0 0]), 5, 56) := by kernel_rfl

/-- Five cells stored one behind another. -/
theorem store5 {u : World} {B o : Nat} (hs : ∀ x, o ≤ x → x < o + 5 → (u.cell? ⟨B, x, none⟩).isSome = true) (v0 v1 v2 v3 v4 : Value) :
    ∃ u1, ((((u.setCell ⟨B, o, none⟩ v0).setCell ⟨B, o + 1, none⟩ v1).setCell ⟨B, o + 2, none⟩ v2).setCell ⟨B, o + 3, none⟩ v3).setCell ⟨B, o + 4, none⟩ v4 = u1 ∧
      (u1.cell? ⟨B, o, none⟩ = some v0 ∧ u1.cell? ⟨B, o + 1, none⟩ = some v1 ∧ u1.cell? ⟨B, o + 2, none⟩ = some v2 ∧ u1.cell? ⟨B, o + 3, none⟩ = some v3 ∧ u1.cell? ⟨B, o + 4, none⟩ = some v4) ∧
      (∀ b x, b ≠ B ∨ x < o ∨ o + 5 ≤ x → u1.cell? ⟨b, x, none⟩ = u.cell? ⟨b, x, none⟩) ∧ (∀ b x, u1.frozen? ⟨b, x, none⟩ = u.frozen? ⟨b, x, none⟩) ∧ (∀ k, k ≠ B → u1.heap[k]? = u.heap[k]?) ∧ u1.heap.size = u.heap.size ∧ ∀ n w, n ≤ B → Below n w u → Below n w u1 := by
  obtain ⟨x0, h0⟩ := Option.isSome_iff_exists.mp (hs o (by omega) (by omega))
  obtain ⟨x1, h1⟩ := Option.isSome_iff_exists.mp (hs (o + 1) (by omega) (by omega))
  obtain ⟨x2, h2⟩ := Option.isSome_iff_exists.mp (hs (o + 2) (by omega) (by omega))
  obtain ⟨x3, h3⟩ := Option.isSome_iff_exists.mp (hs (o + 3) (by omega) (by omega))
  obtain ⟨x4, h4⟩ := Option.isSome_iff_exists.mp (hs (o + 4) (by omega) (by omega))
  refine ⟨_, rfl, ⟨?_, ?_, ?_, ?_, ?_⟩, ?_, ?_, ?_, ?_, ?_⟩
  · rw [cell_set_other _ (.inr (by omega)), cell_set_other _ (.inr (by omega)), cell_set_other _ (.inr (by omega)), cell_set_other _ (.inr (by omega))]
    exact World.cell?_setCell_same _ _ _ h0
  · rw [cell_set_other _ (.inr (by omega)), cell_set_other _ (.inr (by omega)), cell_set_other _ (.inr (by omega))]
    exact World.cell?_setCell_same _ _ _ (by rw [cell_set_other _ (.inr (by omega))]; exact h1)
  · rw [cell_set_other _ (.inr (by omega)), cell_set_other _ (.inr (by omega))]
    exact World.cell?_setCell_same _ _ _ (by rw [cell_set_other _ (.inr (by omega)), cell_set_other _ (.inr (by omega))]; exact h2)
  · rw [cell_set_other _ (.inr (by omega))]
    exact World.cell?_setCell_same _ _ _ (by rw [cell_set_other _ (.inr (by omega)), cell_set_other _ (.inr (by omega)), cell_set_other _ (.inr (by omega))]; exact h3)
  · exact World.cell?_setCell_same _ _ _ (by rw [cell_set_other _ (.inr (by omega)), cell_set_other _ (.inr (by omega)), cell_set_other _ (.inr (by omega)), cell_set_other _ (.inr (by omega))]; exact h4)
  · intro b x hx
    rw [cell_set_other _ (by omega), cell_set_other _ (by omega), cell_set_other _ (by omega), cell_set_other _ (by omega), cell_set_other _ (by omega)]
  · intro b x
    rw [World.frozen?_setCell, World.frozen?_setCell, World.frozen?_setCell, World.frozen?_setCell, World.frozen?_setCell]
  · intro k hk
    rw [Below.heap_setCell _ _ _ _ hk, Below.heap_setCell _ _ _ _ hk, Below.heap_setCell _ _ _ _ hk, Below.heap_setCell _ _ _ _ hk, Below.heap_setCell _ _ _ _ hk]
  · simp [World.setCell]
  · intro n w hn hb
    exact ((((hb.setCell hn _).setCell hn _).setCell hn _).setCell hn _).setCell hn _

/-- What holds as toExprS has copied j of the parts. -/
structure ToI (w : World) (es : List ExprD) (j : Nat) (wr : World) : Prop where
  below : Below w.heap.size w wr
  size : w.heap.size < wr.heap.size
  some_ : ∀ x, x < es.length * 5 → (wr.cell? ⟨w.heap.size, x, none⟩).isSome = true
  frozen : ∀ x, wr.frozen? ⟨w.heap.size, x, none⟩ = false
  done : ∃ (ss : Nat → Value) (l h : Nat → Nat), (∀ i e, i < j → es[i]? = some e → Cell5 wr w.heap.size (i * 5) e (ss i) ∧ KO wr (l i) (h i) (ss i) e.kids) ∧ (∀ i, i < j → w.heap.size < l i ∧ h i ≤ wr.heap.size) ∧ ∀ i i', i < i' → i' < j → h i ≤ l i'

theorem ToI.ko {w wr : World} {es : List ExprD} (h : ToI w es es.length wr) (hm : es.length ≤ maxLen) : KO wr w.heap.size wr.heap.size (.slice (some ⟨w.heap.size, 0, none⟩) es.length es.length) es := by
  obtain ⟨hb, hs, hsm, hf, ss, l, h', h1, h2, h3⟩ := h
  by_cases he : es = []
  · subst he; exact .nil _ _ _ _ hm
  · refine .cons _ _ w.heap.size 0 es.length es ss l h' he (Nat.le_refl _) hm (Nat.le_refl _) hs (fun o => by rw [Nat.zero_add]; exact hf o) (fun i e hie => ?_) (fun i hi => ?_) (fun i i' hlt hi' => .inl (h3 i i' hlt hi')) fun i e hie => ?_
    · have hil : i < es.length := (List.getElem?_eq_some_iff.mp hie).1
      rw [Nat.zero_add]; exact (h1 i e hil hie).1
    · have := h2 i hi; omega
    · exact (h1 i e (List.getElem?_eq_some_iff.mp hie).1 hie).2

theorem ToI.next {w wr w1 u : World} {es : List ExprD} {j : Nat} {e : ExprD} {s : Value} (h : ToI w es j wr) (he : es[j]? = some e) (hb : Below wr.heap.size wr w1) (hk : KO w1 wr.heap.size w1.heap.size s e.kids)
    (hc : u.cell? ⟨w.heap.size, j * 5, none⟩ = some (.int .i64 e.k) ∧ u.cell? ⟨w.heap.size, j * 5 + 1, none⟩ = some (.int .i64 e.n) ∧ u.cell? ⟨w.heap.size, j * 5 + 2, none⟩ = some (.int .i64 e.ak) ∧ u.cell? ⟨w.heap.size, j * 5 + 3, none⟩ = some (.int .i64 e.at_) ∧ u.cell? ⟨w.heap.size, j * 5 + 4, none⟩ = some s)
    (ho : ∀ b x, b ≠ w.heap.size ∨ x < j * 5 ∨ j * 5 + 5 ≤ x → u.cell? ⟨b, x, none⟩ = w1.cell? ⟨b, x, none⟩) (hf : ∀ b x, u.frozen? ⟨b, x, none⟩ = w1.frozen? ⟨b, x, none⟩) (hh : ∀ k, k ≠ w.heap.size → u.heap[k]? = w1.heap[k]?) (hz : u.heap.size = w1.heap.size)
    (hbl : ∀ n w', n ≤ w.heap.size → Below n w' w1 → Below n w' u) : ToI w es (j + 1) u := by
  obtain ⟨hb0, hs, hsm, hfr, ss, l, h', h1, h2, h3⟩ := h
  have hs1 := hb.size
  have hcell : ∀ x, w1.cell? ⟨w.heap.size, x, none⟩ = wr.cell? ⟨w.heap.size, x, none⟩ := fun x => hb.cell (p := ⟨w.heap.size, x, none⟩) hs
  refine ⟨hbl _ _ (Nat.le_refl _) (hb0.trans (hb.mono (by omega))), by omega, fun x hx => ?_, fun x => ?_, fun i => if i = j then s else ss i, fun i => if i = j then wr.heap.size else l i, fun i => if i = j then w1.heap.size else h' i, fun i e' hi hie => ?_, fun i hi => ?_, fun i i' hlt hi' => ?_⟩
  · by_cases hin : j * 5 ≤ x ∧ x < j * 5 + 5
    · obtain ⟨c0, c1, c2, c3, c4⟩ := hc
      obtain rfl | rfl | rfl | rfl | rfl : x = j * 5 ∨ x = j * 5 + 1 ∨ x = j * 5 + 2 ∨ x = j * 5 + 3 ∨ x = j * 5 + 4 := by omega
      · rw [c0]; rfl
      · rw [c1]; rfl
      · rw [c2]; rfl
      · rw [c3]; rfl
      · rw [c4]; rfl
    · rw [ho _ _ (by omega), hcell]; exact hsm x hx
  · rw [hf, hb.frozen (p := ⟨w.heap.size, x, none⟩) hs]; exact hfr x
  · by_cases ej : i = j
    · subst ej
      rw [he] at hie
      cases hie
      simp only [if_true]
      exact ⟨⟨hc.1, hc.2.1, hc.2.2.1, hc.2.2.2.1, hc.2.2.2.2⟩, hk.kept fun q q1 q2 => hh q (by omega)⟩
    · simp only [if_neg ej]
      have hij : i < j := by omega
      obtain ⟨d, dk⟩ := h1 i e' hij hie
      have hli := h2 i hij
      refine ⟨⟨?_, ?_, ?_, ?_, ?_⟩, dk.kept fun q q1 q2 => ?_⟩
      · rw [ho _ _ (by omega), hcell]; exact d.c0
      · rw [ho _ _ (by omega), hcell]; exact d.c1
      · rw [ho _ _ (by omega), hcell]; exact d.c2
      · rw [ho _ _ (by omega), hcell]; exact d.c3
      · rw [ho _ _ (by omega), hcell]; exact d.c4
      · rw [hh q (by omega)]; exact hb.block q (by omega)
  · by_cases ej : i = j
    · simp only [if_pos ej]; omega
    · simp only [if_neg ej]
      have := h2 i (by omega)
      omega
  · by_cases ej : i' = j
    · have hne : i ≠ j := by omega
      simp only [if_pos ej, if_neg hne]
      have := h2 i (by omega)
      omega
    · have hne : i ≠ j := by omega
      simp only [if_neg ej, if_neg hne]
      exact h3 i i' hlt (by omega)

set_option maxHeartbeats 2000000 in
theorem toExprS_step {n : Nat} (H : ∀ m, m < n → ToS m) : ToS n := by
  intro w lo hi v es hn hm h hhi
  obtain ⟨ad, cap, rfl, hc1, hc2⟩ := h.shape
  have hlm := length_le_manyL es
  have hmx : es.length ≤ 1048576 := by omega
  obtain ⟨i0, hi0, hz0, hz1, hz2⟩ := info_parts info_expr
  have HK : Hid (KR w lo hi (.slice ad es.length cap) es) := h
  have HM : Hid (manyL es ≤ 1048576 ∧ manyL es ≤ n) := ⟨hm, hn⟩
  clear h hlm hm hn hc1 hc2
  go_enter Try.func25, Try.ntmps25
  go_wp2_with (at_make; refine wpList_make_full _ rfl _ _ 29 rfl w.heap.size 31 i0 (.agg #[.int .i64 0, .int .i64 0, .int .i64 0, .int .i64 0, .slice none 0 0]) 5 Try.underlying29 hi0 hz0 hz1 .i64 .i64 _ _ es.length rfl rfl rfl rfl (by rw [hz2]; omega) (by unfold maxLen; omega) (Nat.le_refl _) ?_; intro w1 hown hgrow)
  have hI : ToI w es 0 w1 := by
    have hb1 : Below w.heap.size w w1 := (Below.refl _ _).grown hgrow (Nat.le_refl _) (fun k h => by cases h)
    refine ⟨hb1, hown.2.elim (fun h => by simp at h) fun ⟨g, cap, cur, hv, hg, hh, _⟩ => ?_, fun x hx => ?_, fun x => hown.frozenAt x, fun _ => .slice none 0 0, fun _ => 0, fun _ => 0, fun i e hi => by omega, fun i hi => by omega, fun i i' h1 h2 => by omega⟩
    · simp only [Value.slice.injEq, Option.some.injEq, Addr.mk.injEq, and_true, true_and] at hv
      obtain ⟨rfl, _⟩ := hv
      exact (Array.getElem?_eq_some_iff.mp hh).1
    · rw [hown.cellAt x hx]
      have hl := hown.1
      rw [List.getElem?_eq_getElem (by omega)]
      rfl
  clear hown hgrow hz0 hz1 hz2 hi0
  go_loopw [4] (fun i wr => ∃ j : Nat, j ≤ es.length ∧ i = .int .i64 j ∧ ToI w es j wr) (fun i _ => es.length - (intOf i).toNat)
  case atStart => exact ⟨0, Nat.zero_le _, rfl, hI⟩
  case round =>
    clear hI
    obtain ⟨j, hj, rfl, hI⟩ := hrel
    by_cases hlt : j < es.length
    · obtain ⟨e, he⟩ : ∃ e, es[j]? = some e := ⟨es[j], List.getElem?_eq_getElem hlt⟩
      obtain ⟨b, off, cap', s, hv, hb1, hb2, h5, hk⟩ := HK.out.at_ he
      simp only [Value.slice.injEq, true_and] at hv
      obtain ⟨rfl, rfl⟩ := hv
      obtain ⟨c0, c1, c2, c3, c4⟩ := h5
      have hkl := kid_lt he
      have hmm := HM.out
      have hb := hI.below
      have hz := toExpr_of (n := manyL e.kids) (H _ (by omega)) wr lo hi e.k e.n e.ak e.at_ s e.kids (Nat.le_refl _) (by omega) (hk.under hb hhi) (Nat.le_trans hhi hb.size)
      rw [← hb.cell (p := ⟨b, off + j * 5, none⟩) (by show b < _; omega)] at c0
      rw [← hb.cell (p := ⟨b, off + j * 5 + 1, none⟩) (by show b < _; omega)] at c1
      rw [← hb.cell (p := ⟨b, off + j * 5 + 2, none⟩) (by show b < _; omega)] at c2
      rw [← hb.cell (p := ⟨b, off + j * 5 + 3, none⟩) (by show b < _; omega)] at c3
      rw [← hb.cell (p := ⟨b, off + j * 5 + 4, none⟩) (by show b < _; omega)] at c4
      have HI : Hid (ToI w es j wr) := hI
      have HE : Hid (es[j]? = some e) := he
      obtain ⟨ads, cps, rfl, _, _⟩ := hk.shape
      clear hk hI hb hkl hmm he
      go_wp2_with fail
      refine hz.mono ?_
      rintro e1 w2 ⟨s', rfl, K2, g2⟩
      obtain ⟨ad', cap', rfl, _, _⟩ := K2.kr.shape
      have hI := HI.out
      have hsm : ∀ x, j * 5 ≤ x → x < j * 5 + 5 → (w2.cell? ⟨w.heap.size, x, none⟩).isSome = true := fun x h1 h2 => by
        rw [g2.cell (p := ⟨w.heap.size, x, none⟩) hI.size]; exact hI.some_ x (by omega)
      have hfz : ∀ x, w2.frozen? ⟨w.heap.size, x, none⟩ = false := fun x => by
        rw [g2.frozen (p := ⟨w.heap.size, x, none⟩) hI.size]; exact hI.frozen x
      obtain ⟨u, hu, hc, ho, hff, hh, hzz, hbl⟩ := store5 hsm (.int .i64 e.k) (.int .i64 e.n) (.int .i64 e.ak) (.int .i64 e.at_) (.slice ad' e.kids.length cap')
      have HN : Hid (ToI w es (j + 1) u) := hI.next HE.out g2 K2 hc ho hff hh hzz hbl
      have HU : Hid (((((w2.setCell ⟨w.heap.size, j * 5, none⟩ (.int .i64 e.k)).setCell ⟨w.heap.size, j * 5 + 1, none⟩ (.int .i64 e.n)).setCell ⟨w.heap.size, j * 5 + 2, none⟩ (.int .i64 e.ak)).setCell ⟨w.heap.size, j * 5 + 3, none⟩ (.int .i64 e.at_)).setCell ⟨w.heap.size, j * 5 + 4, none⟩ (.slice ad' e.kids.length cap') = u) := hu
      obtain ⟨y0, x0⟩ := Option.isSome_iff_exists.mp (hsm (j * 5) (by omega) (by omega))
      obtain ⟨y1, x1⟩ := Option.isSome_iff_exists.mp (hsm (j * 5 + 1) (by omega) (by omega))
      obtain ⟨y2, x2⟩ := Option.isSome_iff_exists.mp (hsm (j * 5 + 2) (by omega) (by omega))
      obtain ⟨y3, x3⟩ := Option.isSome_iff_exists.mp (hsm (j * 5 + 3) (by omega) (by omega))
      obtain ⟨y4, x4⟩ := Option.isSome_iff_exists.mp (hsm (j * 5 + 4) (by omega) (by omega))
      have f0 := hfz (j * 5)
      have f1 := hfz (j * 5 + 1)
      have f2 := hfz (j * 5 + 2)
      have f3 := hfz (j * 5 + 3)
      have f4 := hfz (j * 5 + 4)
      clear hu hc ho hff hh hzz hbl hsm hfz hI K2 g2 c0 c1 c2 c3 c4
      go_wp2
      rw [HU.out]
      go_roundw
      case rel => exact ⟨j + 1, by omega, by go_num, HN.out⟩
      case measure => simp [intOf]; omega
    · obtain rfl : j = es.length := by omega
      have HI : Hid (ToI w es es.length wr) := hI
      clear hI
      go_wp2
      go_ret
      exact ⟨_, rfl, HI.out.ko (by unfold maxLen; omega), HI.out.below⟩

theorem toS (n : Nat) : ToS n := by
  induction n using Nat.strongRecOn with
  | ind n ih => exact toExprS_step ih

theorem toExpr_any (w : World) (lo hi : Nat) (v : Value) (e : ExprD) (h : ER w lo hi v e) (hhi : hi ≤ w.heap.size) (hm : manyL e.kids ≤ 1048576) :
    Calls Try.prog 8 #[v] w fun en w' => ∃ v', en = .returned v' ∧ EO w' w.heap.size w'.heap.size v' e ∧ Below w.heap.size w w' := by
  obtain ⟨s, rfl, hk⟩ := h
  refine (toExpr_of (toS _) w lo hi _ _ _ _ s e.kids (Nat.le_refl _) hm hk hhi).mono ?_
  rintro en w' ⟨s', rfl, hk', hb⟩
  exact ⟨_, rfl, ⟨s', rfl, hk'⟩, hb⟩
end Go.Proofs.Ytkeockippmmneaa
