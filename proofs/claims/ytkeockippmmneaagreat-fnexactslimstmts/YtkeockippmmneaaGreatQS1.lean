import Derived.Test.YtkeockippmmneaaGreatExprData
import Derived.Test.YtkeockippmmneaaGreatAddrKit
import Derived.Test.YtkeockippmmneaaGreatStmtData

/-
  toExpr, toExprS: the laws' helpers that copy into new memory.
-/
namespace Go.Proofs.YtkeockippmmneaaGreat
open Go.ChangeShapes Go.WideShapes Go.ChangeAt Go.RowKit
set_option linter.unusedVariables false

/-- A variable of five cells that may be written. -/
structure Five (u : World) (B : Nat) (v0 v1 v2 v3 v4 : Value) : Prop where
  c0 : u.cell? ⟨B, 0, none⟩ = some v0
  c1 : u.cell? ⟨B, 1, none⟩ = some v1
  c2 : u.cell? ⟨B, 2, none⟩ = some v2
  c3 : u.cell? ⟨B, 3, none⟩ = some v3
  c4 : u.cell? ⟨B, 4, none⟩ = some v4
  f : ∀ o, u.frozen? ⟨B, o, none⟩ = false

theorem five_new (u : World) (v0 v1 v2 v3 v4 : Value) (t : TypeId) : Five (u.alloc (.cells #[v0, v1, v2, v3, v4] t)) u.heap.size v0 v1 v2 v3 v4 :=
  ⟨World.cell?_alloc_new _ _ _ _, World.cell?_alloc_new _ _ _ _, World.cell?_alloc_new _ _ _ _, World.cell?_alloc_new _ _ _ _, World.cell?_alloc_new _ _ _ _, fun o => World.frozen?_alloc_new _ _ _ _⟩

theorem Five.under {u u' : World} {B n : Nat} {v0 v1 v2 v3 v4 : Value} (h : Five u B v0 v1 v2 v3 v4) (hb : Below n u u') (hB : B < n) : Five u' B v0 v1 v2 v3 v4 :=
  ⟨by rw [hb.cell (p := ⟨B, 0, none⟩) hB]; exact h.c0, by rw [hb.cell (p := ⟨B, 1, none⟩) hB]; exact h.c1, by rw [hb.cell (p := ⟨B, 2, none⟩) hB]; exact h.c2, by rw [hb.cell (p := ⟨B, 3, none⟩) hB]; exact h.c3, by rw [hb.cell (p := ⟨B, 4, none⟩) hB]; exact h.c4, fun o => by rw [hb.frozen (p := ⟨B, o, none⟩) hB]; exact h.f o⟩

theorem Five.set0 {u : World} {B : Nat} {v0 v1 v2 v3 v4 : Value} (h : Five u B v0 v1 v2 v3 v4) (x : Value) : Five (u.setCell ⟨B, 0, none⟩ x) B x v1 v2 v3 v4 :=
  ⟨World.cell?_setCell_same _ _ _ h.c0, by rw [cell_set_other _ (.inr (by omega))]; exact h.c1, by rw [cell_set_other _ (.inr (by omega))]; exact h.c2, by rw [cell_set_other _ (.inr (by omega))]; exact h.c3, by rw [cell_set_other _ (.inr (by omega))]; exact h.c4, fun o => by rw [World.frozen?_setCell]; exact h.f o⟩
theorem Five.set1 {u : World} {B : Nat} {v0 v1 v2 v3 v4 : Value} (h : Five u B v0 v1 v2 v3 v4) (x : Value) : Five (u.setCell ⟨B, 1, none⟩ x) B v0 x v2 v3 v4 :=
  ⟨by rw [cell_set_other _ (.inr (by omega))]; exact h.c0, World.cell?_setCell_same _ _ _ h.c1, by rw [cell_set_other _ (.inr (by omega))]; exact h.c2, by rw [cell_set_other _ (.inr (by omega))]; exact h.c3, by rw [cell_set_other _ (.inr (by omega))]; exact h.c4, fun o => by rw [World.frozen?_setCell]; exact h.f o⟩
theorem Five.set2 {u : World} {B : Nat} {v0 v1 v2 v3 v4 : Value} (h : Five u B v0 v1 v2 v3 v4) (x : Value) : Five (u.setCell ⟨B, 2, none⟩ x) B v0 v1 x v3 v4 :=
  ⟨by rw [cell_set_other _ (.inr (by omega))]; exact h.c0, by rw [cell_set_other _ (.inr (by omega))]; exact h.c1, World.cell?_setCell_same _ _ _ h.c2, by rw [cell_set_other _ (.inr (by omega))]; exact h.c3, by rw [cell_set_other _ (.inr (by omega))]; exact h.c4, fun o => by rw [World.frozen?_setCell]; exact h.f o⟩
theorem Five.set3 {u : World} {B : Nat} {v0 v1 v2 v3 v4 : Value} (h : Five u B v0 v1 v2 v3 v4) (x : Value) : Five (u.setCell ⟨B, 3, none⟩ x) B v0 v1 v2 x v4 :=
  ⟨by rw [cell_set_other _ (.inr (by omega))]; exact h.c0, by rw [cell_set_other _ (.inr (by omega))]; exact h.c1, by rw [cell_set_other _ (.inr (by omega))]; exact h.c2, World.cell?_setCell_same _ _ _ h.c3, by rw [cell_set_other _ (.inr (by omega))]; exact h.c4, fun o => by rw [World.frozen?_setCell]; exact h.f o⟩
theorem Five.set4 {u : World} {B : Nat} {v0 v1 v2 v3 v4 : Value} (h : Five u B v0 v1 v2 v3 v4) (x : Value) : Five (u.setCell ⟨B, 4, none⟩ x) B v0 v1 v2 v3 x :=
  ⟨by rw [cell_set_other _ (.inr (by omega))]; exact h.c0, by rw [cell_set_other _ (.inr (by omega))]; exact h.c1, by rw [cell_set_other _ (.inr (by omega))]; exact h.c2, by rw [cell_set_other _ (.inr (by omega))]; exact h.c3, World.cell?_setCell_same _ _ _ h.c4, fun o => by rw [World.frozen?_setCell]; exact h.f o⟩

theorem Five.other {u : World} {B B' o : Nat} {v0 v1 v2 v3 v4 : Value} (h : Five u B v0 v1 v2 v3 v4) (x : Value) (hne : B ≠ B') : Five (u.setCell ⟨B', o, none⟩ x) B v0 v1 v2 v3 v4 :=
  ⟨by rw [cell_set_other _ (.inl hne)]; exact h.c0, by rw [cell_set_other _ (.inl hne)]; exact h.c1, by rw [cell_set_other _ (.inl hne)]; exact h.c2, by rw [cell_set_other _ (.inl hne)]; exact h.c3, by rw [cell_set_other _ (.inl hne)]; exact h.c4, fun o => by rw [World.frozen?_setCell]; exact h.f o⟩

/-- What toExprS answers of lists of at most n parts. -/
def ToS (n : Nat) : Prop := ∀ (w : World) (lo hi : Nat) (v : Value) (es : List ExprD), manyL es ≤ n → manyL es ≤ 1048576 → KR w lo hi v es → hi ≤ w.heap.size →
  Calls Tryz.prog 43 #[v] w fun e w' => ∃ v', e = .returned v' ∧ KO w' w.heap.size w'.heap.size v' es ∧ Below w.heap.size w w'

set_option maxHeartbeats 1000000 in
theorem toExpr_of {n : Nat} (H : ToS n) (w : World) (lo hi : Nat) (k m a t : Int) (s : Value) (es : List ExprD) (hn : manyL es ≤ n) (hm : manyL es ≤ 1048576) (h : KR w lo hi s es) (hhi : hi ≤ w.heap.size) :
    Calls Tryz.prog 30 #[.agg #[.int .i64 k, .int .i64 m, .int .i64 a, .int .i64 t, s]] w fun e w' => ∃ s', e = .returned (.agg #[.int .i64 k, .int .i64 m, .int .i64 a, .int .i64 t, s']) ∧ KO w' w.heap.size w'.heap.size s' es ∧ Below w.heap.size w w' := by
  obtain ⟨ad, cap, rfl, hc1, hc2⟩ := h.shape
  have HK : Hid (KR w lo hi (.slice ad es.length cap) es) := h
  clear h
  go_enter Tryz.func30, Tryz.ntmps30
  go_wp2_with fail
  obtain ⟨u0, hu0, G0, X0, R0, O0, S0⟩ : ∃ u0, ((w.alloc (.cells #[.int .i64 k, .int .i64 m, .int .i64 a, .int .i64 t, .slice ad es.length cap] 35)).alloc (.cells #[.int .i64 0, .int .i64 0, .int .i64 0, .int .i64 0, .slice none 0 0] 42)).alloc (.cells #[.int .i64 k, .int .i64 m, .int .i64 0, .int .i64 0, .slice none 0 0] 42) = u0 ∧ Below w.heap.size w u0 ∧
      u0.cell? ⟨w.heap.size, 4, none⟩ = some (.slice ad es.length cap) ∧ Five u0 (w.heap.size + 1) (.int .i64 0) (.int .i64 0) (.int .i64 0) (.int .i64 0) (.slice none 0 0) ∧ Five u0 (w.heap.size + 2) (.int .i64 k) (.int .i64 m) (.int .i64 0) (.int .i64 0) (.slice none 0 0) ∧ u0.heap.size = w.heap.size + 3 := by
    have n1 := five_new w (.int .i64 k) (.int .i64 m) (.int .i64 a) (.int .i64 t) (.slice ad es.length cap) 35
    obtain ⟨w1, e1⟩ : ∃ w1, w.alloc (.cells #[.int .i64 k, .int .i64 m, .int .i64 a, .int .i64 t, .slice ad es.length cap] 35) = w1 := ⟨_, rfl⟩
    have s1 : w1.heap.size = w.heap.size + 1 := by rw [← e1]; simp
    have g1 : Below w.heap.size w w1 := by rw [← e1]; exact (Below.refl _ _).alloc (Nat.le_refl _) _
    rw [e1] at n1 ⊢
    have n2 := five_new w1 (.int .i64 0) (.int .i64 0) (.int .i64 0) (.int .i64 0) (.slice none 0 0) 42
    obtain ⟨w2, e2⟩ : ∃ w2, w1.alloc (.cells #[.int .i64 0, .int .i64 0, .int .i64 0, .int .i64 0, .slice none 0 0] 42) = w2 := ⟨_, rfl⟩
    have s2 : w2.heap.size = w1.heap.size + 1 := by rw [← e2]; simp
    have g2 : Below w1.heap.size w1 w2 := by rw [← e2]; exact (Below.refl _ _).alloc (Nat.le_refl _) _
    rw [e2] at n2 ⊢
    have n3 := five_new w2 (.int .i64 k) (.int .i64 m) (.int .i64 0) (.int .i64 0) (.slice none 0 0) 42
    have g3 : Below w2.heap.size w2 (w2.alloc (.cells #[.int .i64 k, .int .i64 m, .int .i64 0, .int .i64 0, .slice none 0 0] 42)) := (Below.refl _ _).alloc (Nat.le_refl _) _
    refine ⟨_, rfl, below_two (below_two g1 g2) g3, ((n1.under g2 (by omega)).under g3 (by omega)).c4, ?_, ?_, by rw [World.size_alloc]; omega⟩
    · have := n2.under g3 (by omega); rwa [s1] at this
    · have := n3; rwa [s2, s1] at this
  rw [hu0]
  clear hu0
  refine (toAddr_any _ ⟨a, t⟩).mono ?_
  rintro e1 u1 ⟨rfl, g1⟩
  have S1 := g1.size
  have G1 := G0.trans (g1.mono (by omega))
  have X1 : u1.cell? ⟨w.heap.size, 4, none⟩ = some (.slice ad es.length cap) := by rw [g1.cell (p := ⟨w.heap.size, 4, none⟩) (by show w.heap.size < u0.heap.size; omega)]; exact X0
  have R1 := R0.under g1 (by omega)
  have O1 := O0.under g1 (by omega)
  have ev : AddrD.val ⟨a, t⟩ = .agg #[.int .i64 a, .int .i64 t] := rfl
  rw [ev]
  clear ev
  obtain ⟨o0, o1, o2, o3, o4, of⟩ := O1
  have of2 := of 2
  have of3 := of 3
  have HF : Hid (∀ o, u1.frozen? ⟨w.heap.size + 2, o, none⟩ = false) := of
  clear g1 X0 R0 O0 G0 of
  go_wp2_with fail
  have O1 : Five u1 (w.heap.size + 2) (.int .i64 k) (.int .i64 m) (.int .i64 0) (.int .i64 0) (.slice none 0 0) := ⟨o0, o1, o2, o3, o4, HF.out⟩
  obtain ⟨u2, hu2, G2, X2, R2, O2, S2⟩ : ∃ u2, (u1.setCell ⟨w.heap.size + 2, 2, none⟩ (.int .i64 a)).setCell ⟨w.heap.size + 2, 3, none⟩ (.int .i64 t) = u2 ∧ Below w.heap.size w u2 ∧ u2.cell? ⟨w.heap.size, 4, none⟩ = some (.slice ad es.length cap) ∧ Five u2 (w.heap.size + 1) (.int .i64 0) (.int .i64 0) (.int .i64 0) (.int .i64 0) (.slice none 0 0) ∧ Five u2 (w.heap.size + 2) (.int .i64 k) (.int .i64 m) (.int .i64 a) (.int .i64 t) (.slice none 0 0) ∧ u2.heap.size = u1.heap.size :=
    ⟨_, rfl, (G1.setCell (by show w.heap.size ≤ w.heap.size + 2; omega) _).setCell (by show w.heap.size ≤ w.heap.size + 2; omega) _, by rw [cell_set_other _ (.inl (by omega)), cell_set_other _ (.inl (by omega))]; exact X1, (R1.other _ (by omega)).other _ (by omega), (O1.set2 _).set3 _, by simp [World.setCell]⟩
  rw [show w.heap.size + 1 + 1 = w.heap.size + 2 from rfl, hu2]
  clear hu2 G1 X1 R1 O1 o0 o1 o2 o3 o4 of2 of3
  refine (H _ lo hi _ es hn hm (HK.out.under G2 hhi) (by omega)).mono ?_
  rintro e2 u3 ⟨s', rfl, K3, g3⟩
  have S3 := g3.size
  have G3 := G2.trans (g3.mono (by omega))
  have R3 := R2.under g3 (by omega)
  have O3 := O2.under g3 (by omega)
  obtain ⟨ad', cap', rfl, hd1, hd2⟩ := K3.kr.shape
  obtain ⟨u4, hu4, O4, R4, G4, K4, S4⟩ : ∃ u4, u3.setCell ⟨w.heap.size + 2, 4, none⟩ (.slice ad' es.length cap') = u4 ∧ Five u4 (w.heap.size + 2) (.int .i64 k) (.int .i64 m) (.int .i64 a) (.int .i64 t) (.slice ad' es.length cap') ∧ Five u4 (w.heap.size + 1) (.int .i64 0) (.int .i64 0) (.int .i64 0) (.int .i64 0) (.slice none 0 0) ∧ Below w.heap.size w u4 ∧ KO u4 u2.heap.size u3.heap.size (.slice ad' es.length cap') es ∧ u4.heap.size = u3.heap.size :=
    ⟨_, rfl, O3.set4 _, R3.other _ (by omega), G3.setCell (by show w.heap.size ≤ w.heap.size + 2; omega) _, K3.kept fun q h1 h2 => Below.heap_setCell _ _ _ _ (by show q ≠ w.heap.size + 2; omega), by simp [World.setCell]⟩
  obtain ⟨u5, hu5, R5, G5, K5, S5⟩ : ∃ u5, ((((u4.setCell ⟨w.heap.size + 1, 0, none⟩ (.int .i64 k)).setCell ⟨w.heap.size + 1, 1, none⟩ (.int .i64 m)).setCell ⟨w.heap.size + 1, 2, none⟩ (.int .i64 a)).setCell ⟨w.heap.size + 1, 3, none⟩ (.int .i64 t)).setCell ⟨w.heap.size + 1, 4, none⟩ (.slice ad' es.length cap') = u5 ∧ Five u5 (w.heap.size + 1) (.int .i64 k) (.int .i64 m) (.int .i64 a) (.int .i64 t) (.slice ad' es.length cap') ∧ Below w.heap.size w u5 ∧ KO u5 u2.heap.size u3.heap.size (.slice ad' es.length cap') es ∧ u5.heap.size = u4.heap.size :=
    ⟨_, rfl, ((((R4.set0 _).set1 _).set2 _).set3 _).set4 _, ((((G4.setCell (by show w.heap.size ≤ w.heap.size + 1; omega) _).setCell (by show w.heap.size ≤ w.heap.size + 1; omega) _).setCell (by show w.heap.size ≤ w.heap.size + 1; omega) _).setCell (by show w.heap.size ≤ w.heap.size + 1; omega) _).setCell (by show w.heap.size ≤ w.heap.size + 1; omega) _,
      K4.kept fun q h1 h2 => by
        rw [Below.heap_setCell _ _ _ _ (by show q ≠ w.heap.size + 1; omega), Below.heap_setCell _ _ _ _ (by show q ≠ w.heap.size + 1; omega), Below.heap_setCell _ _ _ _ (by show q ≠ w.heap.size + 1; omega), Below.heap_setCell _ _ _ _ (by show q ≠ w.heap.size + 1; omega), Below.heap_setCell _ _ _ _ (by show q ≠ w.heap.size + 1; omega)], by simp [World.setCell]⟩
  have HU4 : Hid (u3.setCell ⟨w.heap.size + 2, 4, none⟩ (.slice ad' es.length cap') = u4) := hu4
  have HU5 : Hid (((((u4.setCell ⟨w.heap.size + 1, 0, none⟩ (.int .i64 k)).setCell ⟨w.heap.size + 1, 1, none⟩ (.int .i64 m)).setCell ⟨w.heap.size + 1, 2, none⟩ (.int .i64 a)).setCell ⟨w.heap.size + 1, 3, none⟩ (.int .i64 t)).setCell ⟨w.heap.size + 1, 4, none⟩ (.slice ad' es.length cap') = u5) := hu5
  have HKK : Hid (KO u5 w.heap.size u5.heap.size (.slice ad' es.length cap') es) := K5.wide (by omega) (by omega)
  have c4 := O3.c4
  have c4f := O3.f 4
  have HO4 : Hid (Five u4 (w.heap.size + 2) (.int .i64 k) (.int .i64 m) (.int .i64 a) (.int .i64 t) (.slice ad' es.length cap')) := O4
  have HR4 : Hid (Five u4 (w.heap.size + 1) (.int .i64 0) (.int .i64 0) (.int .i64 0) (.int .i64 0) (.slice none 0 0)) := R4
  have HR5 : Hid (Five u5 (w.heap.size + 1) (.int .i64 k) (.int .i64 m) (.int .i64 a) (.int .i64 t) (.slice ad' es.length cap')) := R5
  have o0 := O3.c0
  have o1 := O3.c1
  have o2 := O3.c2
  have o3 := O3.c3
  have p0 := R3.c0
  have p1 := R3.c1
  have p2 := R3.c2
  have p3 := R3.c3
  have p4 := R3.c4
  have q0 := R3.f 0
  have q1 := R3.f 1
  have q2 := R3.f 2
  have q3 := R3.f 3
  have q4 := R3.f 4
  clear hu4 hu5 K5 K4 K3 O4 R4 R5 O3 R3 g3 G3 G2 G4 X2 R2 O2 HK
  go_wp2
  rw [HU4.out, HU5.out]
  obtain ⟨r0, r1, r2, r3, r4, _⟩ := HR5.out
  exact bodyPost_ret (v := .agg #[.int .i64 k, .int .i64 m, .int .i64 a, .int .i64 t, .slice ad' es.length cap']) (by simp [results, Tryz.results30, go_sem, r0, r1, r2, r3, r4]) rfl ⟨_, rfl, HKK.out, G5⟩

theorem info_expr : (Tryz.prog.info? 42).map (fun i => (i.zero, i.size, i.bytes)) = some (some (.agg #[.int .i64 0, .int .i64 0, .int .i64 0, .int .i64 0, .slice none 0 0]), 5, 56) := by kernel_rfl

/-- Five cells stored one behind another. -/
theorem store5 {u : World} {B o : Nat} (hs : ∀ x, o ≤ x → x < o + 5 → (u.cell? ⟨B, x, none⟩).isSome = true) (v0 v1 v2 v3 v4 : Value) :
    ∃ u1, ((((u.setCell ⟨B, o, none⟩ v0).setCell ⟨B, o + 1, none⟩ v1).setCell ⟨B, o + 2, none⟩ v2).setCell ⟨B, o + 3, none⟩ v3).setCell ⟨B, o + 4, none⟩ v4 = u1 ∧
      (u1.cell? ⟨B, o, none⟩ = some v0 ∧ u1.cell? ⟨B, o + 1, none⟩ = some v1 ∧ u1.cell? ⟨B, o + 2, none⟩ = some v2 ∧ u1.cell? ⟨B, o + 3, none⟩ = some v3 ∧ u1.cell? ⟨B, o + 4, none⟩ = some v4) ∧
      (∀ b x, b ≠ B ∨ x < o ∨ o + 5 ≤ x → u1.cell? ⟨b, x, none⟩ = u.cell? ⟨b, x, none⟩) ∧ (∀ b x, u1.frozen? ⟨b, x, none⟩ = u.frozen? ⟨b, x, none⟩) ∧ (∀ k, k ≠ B → u1.heap[k]? = u.heap[k]?) ∧ u1.heap.size = u.heap.size ∧ ∀ n w, n ≤ B → Below n w u → Below n w u1 := by
  obtain ⟨x0, h0⟩ := Option.isSome_iff_exists.mp (hs o (by omega) (by omega))
  obtain ⟨x1, h1⟩ := Option.isSome_iff_exists.mp (hs (o + 1) (by omega) (by omega))
  obtain ⟨x2, h2⟩ := Option.isSome_iff_exists.mp (hs (o + 2) (by omega) (by omega))
  obtain ⟨x3, h3⟩ := Option.isSome_iff_exists.mp (hs (o + 3) (by omega) (by omega))
  obtain ⟨x4, h4⟩ := Option.isSome_iff_exists.mp (hs (o + 4) (by omega) (by omega))
  refine ⟨_, rfl, ⟨?_, ?_, ?_, ?_, ?_⟩, ?_, ?_, ?_, ?_, ?_⟩
  · rw [cell_set_other _ (.inr (by omega)), cell_set_other _ (.inr (by omega)), cell_set_other _ (.inr (by omega)), cell_set_other _ (.inr (by omega))]
    exact World.cell?_setCell_same _ _ _ h0
  · rw [cell_set_other _ (.inr (by omega)), cell_set_other _ (.inr (by omega)), cell_set_other _ (.inr (by omega))]
    exact World.cell?_setCell_same _ _ _ (by rw [cell_set_other _ (.inr (by omega))]; exact h1)
  · rw [cell_set_other _ (.inr (by omega)), cell_set_other _ (.inr (by omega))]
    exact World.cell?_setCell_same _ _ _ (by rw [cell_set_other _ (.inr (by omega)), cell_set_other _ (.inr (by omega))]; exact h2)
  · rw [cell_set_other _ (.inr (by omega))]
    exact World.cell?_setCell_same _ _ _ (by rw [cell_set_other _ (.inr (by omega)), cell_set_other _ (.inr (by omega)), cell_set_other _ (.inr (by omega))]; exact h3)
  · exact World.cell?_setCell_same _ _ _ (by rw [cell_set_other _ (.inr (by omega)), cell_set_other _ (.inr (by omega)), cell_set_other _ (.inr (by omega)), cell_set_other _ (.inr (by omega))]; exact h4)
  · intro b x hx
    rw [cell_set_other _ (by omega), cell_set_other _ (by omega), cell_set_other _ (by omega), cell_set_other _ (by omega), cell_set_other _ (by omega)]
  · intro b x
    rw [World.frozen?_setCell, World.frozen?_setCell, World.frozen?_setCell, World.frozen?_setCell, World.frozen?_setCell]
  · intro k hk
    rw [Below.heap_setCell _ _ _ _ hk, Below.heap_setCell _ _ _ _ hk, Below.heap_setCell _ _ _ _ hk, Below.heap_setCell _ _ _ _ hk, Below.heap_setCell _ _ _ _ hk]
  · simp [World.setCell]
  · intro n w hn hb
    exact ((((hb.setCell hn _).setCell hn _).setCell hn _).setCell hn _).setCell hn _

/-- What holds as toExprS has copied j of the parts. -/
structure ToI (w : World) (es : List ExprD) (j : Nat) (wr : World) : Prop where
  below : Below w.heap.size w wr
  size : w.heap.size < wr.heap.size
  some_ : ∀ x, x < es.length * 5 → (wr.cell? ⟨w.heap.size, x, none⟩).isSome = true
  frozen : ∀ x, wr.frozen? ⟨w.heap.size, x, none⟩ = false
  done : ∃ (ss : Nat → Value) (l h : Nat → Nat), (∀ i e, i < j → es[i]? = some e → Cell5 wr w.heap.size (i * 5) e (ss i) ∧ KO wr (l i) (h i) (ss i) e.kids) ∧ (∀ i, i < j → w.heap.size < l i ∧ h i ≤ wr.heap.size) ∧ ∀ i i', i < i' → i' < j → h i ≤ l i'

theorem ToI.ko {w wr : World} {es : List ExprD} (h : ToI w es es.length wr) (hm : es.length ≤ maxLen) : KO wr w.heap.size wr.heap.size (.slice (some ⟨w.heap.size, 0, none⟩) es.length es.length) es := by
  obtain ⟨hb, hs, hsm, hf, ss, l, h', h1, h2, h3⟩ := h
  by_cases he : es = []
  · subst he; exact .nil _ _ _ _ hm
  · refine .cons _ _ w.heap.size 0 es.length es ss l h' he (Nat.le_refl _) hm (Nat.le_refl _) hs (fun o => by rw [Nat.zero_add]; exact hf o) (fun i e hie => ?_) (fun i hi => ?_) (fun i i' hlt hi' => .inl (h3 i i' hlt hi')) fun i e hie => ?_
    · have hil : i < es.length := (List.getElem?_eq_some_iff.mp hie).1
      rw [Nat.zero_add]; exact (h1 i e hil hie).1
    · have := h2 i hi; omega
    · exact (h1 i e (List.getElem?_eq_some_iff.mp hie).1 hie).2

theorem ToI.next {w wr w1 u : World} {es : List ExprD} {j : Nat} {e : ExprD} {s : Value} (h : ToI w es j wr) (he : es[j]? = some e) (hb : Below wr.heap.size wr w1) (hk : KO w1 wr.heap.size w1.heap.size s e.kids)
    (hc : u.cell? ⟨w.heap.size, j * 5, none⟩ = some (.int .i64 e.k) ∧ u.cell? ⟨w.heap.size, j * 5 + 1, none⟩ = some (.int .i64 e.n) ∧ u.cell? ⟨w.heap.size, j * 5 + 2, none⟩ = some (.int .i64 e.ak) ∧ u.cell? ⟨w.heap.size, j * 5 + 3, none⟩ = some (.int .i64 e.at_) ∧ u.cell? ⟨w.heap.size, j * 5 + 4, none⟩ = some s)
    (ho : ∀ b x, b ≠ w.heap.size ∨ x < j * 5 ∨ j * 5 + 5 ≤ x → u.cell? ⟨b, x, none⟩ = w1.cell? ⟨b, x, none⟩) (hf : ∀ b x, u.frozen? ⟨b, x, none⟩ = w1.frozen? ⟨b, x, none⟩) (hh : ∀ k, k ≠ w.heap.size → u.heap[k]? = w1.heap[k]?) (hz : u.heap.size = w1.heap.size)
    (hbl : ∀ n w', n ≤ w.heap.size → Below n w' w1 → Below n w' u) : ToI w es (j + 1) u := by
  obtain ⟨hb0, hs, hsm, hfr, ss, l, h', h1, h2, h3⟩ := h
  have hs1 := hb.size
  have hcell : ∀ x, w1.cell? ⟨w.heap.size, x, none⟩ = wr.cell? ⟨w.heap.size, x, none⟩ := fun x => hb.cell (p := ⟨w.heap.size, x, none⟩) hs
  refine ⟨hbl _ _ (Nat.le_refl _) (hb0.trans (hb.mono (by omega))), by omega, fun x hx => ?_, fun x => ?_, fun i => if i = j then s else ss i, fun i => if i = j then wr.heap.size else l i, fun i => if i = j then w1.heap.size else h' i, fun i e' hi hie => ?_, fun i hi => ?_, fun i i' hlt hi' => ?_⟩
  · by_cases hin : j * 5 ≤ x ∧ x < j * 5 + 5
    · obtain ⟨c0, c1, c2, c3, c4⟩ := hc
      obtain rfl | rfl | rfl | rfl | rfl : x = j * 5 ∨ x = j * 5 + 1 ∨ x = j * 5 + 2 ∨ x = j * 5 + 3 ∨ x = j * 5 + 4 := by omega
      · rw [c0]; rfl
      · rw [c1]; rfl
      · rw [c2]; rfl
      · rw [c3]; rfl
      · rw [c4]; rfl
    · rw [ho _ _ (by omega), hcell]; exact hsm x hx
  · rw [hf, hb.frozen (p := ⟨w.heap.size, x, none⟩) hs]; exact hfr x
  · by_cases ej : i = j
    · subst ej
      rw [he] at hie
      cases hie
      simp only [if_true]
      exact ⟨⟨hc.1, hc.2.1, hc.2.2.1, hc.2.2.2.1, hc.2.2.2.2⟩, hk.kept fun q q1 q2 => hh q (by omega)⟩
    · simp only [if_neg ej]
      have hij : i < j := by omega
      obtain ⟨d, dk⟩ := h1 i e' hij hie
      have hli := h2 i hij
      refine ⟨⟨?_, ?_, ?_, ?_, ?_⟩, dk.kept fun q q1 q2 => ?_⟩
      · rw [ho _ _ (by omega), hcell]; exact d.c0
      · rw [ho _ _ (by omega), hcell]; exact d.c1
      · rw [ho _ _ (by omega), hcell]; exact d.c2
      · rw [ho _ _ (by omega), hcell]; exact d.c3
      · rw [ho _ _ (by omega), hcell]; exact d.c4
      · rw [hh q (by omega)]; exact hb.block q (by omega)
  · by_cases ej : i = j
    · simp only [if_pos ej]; omega
    · simp only [if_neg ej]
      have := h2 i (by omega)
      omega
  · by_cases ej : i' = j
    · have hne : i ≠ j := by omega
      simp only [if_pos ej, if_neg hne]
      have := h2 i (by omega)
      omega
    · have hne : i ≠ j := by omega
      simp only [if_neg ej, if_neg hne]
      exact h3 i i' hlt (by omega)

set_option maxHeartbeats 2000000 in
theorem toExprS_step {n : Nat} (H : ∀ m, m < n → ToS m) : ToS n := by
  intro w lo hi v es hn hm h hhi
  obtain ⟨ad, cap, rfl, hc1, hc2⟩ := h.shape
  have hlm := length_le_manyL es
  have hmx : es.length ≤ 1048576 := by omega
  obtain ⟨i0, hi0, hz0, hz1, hz2⟩ := info_parts info_expr
  have HK : Hid (KR w lo hi (.slice ad es.length cap) es) := h
  have HM : Hid (manyL es ≤ 1048576 ∧ manyL es ≤ n) := ⟨hm, hn⟩
  clear h hlm hm hn hc1 hc2
  go_enter Tryz.func43, Tryz.ntmps43
  go_wp2_with (at_make; refine wpList_make_full _ rfl _ _ 40 rfl w.heap.size 42 i0 (.agg #[.int .i64 0, .int .i64 0, .int .i64 0, .int .i64 0, .slice none 0 0]) 5 Tryz.underlying40 hi0 hz0 hz1 .i64 .i64 _ _ es.length rfl rfl rfl rfl (by rw [hz2]; omega) (by unfold maxLen; omega) (Nat.le_refl _) ?_; intro w1 hown hgrow)
  have hI : ToI w es 0 w1 := by
    have hb1 : Below w.heap.size w w1 := (Below.refl _ _).grown hgrow (Nat.le_refl _) (fun k h => by cases h)
    refine ⟨hb1, hown.2.elim (fun h => by simp at h) fun ⟨g, cap, cur, hv, hg, hh, _⟩ => ?_, fun x hx => ?_, fun x => hown.frozenAt x, fun _ => .slice none 0 0, fun _ => 0, fun _ => 0, fun i e hi => by omega, fun i hi => by omega, fun i i' h1 h2 => by omega⟩
    · simp only [Value.slice.injEq, Option.some.injEq, Addr.mk.injEq, and_true, true_and] at hv
      obtain ⟨rfl, _⟩ := hv
      exact (Array.getElem?_eq_some_iff.mp hh).1
    · rw [hown.cellAt x hx]
      have hl := hown.1
      rw [List.getElem?_eq_getElem (by omega)]
      rfl
  clear hown hgrow hz0 hz1 hz2 hi0
  go_loopw [4] (fun i wr => ∃ j : Nat, j ≤ es.length ∧ i = .int .i64 j ∧ ToI w es j wr) (fun i _ => es.length - (intOf i).toNat)
  case atStart => exact ⟨0, Nat.zero_le _, rfl, hI⟩
  case round =>
    clear hI
    obtain ⟨j, hj, rfl, hI⟩ := hrel
    by_cases hlt : j < es.length
    · obtain ⟨e, he⟩ : ∃ e, es[j]? = some e := ⟨es[j], List.getElem?_eq_getElem hlt⟩
      obtain ⟨b, off, cap', s, hv, hb1, hb2, h5, hk⟩ := HK.out.at_ he
      simp only [Value.slice.injEq, true_and] at hv
      obtain ⟨rfl, rfl⟩ := hv
      obtain ⟨c0, c1, c2, c3, c4⟩ := h5
      have hkl := kid_lt he
      have hmm := HM.out
      have hb := hI.below
      have hz := toExpr_of (n := manyL e.kids) (H _ (by omega)) wr lo hi e.k e.n e.ak e.at_ s e.kids (Nat.le_refl _) (by omega) (hk.under hb hhi) (Nat.le_trans hhi hb.size)
      rw [← hb.cell (p := ⟨b, off + j * 5, none⟩) (by show b < _; omega)] at c0
      rw [← hb.cell (p := ⟨b, off + j * 5 + 1, none⟩) (by show b < _; omega)] at c1
      rw [← hb.cell (p := ⟨b, off + j * 5 + 2, none⟩) (by show b < _; omega)] at c2
      rw [← hb.cell (p := ⟨b, off + j * 5 + 3, none⟩) (by show b < _; omega)] at c3
      rw [← hb.cell (p := ⟨b, off + j * 5 + 4, none⟩) (by show b < _; omega)] at c4
      have HI : Hid (ToI w es j wr) := hI
      have HE : Hid (es[j]? = some e) := he
      obtain ⟨ads, cps, rfl, _, _⟩ := hk.shape
      clear hk hI hb hkl hmm he
      go_wp2_with fail
      refine hz.mono ?_
      rintro e1 w2 ⟨s', rfl, K2, g2⟩
      obtain ⟨ad', cap', rfl, _, _⟩ := K2.kr.shape
      have hI := HI.out
      have hsm : ∀ x, j * 5 ≤ x → x < j * 5 + 5 → (w2.cell? ⟨w.heap.size, x, none⟩).isSome = true := fun x h1 h2 => by
        rw [g2.cell (p := ⟨w.heap.size, x, none⟩) hI.size]; exact hI.some_ x (by omega)
      have hfz : ∀ x, w2.frozen? ⟨w.heap.size, x, none⟩ = false := fun x => by
        rw [g2.frozen (p := ⟨w.heap.size, x, none⟩) hI.size]; exact hI.frozen x
      obtain ⟨u, hu, hc, ho, hff, hh, hzz, hbl⟩ := store5 hsm (.int .i64 e.k) (.int .i64 e.n) (.int .i64 e.ak) (.int .i64 e.at_) (.slice ad' e.kids.length cap')
      have HN : Hid (ToI w es (j + 1) u) := hI.next HE.out g2 K2 hc ho hff hh hzz hbl
      have HU : Hid (((((w2.setCell ⟨w.heap.size, j * 5, none⟩ (.int .i64 e.k)).setCell ⟨w.heap.size, j * 5 + 1, none⟩ (.int .i64 e.n)).setCell ⟨w.heap.size, j * 5 + 2, none⟩ (.int .i64 e.ak)).setCell ⟨w.heap.size, j * 5 + 3, none⟩ (.int .i64 e.at_)).setCell ⟨w.heap.size, j * 5 + 4, none⟩ (.slice ad' e.kids.length cap') = u) := hu
      obtain ⟨y0, x0⟩ := Option.isSome_iff_exists.mp (hsm (j * 5) (by omega) (by omega))
      obtain ⟨y1, x1⟩ := Option.isSome_iff_exists.mp (hsm (j * 5 + 1) (by omega) (by omega))
      obtain ⟨y2, x2⟩ := Option.isSome_iff_exists.mp (hsm (j * 5 + 2) (by omega) (by omega))
      obtain ⟨y3, x3⟩ := Option.isSome_iff_exists.mp (hsm (j * 5 + 3) (by omega) (by omega))
      obtain ⟨y4, x4⟩ := Option.isSome_iff_exists.mp (hsm (j * 5 + 4) (by omega) (by omega))
      have f0 := hfz (j * 5)
      have f1 := hfz (j * 5 + 1)
      have f2 := hfz (j * 5 + 2)
      have f3 := hfz (j * 5 + 3)
      have f4 := hfz (j * 5 + 4)
      clear hu hc ho hff hh hzz hbl hsm hfz hI K2 g2 c0 c1 c2 c3 c4
      go_wp2
      rw [HU.out]
      go_roundw
      case rel => exact ⟨j + 1, by omega, by go_num, HN.out⟩
      case measure => simp [intOf]; omega
    · obtain rfl : j = es.length := by omega
      have HI : Hid (ToI w es es.length wr) := hI
      clear hI
      go_wp2
      go_ret
      exact ⟨_, rfl, HI.out.ko (by unfold maxLen; omega), HI.out.below⟩

theorem toS (n : Nat) : ToS n := by
  induction n using Nat.strongRecOn with
  | ind n ih => exact toExprS_step ih

theorem toExpr_any (w : World) (lo hi : Nat) (v : Value) (e : ExprD) (h : ER w lo hi v e) (hhi : hi ≤ w.heap.size) (hm : manyL e.kids ≤ 1048576) :
    Calls Tryz.prog 30 #[v] w fun en w' => ∃ v', en = .returned v' ∧ EO w' w.heap.size w'.heap.size v' e ∧ Below w.heap.size w w' := by
  obtain ⟨s, rfl, hk⟩ := h
  refine (toExpr_of (toS _) w lo hi _ _ _ _ s e.kids (Nat.le_refl _) hm hk hhi).mono ?_
  rintro en w' ⟨s', rfl, hk', hb⟩
  exact ⟨_, rfl, ⟨s', rfl, hk'⟩, hb⟩
end Go.Proofs.YtkeockippmmneaaGreat

/-
  toStmt, toStmtS: the laws' helpers that copy statements into new memory.
-/
namespace Go.Proofs.YtkeockippmmneaaGreat
open Go.ChangeShapes Go.WideShapes Go.ChangeAt Go.RowKit
set_option linter.unusedVariables false

theorem TenW.set0 {u : World} {B : Nat} {x0 x1 x2 x3 x4 x5 x6 x7 x8 x9 : Value} (h : TenW u B x0 x1 x2 x3 x4 x5 x6 x7 x8 x9) (x : Value) : TenW (u.setCell ⟨B, 0, none⟩ x) B x x1 x2 x3 x4 x5 x6 x7 x8 x9 :=
  ⟨World.cell?_setCell_same _ _ _ h.c0, by rw [cell_set_other _ (.inr (by omega))]; exact h.c1, by rw [cell_set_other _ (.inr (by omega))]; exact h.c2, by rw [cell_set_other _ (.inr (by omega))]; exact h.c3, by rw [cell_set_other _ (.inr (by omega))]; exact h.c4, by rw [cell_set_other _ (.inr (by omega))]; exact h.c5, by rw [cell_set_other _ (.inr (by omega))]; exact h.c6, by rw [cell_set_other _ (.inr (by omega))]; exact h.c7, by rw [cell_set_other _ (.inr (by omega))]; exact h.c8, by rw [cell_set_other _ (.inr (by omega))]; exact h.c9, fun o => by rw [World.frozen?_setCell]; exact h.f o⟩
theorem TenW.set1 {u : World} {B : Nat} {x0 x1 x2 x3 x4 x5 x6 x7 x8 x9 : Value} (h : TenW u B x0 x1 x2 x3 x4 x5 x6 x7 x8 x9) (x : Value) : TenW (u.setCell ⟨B, 1, none⟩ x) B x0 x x2 x3 x4 x5 x6 x7 x8 x9 :=
  ⟨by rw [cell_set_other _ (.inr (by omega))]; exact h.c0, World.cell?_setCell_same _ _ _ h.c1, by rw [cell_set_other _ (.inr (by omega))]; exact h.c2, by rw [cell_set_other _ (.inr (by omega))]; exact h.c3, by rw [cell_set_other _ (.inr (by omega))]; exact h.c4, by rw [cell_set_other _ (.inr (by omega))]; exact h.c5, by rw [cell_set_other _ (.inr (by omega))]; exact h.c6, by rw [cell_set_other _ (.inr (by omega))]; exact h.c7, by rw [cell_set_other _ (.inr (by omega))]; exact h.c8, by rw [cell_set_other _ (.inr (by omega))]; exact h.c9, fun o => by rw [World.frozen?_setCell]; exact h.f o⟩
theorem TenW.set2 {u : World} {B : Nat} {x0 x1 x2 x3 x4 x5 x6 x7 x8 x9 : Value} (h : TenW u B x0 x1 x2 x3 x4 x5 x6 x7 x8 x9) (x : Value) : TenW (u.setCell ⟨B, 2, none⟩ x) B x0 x1 x x3 x4 x5 x6 x7 x8 x9 :=
  ⟨by rw [cell_set_other _ (.inr (by omega))]; exact h.c0, by rw [cell_set_other _ (.inr (by omega))]; exact h.c1, World.cell?_setCell_same _ _ _ h.c2, by rw [cell_set_other _ (.inr (by omega))]; exact h.c3, by rw [cell_set_other _ (.inr (by omega))]; exact h.c4, by rw [cell_set_other _ (.inr (by omega))]; exact h.c5, by rw [cell_set_other _ (.inr (by omega))]; exact h.c6, by rw [cell_set_other _ (.inr (by omega))]; exact h.c7, by rw [cell_set_other _ (.inr (by omega))]; exact h.c8, by rw [cell_set_other _ (.inr (by omega))]; exact h.c9, fun o => by rw [World.frozen?_setCell]; exact h.f o⟩
theorem TenW.set3 {u : World} {B : Nat} {x0 x1 x2 x3 x4 x5 x6 x7 x8 x9 : Value} (h : TenW u B x0 x1 x2 x3 x4 x5 x6 x7 x8 x9) (x : Value) : TenW (u.setCell ⟨B, 3, none⟩ x) B x0 x1 x2 x x4 x5 x6 x7 x8 x9 :=
  ⟨by rw [cell_set_other _ (.inr (by omega))]; exact h.c0, by rw [cell_set_other _ (.inr (by omega))]; exact h.c1, by rw [cell_set_other _ (.inr (by omega))]; exact h.c2, World.cell?_setCell_same _ _ _ h.c3, by rw [cell_set_other _ (.inr (by omega))]; exact h.c4, by rw [cell_set_other _ (.inr (by omega))]; exact h.c5, by rw [cell_set_other _ (.inr (by omega))]; exact h.c6, by rw [cell_set_other _ (.inr (by omega))]; exact h.c7, by rw [cell_set_other _ (.inr (by omega))]; exact h.c8, by rw [cell_set_other _ (.inr (by omega))]; exact h.c9, fun o => by rw [World.frozen?_setCell]; exact h.f o⟩
theorem TenW.set4 {u : World} {B : Nat} {x0 x1 x2 x3 x4 x5 x6 x7 x8 x9 : Value} (h : TenW u B x0 x1 x2 x3 x4 x5 x6 x7 x8 x9) (x : Value) : TenW (u.setCell ⟨B, 4, none⟩ x) B x0 x1 x2 x3 x x5 x6 x7 x8 x9 :=
  ⟨by rw [cell_set_other _ (.inr (by omega))]; exact h.c0, by rw [cell_set_other _ (.inr (by omega))]; exact h.c1, by rw [cell_set_other _ (.inr (by omega))]; exact h.c2, by rw [cell_set_other _ (.inr (by omega))]; exact h.c3, World.cell?_setCell_same _ _ _ h.c4, by rw [cell_set_other _ (.inr (by omega))]; exact h.c5, by rw [cell_set_other _ (.inr (by omega))]; exact h.c6, by rw [cell_set_other _ (.inr (by omega))]; exact h.c7, by rw [cell_set_other _ (.inr (by omega))]; exact h.c8, by rw [cell_set_other _ (.inr (by omega))]; exact h.c9, fun o => by rw [World.frozen?_setCell]; exact h.f o⟩
theorem TenW.set5 {u : World} {B : Nat} {x0 x1 x2 x3 x4 x5 x6 x7 x8 x9 : Value} (h : TenW u B x0 x1 x2 x3 x4 x5 x6 x7 x8 x9) (x : Value) : TenW (u.setCell ⟨B, 5, none⟩ x) B x0 x1 x2 x3 x4 x x6 x7 x8 x9 :=
  ⟨by rw [cell_set_other _ (.inr (by omega))]; exact h.c0, by rw [cell_set_other _ (.inr (by omega))]; exact h.c1, by rw [cell_set_other _ (.inr (by omega))]; exact h.c2, by rw [cell_set_other _ (.inr (by omega))]; exact h.c3, by rw [cell_set_other _ (.inr (by omega))]; exact h.c4, World.cell?_setCell_same _ _ _ h.c5, by rw [cell_set_other _ (.inr (by omega))]; exact h.c6, by rw [cell_set_other _ (.inr (by omega))]; exact h.c7, by rw [cell_set_other _ (.inr (by omega))]; exact h.c8, by rw [cell_set_other _ (.inr (by omega))]; exact h.c9, fun o => by rw [World.frozen?_setCell]; exact h.f o⟩
theorem TenW.set6 {u : World} {B : Nat} {x0 x1 x2 x3 x4 x5 x6 x7 x8 x9 : Value} (h : TenW u B x0 x1 x2 x3 x4 x5 x6 x7 x8 x9) (x : Value) : TenW (u.setCell ⟨B, 6, none⟩ x) B x0 x1 x2 x3 x4 x5 x x7 x8 x9 :=
  ⟨by rw [cell_set_other _ (.inr (by omega))]; exact h.c0, by rw [cell_set_other _ (.inr (by omega))]; exact h.c1, by rw [cell_set_other _ (.inr (by omega))]; exact h.c2, by rw [cell_set_other _ (.inr (by omega))]; exact h.c3, by rw [cell_set_other _ (.inr (by omega))]; exact h.c4, by rw [cell_set_other _ (.inr (by omega))]; exact h.c5, World.cell?_setCell_same _ _ _ h.c6, by rw [cell_set_other _ (.inr (by omega))]; exact h.c7, by rw [cell_set_other _ (.inr (by omega))]; exact h.c8, by rw [cell_set_other _ (.inr (by omega))]; exact h.c9, fun o => by rw [World.frozen?_setCell]; exact h.f o⟩
theorem TenW.set7 {u : World} {B : Nat} {x0 x1 x2 x3 x4 x5 x6 x7 x8 x9 : Value} (h : TenW u B x0 x1 x2 x3 x4 x5 x6 x7 x8 x9) (x : Value) : TenW (u.setCell ⟨B, 7, none⟩ x) B x0 x1 x2 x3 x4 x5 x6 x x8 x9 :=
  ⟨by rw [cell_set_other _ (.inr (by omega))]; exact h.c0, by rw [cell_set_other _ (.inr (by omega))]; exact h.c1, by rw [cell_set_other _ (.inr (by omega))]; exact h.c2, by rw [cell_set_other _ (.inr (by omega))]; exact h.c3, by rw [cell_set_other _ (.inr (by omega))]; exact h.c4, by rw [cell_set_other _ (.inr (by omega))]; exact h.c5, by rw [cell_set_other _ (.inr (by omega))]; exact h.c6, World.cell?_setCell_same _ _ _ h.c7, by rw [cell_set_other _ (.inr (by omega))]; exact h.c8, by rw [cell_set_other _ (.inr (by omega))]; exact h.c9, fun o => by rw [World.frozen?_setCell]; exact h.f o⟩
theorem TenW.set8 {u : World} {B : Nat} {x0 x1 x2 x3 x4 x5 x6 x7 x8 x9 : Value} (h : TenW u B x0 x1 x2 x3 x4 x5 x6 x7 x8 x9) (x : Value) : TenW (u.setCell ⟨B, 8, none⟩ x) B x0 x1 x2 x3 x4 x5 x6 x7 x x9 :=
  ⟨by rw [cell_set_other _ (.inr (by omega))]; exact h.c0, by rw [cell_set_other _ (.inr (by omega))]; exact h.c1, by rw [cell_set_other _ (.inr (by omega))]; exact h.c2, by rw [cell_set_other _ (.inr (by omega))]; exact h.c3, by rw [cell_set_other _ (.inr (by omega))]; exact h.c4, by rw [cell_set_other _ (.inr (by omega))]; exact h.c5, by rw [cell_set_other _ (.inr (by omega))]; exact h.c6, by rw [cell_set_other _ (.inr (by omega))]; exact h.c7, World.cell?_setCell_same _ _ _ h.c8, by rw [cell_set_other _ (.inr (by omega))]; exact h.c9, fun o => by rw [World.frozen?_setCell]; exact h.f o⟩
theorem TenW.set9 {u : World} {B : Nat} {x0 x1 x2 x3 x4 x5 x6 x7 x8 x9 : Value} (h : TenW u B x0 x1 x2 x3 x4 x5 x6 x7 x8 x9) (x : Value) : TenW (u.setCell ⟨B, 9, none⟩ x) B x0 x1 x2 x3 x4 x5 x6 x7 x8 x :=
  ⟨by rw [cell_set_other _ (.inr (by omega))]; exact h.c0, by rw [cell_set_other _ (.inr (by omega))]; exact h.c1, by rw [cell_set_other _ (.inr (by omega))]; exact h.c2, by rw [cell_set_other _ (.inr (by omega))]; exact h.c3, by rw [cell_set_other _ (.inr (by omega))]; exact h.c4, by rw [cell_set_other _ (.inr (by omega))]; exact h.c5, by rw [cell_set_other _ (.inr (by omega))]; exact h.c6, by rw [cell_set_other _ (.inr (by omega))]; exact h.c7, by rw [cell_set_other _ (.inr (by omega))]; exact h.c8, World.cell?_setCell_same _ _ _ h.c9, fun o => by rw [World.frozen?_setCell]; exact h.f o⟩
theorem TenW.other {u : World} {B B' o : Nat} {x0 x1 x2 x3 x4 x5 x6 x7 x8 x9 : Value} (h : TenW u B x0 x1 x2 x3 x4 x5 x6 x7 x8 x9) (x : Value) (hne : B ≠ B') : TenW (u.setCell ⟨B', o, none⟩ x) B x0 x1 x2 x3 x4 x5 x6 x7 x8 x9 :=
  h.at_ (Below.heap_setCell _ _ _ _ hne)

/-- Five cells from the third on are written. -/
theorem TenW.expr {u : World} {B : Nat} {x0 x1 x2 x3 x4 x5 x6 x7 x8 x9 : Value} (h : TenW u B x0 x1 x2 x3 x4 x5 x6 x7 x8 x9) (y3 y4 y5 y6 y7 : Value) :
    ∃ u1, ((((u.setCell ⟨B, 3, none⟩ y3).setCell ⟨B, 4, none⟩ y4).setCell ⟨B, 5, none⟩ y5).setCell ⟨B, 6, none⟩ y6).setCell ⟨B, 7, none⟩ y7 = u1 ∧ TenW u1 B x0 x1 x2 y3 y4 y5 y6 y7 x8 x9 ∧ (∀ k, k ≠ B → u1.heap[k]? = u.heap[k]?) ∧ u1.heap.size = u.heap.size ∧ ∀ n w, n ≤ B → Below n w u → Below n w u1 :=
  ⟨_, rfl, ((((h.set3 _).set4 _).set5 _).set6 _).set7 _, fun k hk => by
    rw [Below.heap_setCell _ _ _ _ hk, Below.heap_setCell _ _ _ _ hk, Below.heap_setCell _ _ _ _ hk, Below.heap_setCell _ _ _ _ hk, Below.heap_setCell _ _ _ _ hk], by simp [World.setCell], fun n w hn hb =>
    ((((hb.setCell hn _).setCell hn _).setCell hn _).setCell hn _).setCell hn _⟩

/-- All ten cells are written. -/
theorem TenW.all {u : World} {B : Nat} {x0 x1 x2 x3 x4 x5 x6 x7 x8 x9 : Value} (h : TenW u B x0 x1 x2 x3 x4 x5 x6 x7 x8 x9) (y0 y1 y2 y3 y4 y5 y6 y7 y8 y9 : Value) :
    ∃ u1, (((((((((u.setCell ⟨B, 0, none⟩ y0).setCell ⟨B, 1, none⟩ y1).setCell ⟨B, 2, none⟩ y2).setCell ⟨B, 3, none⟩ y3).setCell ⟨B, 4, none⟩ y4).setCell ⟨B, 5, none⟩ y5).setCell ⟨B, 6, none⟩ y6).setCell ⟨B, 7, none⟩ y7).setCell ⟨B, 8, none⟩ y8).setCell ⟨B, 9, none⟩ y9 = u1 ∧ TenW u1 B y0 y1 y2 y3 y4 y5 y6 y7 y8 y9 ∧ (∀ k, k ≠ B → u1.heap[k]? = u.heap[k]?) ∧ u1.heap.size = u.heap.size ∧ ∀ n w, n ≤ B → Below n w u → Below n w u1 :=
  ⟨_, rfl, (((((((((h.set0 _).set1 _).set2 _).set3 _).set4 _).set5 _).set6 _).set7 _).set8 _).set9 _, fun k hk => by
    rw [Below.heap_setCell _ _ _ _ hk, Below.heap_setCell _ _ _ _ hk, Below.heap_setCell _ _ _ _ hk, Below.heap_setCell _ _ _ _ hk, Below.heap_setCell _ _ _ _ hk, Below.heap_setCell _ _ _ _ hk, Below.heap_setCell _ _ _ _ hk, Below.heap_setCell _ _ _ _ hk, Below.heap_setCell _ _ _ _ hk, Below.heap_setCell _ _ _ _ hk], by simp [World.setCell], fun n w hn hb =>
    (((((((((hb.setCell hn _).setCell hn _).setCell hn _).setCell hn _).setCell hn _).setCell hn _).setCell hn _).setCell hn _).setCell hn _).setCell hn _⟩

/-- Ten cells stored one behind another. -/
theorem store10 {u : World} {B o : Nat} (hs : ∀ x, o ≤ x → x < o + 10 → (u.cell? ⟨B, x, none⟩).isSome = true) (y0 y1 y2 y3 y4 y5 y6 y7 y8 y9 : Value) :
    ∃ u1, (((((((((u.setCell ⟨B, o, none⟩ y0).setCell ⟨B, o + 1, none⟩ y1).setCell ⟨B, o + 2, none⟩ y2).setCell ⟨B, o + 3, none⟩ y3).setCell ⟨B, o + 4, none⟩ y4).setCell ⟨B, o + 5, none⟩ y5).setCell ⟨B, o + 6, none⟩ y6).setCell ⟨B, o + 7, none⟩ y7).setCell ⟨B, o + 8, none⟩ y8).setCell ⟨B, o + 9, none⟩ y9 = u1 ∧
      (u1.cell? ⟨B, o, none⟩ = some y0 ∧ u1.cell? ⟨B, o + 1, none⟩ = some y1 ∧ u1.cell? ⟨B, o + 2, none⟩ = some y2 ∧ u1.cell? ⟨B, o + 3, none⟩ = some y3 ∧ u1.cell? ⟨B, o + 4, none⟩ = some y4 ∧ u1.cell? ⟨B, o + 5, none⟩ = some y5 ∧ u1.cell? ⟨B, o + 6, none⟩ = some y6 ∧ u1.cell? ⟨B, o + 7, none⟩ = some y7 ∧ u1.cell? ⟨B, o + 8, none⟩ = some y8 ∧ u1.cell? ⟨B, o + 9, none⟩ = some y9) ∧
      (∀ b x, b ≠ B ∨ x < o ∨ o + 10 ≤ x → u1.cell? ⟨b, x, none⟩ = u.cell? ⟨b, x, none⟩) ∧ (∀ b x, u1.frozen? ⟨b, x, none⟩ = u.frozen? ⟨b, x, none⟩) ∧ (∀ k, k ≠ B → u1.heap[k]? = u.heap[k]?) ∧ u1.heap.size = u.heap.size ∧ ∀ n w, n ≤ B → Below n w u → Below n w u1 := by
  obtain ⟨z0, h0⟩ := Option.isSome_iff_exists.mp (hs (o) (by omega) (by omega))
  obtain ⟨z1, h1⟩ := Option.isSome_iff_exists.mp (hs (o + 1) (by omega) (by omega))
  obtain ⟨z2, h2⟩ := Option.isSome_iff_exists.mp (hs (o + 2) (by omega) (by omega))
  obtain ⟨z3, h3⟩ := Option.isSome_iff_exists.mp (hs (o + 3) (by omega) (by omega))
  obtain ⟨z4, h4⟩ := Option.isSome_iff_exists.mp (hs (o + 4) (by omega) (by omega))
  obtain ⟨z5, h5⟩ := Option.isSome_iff_exists.mp (hs (o + 5) (by omega) (by omega))
  obtain ⟨z6, h6⟩ := Option.isSome_iff_exists.mp (hs (o + 6) (by omega) (by omega))
  obtain ⟨z7, h7⟩ := Option.isSome_iff_exists.mp (hs (o + 7) (by omega) (by omega))
  obtain ⟨z8, h8⟩ := Option.isSome_iff_exists.mp (hs (o + 8) (by omega) (by omega))
  obtain ⟨z9, h9⟩ := Option.isSome_iff_exists.mp (hs (o + 9) (by omega) (by omega))
  refine ⟨_, rfl, ⟨?_, ?_, ?_, ?_, ?_, ?_, ?_, ?_, ?_, ?_⟩, ?_, ?_, ?_, ?_, ?_⟩
  · rw [cell_set_other _ (.inr (by omega)), cell_set_other _ (.inr (by omega)), cell_set_other _ (.inr (by omega)), cell_set_other _ (.inr (by omega)), cell_set_other _ (.inr (by omega)), cell_set_other _ (.inr (by omega)), cell_set_other _ (.inr (by omega)), cell_set_other _ (.inr (by omega)), cell_set_other _ (.inr (by omega))]; exact World.cell?_setCell_same _ _ _ (h0)
  · rw [cell_set_other _ (.inr (by omega)), cell_set_other _ (.inr (by omega)), cell_set_other _ (.inr (by omega)), cell_set_other _ (.inr (by omega)), cell_set_other _ (.inr (by omega)), cell_set_other _ (.inr (by omega)), cell_set_other _ (.inr (by omega)), cell_set_other _ (.inr (by omega))]; exact World.cell?_setCell_same _ _ _ (by rw [cell_set_other _ (.inr (by omega))]; exact h1)
  · rw [cell_set_other _ (.inr (by omega)), cell_set_other _ (.inr (by omega)), cell_set_other _ (.inr (by omega)), cell_set_other _ (.inr (by omega)), cell_set_other _ (.inr (by omega)), cell_set_other _ (.inr (by omega)), cell_set_other _ (.inr (by omega))]; exact World.cell?_setCell_same _ _ _ (by rw [cell_set_other _ (.inr (by omega)), cell_set_other _ (.inr (by omega))]; exact h2)
  · rw [cell_set_other _ (.inr (by omega)), cell_set_other _ (.inr (by omega)), cell_set_other _ (.inr (by omega)), cell_set_other _ (.inr (by omega)), cell_set_other _ (.inr (by omega)), cell_set_other _ (.inr (by omega))]; exact World.cell?_setCell_same _ _ _ (by rw [cell_set_other _ (.inr (by omega)), cell_set_other _ (.inr (by omega)), cell_set_other _ (.inr (by omega))]; exact h3)
  · rw [cell_set_other _ (.inr (by omega)), cell_set_other _ (.inr (by omega)), cell_set_other _ (.inr (by omega)), cell_set_other _ (.inr (by omega)), cell_set_other _ (.inr (by omega))]; exact World.cell?_setCell_same _ _ _ (by rw [cell_set_other _ (.inr (by omega)), cell_set_other _ (.inr (by omega)), cell_set_other _ (.inr (by omega)), cell_set_other _ (.inr (by omega))]; exact h4)
  · rw [cell_set_other _ (.inr (by omega)), cell_set_other _ (.inr (by omega)), cell_set_other _ (.inr (by omega)), cell_set_other _ (.inr (by omega))]; exact World.cell?_setCell_same _ _ _ (by rw [cell_set_other _ (.inr (by omega)), cell_set_other _ (.inr (by omega)), cell_set_other _ (.inr (by omega)), cell_set_other _ (.inr (by omega)), cell_set_other _ (.inr (by omega))]; exact h5)
  · rw [cell_set_other _ (.inr (by omega)), cell_set_other _ (.inr (by omega)), cell_set_other _ (.inr (by omega))]; exact World.cell?_setCell_same _ _ _ (by rw [cell_set_other _ (.inr (by omega)), cell_set_other _ (.inr (by omega)), cell_set_other _ (.inr (by omega)), cell_set_other _ (.inr (by omega)), cell_set_other _ (.inr (by omega)), cell_set_other _ (.inr (by omega))]; exact h6)
  · rw [cell_set_other _ (.inr (by omega)), cell_set_other _ (.inr (by omega))]; exact World.cell?_setCell_same _ _ _ (by rw [cell_set_other _ (.inr (by omega)), cell_set_other _ (.inr (by omega)), cell_set_other _ (.inr (by omega)), cell_set_other _ (.inr (by omega)), cell_set_other _ (.inr (by omega)), cell_set_other _ (.inr (by omega)), cell_set_other _ (.inr (by omega))]; exact h7)
  · rw [cell_set_other _ (.inr (by omega))]; exact World.cell?_setCell_same _ _ _ (by rw [cell_set_other _ (.inr (by omega)), cell_set_other _ (.inr (by omega)), cell_set_other _ (.inr (by omega)), cell_set_other _ (.inr (by omega)), cell_set_other _ (.inr (by omega)), cell_set_other _ (.inr (by omega)), cell_set_other _ (.inr (by omega)), cell_set_other _ (.inr (by omega))]; exact h8)
  · exact World.cell?_setCell_same _ _ _ (by rw [cell_set_other _ (.inr (by omega)), cell_set_other _ (.inr (by omega)), cell_set_other _ (.inr (by omega)), cell_set_other _ (.inr (by omega)), cell_set_other _ (.inr (by omega)), cell_set_other _ (.inr (by omega)), cell_set_other _ (.inr (by omega)), cell_set_other _ (.inr (by omega)), cell_set_other _ (.inr (by omega))]; exact h9)
  · intro b x hx
    rw [cell_set_other _ (by omega), cell_set_other _ (by omega), cell_set_other _ (by omega), cell_set_other _ (by omega), cell_set_other _ (by omega), cell_set_other _ (by omega), cell_set_other _ (by omega), cell_set_other _ (by omega), cell_set_other _ (by omega), cell_set_other _ (by omega)]
  · intro b x
    rw [World.frozen?_setCell, World.frozen?_setCell, World.frozen?_setCell, World.frozen?_setCell, World.frozen?_setCell, World.frozen?_setCell, World.frozen?_setCell, World.frozen?_setCell, World.frozen?_setCell, World.frozen?_setCell]
  · intro k hk
    rw [Below.heap_setCell _ _ _ _ hk, Below.heap_setCell _ _ _ _ hk, Below.heap_setCell _ _ _ _ hk, Below.heap_setCell _ _ _ _ hk, Below.heap_setCell _ _ _ _ hk, Below.heap_setCell _ _ _ _ hk, Below.heap_setCell _ _ _ _ hk, Below.heap_setCell _ _ _ _ hk, Below.heap_setCell _ _ _ _ hk, Below.heap_setCell _ _ _ _ hk]
  · simp [World.setCell]
  · intro n w hn hb
    exact (((((((((hb.setCell hn _).setCell hn _).setCell hn _).setCell hn _).setCell hn _).setCell hn _).setCell hn _).setCell hn _).setCell hn _).setCell hn _

/-- What toStmtS answers of lists of at most n. -/
def ToT (n : Nat) : Prop := ∀ (w : World) (lo hi : Nat) (v : Value) (ss : List StmtD), sizeL ss ≤ n → sizeL ss ≤ 1048576 → SR w lo hi v ss → hi ≤ w.heap.size →
  Calls Tryz.prog 6 #[v] w fun e w' => ∃ v', e = .returned v' ∧ SO w' w.heap.size w'.heap.size v' ss ∧ Below w.heap.size w w'

/-- What belongs to one statement is owned, in three ranges apart. -/
structure Own3 (w : World) (lo hi : Nat) (s : StmtD) (x y z : Value) (r : Rg) : Prop where
  lh : lo ≤ r.l ∧ r.h ≤ hi
  a : r.l ≤ r.a0 ∧ r.a1 ≤ r.h
  b : r.l ≤ r.b0 ∧ r.b1 ≤ r.h
  c : r.l ≤ r.c0 ∧ r.c1 ≤ r.h
  ab : r.a1 ≤ r.b0 ∨ r.b1 ≤ r.a0
  ac : r.a1 ≤ r.c0 ∨ r.c1 ≤ r.a0
  bc : r.b1 ≤ r.c0 ∨ r.c1 ≤ r.b0
  ka : KO w r.a0 r.a1 x s.e.kids
  kb : SO w r.b0 r.b1 y s.th
  kc : SO w r.c0 r.c1 z s.el

theorem Own3.kept {w w' : World} {lo hi : Nat} {s : StmtD} {x y z : Value} {r : Rg} (h : Own3 w lo hi s x y z r) (hk : ∀ k, lo ≤ k → k < hi → w'.heap[k]? = w.heap[k]?) : Own3 w' lo hi s x y z r := by
  obtain ⟨h1, h2, h3, h4, h5, h6, h7, h8, h9, h10⟩ := h
  exact ⟨h1, h2, h3, h4, h5, h6, h7, h8.kept fun k q1 q2 => hk k (by omega) (by omega), h9.kept fun k q1 q2 => hk k (by omega) (by omega), h10.kept fun k q1 q2 => hk k (by omega) (by omega)⟩

theorem Own3.shape {w : World} {lo hi : Nat} {s : StmtD} {x y z : Value} {r : Rg} (h : Own3 w lo hi s x y z r) : ∃ ax cx ay cy az cz, x = .slice ax s.e.kids.length cx ∧ y = .slice ay s.th.length cy ∧ z = .slice az s.el.length cz := by
  obtain ⟨ax, cx, h1, _, _⟩ := h.ka.kr.shape
  obtain ⟨ay, cy, h2, _, _⟩ := h.kb.sr.shape
  obtain ⟨az, cz, h3, _, _⟩ := h.kc.sr.shape
  exact ⟨ax, cx, ay, cy, az, cz, h1, h2, h3⟩

set_option maxRecDepth 100000 in
set_option maxHeartbeats 4000000 in
theorem toStmt_of {n : Nat} (H : ∀ m, m < n → ToT m) (w : World) (lo hi : Nat) (s : StmtD) (x y z : Value) (hn : sizeL s.th < n ∧ sizeL s.el < n) (hm : manyL s.e.kids + sizeL s.th + sizeL s.el ≤ 1048576) (hx : KR w lo hi x s.e.kids) (hy : SR w lo hi y s.th) (hz : SR w lo hi z s.el) (hhi : hi ≤ w.heap.size) :
    Calls Tryz.prog 15 #[stmtV s x y z] w fun e w' => ∃ x' y' z' r, e = .returned (stmtV s x' y' z') ∧ Own3 w' w.heap.size w'.heap.size s x' y' z' r ∧ Below w.heap.size w w' := by
  have HX : Hid (KR w lo hi x s.e.kids ∧ SR w lo hi y s.th ∧ SR w lo hi z s.el) := ⟨hx, hy, hz⟩
  obtain ⟨ax, cx, rfl, _, _⟩ := hx.shape
  obtain ⟨ay, cy, rfl, _, _⟩ := hy.shape
  obtain ⟨az, cz, rfl, _, _⟩ := hz.shape
  clear hx hy hz
  unfold stmtV
  go_enter Tryz.func15, Tryz.ntmps15
  go_wp2_with fail
  obtain ⟨u0, hu0, G0, X0, R0, O0, S0⟩ : ∃ u0, ((w.alloc (.cells #[.int .i64 s.k, .int .i64 s.tk, .int .i64 s.ta, .int .i64 s.e.k, .int .i64 s.e.n, .int .i64 s.e.ak, .int .i64 s.e.at_, .slice ax s.e.kids.length cx, .slice ay s.th.length cy, .slice az s.el.length cz] 37)).alloc (.cells #[.int .i64 0, .int .i64 0, .int .i64 0, .int .i64 0, .int .i64 0, .int .i64 0, .int .i64 0, .slice none 0 0, .slice none 0 0, .slice none 0 0] 44)).alloc (.cells #[.int .i64 s.k, .int .i64 0, .int .i64 0, .int .i64 0, .int .i64 0, .int .i64 0, .int .i64 0, .slice none 0 0, .slice none 0 0, .slice none 0 0] 44) = u0 ∧ Below w.heap.size w u0 ∧
      TenW u0 w.heap.size (.int .i64 s.k) (.int .i64 s.tk) (.int .i64 s.ta) (.int .i64 s.e.k) (.int .i64 s.e.n) (.int .i64 s.e.ak) (.int .i64 s.e.at_) (.slice ax s.e.kids.length cx) (.slice ay s.th.length cy) (.slice az s.el.length cz) ∧ TenW u0 (w.heap.size + 1) (.int .i64 0) (.int .i64 0) (.int .i64 0) (.int .i64 0) (.int .i64 0) (.int .i64 0) (.int .i64 0) (.slice none 0 0) (.slice none 0 0) (.slice none 0 0) ∧ TenW u0 (w.heap.size + 2) (.int .i64 s.k) (.int .i64 0) (.int .i64 0) (.int .i64 0) (.int .i64 0) (.int .i64 0) (.int .i64 0) (.slice none 0 0) (.slice none 0 0) (.slice none 0 0) ∧ u0.heap.size = w.heap.size + 3 := by
    obtain ⟨w1, e1⟩ : ∃ w1, w.alloc (.cells #[.int .i64 s.k, .int .i64 s.tk, .int .i64 s.ta, .int .i64 s.e.k, .int .i64 s.e.n, .int .i64 s.e.ak, .int .i64 s.e.at_, .slice ax s.e.kids.length cx, .slice ay s.th.length cy, .slice az s.el.length cz] 37) = w1 := ⟨_, rfl⟩
    have n1 := tenW_new w (.int .i64 s.k) (.int .i64 s.tk) (.int .i64 s.ta) (.int .i64 s.e.k) (.int .i64 s.e.n) (.int .i64 s.e.ak) (.int .i64 s.e.at_) (.slice ax s.e.kids.length cx) (.slice ay s.th.length cy) (.slice az s.el.length cz) 37
    have s1 : w1.heap.size = w.heap.size + 1 := by rw [← e1]; simp
    have g1 : Below w.heap.size w w1 := by rw [← e1]; exact (Below.refl _ _).alloc (Nat.le_refl _) _
    rw [e1] at n1 ⊢
    have n2 := tenW_new w1 (.int .i64 0) (.int .i64 0) (.int .i64 0) (.int .i64 0) (.int .i64 0) (.int .i64 0) (.int .i64 0) (.slice none 0 0) (.slice none 0 0) (.slice none 0 0) 44
    obtain ⟨w2, e2⟩ : ∃ w2, w1.alloc (.cells #[.int .i64 0, .int .i64 0, .int .i64 0, .int .i64 0, .int .i64 0, .int .i64 0, .int .i64 0, .slice none 0 0, .slice none 0 0, .slice none 0 0] 44) = w2 := ⟨_, rfl⟩
    have s2 : w2.heap.size = w1.heap.size + 1 := by rw [← e2]; simp
    have g2 : Below w1.heap.size w1 w2 := by rw [← e2]; exact (Below.refl _ _).alloc (Nat.le_refl _) _
    rw [e2] at n2 ⊢
    have n3 := tenW_new w2 (.int .i64 s.k) (.int .i64 0) (.int .i64 0) (.int .i64 0) (.int .i64 0) (.int .i64 0) (.int .i64 0) (.slice none 0 0) (.slice none 0 0) (.slice none 0 0) 44
    have g3 : Below w2.heap.size w2 (w2.alloc (.cells #[.int .i64 s.k, .int .i64 0, .int .i64 0, .int .i64 0, .int .i64 0, .int .i64 0, .int .i64 0, .slice none 0 0, .slice none 0 0, .slice none 0 0] 44)) := (Below.refl _ _).alloc (Nat.le_refl _) _
    refine ⟨_, rfl, below_two (below_two g1 g2) g3, (n1.under g2 (by omega)).under g3 (by omega), ?_, ?_, by rw [World.size_alloc]; omega⟩
    · have := n2.under g3 (by omega); rwa [s1] at this
    · have := n3; rwa [s2, s1] at this
  rw [hu0]
  clear hu0
  refine (toAddr_any _ ⟨s.tk, s.ta⟩).mono ?_
  rintro e1 u1 ⟨rfl, g1⟩
  have S1 := g1.size
  have G1 := G0.trans (g1.mono (by omega))
  have X1 := X0.under g1 (by omega)
  have R1 := R0.under g1 (by omega)
  have O1 := O0.under g1 (by omega)
  have ev : AddrD.val ⟨s.tk, s.ta⟩ = .agg #[.int .i64 s.tk, .int .i64 s.ta] := rfl
  rw [ev]
  clear ev g1 X0 R0 O0 G0
  obtain ⟨u2, hu2, G2, X2, R2, O2, S2⟩ : ∃ u2, (u1.setCell ⟨w.heap.size + 2, 1, none⟩ (.int .i64 s.tk)).setCell ⟨w.heap.size + 2, 2, none⟩ (.int .i64 s.ta) = u2 ∧ Below w.heap.size w u2 ∧ TenW u2 w.heap.size (.int .i64 s.k) (.int .i64 s.tk) (.int .i64 s.ta) (.int .i64 s.e.k) (.int .i64 s.e.n) (.int .i64 s.e.ak) (.int .i64 s.e.at_) (.slice ax s.e.kids.length cx) (.slice ay s.th.length cy) (.slice az s.el.length cz) ∧ TenW u2 (w.heap.size + 1) (.int .i64 0) (.int .i64 0) (.int .i64 0) (.int .i64 0) (.int .i64 0) (.int .i64 0) (.int .i64 0) (.slice none 0 0) (.slice none 0 0) (.slice none 0 0) ∧ TenW u2 (w.heap.size + 2) (.int .i64 s.k) (.int .i64 s.tk) (.int .i64 s.ta) (.int .i64 0) (.int .i64 0) (.int .i64 0) (.int .i64 0) (.slice none 0 0) (.slice none 0 0) (.slice none 0 0) ∧ u2.heap.size = u1.heap.size :=
    ⟨_, rfl, (G1.setCell (by show w.heap.size ≤ w.heap.size + 2; omega) _).setCell (by show w.heap.size ≤ w.heap.size + 2; omega) _, (X1.other _ (by omega)).other _ (by omega), (R1.other _ (by omega)).other _ (by omega), (O1.set1 _).set2 _, by simp [World.setCell]⟩
  have HU2 : Hid (_ = u2) := hu2
  have HX2 : Hid (TenW u2 w.heap.size (.int .i64 s.k) (.int .i64 s.tk) (.int .i64 s.ta) (.int .i64 s.e.k) (.int .i64 s.e.n) (.int .i64 s.e.ak) (.int .i64 s.e.at_) (.slice ax s.e.kids.length cx) (.slice ay s.th.length cy) (.slice az s.el.length cz)) := X2
  have HR2 : Hid (TenW u2 (w.heap.size + 1) (.int .i64 0) (.int .i64 0) (.int .i64 0) (.int .i64 0) (.int .i64 0) (.int .i64 0) (.int .i64 0) (.slice none 0 0) (.slice none 0 0) (.slice none 0 0)) := R2
  have HO2 : Hid (TenW u2 (w.heap.size + 2) (.int .i64 s.k) (.int .i64 s.tk) (.int .i64 s.ta) (.int .i64 0) (.int .i64 0) (.int .i64 0) (.int .i64 0) (.slice none 0 0) (.slice none 0 0) (.slice none 0 0)) := O2
  obtain ⟨a0, a1, a2, a3, a4, a5, a6, a7, a8, a9, af⟩ := id X1
  obtain ⟨o0, o1, o2, o3, o4, o5, o6, o7, o8, o9, of⟩ := id O1
  have of1 := of 1
  have of2 := of 2
  clear hu2 X2 R2 O2 X1 R1 O1 of af
  go_wp2_with fail
  rw [show w.heap.size + 1 + 1 = w.heap.size + 2 from rfl, HU2.out]
  clear HU2 G1 a0 a1 a2 a3 a4 a5 a6 a7 a8 a9 o0 o1 o2 o3 o4 o5 o6 o7 o8 o9 of1 of2
  refine (toExpr_any _ lo hi _ s.e ⟨_, rfl, HX.out.1.under G2 hhi⟩ (by omega) (by omega)).mono ?_
  rintro e2 u3 ⟨v3, rfl, K3, g3⟩
  obtain ⟨s3, rfl, K3⟩ := K3
  obtain ⟨ax', cx', rfl, _, _⟩ := K3.kr.shape
  have S3 := g3.size
  have G3 := G2.trans (g3.mono (by omega))
  have X3 := HX2.out.under g3 (by omega)
  have R3 := HR2.out.under g3 (by omega)
  have O3 := HO2.out.under g3 (by omega)
  obtain ⟨u4, hu4, O4, N4, S4, B4⟩ := O3.expr (.int .i64 s.e.k) (.int .i64 s.e.n) (.int .i64 s.e.ak) (.int .i64 s.e.at_) (.slice ax' s.e.kids.length cx')
  have X4 := X3.at_ (N4 _ (by omega))
  have R4 := R3.at_ (N4 _ (by omega))
  have K4 := K3.kept fun q h1 h2 => N4 q (by omega)
  have G4 := B4 w.heap.size w (by omega) G3
  have HU4 : Hid (_ = u4) := hu4
  have HX4 : Hid (TenW u4 w.heap.size (.int .i64 s.k) (.int .i64 s.tk) (.int .i64 s.ta) (.int .i64 s.e.k) (.int .i64 s.e.n) (.int .i64 s.e.ak) (.int .i64 s.e.at_) (.slice ax s.e.kids.length cx) (.slice ay s.th.length cy) (.slice az s.el.length cz)) := X4
  have HR4 : Hid (TenW u4 (w.heap.size + 1) (.int .i64 0) (.int .i64 0) (.int .i64 0) (.int .i64 0) (.int .i64 0) (.int .i64 0) (.int .i64 0) (.slice none 0 0) (.slice none 0 0) (.slice none 0 0)) := R4
  have HO4 : Hid (TenW u4 (w.heap.size + 2) (.int .i64 s.k) (.int .i64 s.tk) (.int .i64 s.ta) (.int .i64 s.e.k) (.int .i64 s.e.n) (.int .i64 s.e.ak) (.int .i64 s.e.at_) (.slice ax' s.e.kids.length cx') (.slice none 0 0) (.slice none 0 0)) := O4
  have HK4 : Hid (KO u4 u2.heap.size u3.heap.size (.slice ax' s.e.kids.length cx') s.e.kids) := K4
  obtain ⟨a0, a1, a2, a3, a4, a5, a6, a7, a8, a9, af⟩ := id X3
  obtain ⟨o0, o1, o2, o3, o4, o5, o6, o7, o8, o9, of⟩ := id O3
  have of3 := of 3
  have of4 := of 4
  have of5 := of 5
  have of6 := of 6
  have of7 := of 7
  clear hu4 X4 R4 O4 N4 B4 X3 R3 O3 K3 K4 g3 G3 HX2 HR2 HO2 G2 of af
  go_wp2_with fail
  rw [show w.heap.size + 1 + 1 = w.heap.size + 2 from rfl, HU4.out]
  clear HU4 a0 a1 a2 a3 a4 a5 a6 a7 a8 a9 o0 o1 o2 o3 o4 o5 o6 o7 o8 o9 of3 of4 of5 of6 of7
  refine (H _ hn.1 _ lo hi _ s.th (Nat.le_refl _) (by omega) (HX.out.2.1.under G4 hhi) (by omega)).mono ?_
  rintro e3 u5 ⟨v5, rfl, K5, g5⟩
  obtain ⟨ay', cy', rfl, _, _⟩ := K5.sr.shape
  have S5 := g5.size
  have G5 := G4.trans (g5.mono (by omega))
  have X5 := HX4.out.under g5 (by omega)
  have R5 := HR4.out.under g5 (by omega)
  have O5 := HO4.out.under g5 (by omega)
  have KA5 := HK4.out.under g5 (by omega)
  obtain ⟨u6, hu6⟩ : ∃ u6, u5.setCell ⟨w.heap.size + 2, 8, none⟩ (.slice ay' s.th.length cy') = u6 := ⟨_, rfl⟩
  have N6 : ∀ k, k ≠ w.heap.size + 2 → u6.heap[k]? = u5.heap[k]? := fun k hk => by rw [← hu6]; exact Below.heap_setCell _ _ _ _ hk
  have S6 : u6.heap.size = u5.heap.size := by rw [← hu6]; simp
  have O6 := O5.set8 (.slice ay' s.th.length cy')
  have G6 := G5.setCell (p := ⟨w.heap.size + 2, 8, none⟩) (by show w.heap.size ≤ w.heap.size + 2; omega) (.slice ay' s.th.length cy')
  rw [hu6] at O6 G6
  have HU6 : Hid (_ = u6) := hu6
  have HX6 : Hid (TenW u6 w.heap.size (.int .i64 s.k) (.int .i64 s.tk) (.int .i64 s.ta) (.int .i64 s.e.k) (.int .i64 s.e.n) (.int .i64 s.e.ak) (.int .i64 s.e.at_) (.slice ax s.e.kids.length cx) (.slice ay s.th.length cy) (.slice az s.el.length cz)) := X5.at_ (N6 _ (by omega))
  have HR6 : Hid (TenW u6 (w.heap.size + 1) (.int .i64 0) (.int .i64 0) (.int .i64 0) (.int .i64 0) (.int .i64 0) (.int .i64 0) (.int .i64 0) (.slice none 0 0) (.slice none 0 0) (.slice none 0 0)) := R5.at_ (N6 _ (by omega))
  have HO6 : Hid (TenW u6 (w.heap.size + 2) (.int .i64 s.k) (.int .i64 s.tk) (.int .i64 s.ta) (.int .i64 s.e.k) (.int .i64 s.e.n) (.int .i64 s.e.ak) (.int .i64 s.e.at_) (.slice ax' s.e.kids.length cx') (.slice ay' s.th.length cy') (.slice none 0 0)) := O6
  have HK6 : Hid (KO u6 u2.heap.size u3.heap.size (.slice ax' s.e.kids.length cx') s.e.kids ∧ SO u6 u4.heap.size u5.heap.size (.slice ay' s.th.length cy') s.th) := ⟨KA5.kept fun q h1 h2 => N6 q (by omega), K5.kept fun q h1 h2 => N6 q (by omega)⟩
  obtain ⟨a0, a1, a2, a3, a4, a5, a6, a7, a8, a9, af⟩ := id X5
  obtain ⟨o0, o1, o2, o3, o4, o5, o6, o7, o8, o9, of⟩ := id O5
  have of8 := of 8
  clear hu6 O6 N6 X5 R5 O5 K5 KA5 g5 G5 HX4 HR4 HO4 HK4 G4 of af
  go_wp2_with fail
  rw [show w.heap.size + 1 + 1 = w.heap.size + 2 from rfl, HU6.out]
  clear HU6 a0 a1 a2 a3 a4 a5 a6 a7 a8 a9 o0 o1 o2 o3 o4 o5 o6 o7 o8 o9 of8
  refine (H _ hn.2 _ lo hi _ s.el (Nat.le_refl _) (by omega) (HX.out.2.2.under G6 hhi) (by omega)).mono ?_
  rintro e4 u7 ⟨v7, rfl, K7, g7⟩
  obtain ⟨az', cz', rfl, _, _⟩ := K7.sr.shape
  have S7 := g7.size
  have G7 := G6.trans (g7.mono (by omega))
  have R7 := HR6.out.under g7 (by omega)
  have O7 := HO6.out.under g7 (by omega)
  have KA7 := HK6.out.1.under g7 (by omega)
  have KB7 := HK6.out.2.under g7 (by omega)
  obtain ⟨u8, hu8⟩ : ∃ u8, u7.setCell ⟨w.heap.size + 2, 9, none⟩ (.slice az' s.el.length cz') = u8 := ⟨_, rfl⟩
  have N8 : ∀ k, k ≠ w.heap.size + 2 → u8.heap[k]? = u7.heap[k]? := fun k hk => by rw [← hu8]; exact Below.heap_setCell _ _ _ _ hk
  have S8 : u8.heap.size = u7.heap.size := by rw [← hu8]; simp
  have O8 := O7.set9 (.slice az' s.el.length cz')
  have G8 := G7.setCell (p := ⟨w.heap.size + 2, 9, none⟩) (by show w.heap.size ≤ w.heap.size + 2; omega) (.slice az' s.el.length cz')
  rw [hu8] at O8 G8
  have R8 := R7.at_ (N8 _ (by omega))
  obtain ⟨u9, hu9, R9, N9, S9, B9⟩ := R8.all (.int .i64 s.k) (.int .i64 s.tk) (.int .i64 s.ta) (.int .i64 s.e.k) (.int .i64 s.e.n) (.int .i64 s.e.ak) (.int .i64 s.e.at_) (.slice ax' s.e.kids.length cx') (.slice ay' s.th.length cy') (.slice az' s.el.length cz')
  have G9 := B9 w.heap.size w (by omega) G8
  have HO : Hid (Own3 u9 w.heap.size u9.heap.size s (.slice ax' s.e.kids.length cx') (.slice ay' s.th.length cy') (.slice az' s.el.length cz') ⟨w.heap.size, u9.heap.size, u2.heap.size, u3.heap.size, u4.heap.size, u5.heap.size, u6.heap.size, u7.heap.size⟩) :=
    ⟨by simp, by simp only; omega, by simp only; omega, by simp only; omega, by simp only; omega, by simp only; omega, by simp only; omega, (KA7.kept fun q h1 h2 => N8 q (by (try simp only at *); omega)).kept fun q h1 h2 => N9 q (by (try simp only at *); omega), (KB7.kept fun q h1 h2 => N8 q (by (try simp only at *); omega)).kept fun q h1 h2 => N9 q (by (try simp only at *); omega), (K7.kept fun q h1 h2 => N8 q (by (try simp only at *); omega)).kept fun q h1 h2 => N9 q (by (try simp only at *); omega)⟩
  have HU8 : Hid (_ = u8) := hu8
  have HU9 : Hid (_ = u9) := hu9
  have HR9 : Hid (TenW u9 (w.heap.size + 1) (.int .i64 s.k) (.int .i64 s.tk) (.int .i64 s.ta) (.int .i64 s.e.k) (.int .i64 s.e.n) (.int .i64 s.e.ak) (.int .i64 s.e.at_) (.slice ax' s.e.kids.length cx') (.slice ay' s.th.length cy') (.slice az' s.el.length cz')) := R9
  have HG9 : Hid (Below w.heap.size w u9) := G9
  have hne : ¬ (w.heap.size + 1 = w.heap.size + 2) := by omega
  obtain ⟨a0, a1, a2, a3, a4, a5, a6, a7, a8, a9, af⟩ := id R7
  obtain ⟨o0, o1, o2, o3, o4, o5, o6, o7, o8, o9, of⟩ := id O7
  have of9 := of 9
  have af0 := af 0
  have af1 := af 1
  have af2 := af 2
  have af3 := af 3
  have af4 := af 4
  have af5 := af 5
  have af6 := af 6
  have af7 := af 7
  have af8 := af 8
  have af9 := af 9
  clear hu8 hu9 R9 G9 O8 N8 N9 B9 R8 G8 R7 O7 K7 KA7 KB7 g7 G7 HX6 HR6 HO6 HK6 G6 of af
  go_wp2
  rw [HU8.out, HU9.out]
  obtain ⟨r0, r1, r2, r3, r4, r5, r6, r7, r8, r9, _⟩ := HR9.out
  exact bodyPost_ret (v := .agg #[.int .i64 s.k, .int .i64 s.tk, .int .i64 s.ta, .int .i64 s.e.k, .int .i64 s.e.n, .int .i64 s.e.ak, .int .i64 s.e.at_, .slice ax' s.e.kids.length cx', .slice ay' s.th.length cy', .slice az' s.el.length cz']) (by simp [results, Tryz.results15, go_sem, r0, r1, r2, r3, r4, r5, r6, r7, r8, r9]) rfl ⟨_, _, _, _, rfl, HO.out, HG9.out⟩

theorem info_stmt : (Tryz.prog.info? 44).map (fun i => (i.zero, i.size, i.bytes)) = some (some (.agg #[.int .i64 0, .int .i64 0, .int .i64 0, .int .i64 0, .int .i64 0, .int .i64 0, .int .i64 0, .slice none 0 0, .slice none 0 0, .slice none 0 0]), 10, 128) := by kernel_rfl

/-- What holds as toStmtS has copied j of them. -/
structure ToTI (w : World) (ss : List StmtD) (j : Nat) (wr : World) : Prop where
  below : Below w.heap.size w wr
  size : w.heap.size < wr.heap.size
  some_ : ∀ x, x < ss.length * 10 → (wr.cell? ⟨w.heap.size, x, none⟩).isSome = true
  frozen : ∀ x, wr.frozen? ⟨w.heap.size, x, none⟩ = false
  done : ∃ (x y z : Nat → Value) (r : Nat → Rg), (∀ i s, i < j → ss[i]? = some s → Cell10 wr w.heap.size (i * 10) s (x i) (y i) (z i) ∧ Own3 wr (w.heap.size + 1) wr.heap.size s (x i) (y i) (z i) (r i)) ∧ ∀ i i', i < i' → i' < j → (r i).h ≤ (r i').l

theorem Own3.wide {w : World} {lo hi lo' hi' : Nat} {s : StmtD} {x y z : Value} {r : Rg} (h : Own3 w lo hi s x y z r) (h1 : lo' ≤ lo) (h2 : hi ≤ hi') : Own3 w lo' hi' s x y z r := by
  obtain ⟨q1, q2, q3, q4, q5, q6, q7, q8, q9, q10⟩ := h
  exact ⟨by omega, q2, q3, q4, q5, q6, q7, q8, q9, q10⟩

theorem ToTI.so {w wr : World} {ss : List StmtD} (h : ToTI w ss ss.length wr) (hm : ss.length ≤ maxLen) : SO wr w.heap.size wr.heap.size (.slice (some ⟨w.heap.size, 0, none⟩) ss.length ss.length) ss := by
  obtain ⟨hb, hs, hsm, hf, x, y, z, r, h1, h3⟩ := h
  by_cases he : ss = []
  · subst he; exact .nil _ _ _ _ hm
  · have key : ∀ i s, ss[i]? = some s → i < ss.length := fun i s hi => (List.getElem?_eq_some_iff.mp hi).1
    refine .cons _ _ w.heap.size 0 ss.length ss x y z r he (Nat.le_refl _) hm (Nat.le_refl _) hs (fun o => by rw [Nat.zero_add]; exact hf o) (fun i e hie => ?_) (fun i hi => ?_) (fun i i' hlt hi' => .inl (h3 i i' hlt hi')) (fun i e hie => (h1 i e (key i e hie) hie).2.ka) (fun i e hie => (h1 i e (key i e hie) hie).2.kb) fun i e hie => (h1 i e (key i e hie) hie).2.kc
    · rw [Nat.zero_add]; exact (h1 i e (key i e hie) hie).1
    · obtain ⟨q1, q2, q3, q4, q5, q6, q7, _, _, _⟩ := (h1 i ss[i] hi (List.getElem?_eq_getElem hi)).2
      exact ⟨by omega, by omega, by omega, q2, q3, q4, q5, q6, q7⟩

theorem ToTI.next {w wr w1 u : World} {ss : List StmtD} {j : Nat} {s : StmtD} {x y z : Value} {r : Rg} (h : ToTI w ss j wr) (he : ss[j]? = some s) (hb : Below wr.heap.size wr w1) (hk : Own3 w1 wr.heap.size w1.heap.size s x y z r)
    (hc : Cell10 u w.heap.size (j * 10) s x y z)
    (ho : ∀ b x, b ≠ w.heap.size ∨ x < j * 10 ∨ j * 10 + 10 ≤ x → u.cell? ⟨b, x, none⟩ = w1.cell? ⟨b, x, none⟩) (hf : ∀ b x, u.frozen? ⟨b, x, none⟩ = w1.frozen? ⟨b, x, none⟩) (hh : ∀ k, k ≠ w.heap.size → u.heap[k]? = w1.heap[k]?) (hz : u.heap.size = w1.heap.size)
    (hbl : ∀ n w', n ≤ w.heap.size → Below n w' w1 → Below n w' u) : ToTI w ss (j + 1) u := by
  obtain ⟨hb0, hs, hsm, hfr, xs, ys, zs, rs, h1, h3⟩ := h
  have hs1 := hb.size
  have hcell : ∀ x, w1.cell? ⟨w.heap.size, x, none⟩ = wr.cell? ⟨w.heap.size, x, none⟩ := fun x => hb.cell (p := ⟨w.heap.size, x, none⟩) hs
  refine ⟨hbl _ _ (Nat.le_refl _) (hb0.trans (hb.mono (by omega))), by omega, fun q hq => ?_, fun q => ?_, fun i => if i = j then x else xs i, fun i => if i = j then y else ys i, fun i => if i = j then z else zs i, fun i => if i = j then r else rs i, fun i e' hi hie => ?_, fun i i' hlt hi' => ?_⟩
  · by_cases hin : j * 10 ≤ q ∧ q < j * 10 + 10
    · obtain ⟨c0, c1, c2, c3, c4, c5, c6, c7, c8, c9⟩ := hc
      obtain rfl | rfl | rfl | rfl | rfl | rfl | rfl | rfl | rfl | rfl : q = j * 10 ∨ q = j * 10 + 1 ∨ q = j * 10 + 2 ∨ q = j * 10 + 3 ∨ q = j * 10 + 4 ∨ q = j * 10 + 5 ∨ q = j * 10 + 6 ∨ q = j * 10 + 7 ∨ q = j * 10 + 8 ∨ q = j * 10 + 9 := by omega
      · rw [c0]; rfl
      · rw [c1]; rfl
      · rw [c2]; rfl
      · rw [c3]; rfl
      · rw [c4]; rfl
      · rw [c5]; rfl
      · rw [c6]; rfl
      · rw [c7]; rfl
      · rw [c8]; rfl
      · rw [c9]; rfl
    · rw [ho _ _ (by omega), hcell]; exact hsm q hq
  · rw [hf, hb.frozen (p := ⟨w.heap.size, q, none⟩) hs]; exact hfr q
  · by_cases ej : i = j
    · subst ej
      rw [he] at hie
      cases hie
      simp only [if_true]
      exact ⟨hc, (hk.kept fun q q1 q2 => hh q (by omega)).wide (by omega) (by omega)⟩
    · simp only [if_neg ej]
      have hij : i < j := by omega
      obtain ⟨d, dk⟩ := h1 i e' hij hie
      refine ⟨⟨?_, ?_, ?_, ?_, ?_, ?_, ?_, ?_, ?_, ?_⟩, (dk.kept fun q q1 q2 => ?_).wide (Nat.le_refl _) (by omega)⟩
      · rw [ho _ _ (by omega), hcell]; exact d.c0
      · rw [ho _ _ (by omega), hcell]; exact d.c1
      · rw [ho _ _ (by omega), hcell]; exact d.c2
      · rw [ho _ _ (by omega), hcell]; exact d.c3
      · rw [ho _ _ (by omega), hcell]; exact d.c4
      · rw [ho _ _ (by omega), hcell]; exact d.c5
      · rw [ho _ _ (by omega), hcell]; exact d.c6
      · rw [ho _ _ (by omega), hcell]; exact d.c7
      · rw [ho _ _ (by omega), hcell]; exact d.c8
      · rw [ho _ _ (by omega), hcell]; exact d.c9
      · rw [hh q (by omega)]; exact hb.block q (by omega)
  · by_cases ej : i' = j
    · have hne : i ≠ j := by omega
      simp only [if_pos ej, if_neg hne]
      have hil : i < ss.length := by have := (List.getElem?_eq_some_iff.mp he).1; omega
      have q1 := (h1 i ss[i] (by omega) (List.getElem?_eq_getElem hil)).2.lh
      have q2 := hk.lh
      omega
    · have hne : i ≠ j := by omega
      simp only [if_neg ej, if_neg hne]
      exact h3 i i' hlt (by omega)

set_option maxRecDepth 100000 in
set_option maxHeartbeats 4000000 in
theorem toStmtS_step {n : Nat} (H : ∀ m, m < n → ToT m) : ToT n := by
  intro w lo hi v ss hn hm h hhi
  obtain ⟨ad, cap, rfl, hc1, hc2⟩ := h.shape
  have hlm := length_le_sizeL ss
  have hmx : ss.length ≤ 1048576 := by omega
  obtain ⟨i0, hi0, hz0, hz1, hz2⟩ := info_parts info_stmt
  have HK : Hid (SR w lo hi (.slice ad ss.length cap) ss) := h
  have HM : Hid (sizeL ss ≤ 1048576 ∧ sizeL ss ≤ n) := ⟨hm, hn⟩
  clear h hlm hm hn hc1 hc2
  go_enter Tryz.func6, Tryz.ntmps6
  go_wp2_with (at_make; refine wpList_make_full _ rfl _ _ 24 rfl w.heap.size 44 i0 (.agg #[.int .i64 0, .int .i64 0, .int .i64 0, .int .i64 0, .int .i64 0, .int .i64 0, .int .i64 0, .slice none 0 0, .slice none 0 0, .slice none 0 0]) 10 Tryz.underlying24 hi0 hz0 hz1 .i64 .i64 _ _ ss.length rfl rfl rfl rfl (by rw [hz2]; omega) (by unfold maxLen; omega) (Nat.le_refl _) ?_; intro w1 hown hgrow)
  have hI : ToTI w ss 0 w1 := by
    have hb1 : Below w.heap.size w w1 := (Below.refl _ _).grown hgrow (Nat.le_refl _) (fun k h => by cases h)
    refine ⟨hb1, hown.2.elim (fun h => by simp at h) fun ⟨g, cap, cur, hv, hg, hh, _⟩ => ?_, fun x hx => ?_, fun x => hown.frozenAt x, fun _ => .slice none 0 0, fun _ => .slice none 0 0, fun _ => .slice none 0 0, fun _ => ⟨0, 0, 0, 0, 0, 0, 0, 0⟩, fun i e hi => by omega, fun i i' h1 h2 => by omega⟩
    · simp only [Value.slice.injEq, Option.some.injEq, Addr.mk.injEq, and_true, true_and] at hv
      obtain ⟨rfl, _⟩ := hv
      exact (Array.getElem?_eq_some_iff.mp hh).1
    · rw [hown.cellAt x hx]
      have hl := hown.1
      rw [List.getElem?_eq_getElem (by omega)]
      rfl
  clear hown hgrow hz0 hz1 hz2 hi0
  go_loopw [4] (fun i wr => ∃ j : Nat, j ≤ ss.length ∧ i = .int .i64 j ∧ ToTI w ss j wr) (fun i _ => ss.length - (intOf i).toNat)
  case atStart => exact ⟨0, Nat.zero_le _, rfl, hI⟩
  case round =>
    clear hI
    obtain ⟨j, hj, rfl, hI⟩ := hrel
    by_cases hlt : j < ss.length
    · obtain ⟨s, he⟩ : ∃ s, ss[j]? = some s := ⟨ss[j], List.getElem?_eq_getElem hlt⟩
      obtain ⟨b, off, cap', x, y, z, hv, hb1, hb2, h5, hkx, hky, hkz⟩ := HK.out.at_ he
      simp only [Value.slice.injEq, true_and] at hv
      obtain ⟨rfl, rfl⟩ := hv
      have hb := hI.below
      obtain ⟨c0, c1, c2, c3, c4, c5, c6, c7, c8, c9⟩ := h5.kept (hb.block b (by omega))
      have hkl := stmt_lt he
      have hmm := HM.out
      have hz := toStmt_of (n := n) H wr lo hi s x y z (by omega) (by omega) (hkx.under hb hhi) (hky.under hb hhi) (hkz.under hb hhi) (Nat.le_trans hhi hb.size)
      unfold stmtV at hz
      have HI : Hid (ToTI w ss j wr) := hI
      have HE : Hid (ss[j]? = some s) := he
      obtain ⟨ax, cx, rfl, _, _⟩ := hkx.shape
      obtain ⟨ay, cy, rfl, _, _⟩ := hky.shape
      obtain ⟨az, cz, rfl, _, _⟩ := hkz.shape
      clear hkx hky hkz hI hb hkl hmm he
      go_wp2_with fail
      refine hz.mono ?_
      rintro e1 w2 ⟨x', y', z', r, rfl, K2, g2⟩
      obtain ⟨ax', cx', ay', cy', az', cz', rfl, rfl, rfl⟩ := K2.shape
      have hI := HI.out
      have hsm : ∀ x, j * 10 ≤ x → x < j * 10 + 10 → (w2.cell? ⟨w.heap.size, x, none⟩).isSome = true := fun x h1 h2 => by
        rw [g2.cell (p := ⟨w.heap.size, x, none⟩) hI.size]; exact hI.some_ x (by omega)
      have hfz : ∀ x, w2.frozen? ⟨w.heap.size, x, none⟩ = false := fun x => by
        rw [g2.frozen (p := ⟨w.heap.size, x, none⟩) hI.size]; exact hI.frozen x
      obtain ⟨u, hu, ⟨k0, k1, k2, k3, k4, k5, k6, k7, k8, k9⟩, ho, hff, hh, hzz, hbl⟩ := store10 hsm (.int .i64 s.k) (.int .i64 s.tk) (.int .i64 s.ta) (.int .i64 s.e.k) (.int .i64 s.e.n) (.int .i64 s.e.ak) (.int .i64 s.e.at_) (.slice ax' s.e.kids.length cx') (.slice ay' s.th.length cy') (.slice az' s.el.length cz')
      have HN : Hid (ToTI w ss (j + 1) u) := hI.next HE.out g2 K2 ⟨k0, k1, k2, k3, k4, k5, k6, k7, k8, k9⟩ ho hff hh hzz hbl
      have HU : Hid (_ = u) := hu
      obtain ⟨y0, x0⟩ := Option.isSome_iff_exists.mp (hsm (j * 10) (by omega) (by omega))
      obtain ⟨y1, x1⟩ := Option.isSome_iff_exists.mp (hsm (j * 10 + 1) (by omega) (by omega))
      obtain ⟨y2, x2⟩ := Option.isSome_iff_exists.mp (hsm (j * 10 + 2) (by omega) (by omega))
      obtain ⟨y3, x3⟩ := Option.isSome_iff_exists.mp (hsm (j * 10 + 3) (by omega) (by omega))
      obtain ⟨y4, x4⟩ := Option.isSome_iff_exists.mp (hsm (j * 10 + 4) (by omega) (by omega))
      obtain ⟨y5, x5⟩ := Option.isSome_iff_exists.mp (hsm (j * 10 + 5) (by omega) (by omega))
      obtain ⟨y6, x6⟩ := Option.isSome_iff_exists.mp (hsm (j * 10 + 6) (by omega) (by omega))
      obtain ⟨y7, x7⟩ := Option.isSome_iff_exists.mp (hsm (j * 10 + 7) (by omega) (by omega))
      obtain ⟨y8, x8⟩ := Option.isSome_iff_exists.mp (hsm (j * 10 + 8) (by omega) (by omega))
      obtain ⟨y9, x9⟩ := Option.isSome_iff_exists.mp (hsm (j * 10 + 9) (by omega) (by omega))
      have f0 := hfz (j * 10)
      have f1 := hfz (j * 10 + 1)
      have f2 := hfz (j * 10 + 2)
      have f3 := hfz (j * 10 + 3)
      have f4 := hfz (j * 10 + 4)
      have f5 := hfz (j * 10 + 5)
      have f6 := hfz (j * 10 + 6)
      have f7 := hfz (j * 10 + 7)
      have f8 := hfz (j * 10 + 8)
      have f9 := hfz (j * 10 + 9)
      clear hu ho hff hh hzz hbl hsm hfz hI K2 g2 c0 c1 c2 c3 c4 c5 c6 c7 c8 c9 k0 k1 k2 k3 k4 k5 k6 k7 k8 k9
      go_wp2
      rw [HU.out]
      go_roundw
      case rel => exact ⟨j + 1, by omega, by go_num, HN.out⟩
      case measure => simp [intOf]; omega
    · obtain rfl : j = ss.length := by omega
      have HI : Hid (ToTI w ss ss.length wr) := hI
      clear hI
      go_wp2
      go_ret
      exact ⟨_, rfl, HI.out.so (by unfold maxLen; omega), HI.out.below⟩

theorem toT (n : Nat) : ToT n := by
  induction n using Nat.strongRecOn with
  | ind n ih => exact toStmtS_step ih

theorem toStmtS_any (w : World) (lo hi : Nat) (v : Value) (ss : List StmtD) (h : SR w lo hi v ss) (hhi : hi ≤ w.heap.size) (hm : sizeL ss ≤ 1048576) :
    Calls Tryz.prog 6 #[v] w fun en w' => ∃ v', en = .returned v' ∧ SO w' w.heap.size w'.heap.size v' ss ∧ Below w.heap.size w w' :=
  toT _ w lo hi v ss (Nat.le_refl _) hm h hhi
end Go.Proofs.YtkeockippmmneaaGreat
