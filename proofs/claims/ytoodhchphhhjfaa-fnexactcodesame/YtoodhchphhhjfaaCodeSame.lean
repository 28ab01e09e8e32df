/-
  CodeSame, by the model and by the program; FnExactCodeSame walked. (Written by our generator gen_codesame.py.)
-/
import Derived.Test.YtoodhchphhhjfaaInsEq
import Derived.Test.YtoodhchphhhjfaaInsTo
import Derived.Laws.StructEq
namespace Go.Proofs.Ytoodhchphhhjfaa
open Go.ChangeShapes Go.WideShapes Go.ChangeAt Go.RowKit
set_option linter.unusedVariables false
set_option maxRecDepth 100000

theorem ins_four {x y : InsD} : decide (x = y) = (x.op == y.op && (x.n == y.n && (x.ak == y.ak && x.at_ == y.at_))) := by
  cases x; cases y; simp [Bool.decide_and]; rfl

set_option maxHeartbeats 4000000 in
theorem sCodeSame_any (w : World) (lo hi lo' hi' : Nat) (va vb : Value) (ps qs : List InsD) (ha : NR w lo hi va ps) (hb' : NR w lo' hi' vb qs) :
    Calls Try.prog 20 #[va, vb] w fun e w' => e = .returned (.bool (decide (ps = qs))) ∧ Below w.heap.size w w' := by
  obtain ⟨ad, cap, rfl, h1, h2⟩ := ha.shape
  obtain ⟨ad', cap', rfl, h1', h2'⟩ := hb'.shape
  have HK : Hid (NR w lo hi (.slice ad ps.length cap) ps ∧ NR w lo' hi' (.slice ad' qs.length cap') qs) := ⟨ha, hb'⟩
  obtain ⟨R, hR⟩ : ∃ R, decide (ps = qs) = R := ⟨_, rfl⟩
  rw [hR]
  have HR : Hid (decide (ps = qs) = R) := hR
  clear ha hb' hR
  unfold maxLen at h2 h2'
  by_cases hl : ps.length = qs.length
  · have hl2 : ((ps.length : Int) != (qs.length : Int)) = false := by simp; omega
    have HL : Hid (ps.length = qs.length) := hl
    clear hl
    go_enter Try.func20, Try.ntmps20
    go_wp2_with fail
    go_loopw [5] (fun i wr => ∃ j m : Nat, j ≤ ps.length ∧ i = .int .i64 j ∧ wr = w.drewN m ∧ ps.take j = qs.take j) (fun i _ => ps.length - (intOf i).toNat)
    case atStart => exact ⟨0, 0, Nat.zero_le _, rfl, rfl, rfl⟩
    case round =>
      obtain ⟨j, m, hj, rfl, rfl, htk⟩ := hrel
      have HT : Hid (ps.take j = qs.take j) := htk
      clear htk
      by_cases hlt : j < ps.length
      · obtain ⟨x, hx⟩ : ∃ x, ps[j]? = some x := ⟨ps[j], List.getElem?_eq_getElem hlt⟩
        have hlt' : j < qs.length := by have := HL.out; omega
        obtain ⟨y, hy⟩ : ∃ y, qs[j]? = some y := ⟨qs[j], List.getElem?_eq_getElem hlt'⟩
        obtain ⟨b, off, capx, hv, hb1, hb2, h5⟩ := HK.out.1.at_ hx
        obtain ⟨b', off', capy, hv', hb1', hb2', h5'⟩ := HK.out.2.at_ hy
        simp only [Value.slice.injEq, true_and] at hv hv'
        obtain ⟨rfl, rfl⟩ := hv
        obtain ⟨rfl, rfl⟩ := hv'
        have HX : Hid (ps[j]? = some x ∧ qs[j]? = some y) := ⟨hx, hy⟩
        clear hx hy
        obtain ⟨c0, c1, c2, c3⟩ := h5
        obtain ⟨d0, d1, d2, d3⟩ := h5'
        by_cases hxy : x = y
        · have HE : Hid (x = y) := hxy
          subst hxy
          go_wp2_with fail
          go_quiet (fail)
          go_wp2
          go_roundw
          case rel => exact ⟨j + 1, m + nq, by omega, by go_num, by simp, take_succ_ins HT.out HX.out.1 HX.out.2 rfl⟩
          case measure => simp [intOf]; omega
        · have HF : Hid (R = false) := by show R = false; rw [← HR.out]; exact decide_eq_false (ne_at_ins HX.out.1 HX.out.2 hxy)
          have h4 := ins_four (x := x) (y := y)
          rw [decide_eq_false hxy] at h4
          have hd : ((x.op == y.op) = false) ∨ ((x.op == y.op) = true ∧ (x.n == y.n) = false) ∨ ((x.op == y.op) = true ∧ (x.n == y.n) = true ∧ (x.ak == y.ak) = false) ∨ ((x.op == y.op) = true ∧ (x.n == y.n) = true ∧ (x.ak == y.ak) = true ∧ (x.at_ == y.at_) = false) := by
            revert h4
            cases (x.op == y.op) <;> cases (x.n == y.n) <;> cases (x.ak == y.ak) <;> cases (x.at_ == y.at_) <;> simp
          clear h4 hxy
          rcases hd with e1 | ⟨e1, e2⟩ | ⟨e1, e2, e3⟩ | ⟨e1, e2, e3, e4⟩
          all_goals go_wp2_with fail
          all_goals go_quiet (fail)
          all_goals go_wp2
          all_goals go_ret
          all_goals exact ⟨ret_bool HF.out.symm, below_drewN (below_drewN (Below.refl _ _) _) _⟩
      · have hje : j = ps.length := by omega
        subst hje
        have HF : Hid (R = true) := by
          show R = true
          rw [← HR.out]
          refine decide_eq_true ?_
          have := HT.out; rwa [List.take_length, HL.out, List.take_length] at this
        go_wp2
        go_ret
        exact ⟨ret_bool HF.out.symm, below_drewN (Below.refl _ _) _⟩
  · have hl2 : ((ps.length : Int) != (qs.length : Int)) = true := by simp; omega
    have HF : Hid (R = false) := by show R = false; rw [← HR.out]; exact decide_eq_false fun h => hl (by rw [h])
    go_enter Try.func20, Try.ntmps20
    go_wp2
    go_ret
    exact ⟨ret_bool HF.out.symm, Below.refl _ _⟩

set_option maxHeartbeats 4000000 in
theorem equalIns_any (w : World) (lo hi lo' hi' : Nat) (va vb : Value) (ps qs : List InsD) (ha : NR w lo hi va ps) (hb' : NR w lo' hi' vb qs) :
    Calls Try.prog 36 #[va, vb] w fun e w' => e = .returned (.bool (decide (ps = qs))) ∧ Below w.heap.size w w' := by
  obtain ⟨ad, cap, rfl, h1, h2⟩ := ha.shape
  obtain ⟨ad', cap', rfl, h1', h2'⟩ := hb'.shape
  have HK : Hid (NR w lo hi (.slice ad ps.length cap) ps ∧ NR w lo' hi' (.slice ad' qs.length cap') qs) := ⟨ha, hb'⟩
  obtain ⟨R, hR⟩ : ∃ R, decide (ps = qs) = R := ⟨_, rfl⟩
  rw [hR]
  have HR : Hid (decide (ps = qs) = R) := hR
  clear ha hb' hR
  unfold maxLen at h2 h2'
  by_cases hl : ps.length = qs.length
  · have hl2 : ((ps.length : Int) != (qs.length : Int)) = false := by simp; omega
    have HL : Hid (ps.length = qs.length) := hl
    clear hl
    go_enter Try.func36, Try.ntmps36
    go_wp2_with fail
    go_loopw [13] (fun i wr => ∃ j m : Nat, j ≤ ps.length ∧ i = .int .i64 j ∧ wr = w.drewN m ∧ ps.take j = qs.take j) (fun i _ => ps.length - (intOf i).toNat)
    case atStart => exact ⟨0, 0, Nat.zero_le _, rfl, rfl, rfl⟩
    case round =>
      obtain ⟨j, m, hj, rfl, rfl, htk⟩ := hrel
      have HT : Hid (ps.take j = qs.take j) := htk
      clear htk
      by_cases hlt : j < ps.length
      · obtain ⟨x, hx⟩ : ∃ x, ps[j]? = some x := ⟨ps[j], List.getElem?_eq_getElem hlt⟩
        have hlt' : j < qs.length := by have := HL.out; omega
        obtain ⟨y, hy⟩ : ∃ y, qs[j]? = some y := ⟨qs[j], List.getElem?_eq_getElem hlt'⟩
        obtain ⟨b, off, capx, hv, hb1, hb2, h5⟩ := HK.out.1.at_ hx
        obtain ⟨b', off', capy, hv', hb1', hb2', h5'⟩ := HK.out.2.at_ hy
        simp only [Value.slice.injEq, true_and] at hv hv'
        obtain ⟨rfl, rfl⟩ := hv
        obtain ⟨rfl, rfl⟩ := hv'
        have HX : Hid (ps[j]? = some x ∧ qs[j]? = some y) := ⟨hx, hy⟩
        clear hx hy
        obtain ⟨c0, c1, c2, c3⟩ := h5
        obtain ⟨d0, d1, d2, d3⟩ := h5'
        by_cases hxy : x = y
        · have HE : Hid (x = y) := hxy
          subst hxy
          go_wp2_with fail
          go_quiet (fail)
          go_wp2
          go_roundw
          case rel => exact ⟨j + 1, m + nq, by omega, by go_num, by simp, take_succ_ins HT.out HX.out.1 HX.out.2 rfl⟩
          case measure => simp [intOf]; omega
        · have HF : Hid (R = false) := by show R = false; rw [← HR.out]; exact decide_eq_false (ne_at_ins HX.out.1 HX.out.2 hxy)
          have h4 := ins_four (x := x) (y := y)
          rw [decide_eq_false hxy] at h4
          have hd : ((x.op == y.op) = false) ∨ ((x.op == y.op) = true ∧ (x.n == y.n) = false) ∨ ((x.op == y.op) = true ∧ (x.n == y.n) = true ∧ (x.ak == y.ak) = false) ∨ ((x.op == y.op) = true ∧ (x.n == y.n) = true ∧ (x.ak == y.ak) = true ∧ (x.at_ == y.at_) = false) := by
            revert h4
            cases (x.op == y.op) <;> cases (x.n == y.n) <;> cases (x.ak == y.ak) <;> cases (x.at_ == y.at_) <;> simp
          clear h4 hxy
          rcases hd with e1 | ⟨e1, e2⟩ | ⟨e1, e2, e3⟩ | ⟨e1, e2, e3, e4⟩
          all_goals go_wp2_with fail
          all_goals go_quiet (fail)
          all_goals go_wp2
          all_goals go_ret
          all_goals exact ⟨ret_bool HF.out.symm, below_drewN (below_drewN (Below.refl _ _) _) _⟩
      · have hje : j = ps.length := by omega
        subst hje
        have HF : Hid (R = true) := by
          show R = true
          rw [← HR.out]
          refine decide_eq_true ?_
          have := HT.out; rwa [List.take_length, HL.out, List.take_length] at this
        go_wp2
        go_ret
        exact ⟨ret_bool HF.out.symm, below_drewN (Below.refl _ _) _⟩
  · have hl2 : ((ps.length : Int) != (qs.length : Int)) = true := by simp; omega
    have HF : Hid (R = false) := by show R = false; rw [← HR.out]; exact decide_eq_false fun h => hl (by rw [h])
    go_enter Try.func36, Try.ntmps36
    go_wp2
    go_ret
    exact ⟨ret_bool HF.out.symm, Below.refl _ _⟩

theorem iCodeSame_any (w : World) (lo hi lo' hi' : Nat) (va vb : Value) (ps qs : List InsD) (ha : NR w lo hi va ps) (hb' : NR w lo' hi' vb qs) :
    Calls Try.prog 21 #[va, vb] w fun e w' => e = .returned (.bool (decide (ps = qs))) ∧ Below w.heap.size w w' := by
  have hE := equalIns_any w lo hi lo' hi' va vb ps qs ha hb'
  obtain ⟨ad, cap, rfl, h1, h2⟩ := ha.shape
  obtain ⟨ad', cap', rfl, h1', h2'⟩ := hb'.shape
  clear ha hb'
  go_enter Try.func21, Try.ntmps21
  go_wp2_with fail
  refine hE.mono ?_
  rintro e u ⟨rfl, g⟩
  clear hE
  go_wp2
  go_ret
  exact ⟨rfl, g⟩

set_option maxHeartbeats 4000000 in
theorem exactCodeSame_walk (w : World) (v0 v1 : Value) (d0 d1 : List InsD) (r0 : NR w 0 w.heap.size v0 d0) (r1 : NR w 0 w.heap.size v1 d1) :
    Calls Try.prog 5 #[v0, v1] w fun e w' => e = .returned (.bool true) ∧ Below w.heap.size w w' := by
  obtain ⟨ad, cap, rfl, _, _⟩ := r0.shape
  obtain ⟨ad', cap', rfl, _, _⟩ := r1.shape
  have R0 : Hid (NR w 0 w.heap.size (.slice ad d0.length cap) d0 ∧ NR w 0 w.heap.size (.slice ad' d1.length cap') d1) := ⟨r0, r1⟩
  have hz0 := szInsS_any w _ _ _ d0 1048576 r0 (by omega) (by omega)
  clear r0
  go_enter Try.func5, Try.ntmps5
  go_wp2_with fail
  refine hz0.mono ?_
  clear hz0
  by_cases big : (1048576 : Int) < (d0.length : Int)
  · rw [if_pos big]
    rintro e1 u1 ⟨rfl, rfl⟩
    clear r1
    go_wp2
    go_ret
    exact ⟨rfl, Below.refl _ _⟩
  rw [if_neg big]
  rintro e1 u1 ⟨rfl, rfl⟩
  have np : ¬ ((1048576 - (d0.length : Int) : Int) < 0) := by omega
  have nb : d0.length ≤ 1048576 := by omega
  obtain ⟨L, hL⟩ : ∃ L : Int, 1048576 - (d0.length : Int) = L := ⟨_, rfl⟩
  rw [hL] at np ⊢
  have hz1 := szInsS_any u1 _ _ _ d1 L r1 (by omega) (by omega)
  clear r1
  go_wp2_with fail
  refine hz1.mono ?_
  clear hz1
  by_cases big2 : L < (d1.length : Int)
  · rw [if_pos big2]
    rintro e1 u1 ⟨rfl, rfl⟩
    go_wp2
    go_ret
    exact ⟨rfl, Below.refl _ _⟩
  rw [if_neg big2]
  rintro e1 u1 ⟨rfl, rfl⟩
  have np2 : ¬ (L - (d1.length : Int) < 0) := by omega
  have nb2 : d1.length ≤ 1048576 := by omega
  obtain ⟨w0, hw0⟩ : ∃ w0, u1 = w0 := ⟨_, rfl⟩
  subst hw0
  go_wp2_with fail
  refine (toInsS_any _ _ _ _ d0 R0.out.1 (Nat.le_refl _) nb).mono ?_
  rintro e2 u2 ⟨v2, rfl, O2, g2⟩
  have s2 := g2.size
  go_wp2_with fail
  refine (toInsS_any _ _ _ _ d1 (R0.out.2.under g2 (Nat.le_refl _)) s2 nb2).mono ?_
  rintro e3 u3 ⟨v3, rfl, O3, g3⟩
  have s3 := g3.size
  have G3 := g2.trans (g3.mono s2)
  have O23 := O2.under g3 (Nat.le_refl _)
  clear g2 O2
  go_wp2_with fail
  refine (sCodeSame_any _ _ _ _ _ _ _ d0 d1 O23.nr O3.nr).mono ?_
  rintro e4 u4 ⟨rfl, g4⟩
  have s4 := g4.size
  have G4 := G3.trans (g4.mono (by omega))
  clear g4 G3 g3 O23 O3
  generalize hok : decide (d0 = d1) = ok
  go_wp2_with fail
  refine (toInsS_any _ _ _ _ d0 (R0.out.1.under G4 (Nat.le_refl _)) (by omega) nb).mono ?_
  rintro e5 u5 ⟨v5, rfl, O5, g5⟩
  have s5 := g5.size
  have G5 := G4.trans (g5.mono (by omega))
  clear g5 G4
  go_wp2_with fail
  refine (toInsS_any _ _ _ _ d1 (R0.out.2.under G5 (Nat.le_refl _)) (by omega) nb2).mono ?_
  rintro e6 u6 ⟨v6, rfl, O6, g6⟩
  have s6 := g6.size
  have G6 := G5.trans (g6.mono (by omega))
  replace O5 := O5.under g6 (Nat.le_refl _)
  clear g6 G5
  have hI := iCodeSame_any u6 _ _ _ _ _ _ d0 d1 O5.nr O6.nr
  rw [hok] at hI
  go_wp2_with fail
  refine hI.mono ?_
  clear hI
  rintro e7 u7 ⟨rfl, g7⟩
  have s7 := g7.size
  have G7 := G6.trans (g7.mono (by omega))
  replace O5 := O5.under g7 (by omega)
  replace O6 := O6.under g7 (by omega)
  clear g7 G6
  go_wp2_with fail
  refine (toInsS_any _ _ _ _ d0 (R0.out.1.under G7 (Nat.le_refl _)) (by omega) nb).mono ?_
  rintro e8 u8 ⟨v8, rfl, O8, g8⟩
  have s8 := g8.size
  have G8 := G7.trans (g8.mono (by omega))
  replace O5 := O5.under g8 (by omega)
  replace O6 := O6.under g8 (by omega)
  clear g8 G7
  go_wp2_with fail
  refine (eqInsS_any _ _ _ _ _ _ _ d0 d0 O5.nr O8.nr (by omega) (Nat.le_refl _)).mono ?_
  rintro e9 u9 ⟨r, rfl, hr, g9⟩
  obtain rfl : r = true := hr.mpr rfl
  have s9 := g9.size
  have G9 := G8.trans (g9.mono (by omega))
  replace O6 := O6.under g9 (by omega)
  clear g9 G8 O5 O8 hr
  go_wp2_with fail
  refine (toInsS_any _ _ _ _ d1 (R0.out.2.under G9 (Nat.le_refl _)) (by omega) nb2).mono ?_
  rintro e10 u10 ⟨v10, rfl, O10, g10⟩
  have s10 := g10.size
  have G10 := G9.trans (g10.mono (by omega))
  replace O6 := O6.under g10 (by omega)
  clear g10 G9
  go_wp2_with fail
  refine (eqInsS_any _ _ _ _ _ _ _ d1 d1 O6.nr O10.nr (by omega) (Nat.le_refl _)).mono ?_
  rintro e11 u11 ⟨r, rfl, hr, g11⟩
  obtain rfl : r = true := hr.mpr rfl
  have G11 := G10.trans (g11.mono (by omega))
  clear g11 G10 O6 O10 hr
  go_wp2
  go_ret
  exact ⟨rfl, G11⟩
end Go.Proofs.Ytoodhchphhhjfaa
