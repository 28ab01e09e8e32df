/-
  Chapter 10's model: what may be set (l10Writes, SlimWrites).
-/
import Derived.Test.YtkeockippmmneaaSlimDS
import Derived.Test.YtkeockippmmneaaSlimS
namespace Go.Proofs.Ytkeockippmmneaa
open Go.ChangeShapes Go.WideShapes Go.ChangeAt Go.RowKit
set_option linter.unusedVariables false
set_option maxRecDepth 100000

/-- What l10Writes answers, of a list not greater than n. -/
def WrS (n : Nat) : Prop := ∀ (w : World) (lo hi : Nat) (v : Value) (ss : List StmtD) (k t : Int), sizeL ss ≤ n → sizeL ss ≤ 1048576 → SR w lo hi v ss → hi ≤ w.heap.size →
  Calls Try.prog 37 #[v, .agg #[.int .i64 k, .int .i64 t]] w fun en w' => en = .returned (.bool (wrL k t ss)) ∧ Below w.heap.size w w'

set_option maxHeartbeats 8000000 in
theorem wrS_step {n : Nat} (H : ∀ m, m < n → WrS m) : WrS n := by
  intro w lo hi v ss k t hm hbig h hhi
  obtain ⟨ad, cap, rfl, hc1, hc2⟩ := h.shape
  have hmx : ss.length ≤ 9223372036854775807 := by unfold maxLen at hc2; omega
  have HK : Hid (SR w lo hi (.slice ad ss.length cap) ss) := h
  have HM : Hid (sizeL ss ≤ n ∧ sizeL ss ≤ 1048576) := ⟨hm, hbig⟩
  obtain ⟨r, hr⟩ : ∃ r, wrL k t ss = r := ⟨_, rfl⟩
  have HQ : Hid (r = wrL k t ss) := hr.symm
  rw [hr]
  clear h hc1 hc2 hr hm hbig
  obtain ⟨u0, hu0, G0, P0, S0⟩ : ∃ u0, w.alloc (.cells #[.int .i64 k, .int .i64 t] 28) = u0 ∧ Below w.heap.size w u0 ∧ Pr2 u0 w.heap.size (.int .i64 k) (.int .i64 t) ∧ u0.heap.size = w.heap.size + 1 :=
    ⟨_, rfl, (Below.refl _ w).alloc (Nat.le_refl _) _, ⟨World.cell?_alloc_new _ _ _ _, World.cell?_alloc_new _ _ _ _⟩, by simp⟩
  go_enter Try.func37, Try.ntmps37
  go_wp2_with fail
  try rw [hu0]
  clear hu0
  go_loopw [5] (fun i wr => ∃ j : Nat, j ≤ ss.length ∧ i = .int .i64 j ∧ Below w.heap.size w wr ∧ Pr2 wr w.heap.size (.int .i64 k) (.int .i64 t) ∧ w.heap.size + 1 ≤ wr.heap.size ∧ wrL k t (ss.take j) = false) (fun i _ => ss.length - (intOf i).toNat)
  case atStart => exact ⟨0, Nat.zero_le _, rfl, G0, P0, by omega, by rw [List.take_zero, wrL]⟩
  case round =>
    clear G0 P0 S0
    obtain ⟨j, hj, rfl, hb, P, hsz, hall⟩ := hrel
    have HA : Hid (wrL k t (ss.take j) = false) := hall
    clear hall
    by_cases hlt : j < ss.length
    · obtain ⟨s, hs⟩ : ∃ s, ss[j]? = some s := ⟨ss[j], List.getElem?_eq_getElem hlt⟩
      obtain ⟨b, off, cap', x, y, z, hv, hb1, hb2, h5, hkx, hky, hkz⟩ := HK.out.at_ hs
      simp only [Value.slice.injEq, true_and] at hv
      obtain ⟨rfl, rfl⟩ := hv
      have HS : Hid (ss[j]? = some s) := hs
      have hkl := stmt_lt hs
      have hmm := HM.out
      have HQ2 : Hid (sizeL s.th < n ∧ sizeL s.el < n ∧ sizeL s.th ≤ 1048576 ∧ sizeL s.el ≤ 1048576) := ⟨by omega, by omega, by omega, by omega⟩
      obtain ⟨c0, c1, c2, c3, c4, c5, c6, c7, c8, c9⟩ := h5.kept (hb.block b (by omega))
      obtain ⟨ax, cx, rfl, _, hx2⟩ := hkx.shape
      obtain ⟨ay, cy, rfl, _, hy2⟩ := hky.shape
      obtain ⟨az, cz, rfl, _, hz2⟩ := hkz.shape
      have HX : Hid (SR w lo hi (.slice ay s.th.length cy) s.th ∧ SR w lo hi (.slice az s.el.length cz) s.el) := ⟨hky, hkz⟩
      have hws := wrS_eq k t s
      have HW : Hid (wrS k t s = (setB k t s || (wrL k t s.th || wrL k t s.el))) := hws
      have hsb : setB k t s = ((s.k == 1) && ((s.tk == k) && (s.ta == t))) := rfl
      have HSB : Hid (setB k t s = ((s.k == 1) && ((s.tk == k) && (s.ta == t)))) := hsb
      clear hs hkx hky hkz hkl hmm hx2 hy2 hz2 h5 hws hsb
      obtain ⟨u0, hu0, G0, T0, Q0, S0⟩ : ∃ u0, wr.alloc (.cells #[.int .i64 s.k, .int .i64 s.tk, .int .i64 s.ta, .int .i64 s.e.k, .int .i64 s.e.n, .int .i64 s.e.ak, .int .i64 s.e.at_, .slice ax s.e.kids.length cx, .slice ay s.th.length cy, .slice az s.el.length cz] 61) = u0 ∧ Below wr.heap.size wr u0 ∧ TenW u0 wr.heap.size (.int .i64 s.k) (.int .i64 s.tk) (.int .i64 s.ta) (.int .i64 s.e.k) (.int .i64 s.e.n) (.int .i64 s.e.ak) (.int .i64 s.e.at_) (.slice ax s.e.kids.length cx) (.slice ay s.th.length cy) (.slice az s.el.length cz) ∧ Pr2 u0 w.heap.size (.int .i64 k) (.int .i64 t) ∧ u0.heap.size = wr.heap.size + 1 :=
        ⟨_, rfl, (Below.refl _ _).alloc (Nat.le_refl _) _, tenW_new _ _ _ _ _ _ _ _ _ _ _ _, P.below ((Below.refl _ _).alloc (Nat.le_refl _) _) (by omega), by simp⟩
      have B0 : Below w.heap.size w u0 := hb.trans (G0.mono hb.size)
      obtain ⟨d0, d1, d2, d3, d4, d5, d6, d7, d8, d9, _⟩ := id T0
      obtain ⟨p0, p1⟩ := id Q0
      have HT0 : Hid (TenW u0 wr.heap.size (.int .i64 s.k) (.int .i64 s.tk) (.int .i64 s.ta) (.int .i64 s.e.k) (.int .i64 s.e.n) (.int .i64 s.e.ak) (.int .i64 s.e.at_) (.slice ax s.e.kids.length cx) (.slice ay s.th.length cy) (.slice az s.el.length cz) ∧ Pr2 u0 w.heap.size (.int .i64 k) (.int .i64 t)) := ⟨T0, Q0⟩
      clear T0 G0 P Q0
      by_cases hset : setB k t s = true
      · have HF : Hid (r = true) := by show r = true; rw [HQ.out]; exact wrL_at HS.out (by rw [HW.out, hset]; rfl)
        have h3 := HSB.out
        rw [hset] at h3
        obtain ⟨e1, e2, e3⟩ : (s.k == 1) = true ∧ (s.tk == k) = true ∧ (s.ta == t) = true := by
          have := h3.symm
          rw [Bool.and_eq_true, Bool.and_eq_true] at this
          exact this
        clear h3 hset
        go_wp2
        go_ret
        exact ⟨ret_bool HF.out.symm, B0⟩
      · have hset : setB k t s = false := by simpa using hset
        have HW2 : Hid (wrS k t s = (wrL k t s.th || wrL k t s.el)) := by show _ = _; rw [HW.out, hset]; rfl
        cases e1 : (s.k == 1) with
        | false =>
          go_wp2_with fail
          clear hu0
          clear c0 c1 c2 c3 c4 c5 c6 c7 c8 c9 d0 d1 d2 d3 d4 d5 d6 d7 d8 d9 p0 p1
          refine (H _ HQ2.out.1 _ lo hi _ s.th k t (Nat.le_refl _) HQ2.out.2.2.1 (HX.out.1.under B0 hhi) (by omega)).mono ?_
          rintro e4 u1 ⟨rfl, g1⟩
          have S1 := g1.size
          have B1 := B0.trans (g1.mono (by omega))
          have HT1 : Hid (TenW u1 wr.heap.size (.int .i64 s.k) (.int .i64 s.tk) (.int .i64 s.ta) (.int .i64 s.e.k) (.int .i64 s.e.n) (.int .i64 s.e.ak) (.int .i64 s.e.at_) (.slice ax s.e.kids.length cx) (.slice ay s.th.length cy) (.slice az s.el.length cz) ∧ Pr2 u1 w.heap.size (.int .i64 k) (.int .i64 t)) := ⟨HT0.out.1.under g1 (by omega), HT0.out.2.below g1 (by omega)⟩
          clear g1 HT0 B0
          cases hth : wrL k t s.th with
          | true =>
            have HF : Hid (r = true) := by show r = true; rw [HQ.out]; exact wrL_at HS.out (by rw [HW2.out, hth]; rfl)
            go_wp2
            go_ret
            exact ⟨ret_bool HF.out.symm, B1⟩
          | false =>
            have c9 := HT1.out.1.c9
            obtain ⟨p0, p1⟩ := id HT1.out.2
            go_wp2_with fail
            clear c9 p0 p1
            refine (H _ HQ2.out.2.1 _ lo hi _ s.el k t (Nat.le_refl _) HQ2.out.2.2.2 (HX.out.2.under B1 hhi) (by omega)).mono ?_
            rintro e5 u2 ⟨rfl, g2⟩
            have S2 := g2.size
            have B2 := B1.trans (g2.mono (by omega))
            have P2 := HT1.out.2.below g2 (by omega)
            clear g2 HT1 B1
            cases hel : wrL k t s.el with
            | true =>
              have HF : Hid (r = true) := by show r = true; rw [HQ.out]; exact wrL_at HS.out (by rw [HW2.out, hth, hel]; rfl)
              go_wp2
              go_ret
              exact ⟨ret_bool HF.out.symm, B2⟩
            | false =>
              have HF : Hid (wrL k t (ss.take (j + 1)) = false) := by show _ = _; rw [wrL_take_succ HS.out, HA.out, HW2.out, hth, hel]; rfl
              go_wp2
              go_roundw
              case rel => exact ⟨j + 1, by omega, by go_num, B2, P2, by omega, HF.out⟩
              case measure => simp [intOf]; omega
        | true =>
          cases e2 : (s.tk == k) with
          | false =>
            go_wp2_with fail
            clear hu0
            clear c0 c1 c2 c3 c4 c5 c6 c7 c8 c9 d0 d1 d2 d3 d4 d5 d6 d7 d8 d9 p0 p1
            refine (H _ HQ2.out.1 _ lo hi _ s.th k t (Nat.le_refl _) HQ2.out.2.2.1 (HX.out.1.under B0 hhi) (by omega)).mono ?_
            rintro e4 u1 ⟨rfl, g1⟩
            have S1 := g1.size
            have B1 := B0.trans (g1.mono (by omega))
            have HT1 : Hid (TenW u1 wr.heap.size (.int .i64 s.k) (.int .i64 s.tk) (.int .i64 s.ta) (.int .i64 s.e.k) (.int .i64 s.e.n) (.int .i64 s.e.ak) (.int .i64 s.e.at_) (.slice ax s.e.kids.length cx) (.slice ay s.th.length cy) (.slice az s.el.length cz) ∧ Pr2 u1 w.heap.size (.int .i64 k) (.int .i64 t)) := ⟨HT0.out.1.under g1 (by omega), HT0.out.2.below g1 (by omega)⟩
            clear g1 HT0 B0
            cases hth : wrL k t s.th with
            | true =>
              have HF : Hid (r = true) := by show r = true; rw [HQ.out]; exact wrL_at HS.out (by rw [HW2.out, hth]; rfl)
              go_wp2
              go_ret
              exact ⟨ret_bool HF.out.symm, B1⟩
            | false =>
              have c9 := HT1.out.1.c9
              obtain ⟨p0, p1⟩ := id HT1.out.2
              go_wp2_with fail
              clear c9 p0 p1
              refine (H _ HQ2.out.2.1 _ lo hi _ s.el k t (Nat.le_refl _) HQ2.out.2.2.2 (HX.out.2.under B1 hhi) (by omega)).mono ?_
              rintro e5 u2 ⟨rfl, g2⟩
              have S2 := g2.size
              have B2 := B1.trans (g2.mono (by omega))
              have P2 := HT1.out.2.below g2 (by omega)
              clear g2 HT1 B1
              cases hel : wrL k t s.el with
              | true =>
                have HF : Hid (r = true) := by show r = true; rw [HQ.out]; exact wrL_at HS.out (by rw [HW2.out, hth, hel]; rfl)
                go_wp2
                go_ret
                exact ⟨ret_bool HF.out.symm, B2⟩
              | false =>
                have HF : Hid (wrL k t (ss.take (j + 1)) = false) := by show _ = _; rw [wrL_take_succ HS.out, HA.out, HW2.out, hth, hel]; rfl
                go_wp2
                go_roundw
                case rel => exact ⟨j + 1, by omega, by go_num, B2, P2, by omega, HF.out⟩
                case measure => simp [intOf]; omega
          | true =>
            have e3 : (s.ta == t) = false := by
              have := HSB.out
              rw [hset, e1, e2] at this
              simpa using this.symm
            go_wp2_with fail
            clear hu0
            clear c0 c1 c2 c3 c4 c5 c6 c7 c8 c9 d0 d1 d2 d3 d4 d5 d6 d7 d8 d9 p0 p1
            refine (H _ HQ2.out.1 _ lo hi _ s.th k t (Nat.le_refl _) HQ2.out.2.2.1 (HX.out.1.under B0 hhi) (by omega)).mono ?_
            rintro e4 u1 ⟨rfl, g1⟩
            have S1 := g1.size
            have B1 := B0.trans (g1.mono (by omega))
            have HT1 : Hid (TenW u1 wr.heap.size (.int .i64 s.k) (.int .i64 s.tk) (.int .i64 s.ta) (.int .i64 s.e.k) (.int .i64 s.e.n) (.int .i64 s.e.ak) (.int .i64 s.e.at_) (.slice ax s.e.kids.length cx) (.slice ay s.th.length cy) (.slice az s.el.length cz) ∧ Pr2 u1 w.heap.size (.int .i64 k) (.int .i64 t)) := ⟨HT0.out.1.under g1 (by omega), HT0.out.2.below g1 (by omega)⟩
            clear g1 HT0 B0
            cases hth : wrL k t s.th with
            | true =>
              have HF : Hid (r = true) := by show r = true; rw [HQ.out]; exact wrL_at HS.out (by rw [HW2.out, hth]; rfl)
              go_wp2
              go_ret
              exact ⟨ret_bool HF.out.symm, B1⟩
            | false =>
              have c9 := HT1.out.1.c9
              obtain ⟨p0, p1⟩ := id HT1.out.2
              go_wp2_with fail
              clear c9 p0 p1
              refine (H _ HQ2.out.2.1 _ lo hi _ s.el k t (Nat.le_refl _) HQ2.out.2.2.2 (HX.out.2.under B1 hhi) (by omega)).mono ?_
              rintro e5 u2 ⟨rfl, g2⟩
              have S2 := g2.size
              have B2 := B1.trans (g2.mono (by omega))
              have P2 := HT1.out.2.below g2 (by omega)
              clear g2 HT1 B1
              cases hel : wrL k t s.el with
              | true =>
                have HF : Hid (r = true) := by show r = true; rw [HQ.out]; exact wrL_at HS.out (by rw [HW2.out, hth, hel]; rfl)
                go_wp2
                go_ret
                exact ⟨ret_bool HF.out.symm, B2⟩
              | false =>
                have HF : Hid (wrL k t (ss.take (j + 1)) = false) := by show _ = _; rw [wrL_take_succ HS.out, HA.out, HW2.out, hth, hel]; rfl
                go_wp2
                go_roundw
                case rel => exact ⟨j + 1, by omega, by go_num, B2, P2, by omega, HF.out⟩
                case measure => simp [intOf]; omega
    · obtain rfl : j = ss.length := by omega
      have HF : Hid (r = false) := by show r = false; rw [HQ.out]; have := HA.out; rwa [List.take_length] at this
      go_wp2
      go_ret
      exact ⟨ret_bool HF.out.symm, hb⟩

theorem wrSA (n : Nat) : WrS n := by
  induction n using Nat.strongRecOn with
  | ind n ih => exact wrS_step ih

set_option maxHeartbeats 4000000 in
theorem sSlimWrites_any (w : World) (lo hi : Nat) (v : Value) (ss : List StmtD) (k t : Int) (h : SR w lo hi v ss) (hhi : hi ≤ w.heap.size) (hm : sizeL ss ≤ 1048576) :
    Calls Try.prog 17 #[v, .agg #[.int .i64 k, .int .i64 t]] w fun en w' => en = .returned (.bool (slimWrites ss k t)) ∧ Below w.heap.size w w' := by
  obtain ⟨ad, cap, rfl, _, _⟩ := h.shape
  have HK : Hid (SR w lo hi (.slice ad ss.length cap) ss) := h
  clear h
  unfold slimWrites
  obtain ⟨u0, hu0, G0, P0, S0⟩ : ∃ u0, w.alloc (.cells #[.int .i64 k, .int .i64 t] 28) = u0 ∧ Below w.heap.size w u0 ∧ Pr2 u0 w.heap.size (.int .i64 k) (.int .i64 t) ∧ u0.heap.size = w.heap.size + 1 :=
    ⟨_, rfl, (Below.refl _ w).alloc (Nat.le_refl _) _, ⟨World.cell?_alloc_new _ _ _ _, World.cell?_alloc_new _ _ _ _⟩, by simp⟩
  go_enter Try.func17, Try.ntmps17
  go_wp2_with fail
  try rw [hu0]
  clear hu0
  refine (sStmtsOk_any _ lo hi _ ss (HK.out.under G0 hhi) (by omega) hm).mono ?_
  rintro e1 u1 ⟨rfl, g1⟩
  have S1 := g1.size
  have G1 := G0.trans (g1.mono (by omega))
  have P1 := P0.below g1 (by omega)
  clear g1 P0 G0
  cases hok : stmtsOk ss with
  | false =>
    go_wp2
    go_ret
    exact ⟨ret_bool (by rw [hok]; rfl), G1⟩
  | true =>
    obtain ⟨d0, d1⟩ := id P1
    go_wp2_with fail
    refine (wrSA _ _ lo hi _ ss k t (Nat.le_refl _) hm (HK.out.under G1 hhi) (by omega)).mono ?_
    rintro e2 u2 ⟨rfl, g2⟩
    have G2 := G1.trans (g2.mono (by omega))
    clear d0 d1 g2 P1
    go_wp2
    go_ret
    exact ⟨ret_bool (by rw [hok]; rfl), G2⟩
end Go.Proofs.Ytkeockippmmneaa
