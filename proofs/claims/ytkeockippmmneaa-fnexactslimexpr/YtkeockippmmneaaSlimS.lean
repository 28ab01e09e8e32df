/-
  Chapter 10's model: what is read (l10Reads, SlimReads).
-/
import Derived.Test.YtkeockippmmneaaSlimD
import Derived.Test.YtkeockippmmneaaExprSpec2
import Derived.Test.YtkeockippmmneaaLawKit2
namespace Go.Proofs.Ytkeockippmmneaa
open Go.ChangeShapes Go.WideShapes Go.ChangeAt Go.RowKit
set_option linter.unusedVariables false
set_option maxRecDepth 100000

/-- Two cells of a variable. -/
structure Pr2 (w : World) (B : Nat) (x y : Value) : Prop where
  c0 : w.cell? ⟨B, 0, none⟩ = some x
  c1 : w.cell? ⟨B, 1, none⟩ = some y

theorem Pr2.below {w w' : World} {B n : Nat} {x y : Value} (h : Pr2 w B x y) (hb : Below n w w') (hn : B < n) : Pr2 w' B x y :=
  ⟨(hb.cell (p := ⟨B, 0, none⟩) hn).trans h.c0, (hb.cell (p := ⟨B, 1, none⟩) hn).trans h.c1⟩

theorem five_two_new (w : World) (e : ExprD) (s : Value) (k t : Int) (T T' : TypeId) :
    ∃ u, (w.alloc (.cells #[.int .i64 e.k, .int .i64 e.n, .int .i64 e.ak, .int .i64 e.at_, s] T)).alloc (.cells #[.int .i64 k, .int .i64 t] T') = u ∧ Below w.heap.size w u ∧ Five u w.heap.size (.int .i64 e.k) (.int .i64 e.n) (.int .i64 e.ak) (.int .i64 e.at_) s ∧ Pr2 u (w.heap.size + 1) (.int .i64 k) (.int .i64 t) ∧ u.heap.size = w.heap.size + 2 := by
  refine ⟨_, rfl, ((Below.refl _ w).alloc (Nat.le_refl _) _).alloc (by simp) _, (five_new w _ _ _ _ _ _).under ((Below.refl _ _).alloc (Nat.le_refl _) _) (by simp), ?_, by simp⟩
  have h : Pr2 ((w.alloc (.cells #[.int .i64 e.k, .int .i64 e.n, .int .i64 e.ak, .int .i64 e.at_, s] T)).alloc (.cells #[.int .i64 k, .int .i64 t] T')) (w.alloc (.cells #[.int .i64 e.k, .int .i64 e.n, .int .i64 e.ak, .int .i64 e.at_, s] T)).heap.size (.int .i64 k) (.int .i64 t) := ⟨World.cell?_alloc_new _ _ _ _, World.cell?_alloc_new _ _ _ _⟩
  rwa [World.size_alloc] at h

/-- What l10Reads answers, of a tree with at most n parts below it. -/
def RdS (n : Nat) : Prop := ∀ (w : World) (lo hi : Nat) (s : Value) (e : ExprD) (k t : Int), manyL e.kids ≤ n → KR w lo hi s e.kids → hi ≤ w.heap.size →
  Calls Try.prog 32 #[.agg #[.int .i64 e.k, .int .i64 e.n, .int .i64 e.ak, .int .i64 e.at_, s], .agg #[.int .i64 k, .int .i64 t]] w fun en w' => en = .returned (.bool (rdE k t e)) ∧ Below w.heap.size w w'

set_option maxHeartbeats 4000000 in
theorem rdS_step {n : Nat} (H : ∀ m, m < n → RdS m) : RdS n := by
  intro w lo hi s e k t hm h hhi
  obtain ⟨ad, cap, rfl, hc1, hc2⟩ := h.shape
  have hmx : e.kids.length ≤ 9223372036854775807 := by unfold maxLen at hc2; omega
  have HK : Hid (KR w lo hi (.slice ad e.kids.length cap) e.kids) := h
  have HR : Hid (rdE k t e = if e.k = 2 then (e.ak == k) && (e.at_ == t) else rdL k t e.kids) := rdE_eq k t e
  obtain ⟨r, hr⟩ : ∃ r, rdE k t e = r := ⟨_, rfl⟩
  rw [hr] at HR ⊢
  clear h hc1 hc2 hr
  obtain ⟨u0, hu0, G0, A0, B0, S0⟩ := five_two_new w e (.slice ad e.kids.length cap) k t 31 28
  by_cases h2 : e.k = 2
  · have b1 : (e.k == 2) = true := by simp [h2]
    rw [if_pos h2] at HR
    rw [← hu0] at G0
    clear h2 A0 B0 hu0 S0
    cases ha : (e.ak == k) with
    | true =>
      cases ht : (e.at_ == t) with
      | true =>
        have HQ : Hid (r = true) := by show _ = _; rw [HR.out, ha, ht]; rfl
        clear HR
        go_enter Try.func32, Try.ntmps32
        go_wp2
        go_ret
        exact ⟨ret_bool HQ.out.symm, G0⟩
      | false =>
        have HQ : Hid (r = false) := by show _ = _; rw [HR.out, ha, ht]; rfl
        clear HR
        go_enter Try.func32, Try.ntmps32
        go_wp2
        go_ret
        exact ⟨ret_bool HQ.out.symm, G0⟩
    | false =>
      have HQ : Hid (r = false) := by show _ = _; rw [HR.out, ha]; rfl
      clear HR
      go_enter Try.func32, Try.ntmps32
      go_wp2
      go_ret
      exact ⟨ret_bool HQ.out.symm, G0⟩
  · have b1 : (e.k == 2) = false := by simp [h2]
    have HQ : Hid (r = rdL k t e.kids) := by show _ = _; rw [HR.out, if_neg h2]
    clear HR h2
    obtain ⟨c0, c1, c2, c3, c4, _⟩ := id A0
    go_enter Try.func32, Try.ntmps32
    go_wp2_with fail
    clear hu0
    go_loopw [5] (fun i wr => ∃ j : Nat, j ≤ e.kids.length ∧ i = .int .i64 j ∧ Below w.heap.size w wr ∧ Five wr w.heap.size (.int .i64 e.k) (.int .i64 e.n) (.int .i64 e.ak) (.int .i64 e.at_) (.slice ad e.kids.length cap) ∧ Pr2 wr (w.heap.size + 1) (.int .i64 k) (.int .i64 t) ∧ w.heap.size + 2 ≤ wr.heap.size ∧ rdL k t (e.kids.take j) = false) (fun i _ => e.kids.length - (intOf i).toNat)
    case atStart => exact ⟨0, Nat.zero_le _, rfl, G0, A0, B0, by omega, by rw [List.take_zero, rdL]⟩
    case round =>
      clear G0 A0 B0 S0
      obtain ⟨j, hj, rfl, hb, A, B, hs, hall⟩ := hrel
      have HA : Hid (rdL k t (e.kids.take j) = false) := hall
      clear hall
      by_cases hlt : j < e.kids.length
      · obtain ⟨x, hx⟩ : ∃ x, e.kids[j]? = some x := ⟨e.kids[j], List.getElem?_eq_getElem hlt⟩
        obtain ⟨b, off, cap', s, hv, hb1, hb2, h5, hk⟩ := HK.out.at_ hx
        simp only [Value.slice.injEq, true_and] at hv
        obtain ⟨rfl, rfl⟩ := hv
        have HX : Hid (e.kids[j]? = some x) := hx
        obtain ⟨c0, c1, c2, c3, c4⟩ := h5.kept (hb.block b (by omega))
        obtain ⟨ads, cps, rfl, _, _⟩ := hk.shape
        have hkl := kid_lt hx
        have HKK : Hid (KR w lo hi (.slice ads x.kids.length cps) x.kids) := hk
        have p4 := A.c4
        obtain ⟨q0, q1⟩ := id B
        have HAA : Hid (Five wr w.heap.size (.int .i64 e.k) (.int .i64 e.n) (.int .i64 e.ak) (.int .i64 e.at_) (.slice (some ⟨b, off, none⟩) e.kids.length cap) ∧ Pr2 wr (w.heap.size + 1) (.int .i64 k) (.int .i64 t)) := ⟨A, B⟩
        have H5 : Hid (Cell5 w b (off + j * 5) x (.slice ads x.kids.length cps)) := h5
        clear hx hk A B h5
        go_wp2_with fail
        clear c0 c1 c2 c3 c4 p4 q0 q1
        refine wp_region_dag (R := Grow) (Φ := fun i v u => match i with
            | 0 => v = .pointer (some ⟨w.heap.size, 4, none⟩)
            | 1 => v = .slice (some ⟨b, off, none⟩) e.kids.length cap
            | 2 => v = .int .i64 j
            | 3 => v = .pointer (some ⟨b, off + j * 5, none⟩)
            | 4 => v = .agg #[.int .i64 x.k, .int .i64 x.n, .int .i64 x.ak, .int .i64 x.at_, .slice ads x.kids.length cps]
            | 5 => v = .agg #[.int .i64 k, .int .i64 t]
            | 6 => v = .bool (rdE k t x)
            | _ => True) (by kernel_rfl) (by kernel_rfl) (by kernel_rfl) (Below.refl _ _) grow_trans ?_ ?_ ?_
        · intro i v u u' hr
          match i with
          | 0 | 1 | 2 | 3 | 4 | 5 | 6 | _ + 7 => exact fun h => h
        · intro i o ho a u hf hR0 he K' hK
          have hR : Grow wr u := (Below.drew (Below.refl _ _)).trans hR0
          have hsz' : a.tmps.size = 27 := hf.size
          have hus := hR.size
          rcases i with _ | _ | _ | _ | _ | _ | _ | i
          · obtain rfl := Option.some.inj ho
            have q2 : a.tmps.getD 2 undef = .pointer (some ⟨w.heap.size, 0, none⟩) := hf.at_ 2 (by kernel_rfl)
            clear he
            go_simp
            exact hK _ _ (Below.refl _ _) (getD_put_self a 20 _ (by show _ < a.tmps.size; omega))
          · obtain rfl := Option.some.inj ho
            have q20 : a.tmps.getD 20 undef = .pointer (some ⟨w.heap.size, 4, none⟩) := he _ (Array.mem_of_getElem? (i := 0) rfl) (by kernel_rfl) _ rfl
            clear he
            have c4 := (HAA.out.1.under hR (by omega)).c4
            go_simp
            exact hK _ _ (Below.refl _ _) (getD_put_self a 21 _ (by show _ < a.tmps.size; omega))
          · obtain rfl := Option.some.inj ho
            have q5 : a.tmps.getD 5 undef = .int .i64 j := hf.at_ 5 (by kernel_rfl)
            clear he
            go_simp
            exact hK _ _ (Below.refl _ _) (getD_put_self a 22 _ (by show _ < a.tmps.size; omega))
          · obtain rfl := Option.some.inj ho
            have q21 : a.tmps.getD 21 undef = .slice (some ⟨b, off, none⟩) e.kids.length cap := he _ (Array.mem_of_getElem? (i := 0) rfl) (by kernel_rfl) _ rfl
            have q22 : a.tmps.getD 22 undef = .int .i64 j := he _ (Array.mem_of_getElem? (i := 1) rfl) (by kernel_rfl) _ rfl
            clear he
            go_simp
            exact hK _ _ (Below.refl _ _) (getD_put_self a 23 _ (by show _ < a.tmps.size; omega))
          · obtain rfl := Option.some.inj ho
            have q23 : a.tmps.getD 23 undef = .pointer (some ⟨b, off + j * 5, none⟩) := he _ (Array.mem_of_getElem? (i := 0) rfl) (by kernel_rfl) _ rfl
            clear he
            obtain ⟨c0, c1, c2, c3, c4⟩ := H5.out.kept ((hb.trans (hR.mono hb.size)).block b (by omega))
            go_simp
            exact hK _ _ (Below.refl _ _) (getD_put_self a 24 _ (by show _ < a.tmps.size; omega))
          · obtain rfl := Option.some.inj ho
            have q3 : a.tmps.getD 3 undef = .pointer (some ⟨w.heap.size + 1, 0, none⟩) := hf.at_ 3 (by kernel_rfl)
            clear he
            obtain ⟨d0, d1⟩ := HAA.out.2.below hR (by omega)
            go_simp
            exact hK _ _ (Below.refl _ _) (getD_put_self a 25 _ (by show _ < a.tmps.size; omega))
          · obtain rfl := Option.some.inj ho
            have q24 : a.tmps.getD 24 undef = .agg #[.int .i64 x.k, .int .i64 x.n, .int .i64 x.ak, .int .i64 x.at_, .slice ads x.kids.length cps] := he _ (Array.mem_of_getElem? (i := 0) rfl) (by kernel_rfl) _ rfl
            have q25 : a.tmps.getD 25 undef = .agg #[.int .i64 k, .int .i64 t] := he _ (Array.mem_of_getElem? (i := 1) rfl) (by kernel_rfl) _ rfl
            clear he
            go_simp
            refine (H (manyL x.kids) (by omega) _ lo hi _ x k t (Nat.le_refl _) (HKK.out.under (hb.trans (hR.mono hb.size)) hhi) (by omega)).mono ?_
            rintro e1 u' ⟨rfl, hbu⟩
            exact hK _ _ hbu (getD_put_self a 26 _ (by show _ < a.tmps.size; omega))
          · exact absurd ho (by simp)
        · intro a u1 hf hR0 hp
          have g1 : Below wr.heap.size wr u1 := (Below.drew (Below.refl _ _)).trans hR0
          have m26 : a.tmps.getD 26 undef = .bool (rdE k t x) := hp 6 _ rfl
          obtain ⟨fq, ea, hfv⟩ := act_lit a 27 hf.size
          have md : a.defers = [] := hf.defers
          rw [md] at ea
          have m0 := hf.at_ 0 (by kernel_rfl)
          have m1 := hf.at_ 1 (by kernel_rfl)
          have m2 := hf.at_ 2 (by kernel_rfl)
          have m3 := hf.at_ 3 (by kernel_rfl)
          have m4 := hf.at_ 4 (by kernel_rfl)
          have m5 := hf.at_ 5 (by kernel_rfl)
          have m6 := hf.at_ 6 (by kernel_rfl)
          have m7 := hf.at_ 7 (by kernel_rfl)
          have m8 := hf.at_ 8 (by kernel_rfl)
          have m9 := hf.at_ 9 (by kernel_rfl)
          have m10 := hf.at_ 10 (by kernel_rfl)
          have m11 := hf.at_ 11 (by kernel_rfl)
          have m12 := hf.at_ 12 (by kernel_rfl)
          have m13 := hf.at_ 13 (by kernel_rfl)
          have m14 := hf.at_ 14 (by kernel_rfl)
          have m15 := hf.at_ 15 (by kernel_rfl)
          have m16 := hf.at_ 16 (by kernel_rfl)
          have m17 := hf.at_ 17 (by kernel_rfl)
          have m18 := hf.at_ 18 (by kernel_rfl)
          have m19 := hf.at_ 19 (by kernel_rfl)
          rw [← hfv] at m0 m1 m2 m3 m4 m5 m6 m7 m8 m9 m10 m11 m12 m13 m14 m15 m16 m17 m18 m19 m26
          simp only [Array.getD_eq_getD_getElem?, List.getElem?_toArray, List.getElem?_cons_succ, List.getElem?_cons_zero, Option.getD_some] at m0 m1 m2 m3 m4 m5 m6 m7 m8 m9 m10 m11 m12 m13 m14 m15 m16 m17 m18 m19
          simp only [List.range, List.range.loop, List.map_cons, List.map_nil, m0, m1, m2, m3, m4, m5, m6, m7, m8, m9, m10, m11, m12, m13, m14, m15, m16, m17, m18, m19, m26] at ea
          subst ea
          clear m0 m1 m2 m3 m4 m5 m6 m7 m8 m9 m10 m11 m12 m13 m14 m15 m16 m17 m18 m19 m26 hfv md hf
          have G1 := hb.trans (g1.mono hb.size)
          have S1 := g1.size
          have A1 := HAA.out.1.under g1 (by omega)
          have B1 := HAA.out.2.below g1 (by omega)
          clear g1 hR0 hp
          cases hrd : rdE k t x with
          | true =>
            have HF : Hid (r = true) := by show r = true; rw [HQ.out]; exact rdL_at HX.out hrd
            go_wp2
            go_ret
            exact ⟨ret_bool HF.out.symm, G1⟩
          | false =>
            have HF : Hid (rdL k t (e.kids.take (j + 1)) = false) := by show _ = _; rw [rdL_take_succ HX.out, HA.out, hrd]; rfl
            go_wp2
            go_roundw
            case rel => exact ⟨j + 1, by omega, by go_num, G1, A1, B1, by omega, HF.out⟩
            case measure => simp [intOf]; omega
      · obtain rfl : j = e.kids.length := by omega
        have HF : Hid (r = false) := by show r = false; rw [HQ.out]; have := HA.out; rwa [List.take_length] at this
        have p4 := A.c4
        clear A
        go_wp2
        go_ret
        exact ⟨ret_bool HF.out.symm, hb⟩

theorem rdS (n : Nat) : RdS n := by
  induction n using Nat.strongRecOn with
  | ind n ih => exact rdS_step ih

set_option maxHeartbeats 4000000 in
theorem sSlimReads_any (w : World) (lo hi : Nat) (v : Value) (e : ExprD) (k t : Int) (h : ER w lo hi v e) (hhi : hi ≤ w.heap.size) (hm : manyL e.kids ≤ 1048576) :
    Calls Try.prog 13 #[v, .agg #[.int .i64 k, .int .i64 t]] w fun en w' => en = .returned (.bool (slimReads e k t)) ∧ Below w.heap.size w w' := by
  have HE : Hid (ER w lo hi v e) := h
  obtain ⟨s, rfl, hk⟩ := h
  obtain ⟨ad, cap, rfl, _, _⟩ := hk.shape
  have HK : Hid (KR w lo hi (.slice ad e.kids.length cap) e.kids) := hk
  clear hk
  unfold slimReads
  obtain ⟨u0, hu0, G0, A0, B0, S0⟩ := five_two_new w e (.slice ad e.kids.length cap) k t 31 28
  obtain ⟨c0, c1, c2, c3, c4, _⟩ := id A0
  go_enter Try.func13, Try.ntmps13
  go_wp2_with fail
  clear hu0 c0 c1 c2 c3 c4
  refine (sExprOk_any _ lo hi _ e (HE.out.below G0 hhi) (by omega) hm).mono ?_
  rintro e1 u1 ⟨rfl, g1⟩
  have S1 := g1.size
  have G1 := G0.trans (g1.mono (by omega))
  have A1 := A0.under g1 (by omega)
  have B1 := B0.below g1 (by omega)
  clear g1 A0 B0 G0
  cases hok : exprOk e with
  | false =>
    go_wp2
    go_ret
    exact ⟨ret_bool (by rw [hok]; rfl), G1⟩
  | true =>
    obtain ⟨c0, c1, c2, c3, c4, _⟩ := id A1
    obtain ⟨d0, d1⟩ := id B1
    go_wp2_with fail
    refine (rdS _ _ lo hi _ e k t (Nat.le_refl _) (HK.out.under G1 hhi) (by omega)).mono ?_
    rintro e2 u2 ⟨rfl, g2⟩
    have G2 := G1.trans (g2.mono (by omega))
    clear c0 c1 c2 c3 c4 d0 d1 g2 A1 B1
    go_wp2
    go_ret
    exact ⟨ret_bool (by rw [hok]; rfl), G2⟩
end Go.Proofs.Ytkeockippmmneaa
