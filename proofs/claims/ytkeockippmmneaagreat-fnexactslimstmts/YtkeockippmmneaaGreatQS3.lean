import Derived.Test.YtkeockippmmneaaGreatQS1
import Derived.Test.YtkeockippmmneaaGreatBase
import Derived.Test.YtkeockippmmneaaGreatDag
import Derived.Laws.StructEq

/-
  What chapter 3's models (package spec) answer: whether something can be reckoned, how many parts it has.
-/
namespace Go.Proofs.YtkeockippmmneaaGreat
open Go.ChangeShapes Go.WideShapes Go.ChangeAt Go.RowKit
set_option linter.unusedVariables false

/-- How many kids a kind has; below 0 where it is none. -/
def kidsOf (k : Int) : Int := if k = 1 then 0 else if k = 2 then 0 else if k = 10 then 1 else if 3 ≤ k ∧ k ≤ 9 then 2 else -1

theorem kidsOf_bd (k : Int) : -1 ≤ kidsOf k ∧ kidsOf k ≤ 2 := by
  unfold kidsOf
  repeat' split
  all_goals omega

/-- The number is right; the place is. -/
def nOk (e : ExprD) : Bool := if e.k = 1 then cutZ e.n == e.n else e.n == 0
def aOk (e : ExprD) : Bool := if e.k = 2 then addrOk ⟨e.ak, e.at_⟩ else (e.ak == 0 && e.at_ == 0)

/-- It can be reckoned, and is not deeper than so. -/
def formE : Nat → ExprD → Bool
  | 0, _ => false
  | d + 1, e => (kidsOf e.k == (e.kids.length : Int)) && nOk e && aOk e && e.kids.all (formE d)

/-- How many parts there are, up to so deep. -/
def manyD : Nat → ExprD → Nat
  | 0, _ => 1
  | d + 1, e => 1 + (e.kids.map (manyD d)).sum

def exprOk (e : ExprD) : Bool := formE 6 e && decide (manyD 6 e ≤ 14)

set_option maxHeartbeats 1000000 in
theorem l3Kids_any (w : World) (k : Int) :
    Calls Tryz.prog 68 #[.int .i64 k] w fun e w' => e = .returned (.int .i64 (kidsOf k)) ∧ w' = w := by
  unfold kidsOf
  by_cases h1 : k = 1
  · subst h1
    go_enter Tryz.func68, Tryz.ntmps68
    go_wp2
    go_ret
    exact ⟨rfl, rfl⟩
  · rw [if_neg h1]
    by_cases h2 : k = 2
    · subst h2
      go_enter Tryz.func68, Tryz.ntmps68
      go_wp2
      go_ret
      exact ⟨rfl, rfl⟩
    · rw [if_neg h2]
      by_cases h3 : k = 10
      · subst h3
        go_enter Tryz.func68, Tryz.ntmps68
        go_wp2
        go_ret
        exact ⟨rfl, rfl⟩
      · rw [if_neg h3]
        have e1 : (k == 1) = false := by simpa using h1
        have e2 : (k == 2) = false := by simpa using h2
        have e3 : (k == 10) = false := by simpa using h3
        by_cases h4 : 3 ≤ k
        · by_cases h5 : k ≤ 9
          · rw [if_pos ⟨h4, h5⟩]
            clear h1 h2 h3
            go_enter Tryz.func68, Tryz.ntmps68
            go_wp2
            go_ret
            exact ⟨rfl, rfl⟩
          · rw [if_neg (by omega)]
            clear h1 h2 h3
            go_enter Tryz.func68, Tryz.ntmps68
            go_wp2
            go_ret
            exact ⟨rfl, rfl⟩
        · rw [if_neg (by omega)]
          clear h1 h2 h3
          go_enter Tryz.func68, Tryz.ntmps68
          go_wp2
          go_ret
          exact ⟨rfl, rfl⟩

/-- What l3Form answers, not deeper than d. -/
def FormS (d : Nat) : Prop := ∀ (w : World) (lo hi : Nat) (s : Value) (e : ExprD), KR w lo hi s e.kids → hi ≤ w.heap.size →
  Calls Tryz.prog 56 #[.agg #[.int .i64 e.k, .int .i64 e.n, .int .i64 e.ak, .int .i64 e.at_, s], .int .i64 d] w fun en w' => en = .returned (.bool (formE d e)) ∧ Below w.heap.size w w'

theorem form_zero : FormS 0 := by
  intro w lo hi s e h hhi
  have b1 := fun o => (Below.refl w.heap.size w).alloc (Nat.le_refl _) o
  have HF : Hid (formE 0 e = false) := by show formE 0 e = false; rw [formE]
  rw [HF.out]
  clear h
  go_enter Tryz.func56, Tryz.ntmps56
  go_wp2_with fail
  go_quiet (fail)
  go_wp2
  go_ret
  exact ⟨rfl, below_drewN (b1 _) nq⟩

theorem all_take_step {es : List ExprD} {j : Nat} {e : ExprD} {f : ExprD → Bool} (h : (es.take j).all f = true) (he : es[j]? = some e) (hf : f e = true) : (es.take (j + 1)).all f = true := by
  rw [List.take_add_one, he]; simp [h, hf]

theorem all_false_at {es : List ExprD} {j : Nat} {e : ExprD} {f : ExprD → Bool} (he : es[j]? = some e) (hf : f e = false) : es.all f = false := by
  rw [Bool.eq_false_iff]
  intro h
  have := List.all_eq_true.mp h e (List.mem_of_getElem? he)
  rw [hf] at this; cases this

set_option maxHeartbeats 4000000 in
theorem form_step {d : Nat} (hd : d ≤ 100) (H : FormS d) : FormS (d + 1) := by
  intro w lo hi s e h hhi
  obtain ⟨ad, cap, rfl, hc1, hc2⟩ := h.shape
  have hmx : e.kids.length ≤ 9223372036854775807 := by unfold maxLen at hc2; omega
  have HK : Hid (KR w lo hi (.slice ad e.kids.length cap) e.kids) := h
  have HF : Hid (formE (d + 1) e = ((kidsOf e.k == (e.kids.length : Int)) && nOk e && aOk e && e.kids.all (formE d))) := by show formE (d + 1) e = _; rw [formE]
  obtain ⟨r, hr⟩ : ∃ r, formE (d + 1) e = r := ⟨_, rfl⟩
  rw [hr]
  rw [hr] at HF
  clear hr h hc1 hc2
  have hdd : ((d + 1 : Nat) : Int) = (d : Int) + 1 := by omega
  rw [hdd]
  obtain ⟨k, ek⟩ : ∃ q, e.k = q := ⟨_, rfl⟩
  obtain ⟨n, en⟩ : ∃ q, e.n = q := ⟨_, rfl⟩
  obtain ⟨a, ea⟩ : ∃ q, e.ak = q := ⟨_, rfl⟩
  obtain ⟨t, et⟩ : ∃ q, e.at_ = q := ⟨_, rfl⟩
  unfold nOk aOk at HF
  rw [ek, en, ea, et] at HF
  rw [ek, en, ea, et]
  clear ek en ea et hdd
  have hkb := kidsOf_bd k
  have hlk := fun W => l3Kids_any W k
  generalize kidsOf k = q at *
  go_enter Tryz.func56, Tryz.ntmps56
  go_wp2_with fail
  obtain ⟨u0, hu0, G0, F0, S0⟩ : ∃ u0, w.alloc (.cells #[.int .i64 k, .int .i64 n, .int .i64 a, .int .i64 t, .slice ad e.kids.length cap] 42) = u0 ∧ Below w.heap.size w u0 ∧ Five u0 w.heap.size (.int .i64 k) (.int .i64 n) (.int .i64 a) (.int .i64 t) (.slice ad e.kids.length cap) ∧ u0.heap.size = w.heap.size + 1 :=
    ⟨_, rfl, (Below.refl w.heap.size w).alloc (Nat.le_refl _) _, five_new w _ _ _ _ _ _, by simp⟩
  rw [hu0]
  clear hu0
  obtain ⟨c0, c1, c2, c3, c4, _⟩ := id F0
  have hp1 : ¬ ((d : Int) + 1 < 1) := by omega
  by_cases hq : q = e.kids.length
  · have hq1 : (q != (e.kids.length : Int)) = false := by simp [hq]
    have hq2 : (q == (e.kids.length : Int)) = true := by simp [hq]
    rw [hq2, Bool.true_and] at HF
    clear hq hq2
    go_quiet ((go_at_call 68; exact Calls.quiet_of_same (hlk _)))
    obtain ⟨u1, hu1, G1, F1, S1⟩ : ∃ u1, u0.drewN nq = u1 ∧ Below w.heap.size w u1 ∧ Five u1 w.heap.size (.int .i64 k) (.int .i64 n) (.int .i64 a) (.int .i64 t) (.slice ad e.kids.length cap) ∧ w.heap.size < u1.heap.size := ⟨_, rfl, below_drewN G0 nq, F0.under (below_drewN (Below.refl u0.heap.size u0) nq) (by omega), by show w.heap.size < (u0.drewN nq).heap.size; have := (below_drewN (Below.refl u0.heap.size u0) nq).size; omega⟩
    rw [hu1]
    clear hu1 G0 F0 S0
    clear c0 c1 c2 c3 c4
    have hcut := fun W => sCut_any n W
    by_cases hk1 : k = 1
    · have b1 : (k == 1) = true := by simp [hk1]
      have b2 : (k != 1) = false := by simp [hk1]
      have b3 : (k == 2) = false := by simp [hk1]
      have b4 : (k != 2) = true := by simp [hk1]
      rw [if_pos hk1, if_neg (by omega)] at HF
      cases hn : (cutZ n == n) with
      | true =>
        have hn' : (cutZ n != n) = false := by simp at hn ⊢; exact hn
        rw [hn, Bool.true_and] at HF
        obtain ⟨c0, c1, c2, c3, c4, _⟩ := id F1
        clear hk1
        go_wp2_with fail
        go_quiet ((go_at_call 69; exact Calls.quiet_of_same (hcut _)))
        obtain ⟨u2, hu2, G2, F2, S2⟩ : ∃ u2, u1.drewN nq = u2 ∧ Below w.heap.size w u2 ∧ Five u2 w.heap.size (.int .i64 k) (.int .i64 n) (.int .i64 a) (.int .i64 t) (.slice ad e.kids.length cap) ∧ w.heap.size < u2.heap.size := ⟨_, rfl, below_drewN G1 nq, F1.under (below_drewN (Below.refl u1.heap.size u1) nq) (by omega), by show w.heap.size < (u1.drewN nq).heap.size; have := (below_drewN (Below.refl u1.heap.size u1) nq).size; omega⟩
        rw [hu2]
        clear hu2 G1 F1 S1
        clear c0 c1 c2 c3 c4
        by_cases ha : a = 0 ∧ t = 0
        · have h1 : (a == 0) = true := by simp [ha.1]
          have h2 : (t == 0) = true := by simp [ha.2]
          rw [h1, h2, Bool.true_and, Bool.true_and] at HF
          obtain ⟨c0, c1, c2, c3, c4, _⟩ := id F2
          clear ha
          go_wp2_with fail
          clear c0 c1 c2 c3 c4
          go_loopw [5] (fun i wr => ∃ j : Nat, j ≤ e.kids.length ∧ i = .int .i64 j ∧ Below w.heap.size w wr ∧ Five wr w.heap.size (.int .i64 k) (.int .i64 n) (.int .i64 a) (.int .i64 t) (.slice ad e.kids.length cap) ∧ w.heap.size < wr.heap.size ∧ (e.kids.take j).all (formE d) = true) (fun i _ => e.kids.length - (intOf i).toNat)
          case atStart => exact ⟨0, Nat.zero_le _, rfl, G2, F2, S2, by simp⟩
          case round =>
            clear G2 F2 S2
            obtain ⟨j, hj, rfl, hb, F, hs, hall⟩ := hrel
            have HA : Hid ((e.kids.take j).all (formE d) = true) := hall
            clear hall
            by_cases hlt : j < e.kids.length
            · obtain ⟨x, hx⟩ : ∃ x, e.kids[j]? = some x := ⟨e.kids[j], List.getElem?_eq_getElem hlt⟩
              obtain ⟨b, off, cap', s, hv, hb1, hb2, h5, hk⟩ := HK.out.at_ hx
              simp only [Value.slice.injEq, true_and] at hv
              obtain ⟨rfl, rfl⟩ := hv
              have HX : Hid (e.kids[j]? = some x) := hx
              obtain ⟨c0, c1, c2, c3, c4⟩ := h5
              rw [← hb.cell (p := ⟨b, off + j * 5, none⟩) (by show b < _; omega)] at c0
              rw [← hb.cell (p := ⟨b, off + j * 5 + 1, none⟩) (by show b < _; omega)] at c1
              rw [← hb.cell (p := ⟨b, off + j * 5 + 2, none⟩) (by show b < _; omega)] at c2
              rw [← hb.cell (p := ⟨b, off + j * 5 + 3, none⟩) (by show b < _; omega)] at c3
              rw [← hb.cell (p := ⟨b, off + j * 5 + 4, none⟩) (by show b < _; omega)] at c4
              have hH := H wr lo hi s x (hk.under hb hhi) (Nat.le_trans hhi hb.size)
              have p4 := F.c4
              obtain ⟨ads, cps, rfl, _, _⟩ := hk.shape
              have HFF := F
              have HFF : Hid (Five wr w.heap.size (.int .i64 k) (.int .i64 n) (.int .i64 a) (.int .i64 t) (.slice (some ⟨b, off, none⟩) e.kids.length cap)) := HFF
              clear hx hk F
              cases hfx : formE d x with
              | true =>
                rw [hfx] at hH
                go_wp2_with fail
                refine hH.mono ?_
                rintro e1 w1 ⟨rfl, g1⟩
                have G1 := hb.trans (g1.mono hb.size)
                have S1 : w.heap.size < w1.heap.size := by have := g1.size; omega
                have F1 := HFF.out.under g1 hs
                clear g1 c0 c1 c2 c3 c4 p4 hH hb
                go_wp2
                go_roundw
                case rel => exact ⟨j + 1, by omega, by go_num, G1, F1, S1, all_take_step HA.out HX.out hfx⟩
                case measure => simp [intOf]; omega
              | false =>
                rw [hfx] at hH
                have HQ : Hid (r = false) := by show r = false; rw [HF.out]; exact all_false_at HX.out hfx
                go_wp2_with fail
                refine hH.mono ?_
                rintro e1 w1 ⟨rfl, g1⟩
                have G1 := hb.trans (g1.mono hb.size)
                clear g1 c0 c1 c2 c3 c4 p4 hH hb
                go_wp2
                go_ret
                exact ⟨ret_bool HQ.out.symm, G1⟩
            · obtain rfl : j = e.kids.length := by omega
              have HQ : Hid (r = true) := by show r = true; rw [HF.out]; have := HA.out; rwa [List.take_length] at this
              have p4 := F.c4
              clear F
              go_wp2
              go_ret
              exact ⟨ret_bool HQ.out.symm, hb⟩
        · by_cases a0 : a = 0
          · have h1 : (a == 0) = true := by simp [a0]
            have h2 : (t == 0) = false := by simp; exact fun h => ha ⟨a0, h⟩
            rw [h1, h2] at HF
            simp only [Bool.and_false, Bool.false_and] at HF
            obtain ⟨c0, c1, c2, c3, c4, _⟩ := id F2
            clear ha a0
            go_wp2
            go_ret
            exact ⟨ret_bool HF.out.symm, G2⟩
          · have h1 : (a == 0) = false := by simp [a0]
            rw [h1] at HF
            simp only [Bool.false_and] at HF
            obtain ⟨c0, c1, c2, c3, c4, _⟩ := id F2
            clear ha a0
            go_wp2
            go_ret
            exact ⟨ret_bool HF.out.symm, G2⟩
      | false =>
        have hn' : (cutZ n != n) = true := by simp at hn ⊢; exact hn
        rw [hn] at HF
        simp only [Bool.false_and] at HF
        obtain ⟨c0, c1, c2, c3, c4, _⟩ := id F1
        clear hk1
        go_wp2_with fail
        go_quiet ((go_at_call 69; exact Calls.quiet_of_same (hcut _)))
        go_wp2
        go_ret
        exact ⟨ret_bool HF.out.symm, below_drewN G1 nq⟩
    · have b1 : (k == 1) = false := by simp [hk1]
      have b2 : (k != 1) = true := by simp [hk1]
      rw [if_neg hk1] at HF
      by_cases hn : n = 0
      · have hn1 : (n == 0) = true := by simp [hn]
        have hn' : (n != 0) = false := by simp [hn]
        rw [hn1, Bool.true_and] at HF
        obtain ⟨c0, c1, c2, c3, c4, _⟩ := id F1
        clear hk1 hn
        go_wp2_with fail
        go_quiet (fail)
        obtain ⟨u2, hu2, G2, F2, S2⟩ : ∃ u2, u1.drewN nq = u2 ∧ Below w.heap.size w u2 ∧ Five u2 w.heap.size (.int .i64 k) (.int .i64 n) (.int .i64 a) (.int .i64 t) (.slice ad e.kids.length cap) ∧ w.heap.size < u2.heap.size := ⟨_, rfl, below_drewN G1 nq, F1.under (below_drewN (Below.refl u1.heap.size u1) nq) (by omega), by show w.heap.size < (u1.drewN nq).heap.size; have := (below_drewN (Below.refl u1.heap.size u1) nq).size; omega⟩
        rw [hu2]
        clear hu2 G1 F1 S1
        clear c0 c1 c2 c3 c4
        by_cases hk2 : k = 2
        · have b3 : (k == 2) = true := by simp [hk2]
          have b4 : (k != 2) = false := by simp [hk2]
          rw [if_pos hk2] at HF
          have hao := fun W => sAddrOk_any W ⟨a, t⟩
          have ev : AddrD.val ⟨a, t⟩ = .agg #[.int .i64 a, .int .i64 t] := rfl
          rw [ev] at hao
          obtain ⟨c0, c1, c2, c3, c4, _⟩ := id F2
          clear hk2 ev
          go_wp2_with fail
          refine (hao _).mono ?_
          cases ho : addrOk ⟨a, t⟩ with
          | true =>
            rw [ho, Bool.true_and] at HF
            rintro e3 u3 ⟨rfl, g3⟩
            have G3 := G2.trans (g3.mono (by omega))
            have S3 : w.heap.size < u3.heap.size := by have := g3.size; omega
            have F3 := F2.under g3 S2
            clear c0 c1 c2 c3 c4 g3 G2 S2 F2 hao
            obtain ⟨c0, c1, c2, c3, c4, _⟩ := id F3
            go_wp2_with fail
            clear c0 c1 c2 c3 c4
            go_loopw [5] (fun i wr => ∃ j : Nat, j ≤ e.kids.length ∧ i = .int .i64 j ∧ Below w.heap.size w wr ∧ Five wr w.heap.size (.int .i64 k) (.int .i64 n) (.int .i64 a) (.int .i64 t) (.slice ad e.kids.length cap) ∧ w.heap.size < wr.heap.size ∧ (e.kids.take j).all (formE d) = true) (fun i _ => e.kids.length - (intOf i).toNat)
            case atStart => exact ⟨0, Nat.zero_le _, rfl, G3, F3, S3, by simp⟩
            case round =>
              clear G3 F3 S3
              obtain ⟨j, hj, rfl, hb, F, hs, hall⟩ := hrel
              have HA : Hid ((e.kids.take j).all (formE d) = true) := hall
              clear hall
              by_cases hlt : j < e.kids.length
              · obtain ⟨x, hx⟩ : ∃ x, e.kids[j]? = some x := ⟨e.kids[j], List.getElem?_eq_getElem hlt⟩
                obtain ⟨b, off, cap', s, hv, hb1, hb2, h5, hk⟩ := HK.out.at_ hx
                simp only [Value.slice.injEq, true_and] at hv
                obtain ⟨rfl, rfl⟩ := hv
                have HX : Hid (e.kids[j]? = some x) := hx
                obtain ⟨c0, c1, c2, c3, c4⟩ := h5
                rw [← hb.cell (p := ⟨b, off + j * 5, none⟩) (by show b < _; omega)] at c0
                rw [← hb.cell (p := ⟨b, off + j * 5 + 1, none⟩) (by show b < _; omega)] at c1
                rw [← hb.cell (p := ⟨b, off + j * 5 + 2, none⟩) (by show b < _; omega)] at c2
                rw [← hb.cell (p := ⟨b, off + j * 5 + 3, none⟩) (by show b < _; omega)] at c3
                rw [← hb.cell (p := ⟨b, off + j * 5 + 4, none⟩) (by show b < _; omega)] at c4
                have hH := H wr lo hi s x (hk.under hb hhi) (Nat.le_trans hhi hb.size)
                have p4 := F.c4
                obtain ⟨ads, cps, rfl, _, _⟩ := hk.shape
                have HFF := F
                have HFF : Hid (Five wr w.heap.size (.int .i64 k) (.int .i64 n) (.int .i64 a) (.int .i64 t) (.slice (some ⟨b, off, none⟩) e.kids.length cap)) := HFF
                clear hx hk F
                cases hfx : formE d x with
                | true =>
                  rw [hfx] at hH
                  go_wp2_with fail
                  refine hH.mono ?_
                  rintro e1 w1 ⟨rfl, g1⟩
                  have G1 := hb.trans (g1.mono hb.size)
                  have S1 : w.heap.size < w1.heap.size := by have := g1.size; omega
                  have F1 := HFF.out.under g1 hs
                  clear g1 c0 c1 c2 c3 c4 p4 hH hb
                  go_wp2
                  go_roundw
                  case rel => exact ⟨j + 1, by omega, by go_num, G1, F1, S1, all_take_step HA.out HX.out hfx⟩
                  case measure => simp [intOf]; omega
                | false =>
                  rw [hfx] at hH
                  have HQ : Hid (r = false) := by show r = false; rw [HF.out]; exact all_false_at HX.out hfx
                  go_wp2_with fail
                  refine hH.mono ?_
                  rintro e1 w1 ⟨rfl, g1⟩
                  have G1 := hb.trans (g1.mono hb.size)
                  clear g1 c0 c1 c2 c3 c4 p4 hH hb
                  go_wp2
                  go_ret
                  exact ⟨ret_bool HQ.out.symm, G1⟩
              · obtain rfl : j = e.kids.length := by omega
                have HQ : Hid (r = true) := by show r = true; rw [HF.out]; have := HA.out; rwa [List.take_length] at this
                have p4 := F.c4
                clear F
                go_wp2
                go_ret
                exact ⟨ret_bool HQ.out.symm, hb⟩
          | false =>
            rw [ho] at HF
            simp only [Bool.false_and] at HF
            rintro e3 u3 ⟨rfl, g3⟩
            have G3 := G2.trans (g3.mono (by omega))
            clear c0 c1 c2 c3 c4 g3 hao
            go_wp2
            go_ret
            exact ⟨ret_bool HF.out.symm, G3⟩
        · have b3 : (k == 2) = false := by simp [hk2]
          have b4 : (k != 2) = true := by simp [hk2]
          rw [if_neg hk2] at HF
          clear hk2
          by_cases ha : a = 0 ∧ t = 0
          · have h1 : (a == 0) = true := by simp [ha.1]
            have h2 : (t == 0) = true := by simp [ha.2]
            rw [h1, h2, Bool.true_and, Bool.true_and] at HF
            obtain ⟨c0, c1, c2, c3, c4, _⟩ := id F2
            clear ha
            go_wp2_with fail
            clear c0 c1 c2 c3 c4
            go_loopw [5] (fun i wr => ∃ j : Nat, j ≤ e.kids.length ∧ i = .int .i64 j ∧ Below w.heap.size w wr ∧ Five wr w.heap.size (.int .i64 k) (.int .i64 n) (.int .i64 a) (.int .i64 t) (.slice ad e.kids.length cap) ∧ w.heap.size < wr.heap.size ∧ (e.kids.take j).all (formE d) = true) (fun i _ => e.kids.length - (intOf i).toNat)
            case atStart => exact ⟨0, Nat.zero_le _, rfl, G2, F2, S2, by simp⟩
            case round =>
              clear G2 F2 S2
              obtain ⟨j, hj, rfl, hb, F, hs, hall⟩ := hrel
              have HA : Hid ((e.kids.take j).all (formE d) = true) := hall
              clear hall
              by_cases hlt : j < e.kids.length
              · obtain ⟨x, hx⟩ : ∃ x, e.kids[j]? = some x := ⟨e.kids[j], List.getElem?_eq_getElem hlt⟩
                obtain ⟨b, off, cap', s, hv, hb1, hb2, h5, hk⟩ := HK.out.at_ hx
                simp only [Value.slice.injEq, true_and] at hv
                obtain ⟨rfl, rfl⟩ := hv
                have HX : Hid (e.kids[j]? = some x) := hx
                obtain ⟨c0, c1, c2, c3, c4⟩ := h5
                rw [← hb.cell (p := ⟨b, off + j * 5, none⟩) (by show b < _; omega)] at c0
                rw [← hb.cell (p := ⟨b, off + j * 5 + 1, none⟩) (by show b < _; omega)] at c1
                rw [← hb.cell (p := ⟨b, off + j * 5 + 2, none⟩) (by show b < _; omega)] at c2
                rw [← hb.cell (p := ⟨b, off + j * 5 + 3, none⟩) (by show b < _; omega)] at c3
                rw [← hb.cell (p := ⟨b, off + j * 5 + 4, none⟩) (by show b < _; omega)] at c4
                have hH := H wr lo hi s x (hk.under hb hhi) (Nat.le_trans hhi hb.size)
                have p4 := F.c4
                obtain ⟨ads, cps, rfl, _, _⟩ := hk.shape
                have HFF := F
                have HFF : Hid (Five wr w.heap.size (.int .i64 k) (.int .i64 n) (.int .i64 a) (.int .i64 t) (.slice (some ⟨b, off, none⟩) e.kids.length cap)) := HFF
                clear hx hk F
                cases hfx : formE d x with
                | true =>
                  rw [hfx] at hH
                  go_wp2_with fail
                  refine hH.mono ?_
                  rintro e1 w1 ⟨rfl, g1⟩
                  have G1 := hb.trans (g1.mono hb.size)
                  have S1 : w.heap.size < w1.heap.size := by have := g1.size; omega
                  have F1 := HFF.out.under g1 hs
                  clear g1 c0 c1 c2 c3 c4 p4 hH hb
                  go_wp2
                  go_roundw
                  case rel => exact ⟨j + 1, by omega, by go_num, G1, F1, S1, all_take_step HA.out HX.out hfx⟩
                  case measure => simp [intOf]; omega
                | false =>
                  rw [hfx] at hH
                  have HQ : Hid (r = false) := by show r = false; rw [HF.out]; exact all_false_at HX.out hfx
                  go_wp2_with fail
                  refine hH.mono ?_
                  rintro e1 w1 ⟨rfl, g1⟩
                  have G1 := hb.trans (g1.mono hb.size)
                  clear g1 c0 c1 c2 c3 c4 p4 hH hb
                  go_wp2
                  go_ret
                  exact ⟨ret_bool HQ.out.symm, G1⟩
              · obtain rfl : j = e.kids.length := by omega
                have HQ : Hid (r = true) := by show r = true; rw [HF.out]; have := HA.out; rwa [List.take_length] at this
                have p4 := F.c4
                clear F
                go_wp2
                go_ret
                exact ⟨ret_bool HQ.out.symm, hb⟩
          · by_cases a0 : a = 0
            · have h1 : (a == 0) = true := by simp [a0]
              have h2 : (t == 0) = false := by simp; exact fun h => ha ⟨a0, h⟩
              rw [h1, h2] at HF
              simp only [Bool.and_false, Bool.false_and] at HF
              obtain ⟨c0, c1, c2, c3, c4, _⟩ := id F2
              clear ha a0
              go_wp2
              go_ret
              exact ⟨ret_bool HF.out.symm, G2⟩
            · have h1 : (a == 0) = false := by simp [a0]
              rw [h1] at HF
              simp only [Bool.false_and] at HF
              obtain ⟨c0, c1, c2, c3, c4, _⟩ := id F2
              clear ha a0
              go_wp2
              go_ret
              exact ⟨ret_bool HF.out.symm, G2⟩
      · have hn1 : (n == 0) = false := by simp [hn]
        have hn' : (n != 0) = true := by simp [hn]
        rw [hn1] at HF
        simp only [Bool.false_and] at HF
        obtain ⟨c0, c1, c2, c3, c4, _⟩ := id F1
        clear hk1 hn
        go_wp2_with fail
        go_quiet (fail)
        go_wp2
        go_ret
        exact ⟨ret_bool HF.out.symm, below_drewN G1 nq⟩
  · have hq1 : (q != (e.kids.length : Int)) = true := by simp [hq]
    have hq2 : (q == (e.kids.length : Int)) = false := by simp [hq]
    rw [hq2] at HF
    simp only [Bool.false_and] at HF
    clear hq hq2
    go_quiet ((go_at_call 68; exact Calls.quiet_of_same (hlk _)))
    go_wp2
    go_ret
    exact ⟨ret_bool HF.out.symm, below_drewN G0 nq⟩
end Go.Proofs.YtkeockippmmneaaGreat

/-
  What chapter 3's models (package spec) answer: how many parts there are; ExprOk, ExprMany.
-/
namespace Go.Proofs.YtkeockippmmneaaGreat
open Go.ChangeShapes Go.WideShapes Go.ChangeAt Go.RowKit
set_option linter.unusedVariables false

theorem manyD_le : ∀ (d : Nat) (e : ExprD), manyD d e ≤ manyE e ∧ ∀ es : List ExprD, (es.map (manyD d)).sum ≤ manyL es
  | 0, e => ⟨by rw [manyD, manyE_eq]; omega, fun es => by
      induction es with
      | nil => simp
      | cons x xs ih => rw [List.map_cons, List.sum_cons, manyL, manyD, manyE_eq]; omega⟩
  | d + 1, e => by
    have h1 : ∀ x : ExprD, manyD (d + 1) x ≤ manyE x := fun x => by
      have := (manyD_le d x).2 x.kids
      rw [manyD, manyE_eq]
      omega
    refine ⟨h1 e, fun es => ?_⟩
    induction es with
    | nil => simp
    | cons x xs ih => rw [List.map_cons, List.sum_cons, manyL]; have := h1 x; omega

theorem sum_take_succ {es : List ExprD} {j : Nat} {e : ExprD} (d : Nat) (h : es[j]? = some e) : ((es.take (j + 1)).map (manyD d)).sum = ((es.take j).map (manyD d)).sum + manyD d e := by
  rw [List.take_add_one, h]; simp

theorem formS : ∀ d, d ≤ 100 → FormS d
  | 0, _ => form_zero
  | d + 1, h => form_step (by omega) (formS d (by omega))

/-- What l3Many answers, up to d. -/
def ManyS (d : Nat) : Prop := ∀ (w : World) (lo hi : Nat) (s : Value) (e : ExprD), KR w lo hi s e.kids → hi ≤ w.heap.size → manyL e.kids ≤ 1048576 →
  Calls Tryz.prog 57 #[.agg #[.int .i64 e.k, .int .i64 e.n, .int .i64 e.ak, .int .i64 e.at_, s], .int .i64 d] w fun en w' => en = .returned (.int .i64 (manyD d e)) ∧ Below w.heap.size w w'

set_option maxHeartbeats 1000000 in
theorem many_zero : ManyS 0 := by
  intro w lo hi s e h hhi hm
  obtain ⟨ad, cap, rfl, hc1, hc2⟩ := h.shape
  have hmx : e.kids.length ≤ 9223372036854775807 := by unfold maxLen at hc2; omega
  have b1 := fun o => (Below.refl w.heap.size w).alloc (Nat.le_refl _) o
  have HF : Hid (manyD 0 e = 1) := by show manyD 0 e = 1; rw [manyD]
  rw [HF.out]
  clear h
  by_cases hl : (0 : Int) < e.kids.length
  · go_enter Tryz.func57, Tryz.ntmps57
    go_wp2_with fail
    obtain ⟨u0, hu0, G0, F0⟩ : ∃ u0, w.alloc (.cells #[.int .i64 e.k, .int .i64 e.n, .int .i64 e.ak, .int .i64 e.at_, .slice ad e.kids.length cap] 42) = u0 ∧ Below w.heap.size w u0 ∧ u0.cell? ⟨w.heap.size, 4, none⟩ = some (.slice ad e.kids.length cap) := ⟨_, rfl, b1 _, World.cell?_alloc_new _ _ _ _⟩
    rw [hu0]
    clear hu0
    go_loopw [5, 6] (fun q i wr => q = .int .i64 1 ∧ i = .int .i64 0 ∧ wr = u0) (fun _ _ _ => 0)
    case atStart => exact ⟨rfl, rfl, rfl⟩
    case round =>
      obtain ⟨rfl, rfl, rfl⟩ := hrel
      go_wp2
      go_ret
      exact ⟨rfl, G0⟩
  · go_enter Tryz.func57, Tryz.ntmps57
    go_wp2_with fail
    obtain ⟨u0, hu0, G0, F0⟩ : ∃ u0, w.alloc (.cells #[.int .i64 e.k, .int .i64 e.n, .int .i64 e.ak, .int .i64 e.at_, .slice ad e.kids.length cap] 42) = u0 ∧ Below w.heap.size w u0 ∧ u0.cell? ⟨w.heap.size, 4, none⟩ = some (.slice ad e.kids.length cap) := ⟨_, rfl, b1 _, World.cell?_alloc_new _ _ _ _⟩
    rw [hu0]
    clear hu0
    go_loopw [5, 6] (fun q i wr => q = .int .i64 1 ∧ i = .int .i64 0 ∧ wr = u0) (fun _ _ _ => 0)
    case atStart => exact ⟨rfl, rfl, rfl⟩
    case round =>
      obtain ⟨rfl, rfl, rfl⟩ := hrel
      go_wp2
      go_ret
      exact ⟨rfl, G0⟩

set_option maxHeartbeats 2000000 in
theorem many_step {d : Nat} (hd : d ≤ 100) (H : ManyS d) : ManyS (d + 1) := by
  intro w lo hi s e h hhi hm
  obtain ⟨ad, cap, rfl, hc1, hc2⟩ := h.shape
  have hmx : e.kids.length ≤ 9223372036854775807 := by unfold maxLen at hc2; omega
  have b1 := fun o => (Below.refl w.heap.size w).alloc (Nat.le_refl _) o
  have HF : Hid (manyD (d + 1) e = 1 + (e.kids.map (manyD d)).sum) := by show manyD (d + 1) e = _; rw [manyD]
  rw [HF.out]
  have HK : Hid (KR w lo hi (.slice ad e.kids.length cap) e.kids) := h
  have HM : Hid (manyL e.kids ≤ 1048576) := hm
  clear h hm HF hc1 hc2
  have hdd : ((d + 1 : Nat) : Int) = (d : Int) + 1 := by omega
  rw [hdd]
  clear hdd
  have hpos : (0 : Int) < (d : Int) + 1 := by omega
  go_enter Tryz.func57, Tryz.ntmps57
  go_wp2_with fail
  obtain ⟨u0, hu0, G0, F0, S0⟩ : ∃ u0, w.alloc (.cells #[.int .i64 e.k, .int .i64 e.n, .int .i64 e.ak, .int .i64 e.at_, .slice ad e.kids.length cap] 42) = u0 ∧ Below w.heap.size w u0 ∧ u0.cell? ⟨w.heap.size, 4, none⟩ = some (.slice ad e.kids.length cap) ∧ w.heap.size < u0.heap.size := ⟨_, rfl, b1 _, World.cell?_alloc_new _ _ _ _, by simp⟩
  rw [hu0]
  clear hu0
  go_loopw [5, 6] (fun q i wr => ∃ j : Nat, j ≤ e.kids.length ∧ q = .int .i64 ((1 + ((e.kids.take j).map (manyD d)).sum : Nat) : Int) ∧ i = .int .i64 j ∧ Below w.heap.size w wr ∧ wr.cell? ⟨w.heap.size, 4, none⟩ = some (.slice ad e.kids.length cap) ∧ w.heap.size < wr.heap.size) (fun _ i _ => e.kids.length - (intOf i).toNat)
  case atStart => exact ⟨0, Nat.zero_le _, by simp, rfl, G0, F0, S0⟩
  case round =>
    clear G0 F0 S0
    obtain ⟨j, hj, rfl, rfl, hb, F, hs⟩ := hrel
    have hle : ((e.kids.take j).map (manyD d)).sum ≤ 1048576 := by
      have h1 := (manyD_le d e).2 (e.kids.take j)
      have h2 := manyL_take_le e.kids j
      have h3 := HM.out
      omega
    obtain ⟨q, hq⟩ : ∃ q : Nat, ((e.kids.take j).map (manyD d)).sum = q := ⟨_, rfl⟩
    rw [hq] at hle ⊢
    have hcast : ((1 + q : Nat) : Int) = 1 + (q : Int) := by omega
    rw [hcast]
    have HQ : Hid (((e.kids.take j).map (manyD d)).sum = q) := hq
    clear hq hcast
    by_cases hlt : j < e.kids.length
    · obtain ⟨x, hx⟩ : ∃ x, e.kids[j]? = some x := ⟨e.kids[j], List.getElem?_eq_getElem hlt⟩
      obtain ⟨b, off, cap', s, hv, hb1, hb2, h5, hk⟩ := HK.out.at_ hx
      simp only [Value.slice.injEq, true_and] at hv
      obtain ⟨rfl, rfl⟩ := hv
      have hkl := kid_lt hx
      have hmm := HM.out
      have hxm : manyD d x ≤ 1048577 := by have := (manyD_le d x).1; rw [manyE_eq] at this; omega
      have HN : Hid (((e.kids.take (j + 1)).map (manyD d)).sum = q + manyD d x) := by show _ = _; rw [sum_take_succ d hx, HQ.out]
      obtain ⟨c0, c1, c2, c3, c4⟩ := h5
      rw [← hb.cell (p := ⟨b, off + j * 5, none⟩) (by show b < _; omega)] at c0
      rw [← hb.cell (p := ⟨b, off + j * 5 + 1, none⟩) (by show b < _; omega)] at c1
      rw [← hb.cell (p := ⟨b, off + j * 5 + 2, none⟩) (by show b < _; omega)] at c2
      rw [← hb.cell (p := ⟨b, off + j * 5 + 3, none⟩) (by show b < _; omega)] at c3
      rw [← hb.cell (p := ⟨b, off + j * 5 + 4, none⟩) (by show b < _; omega)] at c4
      have hH := H wr lo hi s x (hk.under hb hhi) (Nat.le_trans hhi hb.size) (by omega)
      obtain ⟨ads, cps, rfl, _, _⟩ := hk.shape
      clear hx hk hkl hmm
      generalize manyD d x = y at *
      go_wp2_with fail
      refine hH.mono ?_
      rintro e1 w1 ⟨rfl, g1⟩
      have G1 := hb.trans (g1.mono hb.size)
      have S1 : w.heap.size < w1.heap.size := by have := g1.size; omega
      rw [← g1.cell (p := ⟨w.heap.size, 4, none⟩) hs] at F
      clear g1 c0 c1 c2 c3 c4 hH hb
      go_wp2
      go_roundw
      case rel => exact ⟨j + 1, by omega, by rw [HN.out]; congr 1; omega, by go_num, G1, F, S1⟩
      case measure => simp [intOf]; omega
    · obtain rfl : j = e.kids.length := by omega
      have HR : Hid ((e.kids.map (manyD d)).sum = q) := by have := HQ.out; rwa [List.take_length] at this
      go_wp2
      go_ret
      exact ⟨ret_int (by rw [HR.out]; omega), hb⟩

theorem manyS : ∀ d, d ≤ 100 → ManyS d
  | 0, _ => many_zero
  | d + 1, h => many_step (by omega) (manyS d (by omega))

set_option maxHeartbeats 1000000 in
theorem sExprOk_any (w : World) (lo hi : Nat) (v : Value) (e : ExprD) (h : ER w lo hi v e) (hhi : hi ≤ w.heap.size) (hm : manyL e.kids ≤ 1048576) :
    Calls Tryz.prog 39 #[v] w fun en w' => en = .returned (.bool (exprOk e)) ∧ Below w.heap.size w w' := by
  obtain ⟨s, rfl, hk⟩ := h
  have b1 := fun o => (Below.refl w.heap.size w).alloc (Nat.le_refl _) o
  unfold exprOk
  have hF := fun W hW => formS 6 (by omega) W lo hi s e hW
  have hM := fun W hW hh => manyS 6 (by omega) W lo hi s e hW hh hm
  have hmb : manyD 6 e ≤ 1048577 := by have := (manyD_le 6 e).1; rw [manyE_eq] at this; omega
  obtain ⟨ad, cap, rfl, _, _⟩ := hk.shape
  have HK : Hid (KR w lo hi (.slice ad e.kids.length cap) e.kids) := hk
  clear hk hm
  generalize formE 6 e = fr at *
  generalize manyD 6 e = md at *
  go_enter Tryz.func39, Tryz.ntmps39
  go_wp2_with fail
  obtain ⟨u0, hu0, G0, F0, S0⟩ : ∃ u0, w.alloc (.cells #[.int .i64 e.k, .int .i64 e.n, .int .i64 e.ak, .int .i64 e.at_, .slice ad e.kids.length cap] 42) = u0 ∧ Below w.heap.size w u0 ∧ Five u0 w.heap.size (.int .i64 e.k) (.int .i64 e.n) (.int .i64 e.ak) (.int .i64 e.at_) (.slice ad e.kids.length cap) ∧ w.heap.size < u0.heap.size := ⟨_, rfl, b1 _, five_new _ _ _ _ _ _ _, by simp⟩
  rw [hu0]
  clear hu0
  refine (hF _ (HK.out.under G0 hhi) (by omega)).mono ?_
  rintro e1 u1 ⟨rfl, g1⟩
  have S1 := g1.size
  have G1 := G0.trans (g1.mono (by omega))
  obtain ⟨c0, c1, c2, c3, c4, _⟩ := F0.under g1 S0
  clear F0 g1 G0
  cases fr with
  | false =>
    go_wp2
    go_ret
    exact ⟨rfl, G1⟩
  | true =>
    go_wp2_with fail
    refine (hM _ (HK.out.under G1 hhi) (by omega)).mono ?_
    rintro e2 u2 ⟨rfl, g2⟩
    have G2 := G1.trans (g2.mono (by omega))
    clear g2 c0 c1 c2 c3 c4 hF hM
    by_cases hle : md ≤ 14
    · have h14 : (md : Int) ≤ 14 := by omega
      go_wp2
      go_ret
      exact ⟨ret_bool (by simp; omega), G2⟩
    · have h14 : ¬ ((md : Int) ≤ 14) := by omega
      go_wp2
      go_ret
      exact ⟨ret_bool (by simp; omega), G2⟩

def exprMany (e : ExprD) : Nat := if exprOk e then manyD 6 e else 0

end Go.Proofs.YtkeockippmmneaaGreat

/-
  The parts of a tree, each ahead of its kids, with how many others are around it; when all of them are right.
-/
namespace Go.Proofs.YtkeockippmmneaaGreat
open Go.RowKit
set_option linter.unusedVariables false

mutual
/-- The parts, each ahead of its kids. -/
def preE (d : Int) : ExprD → List (ExprD × Int)
  | .mk k n a t ks => (.mk k n a t ks, d) :: preL (wrap64 (d + 1)) ks
def preL (d : Int) : List ExprD → List (ExprD × Int)
  | [] => []
  | e :: es => preE d e ++ preL d es
end

theorem preE_eq (d : Int) (e : ExprD) : preE d e = (e, d) :: preL (wrap64 (d + 1)) e.kids := by cases e; rw [preE]; rfl

theorem preL_append (d : Int) (xs ys : List ExprD) : preL d (xs ++ ys) = preL d xs ++ preL d ys := by
  induction xs with
  | nil => rw [List.nil_append, preL, List.nil_append]
  | cons x xs ih => rw [List.cons_append, preL, preL, ih, List.append_assoc]

theorem preL_take_succ {d : Int} {es : List ExprD} {i : Nat} {e : ExprD} (h : es[i]? = some e) : preL d (es.take (i + 1)) = preL d (es.take i) ++ preE d e := by
  rw [List.take_add_one, h, preL_append]
  show preL d (es.take i) ++ preL d [e] = _
  rw [preL, preL, List.append_nil]

theorem preL_take_prefix (d : Int) (es : List ExprD) (i : Nat) : preL d (es.take i) <+: preL d es := by
  have h := preL_append d (es.take i) (es.drop i)
  rw [List.take_append_drop] at h
  exact ⟨_, h.symm⟩

theorem preE_length_aux (n : Nat) : ∀ (es : List ExprD) (d : Int), manyL es ≤ n → (preL d es).length = manyL es := by
  induction n with
  | zero =>
    intro es d h
    cases es with
    | nil => rw [preL, manyL]; rfl
    | cons e es => rw [manyL, manyE_eq] at h; omega
  | succ n ih =>
    intro es d h
    induction es with
    | nil => rw [preL, manyL]; rfl
    | cons e es ih2 =>
      rw [manyL, manyE_eq] at h
      rw [preL, manyL, List.length_append, ih2 (by omega), preE_eq, List.length_cons, ih e.kids _ (by omega), manyE_eq]

theorem preL_length (d : Int) (es : List ExprD) : (preL d es).length = manyL es := preE_length_aux _ es d (Nat.le_refl _)
theorem preE_length (d : Int) (e : ExprD) : (preE d e).length = manyE e := by rw [preE_eq, List.length_cons, preL_length, manyE_eq]

theorem mem_preL {d : Int} {es : List ExprD} {x : ExprD × Int} : x ∈ preL d es ↔ ∃ e, e ∈ es ∧ x ∈ preE d e := by
  induction es with
  | nil => rw [preL]; simp
  | cons e es ih => rw [preL, List.mem_append, ih]; simp

/-- A part is right by itself. -/
def partB (e : ExprD) : Bool := (kidsOf e.k == (e.kids.length : Int)) && nOk e && aOk e

theorem formE_succ (d : Nat) (e : ExprD) : formE (d + 1) e = (partB e && e.kids.all (formE d)) := by rw [formE]; rfl

/-- A part is right where it stands. -/
def goodP (x : ExprD × Int) : Prop := x.2 < 6 ∧ partB x.1 = true

theorem good_form : ∀ (d c : Nat), c + d = 6 → ∀ e : ExprD, (∀ x, x ∈ preE (c : Int) e → goodP x) ↔ formE d e = true
  | 0, c, h, e => by
    constructor
    · intro hx
      have := (hx (e, (c : Int)) (by rw [preE_eq]; exact .head _)).1
      simp only at this
      omega
    · intro hx; rw [formE] at hx; cases hx
  | d + 1, c, h, e => by
    have hw : wrap64 ((c : Int) + 1) = ((c + 1 : Nat) : Int) := by unfold wrap64; omega
    have ih := good_form d (c + 1) (by omega)
    rw [preE_eq, hw, formE_succ, Bool.and_eq_true, List.all_eq_true]
    constructor
    · intro hx
      refine ⟨(hx _ (.head _)).2, fun k hk => (ih k).1 fun x hxk => hx x (.tail _ (mem_preL.2 ⟨k, hk, hxk⟩))⟩
    · rintro ⟨hp, hk⟩ x hx
      cases hx with
      | head => exact ⟨by show (c : Int) < 6; omega, hp⟩
      | tail _ hx =>
        obtain ⟨k, hk', hxk⟩ := mem_preL.1 hx
        exact (ih k).2 (hk k hk') x hxk

theorem manyD_form : ∀ (d : Nat) (e : ExprD), formE d e = true → manyD d e = manyE e
  | 0, e, h => by rw [formE] at h; cases h
  | d + 1, e, h => by
    rw [formE_succ, Bool.and_eq_true, List.all_eq_true] at h
    rw [manyD, manyE_eq]
    have hs : ∀ es : List ExprD, (∀ k, k ∈ es → formE d k = true) → (es.map (manyD d)).sum = manyL es := by
      intro es
      induction es with
      | nil => intro _; rw [manyL]; rfl
      | cons k ks ih =>
        intro hk
        rw [List.map_cons, List.sum_cons, manyL, ih fun k' h' => hk k' (.tail _ h'), manyD_form d k (hk k (.head _))]
    rw [hs e.kids h.2]
    omega

theorem exprOk_iff (e : ExprD) : exprOk e = true ↔ (∀ x, x ∈ preE 0 e → goodP x) ∧ manyE e ≤ 14 := by
  have h := good_form 6 0 rfl e
  unfold exprOk
  rw [Bool.and_eq_true, decide_eq_true_eq]
  constructor
  · rintro ⟨h1, h2⟩
    exact ⟨h.2 h1, by rw [← manyD_form 6 e h1]; exact h2⟩
  · rintro ⟨h1, h2⟩
    have h3 := h.1 h1
    exact ⟨h3, by rw [manyD_form 6 e h3]; exact h2⟩

theorem exprMany_eq (e : ExprD) : exprMany e = if exprOk e then manyE e else 0 := by
  unfold exprMany
  split
  · rename_i h
    unfold exprOk at h
    rw [Bool.and_eq_true] at h
    exact manyD_form 6 e h.1
  · rfl
end Go.Proofs.YtkeockippmmneaaGreat
