/-
  What chapter 3's models (package spec) answer: whether something can be reckoned, how many parts it has.
-/
import Derived.Test.YtkeockippmmneaaExprTo
import Derived.Test.YtkeockippmmneaaBase
import Derived.Test.YtkeockippmmneaaDag
import Derived.Laws.StructEq
namespace Go.Proofs.Ytkeockippmmneaa
open Go.ChangeShapes Go.WideShapes Go.ChangeAt Go.RowKit
set_option linter.unusedVariables false

/-- How many kids a kind has; below 0 where it is none. -/
def kidsOf (k : Int) : Int := if k = 1 then 0 else if k = 2 then 0 else if k = 10 then 1 else if 3 ≤ k ∧ k ≤ 9 then 2 else -1

theorem kidsOf_bd (k : Int) : -1 ≤ kidsOf k ∧ kidsOf k ≤ 2 := by
  unfold kidsOf
  repeat' split
  all_goals omega

/-- The number is right; the place is. -/
def nOk (e : ExprD) : Bool := if e.k = 1 then cutZ e.n == e.n else e.n == 0
def aOk (e : ExprD) : Bool := if e.k = 2 then addrOk ⟨e.ak, e.at_⟩ else (e.ak == 0 && e.at_ == 0)

/-- It can be reckoned, and is not deeper than so. -/
def formE : Nat → ExprD → Bool
  | 0, _ => false
  | d + 1, e => (kidsOf e.k == (e.kids.length : Int)) && nOk e && aOk e && e.kids.all (formE d)

/-- How many parts there are, up to so deep. -/
def manyD : Nat → ExprD → Nat
  | 0, _ => 1
  | d + 1, e => 1 + (e.kids.map (manyD d)).sum

def exprOk (e : ExprD) : Bool := formE 6 e && decide (manyD 6 e ≤ 14)

set_option maxHeartbeats 1000000 in
theorem l3Kids_any (w : World) (k : Int) :
    Calls Try.prog 63 #[.int .i64 k] w fun e w' => e = .returned (.int .i64 (kidsOf k)) ∧ w' = w := by
  unfold kidsOf
  by_cases h1 : k = 1
  · subst h1
    go_enter Try.func63, Try.ntmps63
    go_wp2
    go_ret
    exact ⟨rfl, rfl⟩
  · rw [if_neg h1]
    by_cases h2 : k = 2
    · subst h2
      go_enter Try.func63, Try.ntmps63
      go_wp2
      go_ret
      exact ⟨rfl, rfl⟩
    · rw [if_neg h2]
      by_cases h3 : k = 10
      · subst h3
        go_enter Try.func63, Try.ntmps63
        go_wp2
        go_ret
        exact ⟨rfl, rfl⟩
      · rw [if_neg h3]
        have e1 : (k == 1) = false := by simpa using h1
        have e2 : (k == 2) = false := by simpa using h2
        have e3 : (k == 10) = false := by simpa using h3
        by_cases h4 : 3 ≤ k
        · by_cases h5 : k ≤ 9
          · rw [if_pos ⟨h4, h5⟩]
            clear h1 h2 h3
            go_enter Try.func63, Try.ntmps63
            go_wp2
            go_ret
            exact ⟨rfl, rfl⟩
          · rw [if_neg (by omega)]
            clear h1 h2 h3
            go_enter Try.func63, Try.ntmps63
            go_wp2
            go_ret
            exact ⟨rfl, rfl⟩
        · rw [if_neg (by omega)]
          clear h1 h2 h3
          go_enter Try.func63, Try.ntmps63
          go_wp2
          go_ret
          exact ⟨rfl, rfl⟩

/-- What l3Form answers, not deeper than d. -/
def FormS (d : Nat) : Prop := ∀ (w : World) (lo hi : Nat) (s : Value) (e : ExprD), KR w lo hi s e.kids → hi ≤ w.heap.size →
  Calls Try.prog 42 #[.agg #[.int .i64 e.k, .int .i64 e.n, .int .i64 e.ak, .int .i64 e.at_, s], .int .i64 d] w fun en w' => en = .returned (.bool (formE d e)) ∧ Below w.heap.size w w'

theorem form_zero : FormS 0 := by
  intro w lo hi s e h hhi
  have b1 := fun o => (Below.refl w.heap.size w).alloc (Nat.le_refl _) o
  have HF : Hid (formE 0 e = false) := by show formE 0 e = false; rw [formE]
  rw [HF.out]
  clear h
  go_enter Try.func42, Try.ntmps42
  go_wp2_with fail
  go_quiet (fail)
  go_wp2
  go_ret
  exact ⟨rfl, below_drewN (b1 _) nq⟩

theorem all_take_step {es : List ExprD} {j : Nat} {e : ExprD} {f : ExprD → Bool} (h : (es.take j).all f = true) (he : es[j]? = some e) (hf : f e = true) : (es.take (j + 1)).all f = true := by
  rw [List.take_add_one, he]; simp [h, hf]

theorem all_false_at {es : List ExprD} {j : Nat} {e : ExprD} {f : ExprD → Bool} (he : es[j]? = some e) (hf : f e = false) : es.all f = false := by
  rw [Bool.eq_false_iff]
  intro h
  have := List.all_eq_true.mp h e (List.mem_of_getElem? he)
  rw [hf] at this; cases this

set_option maxHeartbeats 4000000 in
theorem form_step {d : Nat} (hd : d ≤ 100) (H : FormS d) : FormS (d + 1) := by
  intro w lo hi s e h hhi
  obtain ⟨ad, cap, rfl, hc1, hc2⟩ := h.shape
  have hmx : e.kids.length ≤ 9223372036854775807 := by unfold maxLen at hc2; omega
  have HK : Hid (KR w lo hi (.slice ad e.kids.length cap) e.kids) := h
  have HF : Hid (formE (d + 1) e = ((kidsOf e.k == (e.kids.length : Int)) && nOk e && aOk e && e.kids.all (formE d))) := by show formE (d + 1) e = _; rw [formE]
  obtain ⟨r, hr⟩ : ∃ r, formE (d + 1) e = r := ⟨_, rfl⟩
  rw [hr]
  rw [hr] at HF
  clear hr h hc1 hc2
  have hdd : ((d + 1 : Nat) : Int) = (d : Int) + 1 := by omega
  rw [hdd]
  obtain ⟨k, ek⟩ : ∃ q, e.k = q := ⟨_, rfl⟩
  obtain ⟨n, en⟩ : ∃ q, e.n = q := ⟨_, rfl⟩
  obtain ⟨a, ea⟩ : ∃ q, e.ak = q := ⟨_, rfl⟩
  obtain ⟨t, et⟩ : ∃ q, e.at_ = q := ⟨_, rfl⟩
  unfold nOk aOk at HF
  rw [ek, en, ea, et] at HF
  rw [ek, en, ea, et]
  clear ek en ea et hdd
  have hkb := kidsOf_bd k
  have hlk := fun W => l3Kids_any W k
  generalize kidsOf k = q at *
  go_enter Try.func42, Try.ntmps42
  go_wp2_with fail
  obtain ⟨u0, hu0, G0, F0, S0⟩ : ∃ u0, w.alloc (.cells #[.int .i64 k, .int .i64 n, .int .i64 a, .int .i64 t, .slice ad e.kids.length cap] 31) = u0 ∧ Below w.heap.size w u0 ∧ Five u0 w.heap.size (.int .i64 k) (.int .i64 n) (.int .i64 a) (.int .i64 t) (.slice ad e.kids.length cap) ∧ u0.heap.size = w.heap.size + 1 :=
    ⟨_, rfl, (Below.refl w.heap.size w).alloc (Nat.le_refl _) _, five_new w _ _ _ _ _ _, by simp⟩
  rw [hu0]
  clear hu0
  obtain ⟨c0, c1, c2, c3, c4, _⟩ := id F0
  have hp1 : ¬ ((d : Int) + 1 < 1) := by omega
  by_cases hq : q = e.kids.length
  · have hq1 : (q != (e.kids.length : Int)) = false := by simp [hq]
    have hq2 : (q == (e.kids.length : Int)) = true := by simp [hq]
    rw [hq2, Bool.true_and] at HF
    clear hq hq2
    go_quiet ((go_at_call 63; exact Calls.quiet_of_same (hlk _)))
    obtain ⟨u1, hu1, G1, F1, S1⟩ : ∃ u1, u0.drewN nq = u1 ∧ Below w.heap.size w u1 ∧ Five u1 w.heap.size (.int .i64 k) (.int .i64 n) (.int .i64 a) (.int .i64 t) (.slice ad e.kids.length cap) ∧ w.heap.size < u1.heap.size := ⟨_, rfl, below_drewN G0 nq, F0.under (below_drewN (Below.refl u0.heap.size u0) nq) (by omega), by show w.heap.size < (u0.drewN nq).heap.size; have := (below_drewN (Below.refl u0.heap.size u0) nq).size; omega⟩
    rw [hu1]
    clear hu1 G0 F0 S0
    clear c0 c1 c2 c3 c4
    have hcut := fun W => sCut_any n W
    by_cases hk1 : k = 1
    · have b1 : (k == 1) = true := by simp [hk1]
      have b2 : (k != 1) = false := by simp [hk1]
      have b3 : (k == 2) = false := by simp [hk1]
      have b4 : (k != 2) = true := by simp [hk1]
      rw [if_pos hk1, if_neg (by omega)] at HF
      cases hn : (cutZ n == n) with
      | true =>
        have hn' : (cutZ n != n) = false := by simp at hn ⊢; exact hn
        rw [hn, Bool.true_and] at HF
        obtain ⟨c0, c1, c2, c3, c4, _⟩ := id F1
        clear hk1
        go_wp2_with fail
        go_quiet ((go_at_call 64; exact Calls.quiet_of_same (hcut _)))
        obtain ⟨u2, hu2, G2, F2, S2⟩ : ∃ u2, u1.drewN nq = u2 ∧ Below w.heap.size w u2 ∧ Five u2 w.heap.size (.int .i64 k) (.int .i64 n) (.int .i64 a) (.int .i64 t) (.slice ad e.kids.length cap) ∧ w.heap.size < u2.heap.size := ⟨_, rfl, below_drewN G1 nq, F1.under (below_drewN (Below.refl u1.heap.size u1) nq) (by omega), by show w.heap.size < (u1.drewN nq).heap.size; have := (below_drewN (Below.refl u1.heap.size u1) nq).size; omega⟩
        rw [hu2]
        clear hu2 G1 F1 S1
        clear c0 c1 c2 c3 c4
        by_cases ha : a = 0 ∧ t = 0
        · have h1 : (a == 0) = true := by simp [ha.1]
          have h2 : (t == 0) = true := by simp [ha.2]
          rw [h1, h2, Bool.true_and, Bool.true_and] at HF
          obtain ⟨c0, c1, c2, c3, c4, _⟩ := id F2
          clear ha
          go_wp2_with fail
          clear c0 c1 c2 c3 c4
          go_loopw [5] (fun i wr => ∃ j : Nat, j ≤ e.kids.length ∧ i = .int .i64 j ∧ Below w.heap.size w wr ∧ Five wr w.heap.size (.int .i64 k) (.int .i64 n) (.int .i64 a) (.int .i64 t) (.slice ad e.kids.length cap) ∧ w.heap.size < wr.heap.size ∧ (e.kids.take j).all (formE d) = true) (fun i _ => e.kids.length - (intOf i).toNat)
          case atStart => exact ⟨0, Nat.zero_le _, rfl, G2, F2, S2, by simp⟩
          case round =>
            clear G2 F2 S2
            obtain ⟨j, hj, rfl, hb, F, hs, hall⟩ := hrel
            have HA : Hid ((e.kids.take j).all (formE d) = true) := hall
            clear hall
            by_cases hlt : j < e.kids.length
            · obtain ⟨x, hx⟩ : ∃ x, e.kids[j]? = some x := ⟨e.kids[j], List.getElem?_eq_getElem hlt⟩
              obtain ⟨b, off, cap', s, hv, hb1, hb2, h5, hk⟩ := HK.out.at_ hx
              simp only [Value.slice.injEq, true_and] at hv
              obtain ⟨rfl, rfl⟩ := hv
              have HX : Hid (e.kids[j]? = some x) := hx
              obtain ⟨c0, c1, c2, c3, c4⟩ := h5
              rw [← hb.cell (p := ⟨b, off + j * 5, none⟩) (by show b < _; omega)] at c0
              rw [← hb.cell (p := ⟨b, off + j * 5 + 1, none⟩) (by show b < _; omega)] at c1
              rw [← hb.cell (p := ⟨b, off + j * 5 + 2, none⟩) (by show b < _; omega)] at c2
              rw [← hb.cell (p := ⟨b, off + j * 5 + 3, none⟩) (by show b < _; omega)] at c3
              rw [← hb.cell (p := ⟨b, off + j * 5 + 4, none⟩) (by show b < _; omega)] at c4
              have hH := H wr lo hi s x (hk.under hb hhi) (Nat.le_trans hhi hb.size)
              have p4 := F.c4
              obtain ⟨ads, cps, rfl, _, _⟩ := hk.shape
              have HFF := F
              have HFF : Hid (Five wr w.heap.size (.int .i64 k) (.int .i64 n) (.int .i64 a) (.int .i64 t) (.slice (some ⟨b, off, none⟩) e.kids.length cap)) := HFF
              clear hx hk F
              cases hfx : formE d x with
              | true =>
                rw [hfx] at hH
                go_wp2_with fail
                refine hH.mono ?_
                rintro e1 w1 ⟨rfl, g1⟩
                have G1 := hb.trans (g1.mono hb.size)
                have S1 : w.heap.size < w1.heap.size := by have := g1.size; omega
                have F1 := HFF.out.under g1 hs
                clear g1 c0 c1 c2 c3 c4 p4 hH hb
                go_wp2
                go_roundw
                case rel => exact ⟨j + 1, by omega, by go_num, G1, F1, S1, all_take_step HA.out HX.out hfx⟩
                case measure => simp [intOf]; omega
              | false =>
                rw [hfx] at hH
                have HQ : Hid (r = false) := by show r = false; rw [HF.out]; exact all_false_at HX.out hfx
                go_wp2_with fail
                refine hH.mono ?_
                rintro e1 w1 ⟨rfl, g1⟩
                have G1 := hb.trans (g1.mono hb.size)
                clear g1 c0 c1 c2 c3 c4 p4 hH hb
                go_wp2
                go_ret
                exact ⟨ret_bool HQ.out.symm, G1⟩
            · obtain rfl : j = e.kids.length := by omega
              have HQ : Hid (r = true) := by show r = true; rw [HF.out]; have := HA.out; rwa [List.take_length] at this
              have p4 := F.c4
              clear F
              go_wp2
              go_ret
              exact ⟨ret_bool HQ.out.symm, hb⟩
        · by_cases a0 : a = 0
          · have h1 : (a == 0) = true := by simp [a0]
            have h2 : (t == 0) = false := by simp; exact fun h => ha ⟨a0, h⟩
            rw [h1, h2] at HF
            simp only [Bool.and_false, Bool.false_and] at HF
            obtain ⟨c0, c1, c2, c3, c4, _⟩ := id F2
            clear ha a0
            go_wp2
            go_ret
            exact ⟨ret_bool HF.out.symm, G2⟩
          · have h1 : (a == 0) = false := by simp [a0]
            rw [h1] at HF
            simp only [Bool.false_and] at HF
            obtain ⟨c0, c1, c2, c3, c4, _⟩ := id F2
            clear ha a0
            go_wp2
            go_ret
            exact ⟨ret_bool HF.out.symm, G2⟩
      | false =>
        have hn' : (cutZ n != n) = true := by simp at hn ⊢; exact hn
        rw [hn] at HF
        simp only [Bool.false_and] at HF
        obtain ⟨c0, c1, c2, c3, c4, _⟩ := id F1
        clear hk1
        go_wp2_with fail
        go_quiet ((go_at_call 64; exact Calls.quiet_of_same (hcut _)))
        go_wp2
        go_ret
        exact ⟨ret_bool HF.out.symm, below_drewN G1 nq⟩
    · have b1 : (k == 1) = false := by simp [hk1]
      have b2 : (k != 1) = true := by simp [hk1]
      rw [if_neg hk1] at HF
      by_cases hn : n = 0
      · have hn1 : (n == 0) = true := by simp [hn]
        have hn' : (n != 0) = false := by simp [hn]
        rw [hn1, Bool.true_and] at HF
        obtain ⟨c0, c1, c2, c3, c4, _⟩ := id F1
        clear hk1 hn
        go_wp2_with fail
        go_quiet (fail)
        obtain ⟨u2, hu2, G2, F2, S2⟩ : ∃ u2, u1.drewN nq = u2 ∧ Below w.heap.size w u2 ∧ Five u2 w.heap.size (.int .i64 k) (.int .i64 n) (.int .i64 a) (.int .i64 t) (.slice ad e.kids.length cap) ∧ w.heap.size < u2.heap.size := ⟨_, rfl, below_drewN G1 nq, F1.under (below_drewN (Below.refl u1.heap.size u1) nq) (by omega), by show w.heap.size < (u1.drewN nq).heap.size; have := (below_drewN (Below.refl u1.heap.size u1) nq).size; omega⟩
        rw [hu2]
        clear hu2 G1 F1 S1
        clear c0 c1 c2 c3 c4
        by_cases hk2 : k = 2
        · have b3 : (k == 2) = true := by simp [hk2]
          have b4 : (k != 2) = false := by simp [hk2]
          rw [if_pos hk2] at HF
          have hao := fun W => sAddrOk_any W ⟨a, t⟩
          have ev : AddrD.val ⟨a, t⟩ = .agg #[.int .i64 a, .int .i64 t] := rfl
          rw [ev] at hao
          obtain ⟨c0, c1, c2, c3, c4, _⟩ := id F2
          clear hk2 ev
          go_wp2_with fail
          refine (hao _).mono ?_
          cases ho : addrOk ⟨a, t⟩ with
          | true =>
            rw [ho, Bool.true_and] at HF
            rintro e3 u3 ⟨rfl, g3⟩
            have G3 := G2.trans (g3.mono (by omega))
            have S3 : w.heap.size < u3.heap.size := by have := g3.size; omega
            have F3 := F2.under g3 S2
            clear c0 c1 c2 c3 c4 g3 G2 S2 F2 hao
            obtain ⟨c0, c1, c2, c3, c4, _⟩ := id F3
            go_wp2_with fail
            clear c0 c1 c2 c3 c4
            go_loopw [5] (fun i wr => ∃ j : Nat, j ≤ e.kids.length ∧ i = .int .i64 j ∧ Below w.heap.size w wr ∧ Five wr w.heap.size (.int .i64 k) (.int .i64 n) (.int .i64 a) (.int .i64 t) (.slice ad e.kids.length cap) ∧ w.heap.size < wr.heap.size ∧ (e.kids.take j).all (formE d) = true) (fun i _ => e.kids.length - (intOf i).toNat)
            case atStart => exact ⟨0, Nat.zero_le _, rfl, G3, F3, S3, by simp⟩
            case round =>
              clear G3 F3 S3
              obtain ⟨j, hj, rfl, hb, F, hs, hall⟩ := hrel
              have HA : Hid ((e.kids.take j).all (formE d) = true) := hall
              clear hall
              by_cases hlt : j < e.kids.length
              · obtain ⟨x, hx⟩ : ∃ x, e.kids[j]? = some x := ⟨e.kids[j], List.getElem?_eq_getElem hlt⟩
                obtain ⟨b, off, cap', s, hv, hb1, hb2, h5, hk⟩ := HK.out.at_ hx
                simp only [Value.slice.injEq, true_and] at hv
                obtain ⟨rfl, rfl⟩ := hv
                have HX : Hid (e.kids[j]? = some x) := hx
                obtain ⟨c0, c1, c2, c3, c4⟩ := h5
                rw [← hb.cell (p := ⟨b, off + j * 5, none⟩) (by show b < _; omega)] at c0
                rw [← hb.cell (p := ⟨b, off + j * 5 + 1, none⟩) (by show b < _; omega)] at c1
                rw [← hb.cell (p := ⟨b, off + j * 5 + 2, none⟩) (by show b < _; omega)] at c2
                rw [← hb.cell (p := ⟨b, off + j * 5 + 3, none⟩) (by show b < _; omega)] at c3
                rw [← hb.cell (p := ⟨b, off + j * 5 + 4, none⟩) (by show b < _; omega)] at c4
                have hH := H wr lo hi s x (hk.under hb hhi) (Nat.le_trans hhi hb.size)
                have p4 := F.c4
                obtain ⟨ads, cps, rfl, _, _⟩ := hk.shape
                have HFF := F
                have HFF : Hid (Five wr w.heap.size (.int .i64 k) (.int .i64 n) (.int .i64 a) (.int .i64 t) (.slice (some ⟨b, off, none⟩) e.kids.length cap)) := HFF
                clear hx hk F
                cases hfx : formE d x with
                | true =>
                  rw [hfx] at hH
                  go_wp2_with fail
                  refine hH.mono ?_
                  rintro e1 w1 ⟨rfl, g1⟩
                  have G1 := hb.trans (g1.mono hb.size)
                  have S1 : w.heap.size < w1.heap.size := by have := g1.size; omega
                  have F1 := HFF.out.under g1 hs
                  clear g1 c0 c1 c2 c3 c4 p4 hH hb
                  go_wp2
                  go_roundw
                  case rel => exact ⟨j + 1, by omega, by go_num, G1, F1, S1, all_take_step HA.out HX.out hfx⟩
                  case measure => simp [intOf]; omega
                | false =>
                  rw [hfx] at hH
                  have HQ : Hid (r = false) := by show r = false; rw [HF.out]; exact all_false_at HX.out hfx
                  go_wp2_with fail
                  refine hH.mono ?_
                  rintro e1 w1 ⟨rfl, g1⟩
                  have G1 := hb.trans (g1.mono hb.size)
                  clear g1 c0 c1 c2 c3 c4 p4 hH hb
                  go_wp2
                  go_ret
                  exact ⟨ret_bool HQ.out.symm, G1⟩
              · obtain rfl : j = e.kids.length := by omega
                have HQ : Hid (r = true) := by show r = true; rw [HF.out]; have := HA.out; rwa [List.take_length] at this
                have p4 := F.c4
                clear F
                go_wp2
                go_ret
                exact ⟨ret_bool HQ.out.symm, hb⟩
          | false =>
            rw [ho] at HF
            simp only [Bool.false_and] at HF
            rintro e3 u3 ⟨rfl, g3⟩
            have G3 := G2.trans (g3.mono (by omega))
            clear c0 c1 c2 c3 c4 g3 hao
            go_wp2
            go_ret
            exact ⟨ret_bool HF.out.symm, G3⟩
        · have b3 : (k == 2) = false := by simp [hk2]
          have b4 : (k != 2) = true := by simp [hk2]
          rw [if_neg hk2] at HF
          clear hk2
          by_cases ha : a = 0 ∧ t = 0
          · have h1 : (a == 0) = true := by simp [ha.1]
            have h2 : (t == 0) = true := by simp [ha.2]
            rw [h1, h2, Bool.true_and, Bool.true_and] at HF
            obtain ⟨c0, c1, c2, c3, c4, _⟩ := id F2
            clear ha
            go_wp2_with fail
            clear c0 c1 c2 c3 c4
            go_loopw [5] (fun i wr => ∃ j : Nat, j ≤ e.kids.length ∧ i = .int .i64 j ∧ Below w.heap.size w wr ∧ Five wr w.heap.size (.int .i64 k) (.int .i64 n) (.int .i64 a) (.int .i64 t) (.slice ad e.kids.length cap) ∧ w.heap.size < wr.heap.size ∧ (e.kids.take j).all (formE d) = true) (fun i _ => e.kids.length - (intOf i).toNat)
            case atStart => exact ⟨0, Nat.zero_le _, rfl, G2, F2, S2, by simp⟩
            case round =>
              clear G2 F2 S2
              obtain ⟨j, hj, rfl, hb, F, hs, hall⟩ := hrel
              have HA : Hid ((e.kids.take j).all (formE d) = true) := hall
              clear hall
              by_cases hlt : j < e.kids.length
              · obtain ⟨x, hx⟩ : ∃ x, e.kids[j]? = some x := ⟨e.kids[j], List.getElem?_eq_getElem hlt⟩
                obtain ⟨b, off, cap', s, hv, hb1, hb2, h5, hk⟩ := HK.out.at_ hx
                simp only [Value.slice.injEq, true_and] at hv
                obtain ⟨rfl, rfl⟩ := hv
                have HX : Hid (e.kids[j]? = some x) := hx
                obtain ⟨c0, c1, c2, c3, c4⟩ := h5
                rw [← hb.cell (p := ⟨b, off + j * 5, none⟩) (by show b < _; omega)] at c0
                rw [← hb.cell (p := ⟨b, off + j * 5 + 1, none⟩) (by show b < _; omega)] at c1
                rw [← hb.cell (p := ⟨b, off + j * 5 + 2, none⟩) (by show b < _; omega)] at c2
                rw [← hb.cell (p := ⟨b, off + j * 5 + 3, none⟩) (by show b < _; omega)] at c3
                rw [← hb.cell (p := ⟨b, off + j * 5 + 4, none⟩) (by show b < _; omega)] at c4
                have hH := H wr lo hi s x (hk.under hb hhi) (Nat.le_trans hhi hb.size)
                have p4 := F.c4
                obtain ⟨ads, cps, rfl, _, _⟩ := hk.shape
                have HFF := F
                have HFF : Hid (Five wr w.heap.size (.int .i64 k) (.int .i64 n) (.int .i64 a) (.int .i64 t) (.slice (some ⟨b, off, none⟩) e.kids.length cap)) := HFF
                clear hx hk F
                cases hfx : formE d x with
                | true =>
                  rw [hfx] at hH
                  go_wp2_with fail
                  refine hH.mono ?_
                  rintro e1 w1 ⟨rfl, g1⟩
                  have G1 := hb.trans (g1.mono hb.size)
                  have S1 : w.heap.size < w1.heap.size := by have := g1.size; omega
                  have F1 := HFF.out.under g1 hs
                  clear g1 c0 c1 c2 c3 c4 p4 hH hb
                  go_wp2
                  go_roundw
                  case rel => exact ⟨j + 1, by omega, by go_num, G1, F1, S1, all_take_step HA.out HX.out hfx⟩
                  case measure => simp [intOf]; omega
                | false =>
                  rw [hfx] at hH
                  have HQ : Hid (r = false) := by show r = false; rw [HF.out]; exact all_false_at HX.out hfx
                  go_wp2_with fail
                  refine hH.mono ?_
                  rintro e1 w1 ⟨rfl, g1⟩
                  have G1 := hb.trans (g1.mono hb.size)
                  clear g1 c0 c1 c2 c3 c4 p4 hH hb
                  go_wp2
                  go_ret
                  exact ⟨ret_bool HQ.out.symm, G1⟩
              · obtain rfl : j = e.kids.length := by omega
                have HQ : Hid (r = true) := by show r = true; rw [HF.out]; have := HA.out; rwa [List.take_length] at this
                have p4 := F.c4
                clear F
                go_wp2
                go_ret
                exact ⟨ret_bool HQ.out.symm, hb⟩
          · by_cases a0 : a = 0
            · have h1 : (a == 0) = true := by simp [a0]
              have h2 : (t == 0) = false := by simp; exact fun h => ha ⟨a0, h⟩
              rw [h1, h2] at HF
              simp only [Bool.and_false, Bool.false_and] at HF
              obtain ⟨c0, c1, c2, c3, c4, _⟩ := id F2
              clear ha a0
              go_wp2
              go_ret
              exact ⟨ret_bool HF.out.symm, G2⟩
            · have h1 : (a == 0) = false := by simp [a0]
              rw [h1] at HF
              simp only [Bool.false_and] at HF
              obtain ⟨c0, c1, c2, c3, c4, _⟩ := id F2
              clear ha a0
              go_wp2
              go_ret
              exact ⟨ret_bool HF.out.symm, G2⟩
      · have hn1 : (n == 0) = false := by simp [hn]
        have hn' : (n != 0) = true := by simp [hn]
        rw [hn1] at HF
        simp only [Bool.false_and] at HF
        obtain ⟨c0, c1, c2, c3, c4, _⟩ := id F1
        clear hk1 hn
        go_wp2_with fail
        go_quiet (fail)
        go_wp2
        go_ret
        exact ⟨ret_bool HF.out.symm, below_drewN G1 nq⟩
  · have hq1 : (q != (e.kids.length : Int)) = true := by simp [hq]
    have hq2 : (q == (e.kids.length : Int)) = false := by simp [hq]
    rw [hq2] at HF
    simp only [Bool.false_and] at HF
    clear hq hq2
    go_quiet ((go_at_call 63; exact Calls.quiet_of_same (hlk _)))
    go_wp2
    go_ret
    exact ⟨ret_bool HF.out.symm, below_drewN G0 nq⟩
end Go.Proofs.Ytkeockippmmneaa
