import Derived.Test.YtkeockippmmneaaGreatQS1
import Derived.Test.YtkeockippmmneaaGreatQS3
import Derived.Test.YtkeockippmmneaaGreatSlimED

/-
  What chapter 4's models (package spec) answer: whether a list can be done, how many statements there are.
-/
namespace Go.Proofs.YtkeockippmmneaaGreat
open Go.ChangeShapes Go.WideShapes Go.ChangeAt Go.RowKit
set_option linter.unusedVariables false

/-- A statement's place and lists are there just if its kind has them. -/
def fitB (s : StmtD) : Bool :=
  if s.k = 1 then addrOk ⟨s.tk, s.ta⟩ && ((s.tk != 1) && (((s.th.length : Int) == 0) && ((s.el.length : Int) == 0)))
  else if s.k = 2 then (s.tk == 0) && (s.ta == 0) else if s.k = 3 then ((s.tk == 0) && (s.ta == 0)) && ((s.el.length : Int) == 0) else false

/-- A list can be done, not deeper than so. -/
def formT : Nat → List StmtD → Bool
  | 0, l => l.isEmpty
  | d + 1, l => l.all fun s => fitB s && exprOk s.e && formT d s.th && formT d s.el

/-- How many statements there are, up to so deep. -/
def manySt : Nat → List StmtD → Nat
  | 0, l => l.length
  | d + 1, l => l.length + (l.map fun s => manySt d s.th + manySt d s.el).sum

def stmtsOk (l : List StmtD) : Bool := decide (manySt 4 l ≤ 16) && formT 4 l

def stmtsMany (l : List StmtD) : Nat := if stmtsOk l then manySt 4 l else 0

theorem wrap_fit (n : Int) (h0 : -9223372036854775808 ≤ n) (h1 : n ≤ 9223372036854775807) : IntKind.i64.wrap n = n := by
  simp only [IntKind.wrap, IntKind.bits, IntKind.signed]
  simp
  omega

theorem formT_nil (d : Nat) : formT d [] = true := by cases d <;> rw [formT] <;> rfl

theorem all_take_stepT {f : StmtD → Bool} {ss : List StmtD} {j : Nat} {s : StmtD} (h : (ss.take j).all f = true) (hs : ss[j]? = some s) (hf : f s = true) : (ss.take (j + 1)).all f = true := by
  rw [List.take_add_one, hs]; simp [h, hf]

theorem all_false_atT {f : StmtD → Bool} {ss : List StmtD} {j : Nat} {s : StmtD} (hs : ss[j]? = some s) (hf : f s = false) : ss.all f = false := by
  rw [Bool.eq_false_iff]
  intro h
  rw [List.all_eq_true] at h
  have := h s (List.mem_of_getElem? hs)
  rw [hf] at this
  cases this

theorem sum_le_size (d : Nat) (hd : ∀ l, manySt d l ≤ sizeL l) : ∀ l : List StmtD, l.length + (l.map fun s => manySt d s.th + manySt d s.el).sum ≤ sizeL l
  | [] => by simp [sizeL]
  | s :: ss => by
    have ih := sum_le_size d hd ss
    have h1 := hd s.th
    have h2 := hd s.el
    rw [List.map_cons, List.sum_cons, List.length_cons, sizeL, sizeS_eq]
    omega

theorem manyT_le : ∀ (d : Nat) (l : List StmtD), manySt d l ≤ sizeL l
  | 0, l => by rw [manySt]; exact length_le_sizeL l
  | d + 1, l => by rw [manySt]; exact sum_le_size d (manyT_le d) l

/-- How many there are in the first j, with those within them. -/
def partT (d : Nat) (ss : List StmtD) (j : Nat) : Nat := ((ss.take j).map fun s => manySt d s.th + manySt d s.el).sum

theorem partT_succ {ss : List StmtD} {j : Nat} {s : StmtD} (d : Nat) (h : ss[j]? = some s) : partT d ss (j + 1) = partT d ss j + (manySt d s.th + manySt d s.el) := by
  unfold partT; rw [List.take_add_one, h]; simp

theorem partT_le (d : Nat) (ss : List StmtD) (j : Nat) : partT d ss j ≤ sizeL ss := by
  have h1 := sum_le_size d (manyT_le d) (ss.take j)
  have h2 := sizeL_take_le ss j
  unfold partT
  omega

/-- What l4Form answers, not deeper than d. -/
def FormT (d : Nat) : Prop := ∀ (w : World) (lo hi : Nat) (v : Value) (ss : List StmtD), SR w lo hi v ss → hi ≤ w.heap.size → sizeL ss ≤ 1048576 →
  Calls Tryz.prog 23 #[v, .int .i64 d] w fun en w' => en = .returned (.bool (formT d ss)) ∧ Below w.heap.size w w'

set_option maxHeartbeats 1000000 in
theorem formT_zero : FormT 0 := by
  intro w lo hi v ss h hhi hm
  obtain ⟨ad, cap, rfl, hc1, hc2⟩ := h.shape
  have hmx : ss.length ≤ 9223372036854775807 := by unfold maxLen at hc2; omega
  by_cases h0 : 0 < ss.length
  · have HF : Hid (formT 0 ss = false) := by show formT 0 ss = false; rw [formT]; cases ss with | nil => simp at h0 | cons a b => rfl
    rw [HF.out]
    have h0' : (0 : Int) < (ss.length : Int) := by omega
    clear h
    go_enter Tryz.func23, Tryz.ntmps23
    go_wp2
    go_ret
    exact ⟨rfl, Below.refl _ _⟩
  · obtain rfl : ss = [] := List.eq_nil_of_length_eq_zero (by omega)
    rw [formT_nil]
    clear h h0
    go_enter Tryz.func23, Tryz.ntmps23
    go_wp2_with fail
    go_loopw [5] (fun i wr => i = .int .i64 0 ∧ wr = w) (fun _ _ => 0)
    case atStart => exact ⟨rfl, rfl⟩
    case round =>
      obtain ⟨rfl, rfl⟩ := hrel
      go_wp2
      go_ret
      exact ⟨rfl, Below.refl _ _⟩

set_option maxRecDepth 100000 in
set_option maxHeartbeats 8000000 in
theorem formT_step {d : Nat} (hd : d ≤ 100) (H : FormT d) : FormT (d + 1) := by
  intro w lo hi v ss h hhi hm
  obtain ⟨ad, cap, rfl, hc1, hc2⟩ := h.shape
  have hmx : ss.length ≤ 9223372036854775807 := by unfold maxLen at hc2; omega
  have HF : Hid (formT (d + 1) ss = ss.all fun s => fitB s && exprOk s.e && formT d s.th && formT d s.el) := by show formT (d + 1) ss = _; rw [formT]
  rw [HF.out]
  clear HF
  have HK : Hid (SR w lo hi (.slice ad ss.length cap) ss) := h
  have HM : Hid (sizeL ss ≤ 1048576) := hm
  clear h hm hc1 hc2
  have hdd : ((d + 1 : Nat) : Int) = (d : Int) + 1 := by omega
  rw [hdd]
  clear hdd
  have hp1 : ¬ ((d : Int) + 1 < 1) := by omega
  obtain ⟨f, ef⟩ : ∃ f : StmtD → Bool, (fun s => fitB s && exprOk s.e && formT d s.th && formT d s.el) = f := ⟨_, rfl⟩
  rw [ef]
  have Hf : Hid (∀ s, f s = (fitB s && exprOk s.e && formT d s.th && formT d s.el)) := fun s => by rw [← ef]
  clear ef
  by_cases h00 : ss.length = 0
  · obtain rfl : ss = [] := List.eq_nil_of_length_eq_zero h00
    clear h00
    go_enter Tryz.func23, Tryz.ntmps23
    go_wp2_with fail
    go_loopw [5] (fun i wr => i = .int .i64 0 ∧ wr = w) (fun _ _ => 0)
    case atStart => exact ⟨rfl, rfl⟩
    case round =>
      obtain ⟨rfl, rfl⟩ := hrel
      go_wp2
      go_ret
      exact ⟨rfl, Below.refl _ _⟩
  have h01 : (0 : Int) < (ss.length : Int) := by omega
  clear h00
  go_enter Tryz.func23, Tryz.ntmps23
  go_wp2_with fail
  go_loopw [5] (fun i wr => ∃ j : Nat, j ≤ ss.length ∧ i = .int .i64 j ∧ Below w.heap.size w wr ∧ (ss.take j).all f = true) (fun i _ => ss.length - (intOf i).toNat)
  case atStart => exact ⟨0, Nat.zero_le _, rfl, Below.refl _ _, by simp⟩
  case round =>
    obtain ⟨j, hj, rfl, hb, hall⟩ := hrel
    have HA : Hid ((ss.take j).all f = true) := hall
    clear hall
    by_cases hlt : j < ss.length
    · obtain ⟨s, hs⟩ : ∃ s, ss[j]? = some s := ⟨ss[j], List.getElem?_eq_getElem hlt⟩
      obtain ⟨b, off, cap', x, y, z, hv, hb1, hb2, h5, hkx, hky, hkz⟩ := HK.out.at_ hs
      simp only [Value.slice.injEq, true_and] at hv
      obtain ⟨rfl, rfl⟩ := hv
      have HS : Hid (ss[j]? = some s) := hs
      have hkl := stmt_lt hs
      have hmm := HM.out
      have HX : Hid (KR w lo hi x s.e.kids ∧ SR w lo hi y s.th ∧ SR w lo hi z s.el) := ⟨hkx, hky, hkz⟩
      have HQ : Hid (manyL s.e.kids ≤ 1048576 ∧ sizeL s.th ≤ 1048576 ∧ sizeL s.el ≤ 1048576) := ⟨by omega, by omega, by omega⟩
      obtain ⟨c0, c1, c2, c3, c4, c5, c6, c7, c8, c9⟩ := h5.kept (hb.block b (by omega))
      obtain ⟨ax, cx, rfl, _, hx2⟩ := hkx.shape
      obtain ⟨ay, cy, rfl, _, hy2⟩ := hky.shape
      obtain ⟨az, cz, rfl, _, hz2⟩ := hkz.shape
      have hym : s.th.length ≤ 9223372036854775807 := by unfold maxLen at hy2; omega
      have hzm : s.el.length ≤ 9223372036854775807 := by unfold maxLen at hz2; omega
      have hFs := Hf.out s
      clear hs hkx hky hkz hkl hmm hx2 hy2 hz2 h5
      obtain ⟨u0, hu0, G0, T0, S0⟩ : ∃ u0, wr.alloc (.cells #[.int .i64 s.k, .int .i64 s.tk, .int .i64 s.ta, .int .i64 s.e.k, .int .i64 s.e.n, .int .i64 s.e.ak, .int .i64 s.e.at_, .slice ax s.e.kids.length cx, .slice ay s.th.length cy, .slice az s.el.length cz] 44) = u0 ∧ Below wr.heap.size wr u0 ∧ TenW u0 wr.heap.size (.int .i64 s.k) (.int .i64 s.tk) (.int .i64 s.ta) (.int .i64 s.e.k) (.int .i64 s.e.n) (.int .i64 s.e.ak) (.int .i64 s.e.at_) (.slice ax s.e.kids.length cx) (.slice ay s.th.length cy) (.slice az s.el.length cz) ∧ u0.heap.size = wr.heap.size + 1 :=
        ⟨_, rfl, (Below.refl _ _).alloc (Nat.le_refl _) _, tenW_new _ _ _ _ _ _ _ _ _ _ _ _, by simp⟩
      have HU0 : Hid (_ = u0) := hu0
      have HT0 : Hid (TenW u0 wr.heap.size (.int .i64 s.k) (.int .i64 s.tk) (.int .i64 s.ta) (.int .i64 s.e.k) (.int .i64 s.e.n) (.int .i64 s.e.ak) (.int .i64 s.e.at_) (.slice ax s.e.kids.length cx) (.slice ay s.th.length cy) (.slice az s.el.length cz)) := T0
      have B0 : Below w.heap.size w u0 := hb.trans (G0.mono hb.size)
      have hsw : w.heap.size ≤ wr.heap.size := hb.size
      obtain ⟨d0, d1, d2, d3, d4, d5, d6, d7, d8, d9, _⟩ := id T0
      clear hu0 T0 G0
      by_cases k1 : s.k = 1
      · have e1 : (s.k == 1) = true := by simp [k1]
        have hfb : fitB s = (addrOk ⟨s.tk, s.ta⟩ && ((s.tk != 1) && (((s.th.length : Int) == 0) && ((s.el.length : Int) == 0)))) := by unfold fitB; rw [if_pos k1]
        clear k1
        go_wp2_with fail
        try rw [HU0.out]
        clear c0 c1 c2 c3 c4 c5 c6 c7 c8 c9 d0 d1 d2 d3 d4 d5 d6 d7 d8 d9
        have ev : AddrD.val ⟨s.tk, s.ta⟩ = .agg #[.int .i64 s.tk, .int .i64 s.ta] := rfl
        rw [← ev]
        refine (sAddrOk_any _ ⟨s.tk, s.ta⟩).mono ?_
        clear ev
        rintro e0 u01 ⟨rfl, g01⟩
        have S01 := g01.size
        have B01 := B0.trans (g01.mono (by omega))
        have HT01 : Hid (TenW u01 wr.heap.size (.int .i64 s.k) (.int .i64 s.tk) (.int .i64 s.ta) (.int .i64 s.e.k) (.int .i64 s.e.n) (.int .i64 s.e.ak) (.int .i64 s.e.at_) (.slice ax s.e.kids.length cx) (.slice ay s.th.length cy) (.slice az s.el.length cz)) := HT0.out.under g01 (by omega)
        clear g01 HT0 B0
        cases ha : addrOk ⟨s.tk, s.ta⟩ with
        | false =>
          have HB : Hid (ss.all f = false) := all_false_atT HS.out (by rw [hFs]; rw [hfb, ha]; rfl)
          go_wp2
          go_ret
          exact ⟨ret_bool HB.out.symm, B01⟩
        | true =>
          rw [ha, Bool.true_and] at hfb
          obtain ⟨d0, d1, d2, d3, d4, d5, d6, d7, d8, d9, _⟩ := id HT01.out
          cases ht : (s.tk != 1) with
          | false =>
            have HB : Hid (ss.all f = false) := all_false_atT HS.out (by rw [hFs]; rw [hfb, ht]; rfl)
            go_wp2
            go_ret
            exact ⟨ret_bool HB.out.symm, B01⟩
          | true =>
            rw [ht, Bool.true_and] at hfb
            cases hh : ((s.th.length : Int) == 0) with
            | false =>
              have HB : Hid (ss.all f = false) := all_false_atT HS.out (by rw [hFs]; rw [hfb, hh]; rfl)
              go_wp2
              go_ret
              exact ⟨ret_bool HB.out.symm, B01⟩
            | true =>
              rw [hh, Bool.true_and] at hfb
              cases he : ((s.el.length : Int) == 0) with
              | false =>
                have HB : Hid (ss.all f = false) := all_false_atT HS.out (by rw [hFs]; rw [hfb, he]; rfl)
                go_wp2
                go_ret
                exact ⟨ret_bool HB.out.symm, B01⟩
              | true =>
                have hfit : fitB s = true := by rw [hfb, he]
                clear hfb d0 d1 d2 d3 d4 d5 d6 d7 d8 d9
                obtain ⟨d0, d1, d2, d3, d4, d5, d6, d7, d8, d9, _⟩ := id HT01.out
                rw [hfit, Bool.true_and] at hFs
                go_wp2_with fail
                clear d0 d1 d2 d3 d4 d5 d6 d7 d8 d9
                refine (sExprOk_any _ lo hi _ s.e ⟨_, rfl, HX.out.1.under B01 hhi⟩ (by omega) HQ.out.1).mono ?_
                rintro e1 u1 ⟨rfl, g1⟩
                have S1 := g1.size
                have B1 := B01.trans (g1.mono (by omega))
                have HT1 : Hid (TenW u1 wr.heap.size (.int .i64 s.k) (.int .i64 s.tk) (.int .i64 s.ta) (.int .i64 s.e.k) (.int .i64 s.e.n) (.int .i64 s.e.ak) (.int .i64 s.e.at_) (.slice ax s.e.kids.length cx) (.slice ay s.th.length cy) (.slice az s.el.length cz)) := HT01.out.under g1 (by omega)
                clear g1
                cases hxo : exprOk s.e with
                | false =>
                  have HB : Hid (ss.all f = false) := all_false_atT HS.out (by rw [hFs]; rw [hxo]; rfl)
                  go_wp2
                  go_ret
                  exact ⟨ret_bool HB.out.symm, B1⟩
                | true =>
                  have c8 := HT1.out.c8
                  rw [hxo, Bool.true_and] at hFs
                  go_wp2_with fail
                  clear c8
                  refine (H _ lo hi _ s.th (HX.out.2.1.under B1 hhi) (by omega) HQ.out.2.1).mono ?_
                  rintro e2 u2 ⟨rfl, g2⟩
                  have S2 := g2.size
                  have B2 := B1.trans (g2.mono (by omega))
                  have HT2 : Hid (TenW u2 wr.heap.size (.int .i64 s.k) (.int .i64 s.tk) (.int .i64 s.ta) (.int .i64 s.e.k) (.int .i64 s.e.n) (.int .i64 s.e.ak) (.int .i64 s.e.at_) (.slice ax s.e.kids.length cx) (.slice ay s.th.length cy) (.slice az s.el.length cz)) := HT1.out.under g2 (by omega)
                  clear g2
                  cases hto : formT d s.th with
                  | false =>
                    have HB : Hid (ss.all f = false) := all_false_atT HS.out (by rw [hFs]; rw [hto]; rfl)
                    go_wp2
                    go_ret
                    exact ⟨ret_bool HB.out.symm, B2⟩
                  | true =>
                    have c9 := HT2.out.c9
                    rw [hto, Bool.true_and] at hFs
                    go_wp2_with fail
                    clear c9
                    refine (H _ lo hi _ s.el (HX.out.2.2.under B2 hhi) (by omega) HQ.out.2.2).mono ?_
                    rintro e3 u3 ⟨rfl, g3⟩
                    have S3 := g3.size
                    have B3 := B2.trans (g3.mono (by omega))
                    clear g3
                    cases hlo : formT d s.el with
                    | false =>
                      have HB : Hid (ss.all f = false) := all_false_atT HS.out (by rw [hFs]; exact hlo)
                      go_wp2
                      go_ret
                      exact ⟨ret_bool HB.out.symm, B3⟩
                    | true =>
                      have HN : Hid ((ss.take (j + 1)).all f = true) := all_take_stepT HA.out HS.out (by rw [hFs]; exact hlo)
                      clear hFs
                      go_wp2
                      go_roundw
                      case rel => exact ⟨j + 1, by omega, by go_num, B3, HN.out⟩
                      case measure => simp [intOf]; omega
      have e1 : (s.k == 1) = false := by simp [k1]
      by_cases k2 : s.k = 2
      · have e2 : (s.k == 2) = true := by simp [k2]
        have hfb : fitB s = ((s.tk == 0) && (s.ta == 0)) := by unfold fitB; rw [if_neg k1, if_pos k2]
        clear k1 k2
        cases ht : (s.tk == 0) with
        | false =>
          have HB : Hid (ss.all f = false) := all_false_atT HS.out (by rw [hFs]; rw [hfb, ht]; rfl)
          go_wp2
          try rw [HU0.out]
          go_ret
          exact ⟨ret_bool HB.out.symm, B0⟩
        | true =>
          cases ha : (s.ta == 0) with
          | false =>
            have HB : Hid (ss.all f = false) := all_false_atT HS.out (by rw [hFs]; rw [hfb, ht, ha]; rfl)
            go_wp2
            try rw [HU0.out]
            go_ret
            exact ⟨ret_bool HB.out.symm, B0⟩
          | true =>
            have hfit : fitB s = true := by rw [hfb, ht, ha]; rfl
            clear hfb
            rw [hfit, Bool.true_and] at hFs
            go_wp2_with fail
            try rw [HU0.out]
            clear c0 c1 c2 c3 c4 c5 c6 c7 c8 c9 d0 d1 d2 d3 d4 d5 d6 d7 d8 d9
            refine (sExprOk_any _ lo hi _ s.e ⟨_, rfl, HX.out.1.under B0 hhi⟩ (by omega) HQ.out.1).mono ?_
            rintro e1 u1 ⟨rfl, g1⟩
            have S1 := g1.size
            have B1 := B0.trans (g1.mono (by omega))
            have HT1 : Hid (TenW u1 wr.heap.size (.int .i64 s.k) (.int .i64 s.tk) (.int .i64 s.ta) (.int .i64 s.e.k) (.int .i64 s.e.n) (.int .i64 s.e.ak) (.int .i64 s.e.at_) (.slice ax s.e.kids.length cx) (.slice ay s.th.length cy) (.slice az s.el.length cz)) := HT0.out.under g1 (by omega)
            clear g1
            cases hxo : exprOk s.e with
            | false =>
              have HB : Hid (ss.all f = false) := all_false_atT HS.out (by rw [hFs]; rw [hxo]; rfl)
              go_wp2
              go_ret
              exact ⟨ret_bool HB.out.symm, B1⟩
            | true =>
              have c8 := HT1.out.c8
              rw [hxo, Bool.true_and] at hFs
              go_wp2_with fail
              clear c8
              refine (H _ lo hi _ s.th (HX.out.2.1.under B1 hhi) (by omega) HQ.out.2.1).mono ?_
              rintro e2 u2 ⟨rfl, g2⟩
              have S2 := g2.size
              have B2 := B1.trans (g2.mono (by omega))
              have HT2 : Hid (TenW u2 wr.heap.size (.int .i64 s.k) (.int .i64 s.tk) (.int .i64 s.ta) (.int .i64 s.e.k) (.int .i64 s.e.n) (.int .i64 s.e.ak) (.int .i64 s.e.at_) (.slice ax s.e.kids.length cx) (.slice ay s.th.length cy) (.slice az s.el.length cz)) := HT1.out.under g2 (by omega)
              clear g2
              cases hto : formT d s.th with
              | false =>
                have HB : Hid (ss.all f = false) := all_false_atT HS.out (by rw [hFs]; rw [hto]; rfl)
                go_wp2
                go_ret
                exact ⟨ret_bool HB.out.symm, B2⟩
              | true =>
                have c9 := HT2.out.c9
                rw [hto, Bool.true_and] at hFs
                go_wp2_with fail
                clear c9
                refine (H _ lo hi _ s.el (HX.out.2.2.under B2 hhi) (by omega) HQ.out.2.2).mono ?_
                rintro e3 u3 ⟨rfl, g3⟩
                have S3 := g3.size
                have B3 := B2.trans (g3.mono (by omega))
                clear g3
                cases hlo : formT d s.el with
                | false =>
                  have HB : Hid (ss.all f = false) := all_false_atT HS.out (by rw [hFs]; exact hlo)
                  go_wp2
                  go_ret
                  exact ⟨ret_bool HB.out.symm, B3⟩
                | true =>
                  have HN : Hid ((ss.take (j + 1)).all f = true) := all_take_stepT HA.out HS.out (by rw [hFs]; exact hlo)
                  clear hFs
                  go_wp2
                  go_roundw
                  case rel => exact ⟨j + 1, by omega, by go_num, B3, HN.out⟩
                  case measure => simp [intOf]; omega
      have e2 : (s.k == 2) = false := by simp [k2]
      by_cases k3 : s.k = 3
      · have e3 : (s.k == 3) = true := by simp [k3]
        have hfb : fitB s = (((s.tk == 0) && (s.ta == 0)) && ((s.el.length : Int) == 0)) := by unfold fitB; rw [if_neg k1, if_neg k2, if_pos k3]
        clear k1 k2 k3
        cases ht : (s.tk == 0) with
        | false =>
          have HB : Hid (ss.all f = false) := all_false_atT HS.out (by rw [hFs]; rw [hfb, ht]; rfl)
          go_wp2
          try rw [HU0.out]
          go_ret
          exact ⟨ret_bool HB.out.symm, B0⟩
        | true =>
          cases ha : (s.ta == 0) with
          | false =>
            have HB : Hid (ss.all f = false) := all_false_atT HS.out (by rw [hFs]; rw [hfb, ht, ha]; rfl)
            go_wp2
            try rw [HU0.out]
            go_ret
            exact ⟨ret_bool HB.out.symm, B0⟩
          | true =>
            cases he : ((s.el.length : Int) == 0) with
            | false =>
              have HB : Hid (ss.all f = false) := all_false_atT HS.out (by rw [hFs]; rw [hfb, ht, ha, he]; rfl)
              go_wp2
              try rw [HU0.out]
              go_ret
              exact ⟨ret_bool HB.out.symm, B0⟩
            | true =>
              have hfit : fitB s = true := by rw [hfb, ht, ha, he]; rfl
              clear hfb
              rw [hfit, Bool.true_and] at hFs
              go_wp2_with fail
              try rw [HU0.out]
              clear c0 c1 c2 c3 c4 c5 c6 c7 c8 c9 d0 d1 d2 d3 d4 d5 d6 d7 d8 d9
              refine (sExprOk_any _ lo hi _ s.e ⟨_, rfl, HX.out.1.under B0 hhi⟩ (by omega) HQ.out.1).mono ?_
              rintro e1 u1 ⟨rfl, g1⟩
              have S1 := g1.size
              have B1 := B0.trans (g1.mono (by omega))
              have HT1 : Hid (TenW u1 wr.heap.size (.int .i64 s.k) (.int .i64 s.tk) (.int .i64 s.ta) (.int .i64 s.e.k) (.int .i64 s.e.n) (.int .i64 s.e.ak) (.int .i64 s.e.at_) (.slice ax s.e.kids.length cx) (.slice ay s.th.length cy) (.slice az s.el.length cz)) := HT0.out.under g1 (by omega)
              clear g1
              cases hxo : exprOk s.e with
              | false =>
                have HB : Hid (ss.all f = false) := all_false_atT HS.out (by rw [hFs]; rw [hxo]; rfl)
                go_wp2
                go_ret
                exact ⟨ret_bool HB.out.symm, B1⟩
              | true =>
                have c8 := HT1.out.c8
                rw [hxo, Bool.true_and] at hFs
                go_wp2_with fail
                clear c8
                refine (H _ lo hi _ s.th (HX.out.2.1.under B1 hhi) (by omega) HQ.out.2.1).mono ?_
                rintro e2 u2 ⟨rfl, g2⟩
                have S2 := g2.size
                have B2 := B1.trans (g2.mono (by omega))
                have HT2 : Hid (TenW u2 wr.heap.size (.int .i64 s.k) (.int .i64 s.tk) (.int .i64 s.ta) (.int .i64 s.e.k) (.int .i64 s.e.n) (.int .i64 s.e.ak) (.int .i64 s.e.at_) (.slice ax s.e.kids.length cx) (.slice ay s.th.length cy) (.slice az s.el.length cz)) := HT1.out.under g2 (by omega)
                clear g2
                cases hto : formT d s.th with
                | false =>
                  have HB : Hid (ss.all f = false) := all_false_atT HS.out (by rw [hFs]; rw [hto]; rfl)
                  go_wp2
                  go_ret
                  exact ⟨ret_bool HB.out.symm, B2⟩
                | true =>
                  have c9 := HT2.out.c9
                  rw [hto, Bool.true_and] at hFs
                  go_wp2_with fail
                  clear c9
                  refine (H _ lo hi _ s.el (HX.out.2.2.under B2 hhi) (by omega) HQ.out.2.2).mono ?_
                  rintro e3 u3 ⟨rfl, g3⟩
                  have S3 := g3.size
                  have B3 := B2.trans (g3.mono (by omega))
                  clear g3
                  cases hlo : formT d s.el with
                  | false =>
                    have HB : Hid (ss.all f = false) := all_false_atT HS.out (by rw [hFs]; exact hlo)
                    go_wp2
                    go_ret
                    exact ⟨ret_bool HB.out.symm, B3⟩
                  | true =>
                    have HN : Hid ((ss.take (j + 1)).all f = true) := all_take_stepT HA.out HS.out (by rw [hFs]; exact hlo)
                    clear hFs
                    go_wp2
                    go_roundw
                    case rel => exact ⟨j + 1, by omega, by go_num, B3, HN.out⟩
                    case measure => simp [intOf]; omega
      have e3 : (s.k == 3) = false := by simp [k3]
      have hfb : fitB s = false := by unfold fitB; rw [if_neg k1, if_neg k2, if_neg k3]
      clear k1 k2 k3
      have HB : Hid (ss.all f = false) := all_false_atT HS.out (by rw [hFs]; rw [hfb]; rfl)
      go_wp2
      try rw [HU0.out]
      go_ret
      exact ⟨ret_bool HB.out.symm, B0⟩
    · obtain rfl : j = ss.length := by omega
      have HQ : Hid (ss.all f = true) := by have := HA.out; rwa [List.take_length] at this
      go_wp2
      go_ret
      exact ⟨ret_bool HQ.out.symm, hb⟩

theorem formTS : ∀ d, d ≤ 100 → FormT d
  | 0, _ => formT_zero
  | d + 1, h => formT_step (by omega) (formTS d (by omega))

/-- What l4Many answers, up to d. -/
def ManyT (d : Nat) : Prop := ∀ (w : World) (lo hi : Nat) (v : Value) (ss : List StmtD), SR w lo hi v ss → hi ≤ w.heap.size → sizeL ss ≤ 1048576 →
  Calls Tryz.prog 22 #[v, .int .i64 d] w fun en w' => en = .returned (.int .i64 (manySt d ss)) ∧ Below w.heap.size w w'

set_option maxHeartbeats 1000000 in
theorem manyT_zero : ManyT 0 := by
  intro w lo hi v ss h hhi hm
  obtain ⟨ad, cap, rfl, hc1, hc2⟩ := h.shape
  have hmx : ss.length ≤ 9223372036854775807 := by unfold maxLen at hc2; omega
  have HF : Hid (manySt 0 ss = ss.length) := by show manySt 0 ss = _; rw [manySt]
  rw [HF.out]
  clear h
  by_cases h0 : (0 : Int) < (ss.length : Int)
  · go_enter Tryz.func22, Tryz.ntmps22
    go_wp2_with fail
    go_loopw [5, 6] (fun q i wr => q = .int .i64 ss.length ∧ i = .int .i64 0 ∧ wr = w) (fun _ _ _ => 0)
    case atStart => exact ⟨rfl, rfl, rfl⟩
    case round =>
      obtain ⟨rfl, rfl, rfl⟩ := hrel
      go_wp2
      go_ret
      exact ⟨rfl, Below.refl _ _⟩
  · go_enter Tryz.func22, Tryz.ntmps22
    go_wp2_with fail
    go_loopw [5, 6] (fun q i wr => q = .int .i64 ss.length ∧ i = .int .i64 0 ∧ wr = w) (fun _ _ _ => 0)
    case atStart => exact ⟨rfl, rfl, rfl⟩
    case round =>
      obtain ⟨rfl, rfl, rfl⟩ := hrel
      go_wp2
      go_ret
      exact ⟨rfl, Below.refl _ _⟩

set_option maxRecDepth 100000 in
set_option maxHeartbeats 8000000 in
theorem manyT_step {d : Nat} (hd : d ≤ 100) (H : ManyT d) : ManyT (d + 1) := by
  intro w lo hi v ss h hhi hm
  obtain ⟨ad, cap, rfl, hc1, hc2⟩ := h.shape
  have hmx : ss.length ≤ 9223372036854775807 := by unfold maxLen at hc2; omega
  have HF : Hid (manySt (d + 1) ss = ss.length + partT d ss ss.length) := by show manySt (d + 1) ss = _; rw [manySt]; unfold partT; rw [List.take_length]
  rw [HF.out]
  have HK : Hid (SR w lo hi (.slice ad ss.length cap) ss) := h
  have HM : Hid (sizeL ss ≤ 1048576) := hm
  have hsl : ss.length ≤ 1048576 := by have := length_le_sizeL ss; omega
  clear h hm HF hc1 hc2
  have hdd : ((d + 1 : Nat) : Int) = (d : Int) + 1 := by omega
  rw [hdd]
  clear hdd
  have hpos : (0 : Int) < (d : Int) + 1 := by omega
  have hds : (d : Int) + 1 - 1 = (d : Int) := by omega
  go_enter Tryz.func22, Tryz.ntmps22
  go_wp2_with fail
  go_loopw [5, 6] (fun q i wr => ∃ j : Nat, j ≤ ss.length ∧ q = .int .i64 ((ss.length + partT d ss j : Nat) : Int) ∧ i = .int .i64 j ∧ Below w.heap.size w wr) (fun _ i _ => ss.length - (intOf i).toNat)
  case atStart => exact ⟨0, Nat.zero_le _, by simp [partT], rfl, Below.refl _ _⟩
  case round =>
    obtain ⟨j, hj, rfl, rfl, hb⟩ := hrel
    have hle := partT_le d ss j
    have hmm := HM.out
    obtain ⟨q, hq⟩ : ∃ q : Nat, partT d ss j = q := ⟨_, rfl⟩
    rw [hq] at hle ⊢
    have hcast : ((ss.length + q : Nat) : Int) = (ss.length : Int) + (q : Int) := by omega
    rw [hcast]
    have HQ : Hid (partT d ss j = q) := hq
    clear hq hcast
    by_cases hlt : j < ss.length
    · obtain ⟨s, hs⟩ : ∃ s, ss[j]? = some s := ⟨ss[j], List.getElem?_eq_getElem hlt⟩
      obtain ⟨b, off, cap', x, y, z, hv, hb1, hb2, h5, hkx, hky, hkz⟩ := HK.out.at_ hs
      simp only [Value.slice.injEq, true_and] at hv
      obtain ⟨rfl, rfl⟩ := hv
      have hkl := stmt_lt hs
      have hy := manyT_le d s.th
      have hz := manyT_le d s.el
      have HN : Hid (partT d ss (j + 1) = q + (manySt d s.th + manySt d s.el)) := by show _ = _; rw [partT_succ d hs, HQ.out]
      obtain ⟨ay, cy, rfl, _, _⟩ := hky.shape
      obtain ⟨az, cz, rfl, _, _⟩ := hkz.shape
      obtain ⟨my, hmy⟩ : ∃ m, manySt d s.th = m := ⟨_, rfl⟩
      obtain ⟨mz, hmz⟩ : ∃ m, manySt d s.el = m := ⟨_, rfl⟩
      have hsz := hb.size
      have hqn : q ≤ 1048576 := by omega
      have hyn : my ≤ 1048576 := by omega
      have hzn : mz ≤ 1048576 := by omega
      rw [hmy, hmz] at HN
      go_wp2_with fail
      refine wp_region_last (R := Grow) (Φ := fun i v u => match i with
          | 0 => v = .int .i64 ((ss.length : Int) + q)
          | 1 => v = .slice (some ⟨b, off, none⟩) ss.length cap
          | 2 => v = .int .i64 j
          | 3 => v = .pointer (some ⟨b, off + j * 10, none⟩)
          | 4 => v = .pointer (some ⟨b, off + j * 10 + 8, none⟩)
          | 5 => v = .slice ay s.th.length cy
          | 6 => v = .int .i64 ((d : Int) + 1)
          | 7 => v = .int .i64 d
          | 8 => v = .int .i64 my
          | 9 => v = .int .i64 ((ss.length : Int) + q + my)
          | 10 => v = .slice (some ⟨b, off, none⟩) ss.length cap
          | 11 => v = .int .i64 j
          | 12 => v = .pointer (some ⟨b, off + j * 10, none⟩)
          | 13 => v = .pointer (some ⟨b, off + j * 10 + 9, none⟩)
          | 14 => v = .slice az s.el.length cz
          | 15 => v = .int .i64 ((d : Int) + 1)
          | 16 => v = .int .i64 d
          | 17 => v = .int .i64 mz
          | 18 => v = .int .i64 ((ss.length : Int) + q + my + mz)
          | _ => True)
        (J := fun _ a _ => a.tmps.getD 5 undef = .int .i64 ((ss.length : Int) + q)) 19 _ rfl rfl (by kernel_rfl) (by kernel_rfl) (by kernel_rfl) (by kernel_rfl) (Below.refl _ _) grow_trans ?_ rfl ?_ ?_
      · intro i v u u' hr
        match i with
        | 0 | 1 | 2 | 3 | 4 | 5 | 6 | 7 | 8 | 9 | 10 | 11 | 12 | 13 | 14 | 15 | 16 | 17 | 18 | _ + 19 => exact fun h => h
      · intro i o ho hin L ac u hf hR0 hLs hLi hp he hJ K' hK
        have hR : Grow wr u := (Below.drew (Below.refl _ _)).trans hR0
        have hsz' : ac.tmps.size = 39 := hf.size
        have hus := hR.size
        have hRw : Below w.heap.size w u := hb.trans (hR.mono hsz)
        rcases i with _ | _ | _ | _ | _ | _ | _ | _ | _ | _ | _ | _ | _ | _ | _ | _ | _ | _ | _ | i
        · obtain rfl := Option.some.inj ho
          have q5 : ac.tmps.getD 5 undef = .int .i64 ((ss.length : Int) + q) := hJ
          clear hp he
          go_simp
          exact hK _ _ (Below.refl _ _) (getD_put_self ac 19 _ (by show _ < ac.tmps.size; omega)) ((getD_put_ne ac 19 5 _ (by decide)).trans hJ)
        · obtain rfl := Option.some.inj ho
          have q0 : ac.tmps.getD 0 undef = .slice (some ⟨b, off, none⟩) ss.length cap := hf.at_ 0 (by kernel_rfl)
          clear hp he
          go_simp
          exact hK _ _ (Below.refl _ _) (getD_put_self ac 20 _ (by show _ < ac.tmps.size; omega)) ((getD_put_ne ac 20 5 _ (by decide)).trans hJ)
        · obtain rfl := Option.some.inj ho
          have q6 : ac.tmps.getD 6 undef = .int .i64 j := hf.at_ 6 (by kernel_rfl)
          clear hp he
          go_simp
          exact hK _ _ (Below.refl _ _) (getD_put_self ac 21 _ (by show _ < ac.tmps.size; omega)) ((getD_put_ne ac 21 5 _ (by decide)).trans hJ)
        · obtain rfl := Option.some.inj ho
          have q20 : ac.tmps.getD 20 undef = .slice (some ⟨b, off, none⟩) ss.length cap := hp 1 _ rfl (he _ (Array.mem_of_getElem? (i := 0) rfl) (by kernel_rfl))
          have q21 : ac.tmps.getD 21 undef = .int .i64 j := hp 2 _ rfl (he _ (Array.mem_of_getElem? (i := 1) rfl) (by kernel_rfl))
          clear hp he
          go_simp
          exact hK _ _ (Below.refl _ _) (getD_put_self ac 22 _ (by show _ < ac.tmps.size; omega)) ((getD_put_ne ac 22 5 _ (by decide)).trans hJ)
        · obtain rfl := Option.some.inj ho
          have q22 : ac.tmps.getD 22 undef = .pointer (some ⟨b, off + j * 10, none⟩) := hp 3 _ rfl (he _ (Array.mem_of_getElem? (i := 0) rfl) (by kernel_rfl))
          clear hp he
          go_simp
          exact hK _ _ (Below.refl _ _) (getD_put_self ac 23 _ (by show _ < ac.tmps.size; omega)) ((getD_put_ne ac 23 5 _ (by decide)).trans hJ)
        · obtain rfl := Option.some.inj ho
          have q23 : ac.tmps.getD 23 undef = .pointer (some ⟨b, off + j * 10 + 8, none⟩) := hp 4 _ rfl (he _ (Array.mem_of_getElem? (i := 0) rfl) (by kernel_rfl))
          clear hp he
          have c8 := (h5.kept (hRw.block b (by omega))).c8
          go_simp
          exact hK _ _ (Below.refl _ _) (getD_put_self ac 24 _ (by show _ < ac.tmps.size; omega)) ((getD_put_ne ac 24 5 _ (by decide)).trans hJ)
        · obtain rfl := Option.some.inj ho
          have q1 : ac.tmps.getD 1 undef = .int .i64 ((d : Int) + 1) := hf.at_ 1 (by kernel_rfl)
          clear hp he
          go_simp
          exact hK _ _ (Below.refl _ _) (getD_put_self ac 25 _ (by show _ < ac.tmps.size; omega)) ((getD_put_ne ac 25 5 _ (by decide)).trans hJ)
        · obtain rfl := Option.some.inj ho
          have q25 : ac.tmps.getD 25 undef = .int .i64 ((d : Int) + 1) := hp 6 _ rfl (he _ (Array.mem_of_getElem? (i := 0) rfl) (by kernel_rfl))
          clear hp he
          go_simp
          try rw [wrap_fit _ (by omega) (by omega)]
          exact hK _ _ (Below.refl _ _) (getD_put_self ac 26 _ (by show _ < ac.tmps.size; omega)) ((getD_put_ne ac 26 5 _ (by decide)).trans hJ)
        · obtain rfl := Option.some.inj ho
          have q24 : ac.tmps.getD 24 undef = .slice ay s.th.length cy := hp 5 _ rfl (he _ (Array.mem_of_getElem? (i := 0) rfl) (by kernel_rfl))
          have q26 : ac.tmps.getD 26 undef = .int .i64 d := hp 7 _ rfl (he _ (Array.mem_of_getElem? (i := 1) rfl) (by kernel_rfl))
          clear hp he
          go_simp
          refine (H u lo hi _ s.th (hky.under hRw hhi) (by omega) (by omega)).mono ?_; rw [hmy]
          rintro e1 u' ⟨rfl, hbu⟩
          exact hK _ _ hbu (getD_put_self ac 27 _ (by show _ < ac.tmps.size; omega)) ((getD_put_ne ac 27 5 _ (by decide)).trans hJ)
        · obtain rfl := Option.some.inj ho
          have q19 : ac.tmps.getD 19 undef = .int .i64 ((ss.length : Int) + q) := hp 0 _ rfl (he _ (Array.mem_of_getElem? (i := 0) rfl) (by kernel_rfl))
          have q27 : ac.tmps.getD 27 undef = .int .i64 my := hp 8 _ rfl (he _ (Array.mem_of_getElem? (i := 1) rfl) (by kernel_rfl))
          clear hp he
          go_simp
          try rw [wrap_fit _ (by omega) (by omega)]
          exact hK _ _ (Below.refl _ _) (getD_put_self ac 28 _ (by show _ < ac.tmps.size; omega)) ((getD_put_ne ac 28 5 _ (by decide)).trans hJ)
        · obtain rfl := Option.some.inj ho
          have q0 : ac.tmps.getD 0 undef = .slice (some ⟨b, off, none⟩) ss.length cap := hf.at_ 0 (by kernel_rfl)
          clear hp he
          go_simp
          exact hK _ _ (Below.refl _ _) (getD_put_self ac 29 _ (by show _ < ac.tmps.size; omega)) ((getD_put_ne ac 29 5 _ (by decide)).trans hJ)
        · obtain rfl := Option.some.inj ho
          have q6 : ac.tmps.getD 6 undef = .int .i64 j := hf.at_ 6 (by kernel_rfl)
          clear hp he
          go_simp
          exact hK _ _ (Below.refl _ _) (getD_put_self ac 30 _ (by show _ < ac.tmps.size; omega)) ((getD_put_ne ac 30 5 _ (by decide)).trans hJ)
        · obtain rfl := Option.some.inj ho
          have q29 : ac.tmps.getD 29 undef = .slice (some ⟨b, off, none⟩) ss.length cap := hp 10 _ rfl (he _ (Array.mem_of_getElem? (i := 0) rfl) (by kernel_rfl))
          have q30 : ac.tmps.getD 30 undef = .int .i64 j := hp 11 _ rfl (he _ (Array.mem_of_getElem? (i := 1) rfl) (by kernel_rfl))
          clear hp he
          go_simp
          exact hK _ _ (Below.refl _ _) (getD_put_self ac 31 _ (by show _ < ac.tmps.size; omega)) ((getD_put_ne ac 31 5 _ (by decide)).trans hJ)
        · obtain rfl := Option.some.inj ho
          have q31 : ac.tmps.getD 31 undef = .pointer (some ⟨b, off + j * 10, none⟩) := hp 12 _ rfl (he _ (Array.mem_of_getElem? (i := 0) rfl) (by kernel_rfl))
          clear hp he
          go_simp
          exact hK _ _ (Below.refl _ _) (getD_put_self ac 32 _ (by show _ < ac.tmps.size; omega)) ((getD_put_ne ac 32 5 _ (by decide)).trans hJ)
        · obtain rfl := Option.some.inj ho
          have q32 : ac.tmps.getD 32 undef = .pointer (some ⟨b, off + j * 10 + 9, none⟩) := hp 13 _ rfl (he _ (Array.mem_of_getElem? (i := 0) rfl) (by kernel_rfl))
          clear hp he
          have c9 := (h5.kept (hRw.block b (by omega))).c9
          go_simp
          exact hK _ _ (Below.refl _ _) (getD_put_self ac 33 _ (by show _ < ac.tmps.size; omega)) ((getD_put_ne ac 33 5 _ (by decide)).trans hJ)
        · obtain rfl := Option.some.inj ho
          have q1 : ac.tmps.getD 1 undef = .int .i64 ((d : Int) + 1) := hf.at_ 1 (by kernel_rfl)
          clear hp he
          go_simp
          exact hK _ _ (Below.refl _ _) (getD_put_self ac 34 _ (by show _ < ac.tmps.size; omega)) ((getD_put_ne ac 34 5 _ (by decide)).trans hJ)
        · obtain rfl := Option.some.inj ho
          have q34 : ac.tmps.getD 34 undef = .int .i64 ((d : Int) + 1) := hp 15 _ rfl (he _ (Array.mem_of_getElem? (i := 0) rfl) (by kernel_rfl))
          clear hp he
          go_simp
          try rw [wrap_fit _ (by omega) (by omega)]
          exact hK _ _ (Below.refl _ _) (getD_put_self ac 35 _ (by show _ < ac.tmps.size; omega)) ((getD_put_ne ac 35 5 _ (by decide)).trans hJ)
        · obtain rfl := Option.some.inj ho
          have q33 : ac.tmps.getD 33 undef = .slice az s.el.length cz := hp 14 _ rfl (he _ (Array.mem_of_getElem? (i := 0) rfl) (by kernel_rfl))
          have q35 : ac.tmps.getD 35 undef = .int .i64 d := hp 16 _ rfl (he _ (Array.mem_of_getElem? (i := 1) rfl) (by kernel_rfl))
          clear hp he
          go_simp
          refine (H u lo hi _ s.el (hkz.under hRw hhi) (by omega) (by omega)).mono ?_; rw [hmz]
          rintro e1 u' ⟨rfl, hbu⟩
          exact hK _ _ hbu (getD_put_self ac 36 _ (by show _ < ac.tmps.size; omega)) ((getD_put_ne ac 36 5 _ (by decide)).trans hJ)
        · obtain rfl := Option.some.inj ho
          have q28 : ac.tmps.getD 28 undef = .int .i64 ((ss.length : Int) + q + my) := hp 9 _ rfl (he _ (Array.mem_of_getElem? (i := 0) rfl) (by kernel_rfl))
          have q36 : ac.tmps.getD 36 undef = .int .i64 mz := hp 17 _ rfl (he _ (Array.mem_of_getElem? (i := 1) rfl) (by kernel_rfl))
          clear hp he
          go_simp
          try rw [wrap_fit _ (by omega) (by omega)]
          exact hK _ _ (Below.refl _ _) (getD_put_self ac 37 _ (by show _ < ac.tmps.size; omega)) ((getD_put_ne ac 37 5 _ (by decide)).trans hJ)
        · omega
      · intro L ac u hf hR0 hp hJ K' hK
        have hR : Grow wr u := (Below.drew (Below.refl _ _)).trans hR0
        have hus := hR.size
        have hRw : Below w.heap.size w u := hb.trans (hR.mono hsz)
        have m37 : ac.tmps.getD 37 undef = .int .i64 ((ss.length : Int) + q + my + mz) := (hp 18 _ (by decide) rfl).2
        have m5 : ac.tmps.getD 5 undef = .int .i64 ((ss.length : Int) + q) := hJ
        clear hp hJ hR0 hR h5 hkx hky hkz hmy hmz hy hz
        obtain ⟨f, ea, hfv⟩ := act_lit ac 39 hf.size
        have md : ac.defers = [] := hf.defers
        rw [md] at ea
        have m0 := hf.at_ 0 (by kernel_rfl)
        have m1 := hf.at_ 1 (by kernel_rfl)
        have m2 := hf.at_ 2 (by kernel_rfl)
        have m3 := hf.at_ 3 (by kernel_rfl)
        have m4 := hf.at_ 4 (by kernel_rfl)
        have m6 := hf.at_ 6 (by kernel_rfl)
        have m7 := hf.at_ 7 (by kernel_rfl)
        have m8 := hf.at_ 8 (by kernel_rfl)
        have m9 := hf.at_ 9 (by kernel_rfl)
        have m10 := hf.at_ 10 (by kernel_rfl)
        have m11 := hf.at_ 11 (by kernel_rfl)
        have m12 := hf.at_ 12 (by kernel_rfl)
        have m13 := hf.at_ 13 (by kernel_rfl)
        have m14 := hf.at_ 14 (by kernel_rfl)
        have m15 := hf.at_ 15 (by kernel_rfl)
        have m16 := hf.at_ 16 (by kernel_rfl)
        have m17 := hf.at_ 17 (by kernel_rfl)
        have m18 := hf.at_ 18 (by kernel_rfl)
        have m38 := hf.at_ 38 (by kernel_rfl)
        rw [← hfv] at m0 m1 m2 m3 m4 m6 m7 m8 m9 m10 m11 m12 m13 m14 m15 m16 m17 m18 m38 m5 m37
        simp only [Array.getD_eq_getD_getElem?, List.getElem?_toArray, List.getElem?_cons_succ, List.getElem?_cons_zero, Option.getD_some] at m0 m1 m2 m3 m4 m6 m7 m8 m9 m10 m11 m12 m13 m14 m15 m16 m17 m18 m38
        simp only [List.range, List.range.loop, List.map_cons, List.map_nil, m0, m1, m2, m3, m4, m6, m7, m8, m9, m10, m11, m12, m13, m14, m15, m16, m17, m18, m38, m5, m37] at ea
        subst ea
        clear m0 m1 m2 m3 m4 m6 m7 m8 m9 m10 m11 m12 m13 m14 m15 m16 m17 m18 m38 m5 m37 hfv md hf
        go_simp
        refine hK _ _ ?_
        clear hK
        go_wp2
        go_roundw
        case rel => exact ⟨j + 1, by omega, by rw [HN.out]; congr 1; omega, by go_num, hRw⟩
        case measure => simp [intOf]; omega
    · obtain rfl : j = ss.length := by omega
      go_wp2
      go_ret
      exact ⟨ret_int (by rw [HQ.out]; omega), hb⟩

theorem manyTS : ∀ d, d ≤ 100 → ManyT d
  | 0, _ => manyT_zero
  | d + 1, h => manyT_step (by omega) (manyTS d (by omega))

set_option maxHeartbeats 1000000 in
theorem sStmtsOk_any (w : World) (lo hi : Nat) (v : Value) (ss : List StmtD) (h : SR w lo hi v ss) (hhi : hi ≤ w.heap.size) (hm : sizeL ss ≤ 1048576) :
    Calls Tryz.prog 12 #[v] w fun en w' => en = .returned (.bool (stmtsOk ss)) ∧ Below w.heap.size w w' := by
  unfold stmtsOk
  have hM := manyTS 4 (by omega) w lo hi v ss h hhi hm
  have hF := fun W hW hh => formTS 4 (by omega) W lo hi v ss hW hh hm
  have hmb : manySt 4 ss ≤ 1048576 := by have := manyT_le 4 ss; omega
  obtain ⟨ad, cap, rfl, _, _⟩ := h.shape
  have HK : Hid (SR w lo hi (.slice ad ss.length cap) ss) := h
  clear h hm
  generalize formT 4 ss = fr at *
  generalize manySt 4 ss = md at *
  by_cases hle : md ≤ 16
  · have h16 : (md : Int) ≤ 16 := by omega
    rw [decide_eq_true hle, Bool.true_and]
    go_enter Tryz.func12, Tryz.ntmps12
    go_wp2_with fail
    refine hM.mono ?_
    rintro e1 u1 ⟨rfl, g1⟩
    go_wp2_with fail
    refine (hF _ (HK.out.under g1 hhi) (Nat.le_trans hhi g1.size)).mono ?_
    rintro e2 u2 ⟨rfl, g2⟩
    have G2 := g1.trans (g2.mono g1.size)
    clear g1 g2 hM hF
    go_wp2
    go_ret
    exact ⟨rfl, G2⟩
  · have h16 : ¬ ((md : Int) ≤ 16) := by omega
    rw [decide_eq_false hle, Bool.false_and]
    go_enter Tryz.func12, Tryz.ntmps12
    go_wp2_with fail
    refine hM.mono ?_
    rintro e1 u1 ⟨rfl, g1⟩
    clear hM hF
    go_wp2
    go_ret
    exact ⟨rfl, g1⟩

end Go.Proofs.YtkeockippmmneaaGreat

/-
  The statements of a list, each ahead of those within it, with how many others are around it; when all of them are right.
-/
namespace Go.Proofs.YtkeockippmmneaaGreat
open Go.RowKit
set_option linter.unusedVariables false

mutual
/-- How many statements there are, with those within others. -/
def cntS : StmtD → Nat
  | .mk _ _ _ _ th el => cntL th + cntL el + 1
def cntL : List StmtD → Nat
  | [] => 0
  | s :: ss => cntS s + cntL ss
end

theorem cntS_eq (s : StmtD) : cntS s = cntL s.th + cntL s.el + 1 := by cases s; rw [cntS]; rfl

mutual
/-- The statements, each ahead of those within it. -/
def preS (d : Int) : StmtD → List (StmtD × Int)
  | .mk k tk ta e th el => (.mk k tk ta e th el, d) :: (preT (wrap64 (d + 1)) th ++ preT (wrap64 (d + 1)) el)
def preT (d : Int) : List StmtD → List (StmtD × Int)
  | [] => []
  | s :: ss => preS d s ++ preT d ss
end

theorem preS_eq (d : Int) (s : StmtD) : preS d s = (s, d) :: (preT (wrap64 (d + 1)) s.th ++ preT (wrap64 (d + 1)) s.el) := by cases s; rw [preS]; rfl

theorem preT_append (d : Int) (xs ys : List StmtD) : preT d (xs ++ ys) = preT d xs ++ preT d ys := by
  induction xs with
  | nil => rw [List.nil_append, preT, List.nil_append]
  | cons x xs ih => rw [List.cons_append, preT, preT, ih, List.append_assoc]

theorem preT_take_succ {d : Int} {ss : List StmtD} {i : Nat} {s : StmtD} (h : ss[i]? = some s) : preT d (ss.take (i + 1)) = preT d (ss.take i) ++ preS d s := by
  rw [List.take_add_one, h, preT_append]
  show preT d (ss.take i) ++ preT d [s] = _
  rw [preT, preT, List.append_nil]

theorem preT_take_prefix (d : Int) (ss : List StmtD) (i : Nat) : preT d (ss.take i) <+: preT d ss := by
  have h := preT_append d (ss.take i) (ss.drop i)
  rw [List.take_append_drop] at h
  exact ⟨_, h.symm⟩

theorem cntL_append (xs ys : List StmtD) : cntL (xs ++ ys) = cntL xs + cntL ys := by
  induction xs with
  | nil => rw [List.nil_append, cntL]; omega
  | cons x xs ih => rw [List.cons_append, cntL, cntL, ih]; omega

theorem cntL_take_succ {ss : List StmtD} {i : Nat} {s : StmtD} (h : ss[i]? = some s) : cntL (ss.take (i + 1)) = cntL (ss.take i) + cntS s := by
  rw [List.take_add_one, h, cntL_append]
  show cntL (ss.take i) + cntL [s] = _
  rw [cntL, cntL]
  omega

theorem cntL_take_le (ss : List StmtD) (i : Nat) : cntL (ss.take i) ≤ cntL ss := by
  have h := cntL_append (ss.take i) (ss.drop i)
  rw [List.take_append_drop] at h
  omega

theorem preT_length_aux (n : Nat) : ∀ (ss : List StmtD) (d : Int), cntL ss ≤ n → (preT d ss).length = cntL ss := by
  induction n with
  | zero =>
    intro ss d h
    cases ss with
    | nil => rw [preT, cntL]; rfl
    | cons e es => rw [cntL, cntS_eq] at h; omega
  | succ n ih =>
    intro ss d h
    induction ss with
    | nil => rw [preT, cntL]; rfl
    | cons e es ih2 =>
      rw [cntL, cntS_eq] at h
      rw [preT, cntL, List.length_append, ih2 (by omega), preS_eq, List.length_cons, List.length_append, ih e.th _ (by omega), ih e.el _ (by omega), cntS_eq]

theorem preT_length (d : Int) (ss : List StmtD) : (preT d ss).length = cntL ss := preT_length_aux _ ss d (Nat.le_refl _)
theorem preS_length (d : Int) (s : StmtD) : (preS d s).length = cntS s := by rw [preS_eq, List.length_cons, List.length_append, preT_length, preT_length, cntS_eq]

theorem mem_preT {d : Int} {ss : List StmtD} {x : StmtD × Int} : x ∈ preT d ss ↔ ∃ s, s ∈ ss ∧ x ∈ preS d s := by
  induction ss with
  | nil => rw [preT]; simp
  | cons e es ih => rw [preT, List.mem_append, ih]; simp

/-- A statement is right by itself. -/
def stmtB (s : StmtD) : Bool := fitB s && exprOk s.e

/-- A statement is right where it stands. -/
def goodT (x : StmtD × Int) : Prop := x.2 < 4 ∧ stmtB x.1 = true

theorem good_formT : ∀ (d c : Nat), c + d = 4 → ∀ l : List StmtD, (∀ x, x ∈ preT (c : Int) l → goodT x) ↔ formT d l = true
  | 0, c, h, l => by
    rw [formT]
    cases l with
    | nil => simp [preT]
    | cons s ss =>
      constructor
      · intro hx
        have := (hx (s, (c : Int)) (by rw [preT, preS_eq]; simp)).1
        simp only at this
        omega
      · intro hx; cases hx
  | d + 1, c, h, l => by
    have hw : wrap64 ((c : Int) + 1) = ((c + 1 : Nat) : Int) := by unfold wrap64; omega
    have ih := good_formT d (c + 1) (by omega)
    rw [formT, List.all_eq_true]
    constructor
    · intro hx s hs
      have hp : ∀ x, x ∈ preS (c : Int) s → goodT x := fun x h => hx x (mem_preT.2 ⟨s, hs, h⟩)
      rw [preS_eq, hw] at hp
      have h1 := (hp _ (.head _)).2
      have h2 := (ih s.th).1 fun x h => hp x (.tail _ (List.mem_append_left _ h))
      have h3 := (ih s.el).1 fun x h => hp x (.tail _ (List.mem_append_right _ h))
      unfold stmtB at h1
      simp only at h1
      rw [h1, h2, h3]; rfl
    · intro hl x hx
      obtain ⟨s, hs, hxs⟩ := mem_preT.1 hx
      have hl' := hl s hs
      rw [Bool.and_eq_true, Bool.and_eq_true] at hl'
      rw [preS_eq, hw] at hxs
      cases hxs with
      | head => exact ⟨by show (c : Int) < 4; omega, hl'.1.1⟩
      | tail _ hx =>
        rcases List.mem_append.1 hx with hx | hx
        · exact (ih s.th).2 hl'.1.2 x hx
        · exact (ih s.el).2 hl'.2 x hx

theorem manyT_form : ∀ (d : Nat) (l : List StmtD), formT d l = true → manySt d l = cntL l
  | 0, l, h => by
    rw [formT] at h
    cases l with
    | nil => rw [manySt, cntL]; rfl
    | cons s ss => cases h
  | d + 1, l, h => by
    rw [formT, List.all_eq_true] at h
    rw [manySt]
    have hs : ∀ ss : List StmtD, (∀ s, s ∈ ss → s ∈ l) → ss.length + (ss.map fun s => manySt d s.th + manySt d s.el).sum = cntL ss := by
      intro ss
      induction ss with
      | nil => intro _; rw [cntL]; rfl
      | cons s ss ih =>
        intro hk
        have h1 := h s (hk s (.head _))
        rw [Bool.and_eq_true, Bool.and_eq_true] at h1
        have := ih fun k' h' => hk k' (.tail _ h')
        rw [List.map_cons, List.sum_cons, List.length_cons, cntL, cntS_eq, manyT_form d s.th h1.1.2, manyT_form d s.el h1.2]
        omega
    exact hs l fun _ h => h

theorem stmtsOk_iff (l : List StmtD) : stmtsOk l = true ↔ (∀ x, x ∈ preT 0 l → goodT x) ∧ cntL l ≤ 16 := by
  have h := good_formT 4 0 rfl l
  unfold stmtsOk
  rw [Bool.and_eq_true, decide_eq_true_eq]
  constructor
  · rintro ⟨h1, h2⟩
    exact ⟨h.2 h2, by rw [← manyT_form 4 l h2]; exact h1⟩
  · rintro ⟨h1, h2⟩
    have h3 := h.1 h1
    exact ⟨by rw [manyT_form 4 l h3]; exact h2, h3⟩

theorem stmtsMany_eq (l : List StmtD) : stmtsMany l = if stmtsOk l then cntL l else 0 := by
  unfold stmtsMany
  split
  · rename_i h
    unfold stmtsOk at h
    rw [Bool.and_eq_true] at h
    exact manyT_form 4 l h.2
  · rfl

theorem cnt_le_aux (n : Nat) : ∀ ss : List StmtD, sizeL ss ≤ n → cntL ss ≤ sizeL ss := by
  induction n with
  | zero =>
    intro ss h
    cases ss with
    | nil => rw [cntL]; omega
    | cons e es => rw [sizeL, sizeS_eq] at h; omega
  | succ n ih =>
    intro ss h
    induction ss with
    | nil => rw [cntL]; omega
    | cons e es ih2 =>
      rw [sizeL, sizeS_eq] at h
      have h1 := ih e.th (by omega)
      have h2 := ih e.el (by omega)
      have h3 := ih2 (by omega)
      rw [cntL, cntS_eq, sizeL, sizeS_eq]
      omega

theorem cnt_le (ss : List StmtD) : cntL ss ≤ sizeL ss := cnt_le_aux _ ss (Nat.le_refl _)
end Go.Proofs.YtkeockippmmneaaGreat

/-
  Chapter 10: statements made shorter, as data.
-/
namespace Go.Proofs.YtkeockippmmneaaGreat
open Go.RowKit
set_option linter.unusedVariables false

/-- What is done in the place of a statement whose parts are shorter already. -/
def shortS (s : StmtD) : List StmtD :=
  if s.k = 1 then (if (s.e.k == 2) && ((s.e.ak == s.tk) && (s.e.at_ == s.ta)) then [] else [s])
  else if s.k = 2 then (if s.th.isEmpty && s.el.isEmpty then [] else if s.e.k = 1 then (if s.e.n != 0 then s.th else s.el) else [s])
  else if isTheB s.e 0 then [] else [s]

/-- A statement with other parts. -/
def withS (s : StmtD) (e : ExprD) (th el : List StmtD) : StmtD := .mk s.k s.tk s.ta e th el

/-- Made shorter, a list that is not deeper than so. -/
def slimTD : Nat → List StmtD → List StmtD
  | 0, l => l
  | d + 1, l => l.flatMap fun s => shortS (withS s (slimD 6 s.e) (slimTD d s.th) (slimTD d s.el))

/-- What a statement comes to. -/
def slimS1 (d : Nat) (s : StmtD) : List StmtD := shortS (withS s (slimD 6 s.e) (slimTD d s.th) (slimTD d s.el))
theorem slimTD_succ (d : Nat) (l : List StmtD) : slimTD (d + 1) l = l.flatMap (slimS1 d) := by rw [slimTD]; rfl
theorem slimTD_take {d : Nat} {l : List StmtD} {j : Nat} {s : StmtD} (h : l[j]? = some s) : (l.take (j + 1)).flatMap (slimS1 d) = (l.take j).flatMap (slimS1 d) ++ slimS1 d s := by
  rw [List.take_add_one, h]; simp

def slimStmts (l : List StmtD) : List StmtD := if stmtsOk l then slimTD 4 l else []


/-- What a list that is right may know of its statements. -/
theorem formT_know {d : Nat} {l : List StmtD} (h : formT (d + 1) l = true) {s : StmtD} (hs : s ∈ l) : fitB s = true ∧ exprOk s.e = true ∧ formT d s.th = true ∧ formT d s.el = true := by
  rw [formT, List.all_eq_true] at h
  have := h s hs
  rw [Bool.and_eq_true, Bool.and_eq_true, Bool.and_eq_true] at this
  exact ⟨this.1.1.1, this.1.1.2, this.1.2, this.2⟩

theorem fit_kind {s : StmtD} (h : fitB s = true) : s.k = 1 ∨ s.k = 2 ∨ s.k = 3 := by
  unfold fitB at h
  by_cases h1 : s.k = 1
  · exact .inl h1
  by_cases h2 : s.k = 2
  · exact .inr (.inl h2)
  by_cases h3 : s.k = 3
  · exact .inr (.inr h3)
  rw [if_neg h1, if_neg h2, if_neg h3] at h
  cases h

theorem formT_zero_nil {l : List StmtD} (h : formT 0 l = true) : l = [] := by
  rw [formT] at h
  exact List.isEmpty_iff.mp h
end Go.Proofs.YtkeockippmmneaaGreat
