/-
  ChartSame, by the model and by the program. (Written by our generator gen_chartsame.py.)
-/
import Derived.Test.YtaoiookfmgpmkaaPM1
import Derived.Test.YtaoiookfmgpmkaaPM8
import Derived.Test.YtaoiookfmgpmkaaExprAlike
import Derived.Test.YtaoiookfmgpmkaaAlikeC
import Derived.Test.YtaoiookfmgpmkaaGuard
import Derived.Laws.StructEq
import Derived.Laws.EntriesVeiled
namespace Go.Proofs.Ytaoiookfmgpmkaa
open Go.ChangeShapes Go.WideShapes Go.ChangeAt Go.RowKit
set_option linter.unusedVariables false
set_option linter.unusedSimpArgs false
set_option maxRecDepth 100000

theorem iff_same {a b : Bool} {p : Prop} (h : a = true ↔ p) (k : b = true ↔ p) : a = b := Bool.eq_iff_iff.mpr (h.trans k.symm)
theorem transD_eq {t u : TransD} : t = u ↔ t.fr = u.fr ∧ t.to = u.to ∧ t.e = u.e := by
  cases t; cases u; simp
theorem chartD_eq {c d : ChartD} : c = d ↔ c.steps = d.steps ∧ c.ts = d.ts ∧ c.acts = d.acts := by
  cases c; cases d; simp
theorem TO.atO {w : World} {lo hi : Nat} {v : Value} {ts : List TransD} (h : TO w lo hi v ts) {i : Nat} {t : TransD} (hi' : ts[i]? = some t) :
    ∃ b off cap x y s l m n q, v = .slice (some ⟨b, off, none⟩) ts.length cap ∧ lo ≤ b ∧ b < hi ∧ CV w b (off + i * 7) (transC x y t.e s) ∧ WayO w l m n q x y s t ∧ q ≤ hi := by
  rcases h with ⟨rfl, _⟩ | ⟨b, off, cap, xs, ys, ss, l, m, n, q, hv, h1, h2, h3, h4, o⟩
  · simp at hi'
  · exact ⟨b, off, cap, _, _, _, _, _, _, _, hv, h3, h4, (o.way i t hi').1, (o.way i t hi').2, (o.in_ i (List.getElem?_eq_some_iff.mp hi').1).2⟩

set_option maxHeartbeats 4000000 in
theorem eq_addrC (k : Nat) (x y x' y' : Int) (w : World) : (Op.equalIn (k + 2) 96 (.agg #[.int .i64 x, .int .i64 y]) (.agg #[.int .i64 x', .int .i64 y'])).run Try.prog w = .ok (x == x' && y == y') w := by
  rw [run_equalIn_agg w (k + 1) 96 _ _ (by kernel_rfl) (by kernel_rfl)]
  simp only [Program.fieldsOf, Try.underlying96]
  have hi := fun x y : Int => run_equalIn_int (P := Try.prog) w k 3 .i64 .i64 x y Try.underlying3
  have a3 := Try.isAgg3
  have z3 := Try.sizeOf3
  simp [Op.eqFields, part, a3, z3, hi]
  cases h0 : (x == x') <;> cases h1 : (y == y') <;> simp_all
theorem act_three {x y : ActD} : decide (x = y) = (x.kind == y.kind && (x.step == y.step && (x.tk == y.tk && x.ta == y.ta))) := by
  cases x; cases y
  rw [Bool.eq_iff_iff]
  simp
set_option maxHeartbeats 4000000 in
theorem eq_actK (k : Nat) (x y : ActD) (w : World) : (Op.equalIn (k + 3) 113 (.agg (actC x).toArray) (.agg (actC y).toArray)).run Try.prog w = .ok (decide (x = y)) w := by
  rw [act_three]
  unfold actC
  rw [run_equalIn_agg w (k + 2) 113 _ _ (by kernel_rfl) (by kernel_rfl)]
  simp only [Program.fieldsOf, Try.underlying113]
  have hi := fun x y : Int => run_equalIn_int (P := Try.prog) w (k + 1) 3 .i64 .i64 x y Try.underlying3
  have ha := fun x y x' y' => eq_addrC k x y x' y' w
  have a3 := Try.isAgg3
  have a5 := Try.isAgg96
  have z3 := Try.sizeOf3
  have z5 := Try.sizeOf96
  simp [Op.eqFields, part, a3, a5, z3, z5, hi, ha]
  cases h0 : (x.kind == y.kind) <;> cases h1 : (x.step == y.step) <;> cases h2 : (x.tk == y.tk) <;> cases h3 : (x.ta == y.ta) <;> simp_all
theorem neq_actS (x y : ActD) (w : World) : Sem.run Try.prog (binOp .neq 113 (.agg (actC x).toArray) (.agg (actC y).toArray)) w = .ok (.bool (!decide (x = y))) w := by
  have h := eq_actK 9997 x y w
  rw [run_neq_struct, h]
  rfl
theorem guard_actS (op : BinOp) (x y : Operand) (a b : ActD) (w : World) : Sem.run Try.prog (eqGuard op 113 x y (.agg (actC a).toArray) (.agg (actC b).toArray)) w = .ok () w :=
  run_eqGuard_agg w op 113 x y _ _ (by kernel_rfl)

set_option maxHeartbeats 4000000 in
theorem equalAct_any (w0 : World) (lo hi lo' hi' : Nat) (va vb : Value) (xs ys : List ActD) (ha : GR actE w0 lo hi va xs) (hb' : GR actE w0 lo' hi' vb ys) (hhi : hi ≤ w0.heap.size) (hhi' : hi' ≤ w0.heap.size) :
    Calls Try.prog 62 #[va, vb] w0 fun e w' => e = .returned (.bool (decide (xs = ys))) ∧ Below w0.heap.size w0 w' := by
  obtain ⟨ad, cap, rfl, h1, h2⟩ := ha.shape
  obtain ⟨ad', cap', rfl, h1', h2'⟩ := hb'.shape
  have HK : Hid (GR actE w0 lo hi (.slice ad xs.length cap) xs ∧ GR actE w0 lo' hi' (.slice ad' ys.length cap') ys) := ⟨ha, hb'⟩
  obtain ⟨R, hR⟩ : ∃ R, decide (xs = ys) = R := ⟨_, rfl⟩
  rw [hR]
  have HR : Hid (decide (xs = ys) = R) := hR
  clear ha hb' hR
  unfold maxLen at h2 h2'
  by_cases hl : xs.length = ys.length
  · have hl2 : ((xs.length : Int) != (ys.length : Int)) = false := by simp; omega
    have HL : Hid (xs.length = ys.length) := hl
    clear hl
    go_enter Try.func62, Try.ntmps62
    go_wp2_with fail
    go_loopw [13] (fun i wr => ∃ j : Nat, j ≤ xs.length ∧ i = .int .i64 j ∧ Below w0.heap.size w0 wr ∧ xs.take j = ys.take j) (fun i _ => xs.length - (intOf i).toNat)
    case atStart => exact ⟨0, Nat.zero_le _, rfl, Below.refl _ _, rfl⟩
    case round =>
      obtain ⟨j, hj, rfl, hb, htk⟩ := hrel
      have HT : Hid (xs.take j = ys.take j) := htk
      clear htk
      have hsz := hb.size
      by_cases hlt : j < xs.length
      · obtain ⟨x, hx⟩ : ∃ x, xs[j]? = some x := ⟨xs[j], List.getElem?_eq_getElem hlt⟩
        have hlt' : j < ys.length := by have := HL.out; omega
        obtain ⟨y, hy⟩ : ∃ y, ys[j]? = some y := ⟨ys[j], List.getElem?_eq_getElem hlt'⟩
        obtain ⟨b, off, capx, hv, hb1, hb2, h5⟩ := HK.out.1.at_ hx
        obtain ⟨b', off', capy, hv', hb1', hb2', h5'⟩ := HK.out.2.at_ hy
        simp only [Value.slice.injEq, true_and] at hv hv'
        obtain ⟨rfl, rfl⟩ := hv
        obtain ⟨rfl, rfl⟩ := hv'
        have h5 : CV w0 b (off + j * 4) (actC x) := h5
        have h5' : CV w0 b' (off' + j * 4) (actC y) := h5'
        have HX : Hid (xs[j]? = some x ∧ ys[j]? = some y) := ⟨hx, hy⟩
        clear hx hy
        obtain ⟨cd, hcd⟩ : ∃ cd, decide (x = y) = cd := ⟨_, rfl⟩
        have HCD : Hid (decide (x = y) = cd) := hcd
        clear hcd
        go_wp2_with fail
        refine wp_region_dag (R := Grow) (Φ := fun i v u => match i with
            | 0 => v = .slice (some ⟨b, off, none⟩) xs.length cap
            | 1 => v = .int .i64 j
            | 2 => v = .pointer (some ⟨b, off + j * 4, none⟩)
            | 3 => v = .agg (actC x).toArray
            | 4 => v = .slice (some ⟨b', off', none⟩) ys.length cap'
            | 5 => v = .int .i64 j
            | 6 => v = .pointer (some ⟨b', off' + j * 4, none⟩)
            | 7 => v = .agg (actC y).toArray
            | 8 => v = .bool (!cd)
            | _ => True) (by kernel_rfl) (by kernel_rfl) (by kernel_rfl) (Below.refl _ _) grow_trans ?_ ?_ ?_
        · intro i v u u' hr
          match i with
          | 0 | 1 | 2 | 3 | 4 | 5 | 6 | 7 | 8 | _ + 9 => exact fun h => h
        · intro i o ho a u hf hR0 he K' hK
          have hR : Grow wr u := (Below.drew (Below.refl _ _)).trans hR0
          have hsz' : a.tmps.size = 26 := hf.size
          have hus : wr.heap.size ≤ u.heap.size := hR.size
          rcases i with _ | _ | _ | _ | _ | _ | _ | _ | _ | i
          · obtain rfl := Option.some.inj ho
            have q0 : a.tmps.getD 0 undef = .slice (some ⟨b, off, none⟩) xs.length cap := hf.at_ 0 (by kernel_rfl)
            clear he
            go_simp
            exact hK _ _ (Below.refl _ _) (getD_put_self a 16 _ (by show _ < a.tmps.size; omega))
          · obtain rfl := Option.some.inj ho
            have q5 : a.tmps.getD 5 undef = .int .i64 j := hf.at_ 5 (by kernel_rfl)
            clear he
            go_simp
            exact hK _ _ (Below.refl _ _) (getD_put_self a 17 _ (by show _ < a.tmps.size; omega))
          · obtain rfl := Option.some.inj ho
            have q16 : a.tmps.getD 16 undef = .slice (some ⟨b, off, none⟩) xs.length cap := he _ (Array.mem_of_getElem? (i := 0) rfl) (by kernel_rfl) _ rfl
            have q17 : a.tmps.getD 17 undef = .int .i64 j := he _ (Array.mem_of_getElem? (i := 1) rfl) (by kernel_rfl) _ rfl
            clear he
            go_simp
            exact hK _ _ (Below.refl _ _) (getD_put_self a 18 _ (by show _ < a.tmps.size; omega))
          · obtain rfl := Option.some.inj ho
            have q18 : a.tmps.getD 18 undef = .pointer (some ⟨b, off + j * 4, none⟩) := he _ (Array.mem_of_getElem? (i := 0) rfl) (by kernel_rfl) _ rfl
            clear he
            refine wantedG rfl (wp_loadG Try.isAgg113 Try.sizeOf113 (vs := actC x) _ rfl q18 rfl (h5.kept ((hb.trans (hR.mono hsz)).block b (by omega))) ?_)
            exact hK _ _ (Below.refl _ _) (getD_put_self a 19 _ (by show _ < a.tmps.size; omega))
          · obtain rfl := Option.some.inj ho
            have q1 : a.tmps.getD 1 undef = .slice (some ⟨b', off', none⟩) ys.length cap' := hf.at_ 1 (by kernel_rfl)
            clear he
            go_simp
            exact hK _ _ (Below.refl _ _) (getD_put_self a 20 _ (by show _ < a.tmps.size; omega))
          · obtain rfl := Option.some.inj ho
            have q5 : a.tmps.getD 5 undef = .int .i64 j := hf.at_ 5 (by kernel_rfl)
            clear he
            go_simp
            exact hK _ _ (Below.refl _ _) (getD_put_self a 21 _ (by show _ < a.tmps.size; omega))
          · obtain rfl := Option.some.inj ho
            have q20 : a.tmps.getD 20 undef = .slice (some ⟨b', off', none⟩) ys.length cap' := he _ (Array.mem_of_getElem? (i := 0) rfl) (by kernel_rfl) _ rfl
            have q21 : a.tmps.getD 21 undef = .int .i64 j := he _ (Array.mem_of_getElem? (i := 1) rfl) (by kernel_rfl) _ rfl
            clear he
            go_simp
            exact hK _ _ (Below.refl _ _) (getD_put_self a 22 _ (by show _ < a.tmps.size; omega))
          · obtain rfl := Option.some.inj ho
            have q22 : a.tmps.getD 22 undef = .pointer (some ⟨b', off' + j * 4, none⟩) := he _ (Array.mem_of_getElem? (i := 0) rfl) (by kernel_rfl) _ rfl
            clear he
            refine wantedG rfl (wp_loadG Try.isAgg113 Try.sizeOf113 (vs := actC y) _ rfl q22 rfl (h5'.kept ((hb.trans (hR.mono hsz)).block b' (by omega))) ?_)
            exact hK _ _ (Below.refl _ _) (getD_put_self a 23 _ (by show _ < a.tmps.size; omega))
          · obtain rfl := Option.some.inj ho
            have q19 : a.tmps.getD 19 undef = .agg (actC x).toArray := he _ (Array.mem_of_getElem? (i := 0) rfl) (by kernel_rfl) _ rfl
            have q23 : a.tmps.getD 23 undef = .agg (actC y).toArray := he _ (Array.mem_of_getElem? (i := 1) rfl) (by kernel_rfl) _ rfl
            clear he
            have hg := guard_actS .neq (.tmp 19) (.tmp 23) x y u
            have hn := neq_actS x y u
            rw [HCD.out] at hn
            exact wantedG rfl (wp_binG (.tmp 19) (.tmp 23) rfl q19 q23 hg hn (hK _ _ (Below.refl _ _) (getD_put_self a 24 _ (by show _ < a.tmps.size; omega))))
          · exact absurd ho (by simp)
        · intro a u hf hR0 hp
          have hR : Grow wr u := (Below.drew (Below.refl _ _)).trans hR0
          have m24 : a.tmps.getD 24 undef = .bool (!cd) := hp 8 _ rfl
          have hbu : Below w0.heap.size w0 u := hb.trans (hR.mono hsz)
          have husz := hR.size
          clear hp hR hR0
          cases cd with
          | true =>
            have HE : Hid (x = y) := by show x = y; exact of_decide_eq_true HCD.out
            have m24 : a.tmps.getD 24 undef = .bool false := m24
            clear HCD
            obtain ⟨fq, ea, hfv⟩ := act_lit a 26 hf.size
            have md : a.defers = [] := hf.defers
            rw [md] at ea
            have m0 := hf.at_ 0 (by kernel_rfl)
            have m1 := hf.at_ 1 (by kernel_rfl)
            have m2 := hf.at_ 2 (by kernel_rfl)
            have m3 := hf.at_ 3 (by kernel_rfl)
            have m4 := hf.at_ 4 (by kernel_rfl)
            have m5 := hf.at_ 5 (by kernel_rfl)
            have m6 := hf.at_ 6 (by kernel_rfl)
            have m7 := hf.at_ 7 (by kernel_rfl)
            have m8 := hf.at_ 8 (by kernel_rfl)
            have m9 := hf.at_ 9 (by kernel_rfl)
            have m10 := hf.at_ 10 (by kernel_rfl)
            have m11 := hf.at_ 11 (by kernel_rfl)
            have m12 := hf.at_ 12 (by kernel_rfl)
            have m13 := hf.at_ 13 (by kernel_rfl)
            have m14 := hf.at_ 14 (by kernel_rfl)
            have m15 := hf.at_ 15 (by kernel_rfl)
            have m25 := hf.at_ 25 (by kernel_rfl)
            rw [← hfv] at m0 m1 m2 m3 m4 m5 m6 m7 m8 m9 m10 m11 m12 m13 m14 m15 m25 m24
            simp only [Array.getD_eq_getD_getElem?, List.getElem?_toArray, List.getElem?_cons_succ, List.getElem?_cons_zero, Option.getD_some] at m0 m1 m2 m3 m4 m5 m6 m7 m8 m9 m10 m11 m12 m13 m14 m15 m25
            simp only [List.range, List.range.loop, List.map_cons, List.map_nil, m0, m1, m2, m3, m4, m5, m6, m7, m8, m9, m10, m11, m12, m13, m14, m15, m25, m24] at ea
            subst ea
            clear m0 m1 m2 m3 m4 m5 m6 m7 m8 m9 m10 m11 m12 m13 m14 m15 m25 m24 hfv md hf
            have HN : Hid (xs.take (j + 1) = ys.take (j + 1)) := take_succG HT.out HX.out.1 HX.out.2 HE.out
            clear h5 h5'
            go_wp2
            go_roundw
            case rel => exact ⟨j + 1, by omega, by go_num, hbu, HN.out⟩
            case measure => simp [intOf]; omega
          | false =>
            have HE : Hid (x ≠ y) := by show x ≠ y; exact of_decide_eq_false HCD.out
            have m24 : a.tmps.getD 24 undef = .bool true := m24
            clear HCD
            obtain ⟨fq, ea, hfv⟩ := act_lit a 26 hf.size
            have md : a.defers = [] := hf.defers
            rw [md] at ea
            have m0 := hf.at_ 0 (by kernel_rfl)
            have m1 := hf.at_ 1 (by kernel_rfl)
            have m2 := hf.at_ 2 (by kernel_rfl)
            have m3 := hf.at_ 3 (by kernel_rfl)
            have m4 := hf.at_ 4 (by kernel_rfl)
            have m5 := hf.at_ 5 (by kernel_rfl)
            have m6 := hf.at_ 6 (by kernel_rfl)
            have m7 := hf.at_ 7 (by kernel_rfl)
            have m8 := hf.at_ 8 (by kernel_rfl)
            have m9 := hf.at_ 9 (by kernel_rfl)
            have m10 := hf.at_ 10 (by kernel_rfl)
            have m11 := hf.at_ 11 (by kernel_rfl)
            have m12 := hf.at_ 12 (by kernel_rfl)
            have m13 := hf.at_ 13 (by kernel_rfl)
            have m14 := hf.at_ 14 (by kernel_rfl)
            have m15 := hf.at_ 15 (by kernel_rfl)
            have m25 := hf.at_ 25 (by kernel_rfl)
            rw [← hfv] at m0 m1 m2 m3 m4 m5 m6 m7 m8 m9 m10 m11 m12 m13 m14 m15 m25 m24
            simp only [Array.getD_eq_getD_getElem?, List.getElem?_toArray, List.getElem?_cons_succ, List.getElem?_cons_zero, Option.getD_some] at m0 m1 m2 m3 m4 m5 m6 m7 m8 m9 m10 m11 m12 m13 m14 m15 m25
            simp only [List.range, List.range.loop, List.map_cons, List.map_nil, m0, m1, m2, m3, m4, m5, m6, m7, m8, m9, m10, m11, m12, m13, m14, m15, m25, m24] at ea
            subst ea
            clear m0 m1 m2 m3 m4 m5 m6 m7 m8 m9 m10 m11 m12 m13 m14 m15 m25 m24 hfv md hf
            have HF : Hid (R = false) := by show R = false; rw [← HR.out]; exact decide_eq_false (ne_atG HX.out.1 HX.out.2 HE.out)
            clear h5 h5'
            go_wp2
            go_ret
            exact ⟨ret_bool HF.out.symm, hbu⟩
      · obtain rfl : j = xs.length := by omega
        have HF : Hid (R = true) := by
          show R = true
          rw [← HR.out]
          refine decide_eq_true ?_
          have := HT.out; rwa [List.take_length, HL.out, List.take_length] at this
        go_wp2
        go_ret
        exact ⟨ret_bool HF.out.symm, hb⟩
  · have hl2 : ((xs.length : Int) != (ys.length : Int)) = true := by simp; omega
    have HF : Hid (R = false) := by show R = false; rw [← HR.out]; exact decide_eq_false fun h => hl (by rw [h])
    go_enter Try.func62, Try.ntmps62
    go_wp2
    go_ret
    exact ⟨ret_bool HF.out.symm, Below.refl _ _⟩

set_option maxHeartbeats 400000 in
theorem l2IntsC_any (w : World) (lo hi lo' hi' : Nat) (va vb : Value) (xs ys : List Int) (ha : SI w lo hi va xs) (hb : SI w lo' hi' vb ys) :
    Calls Try.prog 48 #[va, vb] w fun e w' => ∃ m, e = .returned (.bool (decide (xs = ys))) ∧ w' = w.drewN m := by
  obtain ⟨a, cap, rfl, h1, h2, h3⟩ := ha
  obtain ⟨a', cap', rfl, h1', h2', h3'⟩ := hb
  unfold maxLen at h2 h2'
  by_cases hl : xs.length = ys.length
  · have hl2 : ((xs.length : Int) != (ys.length : Int)) = false := by simp; omega
    go_enter Try.func48, Try.ntmps48
    go_wp2
    go_loopw [5] (fun i wr => ∃ k m : Nat, k ≤ xs.length ∧ i = .int .i64 k ∧ wr = w.drewN m ∧ xs.take k = ys.take k) (fun i _ => xs.length - (intOf i).toNat)
    case atStart => exact ⟨0, 0, Nat.zero_le _, rfl, rfl, rfl⟩
    case round =>
      obtain ⟨k, m, hk, rfl, rfl, htk⟩ := hrel
      by_cases hlt : k < xs.length
      · obtain ⟨x, hx⟩ : ∃ x, xs[k]? = some x := ⟨xs[k], List.getElem?_eq_getElem hlt⟩
        obtain ⟨y, hy⟩ : ∃ y, ys[k]? = some y := ⟨ys[k]'(by omega), List.getElem?_eq_getElem (by omega)⟩
        rcases h3 with h0 | ⟨b, off, rfl, _, _, hc⟩
        · rw [h0] at hlt; simp at hlt
        rcases h3' with h0 | ⟨b', off', rfl, _, _, hc'⟩
        · rw [h0] at hl; simp at hl; rw [hl] at hlt; simp at hlt
        have c1 := hc k x hx
        have c2 := hc' k y hy
        have HX : Hid (xs[k]? = some x) := hx
        have HY : Hid (ys[k]? = some y) := hy
        have HT : Hid (xs.take k = ys.take k) := htk
        have hlt' : k < ys.length := by omega
        clear hx hy htk hc hc' hl
        by_cases hxy : x = y
        · have hxy' : (x == y) = true := by simpa using hxy
          have HE : Hid (x = y) := hxy
          clear hxy
          go_wp2_with fail
          go_quiet (fail)
          go_wp2
          go_roundw
          case rel => exact ⟨k + 1, m + nq, by omega, by go_num, by simp, eq_take_succ HT.out HX.out HY.out HE.out⟩
          case measure => simp [intOf]; omega
        · have hxy' : (x == y) = false := by simpa using hxy
          have HE : Hid (x ≠ y) := hxy
          clear hxy
          go_wp2_with fail
          go_quiet (fail)
          go_wp2
          go_ret
          exact ⟨m + nq, ret_bool (decide_eq_false (ne_at HX.out HY.out HE.out)).symm, by simp⟩
      · have HT : Hid (xs.take k = ys.take k) := htk
        clear htk
        go_wp2
        go_ret
        exact ⟨m, ret_bool (decide_eq_true (by have := HT.out; rwa [List.take_of_length_le (by omega), List.take_of_length_le (by omega)] at this)).symm, rfl⟩
  · have hl2 : ((xs.length : Int) != (ys.length : Int)) = true := by simp; omega
    go_enter Try.func48, Try.ntmps48
    go_wp2
    go_ret
    exact ⟨0, ret_bool (decide_eq_false (by intro h; exact hl (by rw [h]))).symm, rfl⟩

set_option maxHeartbeats 400000 in
theorem equalInt_any (w : World) (lo hi lo' hi' : Nat) (va vb : Value) (xs ys : List Int) (ha : SI w lo hi va xs) (hb : SI w lo' hi' vb ys) :
    Calls Try.prog 66 #[va, vb] w fun e w' => ∃ m, e = .returned (.bool (decide (xs = ys))) ∧ w' = w.drewN m := by
  obtain ⟨a, cap, rfl, h1, h2, h3⟩ := ha
  obtain ⟨a', cap', rfl, h1', h2', h3'⟩ := hb
  unfold maxLen at h2 h2'
  by_cases hl : xs.length = ys.length
  · have hl2 : ((xs.length : Int) != (ys.length : Int)) = false := by simp; omega
    go_enter Try.func66, Try.ntmps66
    go_wp2
    go_loopw [13] (fun i wr => ∃ k m : Nat, k ≤ xs.length ∧ i = .int .i64 k ∧ wr = w.drewN m ∧ xs.take k = ys.take k) (fun i _ => xs.length - (intOf i).toNat)
    case atStart => exact ⟨0, 0, Nat.zero_le _, rfl, rfl, rfl⟩
    case round =>
      obtain ⟨k, m, hk, rfl, rfl, htk⟩ := hrel
      by_cases hlt : k < xs.length
      · obtain ⟨x, hx⟩ : ∃ x, xs[k]? = some x := ⟨xs[k], List.getElem?_eq_getElem hlt⟩
        obtain ⟨y, hy⟩ : ∃ y, ys[k]? = some y := ⟨ys[k]'(by omega), List.getElem?_eq_getElem (by omega)⟩
        rcases h3 with h0 | ⟨b, off, rfl, _, _, hc⟩
        · rw [h0] at hlt; simp at hlt
        rcases h3' with h0 | ⟨b', off', rfl, _, _, hc'⟩
        · rw [h0] at hl; simp at hl; rw [hl] at hlt; simp at hlt
        have c1 := hc k x hx
        have c2 := hc' k y hy
        have HX : Hid (xs[k]? = some x) := hx
        have HY : Hid (ys[k]? = some y) := hy
        have HT : Hid (xs.take k = ys.take k) := htk
        have hlt' : k < ys.length := by omega
        clear hx hy htk hc hc' hl
        by_cases hxy : x = y
        · have hxy' : (x == y) = true := by simpa using hxy
          have HE : Hid (x = y) := hxy
          clear hxy
          go_wp2_with fail
          go_quiet (fail)
          go_wp2
          go_roundw
          case rel => exact ⟨k + 1, m + nq, by omega, by go_num, by simp, eq_take_succ HT.out HX.out HY.out HE.out⟩
          case measure => simp [intOf]; omega
        · have hxy' : (x == y) = false := by simpa using hxy
          have HE : Hid (x ≠ y) := hxy
          clear hxy
          go_wp2_with fail
          go_quiet (fail)
          go_wp2
          go_ret
          exact ⟨m + nq, ret_bool (decide_eq_false (ne_at HX.out HY.out HE.out)).symm, by simp⟩
      · have HT : Hid (xs.take k = ys.take k) := htk
        clear htk
        go_wp2
        go_ret
        exact ⟨m, ret_bool (decide_eq_true (by have := HT.out; rwa [List.take_of_length_le (by omega), List.take_of_length_le (by omega)] at this)).symm, rfl⟩
  · have hl2 : ((xs.length : Int) != (ys.length : Int)) = true := by simp; omega
    go_enter Try.func66, Try.ntmps66
    go_wp2
    go_ret
    exact ⟨0, ret_bool (decide_eq_false (by intro h; exact hl (by rw [h]))).symm, rfl⟩

set_option maxHeartbeats 8000000 in
theorem sameWay_any (w : World) (l m n h lo' hi' : Nat) (x y s x' y' s' : Value) (t u : TransD) (ha : WayO w l m n h x y s t) (hh : h ≤ w.heap.size) (hb : WayR w lo' hi' x' y' s' u) (hhi' : hi' ≤ w.heap.size) (hna : manyL t.e.kids ≤ 1048576) (hnb : manyL u.e.kids ≤ 1048576) :
    Calls Try.prog 61 #[.agg (transC x y t.e s).toArray, .agg (transC x' y' u.e s').toArray] w fun e w' => ∃ r : Bool, e = .returned (.bool r) ∧ (r = true ↔ t = u) ∧ Below w.heap.size w w' := by
  obtain ⟨ax, cx, ay, cy, az, cz, rfl, rfl, rfl⟩ := ha.r.shape
  obtain ⟨bx, dx, by_, dy, bz, dz, rfl, rfl, rfl⟩ := hb.shape
  have HK : Hid (WayO w l m n h (.slice ax t.fr.length cx) (.slice ay t.to.length cy) (.slice az t.e.kids.length cz) t ∧ WayR w lo' hi' (.slice bx u.fr.length dx) (.slice by_ u.to.length dy) (.slice bz u.e.kids.length dz) u) := ⟨ha, hb⟩
  have HE : Hid (t = u ↔ t.fr = u.fr ∧ t.to = u.to ∧ t.e = u.e) := transD_eq
  have HMA : Hid (manyE t.e ≤ 1048577 ∧ manyE u.e ≤ 1048577) := by
    have h1 := manyE_eq t.e
    have h2 := manyE_eq u.e
    show _ ∧ _
    omega
  clear ha hb hna hnb
  go_enter Try.func61, Try.ntmps61
  go_wp2_with (refine wpList_boxG (vs := transC (.slice ax t.fr.length cx) (.slice ay t.to.length cy) t.e (.slice az t.e.kids.length cz)) rfl _ rfl rfl ?_)
  intro u1 g1 p1 s1
  go_wp2_with (refine wpList_boxG (vs := transC (.slice bx u.fr.length dx) (.slice by_ u.to.length dy) u.e (.slice bz u.e.kids.length dz)) rfl _ rfl rfl ?_)
  intro u2 g2 q2 s2
  have p2 := p1.below g2 (by omega)
  have G2 := g1.trans (g2.mono (by omega))
  clear g1 g2 p1
  have c0 : u2.cell? ⟨w.heap.size, 0, none⟩ = some (.slice ax t.fr.length cx) := p2.c 0 _ rfl
  have d0 : u2.cell? ⟨w.heap.size + 1, 0, none⟩ = some (.slice bx u.fr.length dx) := q2.c 0 _ rfl
  go_wp2_with fail
  clear c0 d0
  refine (equalInt_any _ _ _ _ _ _ _ t.fr u.fr (HK.out.1.r.fr.below G2 hh) (HK.out.2.fr.below G2 hhi')).mono ?_
  by_cases q1 : t.fr = u.fr
  rotate_left
  · rw [decide_eq_false q1]
    rintro e3 u3 ⟨m3, rfl, hm3⟩
    have G3 : Below w.heap.size w u3 := by rw [hm3]; exact below_drewN G2 m3
    have HN : Hid (¬ t = u) := fun h => q1 (HE.out.mp h).1
    clear hm3 q1 p2 q2 G2
    go_wp2
    go_ret
    exact ⟨false, rfl, by simp [HN.out], G3⟩
  rw [decide_eq_true q1]
  have HQ1 : Hid (t.fr = u.fr) := q1
  clear q1
  rintro e3 u3 ⟨m3, rfl, hm3⟩
  have g3 : Below u2.heap.size u2 u3 := by rw [hm3]; exact below_drewN (Below.refl _ _) m3
  clear hm3
  have z3 := g3.size
  have p3 := p2.below g3 (by omega)
  have q3 := q2.below g3 (by omega)
  have G3 := G2.trans (g3.mono (by omega))
  clear g3 G2 p2 q2
  have c1 : u3.cell? ⟨w.heap.size, 1, none⟩ = some (.slice ay t.to.length cy) := p3.c 1 _ rfl
  have d1 : u3.cell? ⟨w.heap.size + 1, 1, none⟩ = some (.slice by_ u.to.length dy) := q3.c 1 _ rfl
  go_wp2_with fail
  clear c1 d1
  refine (equalInt_any _ _ _ _ _ _ _ t.to u.to (HK.out.1.r.to.below G3 hh) (HK.out.2.to.below G3 hhi')).mono ?_
  by_cases q2 : t.to = u.to
  rotate_left
  · rw [decide_eq_false q2]
    rintro e4 u4 ⟨m4, rfl, hm4⟩
    have G4 : Below w.heap.size w u4 := by rw [hm4]; exact below_drewN G3 m4
    have HN : Hid (¬ t = u) := fun h => q2 (HE.out.mp h).2.1
    clear hm4 q2 p3 q3 G3
    go_wp2
    go_ret
    exact ⟨false, rfl, by simp [HN.out], G4⟩
  rw [decide_eq_true q2]
  have HQ2 : Hid (t.to = u.to) := q2
  clear q2
  rintro e4 u4 ⟨m4, rfl, hm4⟩
  have g4 : Below u3.heap.size u3 u4 := by rw [hm4]; exact below_drewN (Below.refl _ _) m4
  clear hm4
  have z4 := g4.size
  have p4 := p3.below g4 (by omega)
  have q4 := q3.below g4 (by omega)
  have G4 := G3.trans (g4.mono (by omega))
  clear g4 G3 p3 q3
  have c2 : u4.cell? ⟨w.heap.size, 2, none⟩ = some (.int .i64 t.e.k) := p4.c 2 _ rfl
  have c3 : u4.cell? ⟨w.heap.size, 3, none⟩ = some (.int .i64 t.e.n) := p4.c 3 _ rfl
  have c4 : u4.cell? ⟨w.heap.size, 4, none⟩ = some (.int .i64 t.e.ak) := p4.c 4 _ rfl
  have c5 : u4.cell? ⟨w.heap.size, 5, none⟩ = some (.int .i64 t.e.at_) := p4.c 5 _ rfl
  have c6 : u4.cell? ⟨w.heap.size, 6, none⟩ = some (.slice az t.e.kids.length cz) := p4.c 6 _ rfl
  have d2 : u4.cell? ⟨w.heap.size + 1, 2, none⟩ = some (.int .i64 u.e.k) := q4.c 2 _ rfl
  have d3 : u4.cell? ⟨w.heap.size + 1, 3, none⟩ = some (.int .i64 u.e.n) := q4.c 3 _ rfl
  have d4 : u4.cell? ⟨w.heap.size + 1, 4, none⟩ = some (.int .i64 u.e.ak) := q4.c 4 _ rfl
  have d5 : u4.cell? ⟨w.heap.size + 1, 5, none⟩ = some (.int .i64 u.e.at_) := q4.c 5 _ rfl
  have d6 : u4.cell? ⟨w.heap.size + 1, 6, none⟩ = some (.slice bz u.e.kids.length dz) := q4.c 6 _ rfl
  go_wp2_with fail
  clear c2 c3 c4 c5 c6 d2 d3 d4 d5 d6 p4 q4
  refine (iExprAlike_any u4 _ _ _ _ 0 _ _ t.e u.e ⟨_, rfl, HK.out.1.e.under G4 hh⟩ ⟨_, rfl, HK.out.2.e.under G4 hhi'⟩ (by omega) (by omega) HMA.out.1 HMA.out.2).mono ?_
  rintro e5 u5 ⟨r, rfl, hr, g5⟩
  have G5 := G4.trans (g5.mono (by omega))
  have HF : Hid (r = true ↔ t = u) := by
    show r = true ↔ t = u
    rw [hr, HE.out]
    exact ⟨fun h => ⟨HQ1.out, HQ2.out, h⟩, fun h => h.2.2⟩
  clear g5 G4 hr
  go_wp2
  go_ret
  exact ⟨r, rfl, HF.out, G5⟩

theorem zeroS_trans : (Try.prog.info? 111).map (fun i => (i.zero, i.size)) = some (some (.agg (transC zSl zSl noExpr zSl).toArray), 7) := by kernel_rfl
theorem ne_atW {xs ys : List TransD} {k : Nat} {x y : TransD} (hx : xs[k]? = some x) (hy : ys[k]? = some y) (e : ¬ x = y) : ¬ xs = ys := by
  intro h; rw [h, hy] at hx; exact e (Option.some.inj hx).symm
set_option maxHeartbeats 8000000 in
theorem equalFunc_any (w : World) (lo hi lo' hi' : Nat) (va vb : Value) (xs ys : List TransD) (ha : TO w lo hi va xs) (hb' : TR w lo' hi' vb ys) (hhi : hi ≤ w.heap.size) (hhi' : hi' ≤ w.heap.size) (hma : manyT xs ≤ 1048576) (hmb : manyT ys ≤ 1048576) :
    Calls Try.prog 60 #[va, vb, .func (.func 61) #[] #[]] w fun e w' => ∃ r : Bool, e = .returned (.bool r) ∧ (r = true ↔ xs = ys) ∧ Below w.heap.size w w' := by
  obtain ⟨ad, cap, rfl, h1, h2⟩ := ha.tr.shape
  obtain ⟨ad', cap', rfl, h1', h2'⟩ := hb'.shape
  have HK : Hid (TO w lo hi (.slice ad xs.length cap) xs ∧ TR w lo' hi' (.slice ad' ys.length cap') ys) := ⟨ha, hb'⟩
  have HM : Hid (manyT xs ≤ 1048576 ∧ manyT ys ≤ 1048576) := ⟨hma, hmb⟩
  clear ha hb' hma hmb
  unfold maxLen at h2 h2'
  have hZ := (zero_of_info (P := Try.prog) zeroS_trans).1
  by_cases hl : xs.length = ys.length
  rotate_left
  · have hl2 : ((xs.length : Int) != (ys.length : Int)) = true := by simp; omega
    have HF : Hid (¬ xs = ys) := fun h => hl (by rw [h])
    clear hl hZ
    go_enter Try.func60, Try.ntmps60
    go_wp2
    go_ret
    exact ⟨false, rfl, by simp [HF.out], Below.refl _ _⟩
  have hl2 : ((xs.length : Int) != (ys.length : Int)) = false := by simp; omega
  have HL : Hid (xs.length = ys.length) := hl
  clear hl
  go_enter Try.func60, Try.ntmps60
  go_wp2_with fail
  go_loopw [17] (fun i wr => ∃ j : Nat, j ≤ xs.length ∧ i = .int .i64 j ∧ Below w.heap.size w wr ∧ xs.take j = ys.take j) (fun i _ => xs.length - (intOf i).toNat)
  case atStart => exact ⟨0, Nat.zero_le _, rfl, Below.refl _ _, rfl⟩
  case round =>
    obtain ⟨j, hj, rfl, hb, htk⟩ := hrel
    have HT : Hid (xs.take j = ys.take j) := htk
    clear htk
    have hsz := hb.size
    by_cases hlt : j < xs.length
    · obtain ⟨x, hx⟩ : ∃ x, xs[j]? = some x := ⟨xs[j], List.getElem?_eq_getElem hlt⟩
      have hlt' : j < ys.length := by have := HL.out; omega
      obtain ⟨y, hy⟩ : ∃ y, ys[j]? = some y := ⟨ys[j], List.getElem?_eq_getElem hlt'⟩
      obtain ⟨b, off, capx, x1, y1, s1, l, m, n, q, hv, hb1, hb2, h5, hw, hq⟩ := HK.out.1.atO hx
      obtain ⟨b', off', capy, x2, y2, s2, hv', hb1', hb2', h5', hw'⟩ := HK.out.2.at_ hy
      simp only [Value.slice.injEq, true_and] at hv hv'
      obtain ⟨rfl, rfl⟩ := hv
      obtain ⟨rfl, rfl⟩ := hv'
      have h5 : CV wr b (off + j * 7) (transC x1 y1 x.e s1) := h5.below hb (by omega)
      have h5' : CV wr b' (off' + j * 7) (transC x2 y2 y.e s2) := h5'.below hb (by omega)
      have HX : Hid (xs[j]? = some x ∧ ys[j]? = some y) := ⟨hx, hy⟩
      have HW : Hid (WayO w l m n q x1 y1 s1 x ∧ WayR w lo' hi' x2 y2 s2 y) := ⟨hw, hw'⟩
      have HS : Hid (manyL x.e.kids ≤ 1048576 ∧ manyL y.e.kids ≤ 1048576) := by
        have a1 := many_le_manyT hx
        have a2 := many_le_manyT hy
        have a3 := HM.out
        unfold TransD.many at a1 a2
        show _ ∧ _
        omega
      obtain ⟨ax, cx, ay, cy, az, cz, rfl, rfl, rfl⟩ := hw.r.shape
      obtain ⟨bx, dx, by_, dy, bz, dz, rfl, rfl, rfl⟩ := hw'.shape
      clear hx hy hw hw'
      go_wp2_with (first
        | refine wpList_loadG Try.isAgg111 Try.sizeOf111 _ rfl rfl rfl rfl h5 ?_
        | refine wpList_allocG hZ rfl rfl ?_)
      intro u1 g1 q1 s1'
      have hr7 := q1.run 0 7 (show 0 + 7 ≤ 7 by decide)
      go_wp2_with (refine wpList_storeG Try.sizeOf111 _ _ rfl rfl rfl rfl rfl (transC_one x.e rfl rfl rfl) hr7.1 hr7.2 ?_)
      intro u2 L
      have z2 := L.size
      have q2 := L.var q1
      have G2 : Below w.heap.size w u2 := L.below _ _ (by omega) (hb.trans (g1.mono (by omega)))
      replace h5' := h5'.kept ((L.block b' (by omega)).trans (g1.block b' (by omega)))
      clear L q1 g1 hr7 h5
      go_wp2_with (first
        | refine wpList_loadG Try.isAgg111 Try.sizeOf111 _ rfl rfl rfl rfl h5' ?_
        | refine wpList_allocG hZ rfl rfl ?_)
      intro u3 g3 q3 s3'
      have z3 := g3.size
      replace q2 := q2.below g3 (by omega)
      have hr7 := q3.run 0 7 (show 0 + 7 ≤ 7 by decide)
      go_wp2_with (refine wpList_storeG Try.sizeOf111 _ _ rfl rfl rfl rfl rfl (transC_one y.e rfl rfl rfl) hr7.1 hr7.2 ?_)
      intro u4 L
      have z4 := L.size
      have q4 := L.var q3
      have r4 := L.other q2 (by omega)
      have G4 : Below w.heap.size w u4 := L.below _ _ (by omega) (G2.trans (g3.mono (by omega)))
      clear L q3 g3 hr7 h5' q2 G2 hb
      have hc := r4.c
      have hd := q4.c
      go_wp2_with (first
        | refine wpList_loadG Try.isAgg111 Try.sizeOf111 _ rfl rfl rfl rfl hc ?_
        | refine wpList_loadG Try.isAgg111 Try.sizeOf111 _ rfl rfl rfl rfl hd ?_)
      clear hc hd r4 q4
      refine (sameWay_any u4 l m n q lo' hi' _ _ _ _ _ _ x y (HW.out.1.kept fun k q1 q2 => G4.block k (by omega)) (by omega) (HW.out.2.under G4 (by omega)) (by omega) HS.out.1 HS.out.2).mono ?_
      rintro e5 u5 ⟨r, rfl, hr, g5⟩
      have G5 := G4.trans (g5.mono (by omega))
      clear g5 G4
      cases r
      · have HF : Hid (¬ xs = ys) := ne_atW HX.out.1 HX.out.2 fun h => by have := hr.mpr h; cases this
        clear hr
        go_wp2
        go_ret
        exact ⟨false, rfl, by simp [HF.out], G5⟩
      · have HN : Hid (xs.take (j + 1) = ys.take (j + 1)) := take_succG HT.out HX.out.1 HX.out.2 (hr.mp rfl)
        clear hr
        go_wp2
        go_roundw
        case rel => exact ⟨j + 1, by omega, by go_num, G5, HN.out⟩
        case measure => simp [intOf]; omega
    · obtain rfl : j = xs.length := by omega
      have HF : Hid (xs = ys) := by
        show xs = ys
        have := HT.out; rwa [List.take_length, HL.out, List.take_length] at this
      go_wp2
      go_ret
      exact ⟨true, rfl, by simp [HF.out], hb⟩

set_option maxHeartbeats 8000000 in
theorem iChartSame_any (w : World) (lo hi lo' hi' : Nat) (va vb : Value) (c d : ChartD) (ha : HOc w lo hi va c) (hb : HIc w lo' hi' vb d) (hhi : hi ≤ w.heap.size) (hhi' : hi' ≤ w.heap.size) (hma : c.many ≤ 1048576) (hmb : d.many ≤ 1048576) :
    Calls Try.prog 29 #[va, vb] w fun e w' => ∃ r : Bool, e = .returned (.bool r) ∧ (r = true ↔ c = d) ∧ Below w.heap.size w w' := by
  obtain ⟨xa, xb, mid, rfl, hxa, hxb, hm1, hm2⟩ := ha
  obtain ⟨ya, yb, rfl, hya, hyb⟩ := hb
  obtain ⟨ad1, cap1, rfl, _, _⟩ := hxa.tr.shape
  obtain ⟨ad2, cap2, rfl, _, _⟩ := hxb.gr.shape
  obtain ⟨ad3, cap3, rfl, _, _⟩ := hya.shape
  obtain ⟨ad4, cap4, rfl, _, _⟩ := hyb.shape
  have HK : Hid ((TO w lo mid (.slice ad1 c.ts.length cap1) c.ts ∧ GO actE w mid hi (.slice ad2 c.acts.length cap2) c.acts) ∧ (TR w lo' hi' (.slice ad3 d.ts.length cap3) d.ts ∧ GR actE w lo' hi' (.slice ad4 d.acts.length cap4) d.acts)) := ⟨⟨hxa, hxb⟩, hya, hyb⟩
  have HM : Hid (manyT c.ts ≤ 1048576 ∧ manyT d.ts ≤ 1048576) := by
    unfold ChartD.many at hma hmb
    show _ ∧ _
    omega
  have HE : Hid (c = d ↔ c.steps = d.steps ∧ c.ts = d.ts ∧ c.acts = d.acts) := chartD_eq
  clear hxa hxb hya hyb hma hmb
  obtain ⟨k1, hk1⟩ : ∃ k, c.steps = k := ⟨_, rfl⟩
  obtain ⟨k2, hk2⟩ : ∃ k, d.steps = k := ⟨_, rfl⟩
  rw [hk1, hk2] at HE
  rw [hk1, hk2]
  clear hk1 hk2
  by_cases q0 : k1 = k2
  rotate_left
  · have q0' : (k1 == k2) = false := by simp [q0]
    have HN : Hid (¬ c = d) := fun h => q0 (HE.out.mp h).1
    clear q0
    go_enter Try.func29, Try.ntmps29
    go_wp2_with (refine wpList_boxG (vs := [.int .i64 k1, .slice ad1 c.ts.length cap1, .slice ad2 c.acts.length cap2]) rfl _ rfl rfl ?_)
    intro u1 g1 p1 s1
    go_wp2_with (refine wpList_boxG (vs := [.int .i64 k2, .slice ad3 d.ts.length cap3, .slice ad4 d.acts.length cap4]) rfl _ rfl rfl ?_)
    intro u2 g2 q2 s2
    have p2 := p1.below g2 (by omega)
    have G2 := g1.trans (g2.mono (by omega))
    clear g1 g2 p1
    have b0 : u2.cell? ⟨w.heap.size, 0, none⟩ = some (.int .i64 k1) := p2.c 0 _ rfl
    have b1 : u2.cell? ⟨w.heap.size + 1, 0, none⟩ = some (.int .i64 k2) := q2.c 0 _ rfl
    clear p2 q2
    go_wp2
    go_ret
    exact ⟨false, rfl, by simp [HN.out], G2⟩
  have q0' : (k1 == k2) = true := by simp [q0]
  have HQ0 : Hid (k1 = k2) := q0
  clear q0
  go_enter Try.func29, Try.ntmps29
  go_wp2_with (refine wpList_boxG (vs := [.int .i64 k1, .slice ad1 c.ts.length cap1, .slice ad2 c.acts.length cap2]) rfl _ rfl rfl ?_)
  intro u1 g1 p1 s1
  go_wp2_with (refine wpList_boxG (vs := [.int .i64 k2, .slice ad3 d.ts.length cap3, .slice ad4 d.acts.length cap4]) rfl _ rfl rfl ?_)
  intro u2 g2 q2 s2
  have p2 := p1.below g2 (by omega)
  have G2 := g1.trans (g2.mono (by omega))
  clear g1 g2 p1
  have b0 : u2.cell? ⟨w.heap.size, 0, none⟩ = some (.int .i64 k1) := p2.c 0 _ rfl
  have b1 : u2.cell? ⟨w.heap.size + 1, 0, none⟩ = some (.int .i64 k2) := q2.c 0 _ rfl
  have c0 : u2.cell? ⟨w.heap.size, 1, none⟩ = some (.slice ad1 c.ts.length cap1) := p2.c 1 _ rfl
  have d0 : u2.cell? ⟨w.heap.size + 1, 1, none⟩ = some (.slice ad3 d.ts.length cap3) := q2.c 1 _ rfl
  go_wp2_with fail
  clear c0 d0 b0 b1
  refine (equalFunc_any _ lo mid lo' hi' _ _ c.ts d.ts (HK.out.1.1.under G2 (by omega)) (HK.out.2.1.under G2 hhi') (by omega) (by omega) HM.out.1 HM.out.2).mono ?_
  rintro e3 u3 ⟨r, rfl, hr, g3⟩
  have z3 := g3.size
  have p3 := p2.below g3 (by omega)
  have q3 := q2.below g3 (by omega)
  have G3 := G2.trans (g3.mono (by omega))
  clear g3 G2 p2 q2
  cases r
  · have HN : Hid (¬ c = d) := fun h => by have := hr.mpr (HE.out.mp h).2.1; cases this
    clear hr p3 q3
    go_wp2
    go_ret
    exact ⟨false, rfl, by simp [HN.out], G3⟩
  have HQ1 : Hid (c.ts = d.ts) := hr.mp rfl
  clear hr
  have c1 : u3.cell? ⟨w.heap.size, 2, none⟩ = some (.slice ad2 c.acts.length cap2) := p3.c 2 _ rfl
  have d1 : u3.cell? ⟨w.heap.size + 1, 2, none⟩ = some (.slice ad4 d.acts.length cap4) := q3.c 2 _ rfl
  go_wp2_with fail
  clear c1 d1 p3 q3
  refine (equalAct_any _ mid hi lo' hi' _ _ c.acts d.acts (HK.out.1.2.gr.under G3 hhi) (HK.out.2.2.under G3 hhi') (by omega) (by omega)).mono ?_
  obtain ⟨r, hr⟩ : ∃ r, decide (c.acts = d.acts) = r := ⟨_, rfl⟩
  rw [hr]
  rintro e4 u4 ⟨rfl, g4⟩
  have G4 := G3.trans (g4.mono (by omega))
  have HF : Hid (r = true ↔ c = d) := by
    show r = true ↔ c = d
    rw [← hr, decide_eq_true_iff, HE.out]
    exact ⟨fun h => ⟨HQ0.out, HQ1.out, h⟩, fun h => h.2.2⟩
  clear g4 G3 hr
  go_wp2
  go_ret
  exact ⟨r, rfl, HF.out, G4⟩

end Go.Proofs.Ytaoiookfmgpmkaa
