/-
  States and marks held against each other, by the model (l7Same, l8Bools) and by the program (sameState, sameMarks). (Written by our generator gen_statesame.py.)
-/
import Derived.Test.YtaoiookfmgpmkaaPM3
import Derived.Test.YtaoiookfmgpmkaaPM2
import Derived.Laws.StructEq
namespace Go.Proofs.Ytaoiookfmgpmkaa
open Go.ChangeShapes Go.WideShapes Go.ChangeAt Go.RowKit
set_option linter.unusedVariables false
set_option linter.unusedSimpArgs false
set_option maxRecDepth 100000

def boolC1 (x : Bool) : List Value := [.bool x]

theorem blockD_five {x y : BlockD} : decide (x = y) = (x.kind == y.kind && (x.n == y.n && (x.on == y.on && (x.was == y.was && x.t == y.t)))) := by
  cases x; cases y
  rw [Bool.eq_iff_iff]
  simp

set_option maxHeartbeats 4000000 in
theorem eq_blockK (k : Nat) (x y : BlockD) (w : World) : (Op.equalIn (k + 2) 115 (.agg (blockC x).toArray) (.agg (blockC y).toArray)).run Try.prog w = .ok (decide (x = y)) w := by
  rw [blockD_five]
  unfold blockC
  rw [run_equalIn_agg w (k + 1) 115 _ _ (by kernel_rfl) (by kernel_rfl)]
  simp only [Program.fieldsOf, Try.underlying115]
  have hi := fun x y : Int => run_equalIn_int (P := Try.prog) w k 3 .i64 .i64 x y Try.underlying3
  have hb := fun x y : Bool => run_equalIn_bool' (P := Try.prog) w k 4 x y Try.underlying4
  have a3 := Try.isAgg3
  have a4 := Try.isAgg4
  have z3 := Try.sizeOf3
  have z4 := Try.sizeOf4
  simp [Op.eqFields, part, a3, a4, z3, z4, hi, hb]
  cases h0 : (x.kind == y.kind) <;> cases h1 : (x.n == y.n) <;> cases h2 : (x.on == y.on) <;> cases h3 : (x.was == y.was) <;> cases h4 : (x.t == y.t) <;> simp_all

theorem neq_blockC (x y : BlockD) (w : World) : Sem.run Try.prog (binOp .neq 115 (.agg (blockC x).toArray) (.agg (blockC y).toArray)) w = .ok (.bool (!decide (x = y))) w := by
  have h := eq_blockK 9998 x y w
  rw [run_neq_struct, h]
  rfl
theorem guard_blockC (op : BinOp) (x y : Operand) (a b : BlockD) (w : World) : Sem.run Try.prog (eqGuard op 115 x y (.agg (blockC a).toArray) (.agg (blockC b).toArray)) w = .ok () w :=
  run_eqGuard_agg w op 115 x y _ _ (by kernel_rfl)


set_option maxHeartbeats 4000000 in
theorem equalBlock_any (w0 : World) (lo hi lo' hi' : Nat) (va vb : Value) (xs ys : List BlockD) (ha : GR blockE w0 lo hi va xs) (hb' : GR blockE w0 lo' hi' vb ys) (hhi : hi ≤ w0.heap.size) (hhi' : hi' ≤ w0.heap.size) :
    Calls Try.prog 63 #[va, vb] w0 fun e w' => e = .returned (.bool (decide (xs = ys))) ∧ Below w0.heap.size w0 w' := by
  obtain ⟨ad, cap, rfl, h1, h2⟩ := ha.shape
  obtain ⟨ad', cap', rfl, h1', h2'⟩ := hb'.shape
  have HK : Hid (GR blockE w0 lo hi (.slice ad xs.length cap) xs ∧ GR blockE w0 lo' hi' (.slice ad' ys.length cap') ys) := ⟨ha, hb'⟩
  obtain ⟨R, hR⟩ : ∃ R, decide (xs = ys) = R := ⟨_, rfl⟩
  rw [hR]
  have HR : Hid (decide (xs = ys) = R) := hR
  clear ha hb' hR
  unfold maxLen at h2 h2'
  by_cases hl : xs.length = ys.length
  · have hl2 : ((xs.length : Int) != (ys.length : Int)) = false := by simp; omega
    have HL : Hid (xs.length = ys.length) := hl
    clear hl
    go_enter Try.func63, Try.ntmps63
    go_wp2_with fail
    go_loopw [13] (fun i wr => ∃ j : Nat, j ≤ xs.length ∧ i = .int .i64 j ∧ Below w0.heap.size w0 wr ∧ xs.take j = ys.take j) (fun i _ => xs.length - (intOf i).toNat)
    case atStart => exact ⟨0, Nat.zero_le _, rfl, Below.refl _ _, rfl⟩
    case round =>
      obtain ⟨j, hj, rfl, hb, htk⟩ := hrel
      have HT : Hid (xs.take j = ys.take j) := htk
      clear htk
      have hsz := hb.size
      by_cases hlt : j < xs.length
      · obtain ⟨x, hx⟩ : ∃ x, xs[j]? = some x := ⟨xs[j], List.getElem?_eq_getElem hlt⟩
        have hlt' : j < ys.length := by have := HL.out; omega
        obtain ⟨y, hy⟩ : ∃ y, ys[j]? = some y := ⟨ys[j], List.getElem?_eq_getElem hlt'⟩
        obtain ⟨b, off, capx, hv, hb1, hb2, h5⟩ := HK.out.1.at_ hx
        obtain ⟨b', off', capy, hv', hb1', hb2', h5'⟩ := HK.out.2.at_ hy
        simp only [Value.slice.injEq, true_and] at hv hv'
        obtain ⟨rfl, rfl⟩ := hv
        obtain ⟨rfl, rfl⟩ := hv'
        have h5 : CV w0 b (off + j * 5) (blockC x) := h5
        have h5' : CV w0 b' (off' + j * 5) (blockC y) := h5'
        have HX : Hid (xs[j]? = some x ∧ ys[j]? = some y) := ⟨hx, hy⟩
        clear hx hy
        obtain ⟨cd, hcd⟩ : ∃ cd, decide (x = y) = cd := ⟨_, rfl⟩
        have HCD : Hid (decide (x = y) = cd) := hcd
        clear hcd
        go_wp2_with fail
        refine wp_region_dag (R := Grow) (Φ := fun i v u => match i with
            | 0 => v = .slice (some ⟨b, off, none⟩) xs.length cap
            | 1 => v = .int .i64 j
            | 2 => v = .pointer (some ⟨b, off + j * 5, none⟩)
            | 3 => v = .agg (blockC x).toArray
            | 4 => v = .slice (some ⟨b', off', none⟩) ys.length cap'
            | 5 => v = .int .i64 j
            | 6 => v = .pointer (some ⟨b', off' + j * 5, none⟩)
            | 7 => v = .agg (blockC y).toArray
            | 8 => v = .bool (!cd)
            | _ => True) (by kernel_rfl) (by kernel_rfl) (by kernel_rfl) (Below.refl _ _) grow_trans ?_ ?_ ?_
        · intro i v u u' hr
          match i with
          | 0 | 1 | 2 | 3 | 4 | 5 | 6 | 7 | 8 | _ + 9 => exact fun h => h
        · intro i o ho a u hf hR0 he K' hK
          have hR : Grow wr u := (Below.drew (Below.refl _ _)).trans hR0
          have hsz' : a.tmps.size = 26 := hf.size
          have hus : wr.heap.size ≤ u.heap.size := hR.size
          rcases i with _ | _ | _ | _ | _ | _ | _ | _ | _ | i
          · obtain rfl := Option.some.inj ho
            have q0 : a.tmps.getD 0 undef = .slice (some ⟨b, off, none⟩) xs.length cap := hf.at_ 0 (by kernel_rfl)
            clear he
            go_simp
            exact hK _ _ (Below.refl _ _) (getD_put_self a 16 _ (by show _ < a.tmps.size; omega))
          · obtain rfl := Option.some.inj ho
            have q5 : a.tmps.getD 5 undef = .int .i64 j := hf.at_ 5 (by kernel_rfl)
            clear he
            go_simp
            exact hK _ _ (Below.refl _ _) (getD_put_self a 17 _ (by show _ < a.tmps.size; omega))
          · obtain rfl := Option.some.inj ho
            have q16 : a.tmps.getD 16 undef = .slice (some ⟨b, off, none⟩) xs.length cap := he _ (Array.mem_of_getElem? (i := 0) rfl) (by kernel_rfl) _ rfl
            have q17 : a.tmps.getD 17 undef = .int .i64 j := he _ (Array.mem_of_getElem? (i := 1) rfl) (by kernel_rfl) _ rfl
            clear he
            go_simp
            exact hK _ _ (Below.refl _ _) (getD_put_self a 18 _ (by show _ < a.tmps.size; omega))
          · obtain rfl := Option.some.inj ho
            have q18 : a.tmps.getD 18 undef = .pointer (some ⟨b, off + j * 5, none⟩) := he _ (Array.mem_of_getElem? (i := 0) rfl) (by kernel_rfl) _ rfl
            clear he
            refine wantedG rfl (wp_loadG Try.isAgg115 Try.sizeOf115 (vs := blockC x) _ rfl q18 rfl (h5.kept ((hb.trans (hR.mono hsz)).block b (by omega))) ?_)
            exact hK _ _ (Below.refl _ _) (getD_put_self a 19 _ (by show _ < a.tmps.size; omega))
          · obtain rfl := Option.some.inj ho
            have q1 : a.tmps.getD 1 undef = .slice (some ⟨b', off', none⟩) ys.length cap' := hf.at_ 1 (by kernel_rfl)
            clear he
            go_simp
            exact hK _ _ (Below.refl _ _) (getD_put_self a 20 _ (by show _ < a.tmps.size; omega))
          · obtain rfl := Option.some.inj ho
            have q5 : a.tmps.getD 5 undef = .int .i64 j := hf.at_ 5 (by kernel_rfl)
            clear he
            go_simp
            exact hK _ _ (Below.refl _ _) (getD_put_self a 21 _ (by show _ < a.tmps.size; omega))
          · obtain rfl := Option.some.inj ho
            have q20 : a.tmps.getD 20 undef = .slice (some ⟨b', off', none⟩) ys.length cap' := he _ (Array.mem_of_getElem? (i := 0) rfl) (by kernel_rfl) _ rfl
            have q21 : a.tmps.getD 21 undef = .int .i64 j := he _ (Array.mem_of_getElem? (i := 1) rfl) (by kernel_rfl) _ rfl
            clear he
            go_simp
            exact hK _ _ (Below.refl _ _) (getD_put_self a 22 _ (by show _ < a.tmps.size; omega))
          · obtain rfl := Option.some.inj ho
            have q22 : a.tmps.getD 22 undef = .pointer (some ⟨b', off' + j * 5, none⟩) := he _ (Array.mem_of_getElem? (i := 0) rfl) (by kernel_rfl) _ rfl
            clear he
            refine wantedG rfl (wp_loadG Try.isAgg115 Try.sizeOf115 (vs := blockC y) _ rfl q22 rfl (h5'.kept ((hb.trans (hR.mono hsz)).block b' (by omega))) ?_)
            exact hK _ _ (Below.refl _ _) (getD_put_self a 23 _ (by show _ < a.tmps.size; omega))
          · obtain rfl := Option.some.inj ho
            have q19 : a.tmps.getD 19 undef = .agg (blockC x).toArray := he _ (Array.mem_of_getElem? (i := 0) rfl) (by kernel_rfl) _ rfl
            have q23 : a.tmps.getD 23 undef = .agg (blockC y).toArray := he _ (Array.mem_of_getElem? (i := 1) rfl) (by kernel_rfl) _ rfl
            clear he
            have hg := guard_blockC .neq (.tmp 19) (.tmp 23) x y u
            have hn := neq_blockC x y u
            rw [HCD.out] at hn
            exact wantedG rfl (wp_binG (.tmp 19) (.tmp 23) rfl q19 q23 hg hn (hK _ _ (Below.refl _ _) (getD_put_self a 24 _ (by show _ < a.tmps.size; omega))))
          · exact absurd ho (by simp)
        · intro a u hf hR0 hp
          have hR : Grow wr u := (Below.drew (Below.refl _ _)).trans hR0
          have m24 : a.tmps.getD 24 undef = .bool (!cd) := hp 8 _ rfl
          have hbu : Below w0.heap.size w0 u := hb.trans (hR.mono hsz)
          have husz := hR.size
          clear hp hR hR0
          cases cd with
          | true =>
            have HE : Hid (x = y) := by show x = y; exact of_decide_eq_true HCD.out
            have m24 : a.tmps.getD 24 undef = .bool false := m24
            clear HCD
            obtain ⟨fq, ea, hfv⟩ := act_lit a 26 hf.size
            have md : a.defers = [] := hf.defers
            rw [md] at ea
            have m0 := hf.at_ 0 (by kernel_rfl)
            have m1 := hf.at_ 1 (by kernel_rfl)
            have m2 := hf.at_ 2 (by kernel_rfl)
            have m3 := hf.at_ 3 (by kernel_rfl)
            have m4 := hf.at_ 4 (by kernel_rfl)
            have m5 := hf.at_ 5 (by kernel_rfl)
            have m6 := hf.at_ 6 (by kernel_rfl)
            have m7 := hf.at_ 7 (by kernel_rfl)
            have m8 := hf.at_ 8 (by kernel_rfl)
            have m9 := hf.at_ 9 (by kernel_rfl)
            have m10 := hf.at_ 10 (by kernel_rfl)
            have m11 := hf.at_ 11 (by kernel_rfl)
            have m12 := hf.at_ 12 (by kernel_rfl)
            have m13 := hf.at_ 13 (by kernel_rfl)
            have m14 := hf.at_ 14 (by kernel_rfl)
            have m15 := hf.at_ 15 (by kernel_rfl)
            have m25 := hf.at_ 25 (by kernel_rfl)
            rw [← hfv] at m0 m1 m2 m3 m4 m5 m6 m7 m8 m9 m10 m11 m12 m13 m14 m15 m25 m24
            simp only [Array.getD_eq_getD_getElem?, List.getElem?_toArray, List.getElem?_cons_succ, List.getElem?_cons_zero, Option.getD_some] at m0 m1 m2 m3 m4 m5 m6 m7 m8 m9 m10 m11 m12 m13 m14 m15 m25
            simp only [List.range, List.range.loop, List.map_cons, List.map_nil, m0, m1, m2, m3, m4, m5, m6, m7, m8, m9, m10, m11, m12, m13, m14, m15, m25, m24] at ea
            subst ea
            clear m0 m1 m2 m3 m4 m5 m6 m7 m8 m9 m10 m11 m12 m13 m14 m15 m25 m24 hfv md hf
            have HN : Hid (xs.take (j + 1) = ys.take (j + 1)) := take_succG HT.out HX.out.1 HX.out.2 HE.out
            clear h5 h5'
            go_wp2
            go_roundw
            case rel => exact ⟨j + 1, by omega, by go_num, hbu, HN.out⟩
            case measure => simp [intOf]; omega
          | false =>
            have HE : Hid (x ≠ y) := by show x ≠ y; exact of_decide_eq_false HCD.out
            have m24 : a.tmps.getD 24 undef = .bool true := m24
            clear HCD
            obtain ⟨fq, ea, hfv⟩ := act_lit a 26 hf.size
            have md : a.defers = [] := hf.defers
            rw [md] at ea
            have m0 := hf.at_ 0 (by kernel_rfl)
            have m1 := hf.at_ 1 (by kernel_rfl)
            have m2 := hf.at_ 2 (by kernel_rfl)
            have m3 := hf.at_ 3 (by kernel_rfl)
            have m4 := hf.at_ 4 (by kernel_rfl)
            have m5 := hf.at_ 5 (by kernel_rfl)
            have m6 := hf.at_ 6 (by kernel_rfl)
            have m7 := hf.at_ 7 (by kernel_rfl)
            have m8 := hf.at_ 8 (by kernel_rfl)
            have m9 := hf.at_ 9 (by kernel_rfl)
            have m10 := hf.at_ 10 (by kernel_rfl)
            have m11 := hf.at_ 11 (by kernel_rfl)
            have m12 := hf.at_ 12 (by kernel_rfl)
            have m13 := hf.at_ 13 (by kernel_rfl)
            have m14 := hf.at_ 14 (by kernel_rfl)
            have m15 := hf.at_ 15 (by kernel_rfl)
            have m25 := hf.at_ 25 (by kernel_rfl)
            rw [← hfv] at m0 m1 m2 m3 m4 m5 m6 m7 m8 m9 m10 m11 m12 m13 m14 m15 m25 m24
            simp only [Array.getD_eq_getD_getElem?, List.getElem?_toArray, List.getElem?_cons_succ, List.getElem?_cons_zero, Option.getD_some] at m0 m1 m2 m3 m4 m5 m6 m7 m8 m9 m10 m11 m12 m13 m14 m15 m25
            simp only [List.range, List.range.loop, List.map_cons, List.map_nil, m0, m1, m2, m3, m4, m5, m6, m7, m8, m9, m10, m11, m12, m13, m14, m15, m25, m24] at ea
            subst ea
            clear m0 m1 m2 m3 m4 m5 m6 m7 m8 m9 m10 m11 m12 m13 m14 m15 m25 m24 hfv md hf
            have HF : Hid (R = false) := by show R = false; rw [← HR.out]; exact decide_eq_false (ne_atG HX.out.1 HX.out.2 HE.out)
            clear h5 h5'
            go_wp2
            go_ret
            exact ⟨ret_bool HF.out.symm, hbu⟩
      · obtain rfl : j = xs.length := by omega
        have HF : Hid (R = true) := by
          show R = true
          rw [← HR.out]
          refine decide_eq_true ?_
          have := HT.out; rwa [List.take_length, HL.out, List.take_length] at this
        go_wp2
        go_ret
        exact ⟨ret_bool HF.out.symm, hb⟩
  · have hl2 : ((xs.length : Int) != (ys.length : Int)) = true := by simp; omega
    have HF : Hid (R = false) := by show R = false; rw [← HR.out]; exact decide_eq_false fun h => hl (by rw [h])
    go_enter Try.func63, Try.ntmps63
    go_wp2
    go_ret
    exact ⟨ret_bool HF.out.symm, Below.refl _ _⟩

set_option maxHeartbeats 400000 in
theorem equalBool_any (w : World) (lo hi lo' hi' : Nat) (va vb : Value) (xs ys : List Bool) (ha : GR bool2 w lo hi va xs) (hb : GR bool2 w lo' hi' vb ys) :
    Calls Try.prog 64 #[va, vb] w fun e w' => ∃ m, e = .returned (.bool (decide (xs = ys))) ∧ w' = w.drewN m := by
  have HK : Hid (GR bool2 w lo hi va xs ∧ GR bool2 w lo' hi' vb ys) := ⟨ha, hb⟩
  obtain ⟨a, cap, rfl, h1, h2⟩ := ha.shape
  obtain ⟨a', cap', rfl, h1', h2'⟩ := hb.shape
  clear ha hb
  unfold maxLen at h2 h2'
  by_cases hl : xs.length = ys.length
  · have hl2 : ((xs.length : Int) != (ys.length : Int)) = false := by simp; omega
    go_enter Try.func64, Try.ntmps64
    go_wp2
    go_loopw [13] (fun i wr => ∃ k m : Nat, k ≤ xs.length ∧ i = .int .i64 k ∧ wr = w.drewN m ∧ xs.take k = ys.take k) (fun i _ => xs.length - (intOf i).toNat)
    case atStart => exact ⟨0, 0, Nat.zero_le _, rfl, rfl, rfl⟩
    case round =>
      obtain ⟨k, m, hk, rfl, rfl, htk⟩ := hrel
      by_cases hlt : k < xs.length
      · obtain ⟨x, hx⟩ : ∃ x, xs[k]? = some x := ⟨xs[k], List.getElem?_eq_getElem hlt⟩
        obtain ⟨y, hy⟩ : ∃ y, ys[k]? = some y := ⟨ys[k]'(by omega), List.getElem?_eq_getElem (by omega)⟩
        obtain ⟨b, off, capx, hv, hb1, hb2, hc⟩ := HK.out.1.at_ hx
        obtain ⟨b', off', capy, hv', hb1', hb2', hc'⟩ := HK.out.2.at_ hy
        simp only [Value.slice.injEq, true_and] at hv hv'
        obtain ⟨rfl, rfl⟩ := hv
        obtain ⟨rfl, rfl⟩ := hv'
        have c1 : w.cell? ⟨b, off + k, none⟩ = some (.bool x) := by
          have := hc 0 (.bool x) rfl
          rwa [Nat.add_zero, show k * bool2.k = k from Nat.mul_one k] at this
        have c2 : w.cell? ⟨b', off' + k, none⟩ = some (.bool y) := by
          have := hc' 0 (.bool y) rfl
          rwa [Nat.add_zero, show k * bool2.k = k from Nat.mul_one k] at this
        have HX : Hid (xs[k]? = some x) := hx
        have HY : Hid (ys[k]? = some y) := hy
        have HT : Hid (xs.take k = ys.take k) := htk
        have hlt' : k < ys.length := by omega
        clear hx hy htk hc hc' hl
        by_cases hxy : x = y
        · have hxy' : (x == y) = true := by simpa using hxy
          have HE : Hid (x = y) := hxy
          clear hxy
          go_wp2_with fail
          go_quiet (fail)
          go_wp2
          go_roundw
          case rel => exact ⟨k + 1, m + nq, by omega, by go_num, by simp, take_succG HT.out HX.out HY.out HE.out⟩
          case measure => simp [intOf]; omega
        · have hxy' : (x == y) = false := by simpa using hxy
          have HE : Hid (x ≠ y) := hxy
          clear hxy
          go_wp2_with fail
          go_quiet (fail)
          go_wp2
          go_ret
          exact ⟨m + nq, ret_bool (decide_eq_false (ne_atG HX.out HY.out HE.out)).symm, by simp⟩
      · have HT : Hid (xs.take k = ys.take k) := htk
        clear htk
        go_wp2
        go_ret
        exact ⟨m, ret_bool (decide_eq_true (by have := HT.out; rwa [List.take_of_length_le (by omega), List.take_of_length_le (by omega)] at this)).symm, rfl⟩
  · have hl2 : ((xs.length : Int) != (ys.length : Int)) = true := by simp; omega
    go_enter Try.func64, Try.ntmps64
    go_wp2
    go_ret
    exact ⟨0, ret_bool (decide_eq_false (by intro h; exact hl (by rw [h]))).symm, rfl⟩

theorem equalBool_any' (w0 : World) (lo hi lo' hi' : Nat) (va vb : Value) (xs ys : List Bool) (ha : GR bool2 w0 lo hi va xs) (hb' : GR bool2 w0 lo' hi' vb ys) (hhi : hi ≤ w0.heap.size) (hhi' : hi' ≤ w0.heap.size) :
    Calls Try.prog 64 #[va, vb] w0 fun e w' => e = .returned (.bool (decide (xs = ys))) ∧ Below w0.heap.size w0 w' :=
  (equalBool_any w0 lo hi lo' hi' va vb xs ys ha hb').mono fun e w' ⟨m, h1, h2⟩ => ⟨h1, by rw [h2]; exact below_drewN (Below.refl _ _) m⟩

set_option maxHeartbeats 400000 in
theorem sL8Bools_any (w : World) (lo hi lo' hi' : Nat) (va vb : Value) (xs ys : List Bool) (ha : GR bool2 w lo hi va xs) (hb : GR bool2 w lo' hi' vb ys) :
    Calls Try.prog 19 #[va, vb] w fun e w' => ∃ m, e = .returned (.bool (decide (xs = ys))) ∧ w' = w.drewN m := by
  have HK : Hid (GR bool2 w lo hi va xs ∧ GR bool2 w lo' hi' vb ys) := ⟨ha, hb⟩
  obtain ⟨a, cap, rfl, h1, h2⟩ := ha.shape
  obtain ⟨a', cap', rfl, h1', h2'⟩ := hb.shape
  clear ha hb
  unfold maxLen at h2 h2'
  by_cases hl : xs.length = ys.length
  · have hl2 : ((xs.length : Int) != (ys.length : Int)) = false := by simp; omega
    go_enter Try.func19, Try.ntmps19
    go_wp2
    go_loopw [5] (fun i wr => ∃ k m : Nat, k ≤ xs.length ∧ i = .int .i64 k ∧ wr = w.drewN m ∧ xs.take k = ys.take k) (fun i _ => xs.length - (intOf i).toNat)
    case atStart => exact ⟨0, 0, Nat.zero_le _, rfl, rfl, rfl⟩
    case round =>
      obtain ⟨k, m, hk, rfl, rfl, htk⟩ := hrel
      by_cases hlt : k < xs.length
      · obtain ⟨x, hx⟩ : ∃ x, xs[k]? = some x := ⟨xs[k], List.getElem?_eq_getElem hlt⟩
        obtain ⟨y, hy⟩ : ∃ y, ys[k]? = some y := ⟨ys[k]'(by omega), List.getElem?_eq_getElem (by omega)⟩
        obtain ⟨b, off, capx, hv, hb1, hb2, hc⟩ := HK.out.1.at_ hx
        obtain ⟨b', off', capy, hv', hb1', hb2', hc'⟩ := HK.out.2.at_ hy
        simp only [Value.slice.injEq, true_and] at hv hv'
        obtain ⟨rfl, rfl⟩ := hv
        obtain ⟨rfl, rfl⟩ := hv'
        have c1 : w.cell? ⟨b, off + k, none⟩ = some (.bool x) := by
          have := hc 0 (.bool x) rfl
          rwa [Nat.add_zero, show k * bool2.k = k from Nat.mul_one k] at this
        have c2 : w.cell? ⟨b', off' + k, none⟩ = some (.bool y) := by
          have := hc' 0 (.bool y) rfl
          rwa [Nat.add_zero, show k * bool2.k = k from Nat.mul_one k] at this
        have HX : Hid (xs[k]? = some x) := hx
        have HY : Hid (ys[k]? = some y) := hy
        have HT : Hid (xs.take k = ys.take k) := htk
        have hlt' : k < ys.length := by omega
        clear hx hy htk hc hc' hl
        by_cases hxy : x = y
        · have hxy' : (x == y) = true := by simpa using hxy
          have HE : Hid (x = y) := hxy
          clear hxy
          go_wp2_with fail
          go_quiet (fail)
          go_wp2
          go_roundw
          case rel => exact ⟨k + 1, m + nq, by omega, by go_num, by simp, take_succG HT.out HX.out HY.out HE.out⟩
          case measure => simp [intOf]; omega
        · have hxy' : (x == y) = false := by simpa using hxy
          have HE : Hid (x ≠ y) := hxy
          clear hxy
          go_wp2_with fail
          go_quiet (fail)
          go_wp2
          go_ret
          exact ⟨m + nq, ret_bool (decide_eq_false (ne_atG HX.out HY.out HE.out)).symm, by simp⟩
      · have HT : Hid (xs.take k = ys.take k) := htk
        clear htk
        go_wp2
        go_ret
        exact ⟨m, ret_bool (decide_eq_true (by have := HT.out; rwa [List.take_of_length_le (by omega), List.take_of_length_le (by omega)] at this)).symm, rfl⟩
  · have hl2 : ((xs.length : Int) != (ys.length : Int)) = true := by simp; omega
    go_enter Try.func19, Try.ntmps19
    go_wp2
    go_ret
    exact ⟨0, ret_bool (decide_eq_false (by intro h; exact hl (by rw [h]))).symm, rfl⟩

theorem stateD_two {n m : StateD} : decide (n = m) = (decide (n.bs = m.bs) && decide (n.ls = m.ls)) := by
  cases n; cases m
  rw [Bool.eq_iff_iff]
  simp

set_option maxHeartbeats 4000000 in
theorem iSameState_any (w : World) (va : Value) (lo hi : Nat) (n : StateD) (vb : Value) (lo' hi' : Nat) (m : StateD) (ha : StR w lo hi va n) (hhi : hi ≤ w.heap.size) (hb : StR w lo' hi' vb m) (hhi' : hi' ≤ w.heap.size) :
    Calls Try.prog 30 #[va, vb] w fun e w' => e = .returned (.bool (decide (n = m))) ∧ Below w.heap.size w w' := by
  rw [stateD_two]
  obtain ⟨xa, xb, rfl, hxa, hxb⟩ := ha
  obtain ⟨ya, yb, rfl, hya, hyb⟩ := hb
  obtain ⟨ad1, cap1, rfl, _, _⟩ := hxa.shape
  obtain ⟨ad2, cap2, rfl, _, _⟩ := hxb.shape
  obtain ⟨ad3, cap3, rfl, _, _⟩ := hya.shape
  obtain ⟨ad4, cap4, rfl, _, _⟩ := hyb.shape
  have hW := fun (u : World) (b : Below w.heap.size w u) => equalBlock_any u lo hi lo' hi' _ _ n.bs m.bs (hxa.under b hhi) (hya.under b hhi') (Nat.le_trans hhi b.size) (Nat.le_trans hhi' b.size)
  have hD := fun (u : World) (b : Below w.heap.size w u) => equalBool_any' u lo hi lo' hi' _ _ n.ls m.ls (hxb.under b hhi) (hyb.under b hhi') (Nat.le_trans hhi b.size) (Nat.le_trans hhi' b.size)
  clear hxa hxb hya hyb
  generalize decide (n.ls = m.ls) = R2 at *
  cases hR1 : decide (n.bs = m.bs)
  all_goals
    rw [hR1] at hW
    clear hR1
    go_enter Try.func30, Try.ntmps30
    go_wp2_with (refine wpList_boxG (vs := [.slice ad1 n.bs.length cap1, .slice ad2 n.ls.length cap2]) rfl _ rfl rfl ?_)
    intro u1 g1 p1 s1
    go_wp2_with (refine wpList_boxG (vs := [.slice ad3 m.bs.length cap3, .slice ad4 m.ls.length cap4]) rfl _ rfl rfl ?_)
    intro u2 g2 q2 s2
    have p2 := p1.below g2 (by omega)
    have G2 := g1.trans (g2.mono (by omega))
    clear g1 g2 p1
    have c0 : u2.cell? ⟨w.heap.size, 0, none⟩ = some (.slice ad1 n.bs.length cap1) := p2.c 0 _ rfl
    have d0 : u2.cell? ⟨w.heap.size + 1, 0, none⟩ = some (.slice ad3 m.bs.length cap3) := q2.c 0 _ rfl
    go_wp2_with fail
    clear c0 d0
    refine (hW _ G2).mono ?_
    clear hW
    rintro e3 u3 ⟨rfl, g3⟩
    have z3 := g3.size
    have c1 : u3.cell? ⟨w.heap.size, 1, none⟩ = some (.slice ad2 n.ls.length cap2) := (p2.below g3 (by omega)).c 1 _ rfl
    have d1 : u3.cell? ⟨w.heap.size + 1, 1, none⟩ = some (.slice ad4 m.ls.length cap4) := (q2.below g3 (by omega)).c 1 _ rfl
    have G3 := G2.trans (g3.mono (by omega))
    clear g3 G2 p2 q2
    go_wp2_with fail
    try (
      refine (hD _ G3).mono ?_
      rintro e4 u4 ⟨rfl, g4⟩
      replace G3 := G3.trans (g4.mono (by omega))
      clear g4)
    clear hD
    go_wp2
    go_ret
    exact ⟨rfl, G3⟩

theorem marksD_two {n m : MarksD} : decide (n = m) = (decide (n.on = m.on) && decide (n.kept = m.kept)) := by
  cases n; cases m
  rw [Bool.eq_iff_iff]
  simp

set_option maxHeartbeats 4000000 in
theorem iSameMarks_any (w : World) (va : Value) (lo hi : Nat) (n : MarksD) (vb : Value) (lo' hi' : Nat) (m : MarksD) (ha : MkR w lo hi va n) (hhi : hi ≤ w.heap.size) (hb : MkR w lo' hi' vb m) (hhi' : hi' ≤ w.heap.size) :
    Calls Try.prog 31 #[va, vb] w fun e w' => e = .returned (.bool (decide (n = m))) ∧ Below w.heap.size w w' := by
  rw [marksD_two]
  obtain ⟨xa, xb, rfl, hxa, hxb⟩ := ha
  obtain ⟨ya, yb, rfl, hya, hyb⟩ := hb
  obtain ⟨ad1, cap1, rfl, _, _⟩ := hxa.shape
  obtain ⟨ad2, cap2, rfl, _, _⟩ := hxb.shape
  obtain ⟨ad3, cap3, rfl, _, _⟩ := hya.shape
  obtain ⟨ad4, cap4, rfl, _, _⟩ := hyb.shape
  have hW := fun (u : World) (b : Below w.heap.size w u) => equalBool_any' u lo hi lo' hi' _ _ n.on m.on (hxa.under b hhi) (hya.under b hhi') (Nat.le_trans hhi b.size) (Nat.le_trans hhi' b.size)
  have hD := fun (u : World) (b : Below w.heap.size w u) => equalBool_any' u lo hi lo' hi' _ _ n.kept m.kept (hxb.under b hhi) (hyb.under b hhi') (Nat.le_trans hhi b.size) (Nat.le_trans hhi' b.size)
  clear hxa hxb hya hyb
  generalize decide (n.kept = m.kept) = R2 at *
  cases hR1 : decide (n.on = m.on)
  all_goals
    rw [hR1] at hW
    clear hR1
    go_enter Try.func31, Try.ntmps31
    go_wp2_with (refine wpList_boxG (vs := [.slice ad1 n.on.length cap1, .slice ad2 n.kept.length cap2]) rfl _ rfl rfl ?_)
    intro u1 g1 p1 s1
    go_wp2_with (refine wpList_boxG (vs := [.slice ad3 m.on.length cap3, .slice ad4 m.kept.length cap4]) rfl _ rfl rfl ?_)
    intro u2 g2 q2 s2
    have p2 := p1.below g2 (by omega)
    have G2 := g1.trans (g2.mono (by omega))
    clear g1 g2 p1
    have c0 : u2.cell? ⟨w.heap.size, 0, none⟩ = some (.slice ad1 n.on.length cap1) := p2.c 0 _ rfl
    have d0 : u2.cell? ⟨w.heap.size + 1, 0, none⟩ = some (.slice ad3 m.on.length cap3) := q2.c 0 _ rfl
    go_wp2_with fail
    clear c0 d0
    refine (hW _ G2).mono ?_
    clear hW
    rintro e3 u3 ⟨rfl, g3⟩
    have z3 := g3.size
    have c1 : u3.cell? ⟨w.heap.size, 1, none⟩ = some (.slice ad2 n.kept.length cap2) := (p2.below g3 (by omega)).c 1 _ rfl
    have d1 : u3.cell? ⟨w.heap.size + 1, 1, none⟩ = some (.slice ad4 m.kept.length cap4) := (q2.below g3 (by omega)).c 1 _ rfl
    have G3 := G2.trans (g3.mono (by omega))
    clear g3 G2 p2 q2
    go_wp2_with fail
    try (
      refine (hD _ G3).mono ?_
      rintro e4 u4 ⟨rfl, g4⟩
      replace G3 := G3.trans (g4.mono (by omega))
      clear g4)
    clear hD
    go_wp2
    go_ret
    exact ⟨rfl, G3⟩

set_option maxHeartbeats 8000000 in
theorem sL7Same_any (w : World) (lo hi lo' hi' : Nat) (va vb : Value) (n m : StateD) (ha : StR w lo hi va n) (hb' : StR w lo' hi' vb m) (hhi : hi ≤ w.heap.size) (hhi' : hi' ≤ w.heap.size) :
    Calls Try.prog 18 #[va, vb] w fun e w' => e = .returned (.bool (decide (n = m))) ∧ Below w.heap.size w w' := by
  obtain ⟨R, hR⟩ : ∃ R, decide (n = m) = R := ⟨_, rfl⟩
  rw [hR]
  have HR : Hid (decide (n = m) = R) := hR
  clear hR
  obtain ⟨xs, xd⟩ := n
  obtain ⟨ys, yd⟩ := m
  obtain ⟨xa, xb, rfl, hxa, hxb⟩ := ha
  obtain ⟨ya, yb, rfl, hya, hyb⟩ := hb'
  obtain ⟨ad, cap, rfl, k1, k1'⟩ := hxa.shape
  obtain ⟨add, capd, rfl, k2, k2'⟩ := hxb.shape
  obtain ⟨ad', cap', rfl, k3, k3'⟩ := hya.shape
  obtain ⟨add', capd', rfl, k4, k4'⟩ := hyb.shape
  unfold maxLen at k1' k2' k3' k4'
  have HK0 : Hid ((GR blockE w lo hi (.slice ad xs.length cap) xs ∧ GR blockE w lo' hi' (.slice ad' ys.length cap') ys) ∧ (GR bool2 w lo hi (.slice add xd.length capd) xd ∧ GR bool2 w lo' hi' (.slice add' yd.length capd') yd)) := ⟨⟨hxa, hya⟩, hxb, hyb⟩
  clear hxa hxb hya hyb

  by_cases hl : xs.length = ys.length
  rotate_left
  · have hl2 : ((xs.length : Int) != (ys.length : Int)) = true := by simp; omega
    have HF : Hid (R = false) := by show R = false; rw [← HR.out]; exact decide_eq_false fun h => hl (by injection h with h1 h2; rw [h1])

    go_enter Try.func18, Try.ntmps18
    go_wp2_with (refine wpList_boxG (vs := [.slice ad xs.length cap, .slice add xd.length capd]) rfl _ rfl rfl ?_)
    intro u1 g1 p1 s1
    go_wp2_with (refine wpList_boxG (vs := [.slice ad' ys.length cap', .slice add' yd.length capd']) rfl _ rfl rfl ?_)
    intro w0 g2 qv s2
    have pv := p1.below g2 (by omega)
    have G2 := g1.trans (g2.mono (by omega))
    clear g1 g2 p1
    have c0 : w0.cell? ⟨w.heap.size, 0, none⟩ = some (.slice ad xs.length cap) := pv.c 0 _ rfl
    have d0 : w0.cell? ⟨w.heap.size + 1, 0, none⟩ = some (.slice ad' ys.length cap') := qv.c 0 _ rfl
    have c1 : w0.cell? ⟨w.heap.size, 1, none⟩ = some (.slice add xd.length capd) := pv.c 1 _ rfl
    have d1 : w0.cell? ⟨w.heap.size + 1, 1, none⟩ = some (.slice add' yd.length capd') := qv.c 1 _ rfl
    go_wp2_with fail
    go_ret
    exact ⟨ret_bool HF.out.symm, G2⟩
  have hl2 : ((xs.length : Int) != (ys.length : Int)) = false := by simp; omega
  have HL : Hid (xs.length = ys.length) := hl
  clear hl
  by_cases hl : xd.length = yd.length
  rotate_left
  · have hl3 : ((xd.length : Int) != (yd.length : Int)) = true := by simp; omega
    have HF : Hid (R = false) := by show R = false; rw [← HR.out]; exact decide_eq_false fun h => hl (by injection h with h1 h2; rw [h2])

    go_enter Try.func18, Try.ntmps18
    go_wp2_with (refine wpList_boxG (vs := [.slice ad xs.length cap, .slice add xd.length capd]) rfl _ rfl rfl ?_)
    intro u1 g1 p1 s1
    go_wp2_with (refine wpList_boxG (vs := [.slice ad' ys.length cap', .slice add' yd.length capd']) rfl _ rfl rfl ?_)
    intro w0 g2 qv s2
    have pv := p1.below g2 (by omega)
    have G2 := g1.trans (g2.mono (by omega))
    clear g1 g2 p1
    have c0 : w0.cell? ⟨w.heap.size, 0, none⟩ = some (.slice ad xs.length cap) := pv.c 0 _ rfl
    have d0 : w0.cell? ⟨w.heap.size + 1, 0, none⟩ = some (.slice ad' ys.length cap') := qv.c 0 _ rfl
    have c1 : w0.cell? ⟨w.heap.size, 1, none⟩ = some (.slice add xd.length capd) := pv.c 1 _ rfl
    have d1 : w0.cell? ⟨w.heap.size + 1, 1, none⟩ = some (.slice add' yd.length capd') := qv.c 1 _ rfl
    go_wp2_with fail
    go_ret
    exact ⟨ret_bool HF.out.symm, G2⟩
  have hl3 : ((xd.length : Int) != (yd.length : Int)) = false := by simp; omega
  have HLd : Hid (xd.length = yd.length) := hl
  clear hl
  go_enter Try.func18, Try.ntmps18
  go_wp2_with (refine wpList_boxG (vs := [.slice ad xs.length cap, .slice add xd.length capd]) rfl _ rfl rfl ?_)
  intro u1 g1 p1 s1
  go_wp2_with (refine wpList_boxG (vs := [.slice ad' ys.length cap', .slice add' yd.length capd']) rfl _ rfl rfl ?_)
  intro w0 g2 qv s2
  have pv := p1.below g2 (by omega)
  have G2 := g1.trans (g2.mono (by omega))
  clear g1 g2 p1
  have c0 : w0.cell? ⟨w.heap.size, 0, none⟩ = some (.slice ad xs.length cap) := pv.c 0 _ rfl
  have d0 : w0.cell? ⟨w.heap.size + 1, 0, none⟩ = some (.slice ad' ys.length cap') := qv.c 0 _ rfl
  have c1 : w0.cell? ⟨w.heap.size, 1, none⟩ = some (.slice add xd.length capd) := pv.c 1 _ rfl
  have d1 : w0.cell? ⟨w.heap.size + 1, 1, none⟩ = some (.slice add' yd.length capd') := qv.c 1 _ rfl
  go_wp2_with fail
  clear c0 d0 c1 d1
  have HK : Hid (GR blockE w0 lo hi (.slice ad xs.length cap) xs ∧ GR blockE w0 lo' hi' (.slice ad' ys.length cap') ys) := ⟨HK0.out.1.1.under G2 hhi, HK0.out.1.2.under G2 hhi'⟩
  have HKd : Hid (GR bool2 w0 lo hi (.slice add xd.length capd) xd ∧ GR bool2 w0 lo' hi' (.slice add' yd.length capd') yd) := ⟨HK0.out.2.1.under G2 hhi, HK0.out.2.2.under G2 hhi'⟩
  clear HK0
  have hhi0 : hi ≤ w0.heap.size := by omega
  have hhi0' : hi' ≤ w0.heap.size := by omega
  go_loopw [5] (fun i wr => ∃ j : Nat, j ≤ xs.length ∧ i = .int .i64 j ∧ Below w0.heap.size w0 wr ∧ xs.take j = ys.take j) (fun i _ => xs.length - (intOf i).toNat)
  case atStart => exact ⟨0, Nat.zero_le _, rfl, Below.refl _ _, rfl⟩
  case round =>
    obtain ⟨j, hj, rfl, hb, htk⟩ := hrel
    have HT : Hid (xs.take j = ys.take j) := htk
    clear htk
    have hsz := hb.size
    have c0 : wr.cell? ⟨w.heap.size, 0, none⟩ = some (.slice ad xs.length cap) := (pv.below hb (by omega)).c 0 _ rfl
    by_cases hlt : j < xs.length
    · obtain ⟨x, hx⟩ : ∃ x, xs[j]? = some x := ⟨xs[j], List.getElem?_eq_getElem hlt⟩
      have hlt' : j < ys.length := by have := HL.out; omega
      obtain ⟨y, hy⟩ : ∃ y, ys[j]? = some y := ⟨ys[j], List.getElem?_eq_getElem hlt'⟩
      obtain ⟨b, off, capx, hv, hb1, hb2, h5⟩ := HK.out.1.at_ hx
      obtain ⟨b', off', capy, hv', hb1', hb2', h5'⟩ := HK.out.2.at_ hy
      simp only [Value.slice.injEq, true_and] at hv hv'
      obtain ⟨rfl, rfl⟩ := hv
      obtain ⟨rfl, rfl⟩ := hv'
      have h5 : CV w0 b (off + j * 5) (blockC x) := h5
      have h5' : CV w0 b' (off' + j * 5) (blockC y) := h5'
      have HX : Hid (xs[j]? = some x ∧ ys[j]? = some y) := ⟨hx, hy⟩
      clear hx hy
      obtain ⟨cd, hcd⟩ : ∃ cd, decide (x = y) = cd := ⟨_, rfl⟩
      have HCD : Hid (decide (x = y) = cd) := hcd
      clear hcd
      go_wp2_with fail
      clear c0
      refine wp_region_dag (R := Grow) (Φ := fun i v u => match i with
          | 0 => v = .pointer (some ⟨w.heap.size, 0, none⟩)
          | 1 => v = .slice (some ⟨b, off, none⟩) xs.length cap
          | 2 => v = .int .i64 j
          | 3 => v = .pointer (some ⟨b, off + j * 5, none⟩)
          | 4 => v = .agg (blockC x).toArray
          | 5 => v = .pointer (some ⟨w.heap.size + 1, 0, none⟩)
          | 6 => v = .slice (some ⟨b', off', none⟩) ys.length cap'
          | 7 => v = .int .i64 j
          | 8 => v = .pointer (some ⟨b', off' + j * 5, none⟩)
          | 9 => v = .agg (blockC y).toArray
          | 10 => v = .bool (!cd)
          | _ => True) (by kernel_rfl) (by kernel_rfl) (by kernel_rfl) (Below.refl _ _) grow_trans ?_ ?_ ?_
      · intro i v u u' hr
        match i with
        | 0 | 1 | 2 | 3 | 4 | 5 | 6 | 7 | 8 | 9 | 10 | _ + 11 => exact fun h => h
      · intro i o ho a u hf hR0 he K' hK
        have hR : Grow wr u := (Below.drew (Below.refl _ _)).trans hR0
        have hsz' : a.tmps.size = 59 := hf.size
        have hus : wr.heap.size ≤ u.heap.size := hR.size
        rcases i with _ | _ | _ | _ | _ | _ | _ | _ | _ | _ | _ | i
        · obtain rfl := Option.some.inj ho
          have q2 : a.tmps.getD 2 undef = .pointer (some ⟨w.heap.size, 0, none⟩) := hf.at_ 2 (by kernel_rfl)
          clear he
          go_simp
          exact hK _ _ (Below.refl _ _) (getD_put_self a 30 _ (by show _ < a.tmps.size; omega))
        · obtain rfl := Option.some.inj ho
          have q30 : a.tmps.getD 30 undef = .pointer (some ⟨w.heap.size, 0, none⟩) := he _ (Array.mem_of_getElem? (i := 0) rfl) (by kernel_rfl) _ rfl
          clear he
          have cc : u.cell? ⟨w.heap.size, 0, none⟩ = some (.slice (some ⟨b, off, none⟩) xs.length cap) := (pv.below (hb.trans (hR.mono hsz)) (by omega)).c 0 _ rfl
          go_simp
          exact hK _ _ (Below.refl _ _) (getD_put_self a 31 _ (by show _ < a.tmps.size; omega))
        · obtain rfl := Option.some.inj ho
          have q5 : a.tmps.getD 5 undef = .int .i64 j := hf.at_ 5 (by kernel_rfl)
          clear he
          go_simp
          exact hK _ _ (Below.refl _ _) (getD_put_self a 32 _ (by show _ < a.tmps.size; omega))
        · obtain rfl := Option.some.inj ho
          have q31 : a.tmps.getD 31 undef = .slice (some ⟨b, off, none⟩) xs.length cap := he _ (Array.mem_of_getElem? (i := 0) rfl) (by kernel_rfl) _ rfl
          have q32 : a.tmps.getD 32 undef = .int .i64 j := he _ (Array.mem_of_getElem? (i := 1) rfl) (by kernel_rfl) _ rfl
          clear he
          go_simp
          exact hK _ _ (Below.refl _ _) (getD_put_self a 33 _ (by show _ < a.tmps.size; omega))
        · obtain rfl := Option.some.inj ho
          have q33 : a.tmps.getD 33 undef = .pointer (some ⟨b, off + j * 5, none⟩) := he _ (Array.mem_of_getElem? (i := 0) rfl) (by kernel_rfl) _ rfl
          clear he
          refine wantedG rfl (wp_loadG Try.isAgg115 Try.sizeOf115 (vs := blockC x) _ rfl q33 rfl (h5.kept ((hb.trans (hR.mono hsz)).block b (by omega))) ?_)
          exact hK _ _ (Below.refl _ _) (getD_put_self a 34 _ (by show _ < a.tmps.size; omega))
        · obtain rfl := Option.some.inj ho
          have q3 : a.tmps.getD 3 undef = .pointer (some ⟨w.heap.size + 1, 0, none⟩) := hf.at_ 3 (by kernel_rfl)
          clear he
          go_simp
          exact hK _ _ (Below.refl _ _) (getD_put_self a 35 _ (by show _ < a.tmps.size; omega))
        · obtain rfl := Option.some.inj ho
          have q35 : a.tmps.getD 35 undef = .pointer (some ⟨w.heap.size + 1, 0, none⟩) := he _ (Array.mem_of_getElem? (i := 0) rfl) (by kernel_rfl) _ rfl
          clear he
          have cc : u.cell? ⟨w.heap.size + 1, 0, none⟩ = some (.slice (some ⟨b', off', none⟩) ys.length cap') := (qv.below (hb.trans (hR.mono hsz)) (by omega)).c 0 _ rfl
          go_simp
          exact hK _ _ (Below.refl _ _) (getD_put_self a 36 _ (by show _ < a.tmps.size; omega))
        · obtain rfl := Option.some.inj ho
          have q5 : a.tmps.getD 5 undef = .int .i64 j := hf.at_ 5 (by kernel_rfl)
          clear he
          go_simp
          exact hK _ _ (Below.refl _ _) (getD_put_self a 37 _ (by show _ < a.tmps.size; omega))
        · obtain rfl := Option.some.inj ho
          have q36 : a.tmps.getD 36 undef = .slice (some ⟨b', off', none⟩) ys.length cap' := he _ (Array.mem_of_getElem? (i := 0) rfl) (by kernel_rfl) _ rfl
          have q37 : a.tmps.getD 37 undef = .int .i64 j := he _ (Array.mem_of_getElem? (i := 1) rfl) (by kernel_rfl) _ rfl
          clear he
          go_simp
          exact hK _ _ (Below.refl _ _) (getD_put_self a 38 _ (by show _ < a.tmps.size; omega))
        · obtain rfl := Option.some.inj ho
          have q38 : a.tmps.getD 38 undef = .pointer (some ⟨b', off' + j * 5, none⟩) := he _ (Array.mem_of_getElem? (i := 0) rfl) (by kernel_rfl) _ rfl
          clear he
          refine wantedG rfl (wp_loadG Try.isAgg115 Try.sizeOf115 (vs := blockC y) _ rfl q38 rfl (h5'.kept ((hb.trans (hR.mono hsz)).block b' (by omega))) ?_)
          exact hK _ _ (Below.refl _ _) (getD_put_self a 39 _ (by show _ < a.tmps.size; omega))
        · obtain rfl := Option.some.inj ho
          have q34 : a.tmps.getD 34 undef = .agg (blockC x).toArray := he _ (Array.mem_of_getElem? (i := 0) rfl) (by kernel_rfl) _ rfl
          have q39 : a.tmps.getD 39 undef = .agg (blockC y).toArray := he _ (Array.mem_of_getElem? (i := 1) rfl) (by kernel_rfl) _ rfl
          clear he
          have hg := guard_blockC .neq (.tmp 34) (.tmp 39) x y u
          have hn := neq_blockC x y u
          rw [HCD.out] at hn
          exact wantedG rfl (wp_binG (.tmp 34) (.tmp 39) rfl q34 q39 hg hn (hK _ _ (Below.refl _ _) (getD_put_self a 40 _ (by show _ < a.tmps.size; omega))))
        · exact absurd ho (by simp)
      · intro a u hf hR0 hp
        have hR : Grow wr u := (Below.drew (Below.refl _ _)).trans hR0
        have m40 : a.tmps.getD 40 undef = .bool (!cd) := hp 10 _ rfl
        have hbu : Below w0.heap.size w0 u := hb.trans (hR.mono hsz)
        have husz := hR.size
        clear hp hR hR0
        cases cd with
        | true =>
          have HE : Hid (x = y) := by show x = y; exact of_decide_eq_true HCD.out
          have m40 : a.tmps.getD 40 undef = .bool false := m40
          clear HCD
          obtain ⟨fq, ea, hfv⟩ := act_lit a 59 hf.size
          have md : a.defers = [] := hf.defers
          rw [md] at ea
          have m0 := hf.at_ 0 (by kernel_rfl)
          have m1 := hf.at_ 1 (by kernel_rfl)
          have m2 := hf.at_ 2 (by kernel_rfl)
          have m3 := hf.at_ 3 (by kernel_rfl)
          have m4 := hf.at_ 4 (by kernel_rfl)
          have m5 := hf.at_ 5 (by kernel_rfl)
          have m6 := hf.at_ 6 (by kernel_rfl)
          have m7 := hf.at_ 7 (by kernel_rfl)
          have m8 := hf.at_ 8 (by kernel_rfl)
          have m9 := hf.at_ 9 (by kernel_rfl)
          have m10 := hf.at_ 10 (by kernel_rfl)
          have m11 := hf.at_ 11 (by kernel_rfl)
          have m12 := hf.at_ 12 (by kernel_rfl)
          have m13 := hf.at_ 13 (by kernel_rfl)
          have m14 := hf.at_ 14 (by kernel_rfl)
          have m15 := hf.at_ 15 (by kernel_rfl)
          have m16 := hf.at_ 16 (by kernel_rfl)
          have m17 := hf.at_ 17 (by kernel_rfl)
          have m18 := hf.at_ 18 (by kernel_rfl)
          have m19 := hf.at_ 19 (by kernel_rfl)
          have m20 := hf.at_ 20 (by kernel_rfl)
          have m21 := hf.at_ 21 (by kernel_rfl)
          have m22 := hf.at_ 22 (by kernel_rfl)
          have m23 := hf.at_ 23 (by kernel_rfl)
          have m24 := hf.at_ 24 (by kernel_rfl)
          have m25 := hf.at_ 25 (by kernel_rfl)
          have m26 := hf.at_ 26 (by kernel_rfl)
          have m27 := hf.at_ 27 (by kernel_rfl)
          have m28 := hf.at_ 28 (by kernel_rfl)
          have m29 := hf.at_ 29 (by kernel_rfl)
          have m41 := hf.at_ 41 (by kernel_rfl)
          have m42 := hf.at_ 42 (by kernel_rfl)
          have m43 := hf.at_ 43 (by kernel_rfl)
          have m44 := hf.at_ 44 (by kernel_rfl)
          have m45 := hf.at_ 45 (by kernel_rfl)
          have m46 := hf.at_ 46 (by kernel_rfl)
          have m47 := hf.at_ 47 (by kernel_rfl)
          have m48 := hf.at_ 48 (by kernel_rfl)
          have m49 := hf.at_ 49 (by kernel_rfl)
          have m50 := hf.at_ 50 (by kernel_rfl)
          have m51 := hf.at_ 51 (by kernel_rfl)
          have m52 := hf.at_ 52 (by kernel_rfl)
          have m53 := hf.at_ 53 (by kernel_rfl)
          have m54 := hf.at_ 54 (by kernel_rfl)
          have m55 := hf.at_ 55 (by kernel_rfl)
          have m56 := hf.at_ 56 (by kernel_rfl)
          have m57 := hf.at_ 57 (by kernel_rfl)
          have m58 := hf.at_ 58 (by kernel_rfl)
          rw [← hfv] at m0 m1 m2 m3 m4 m5 m6 m7 m8 m9 m10 m11 m12 m13 m14 m15 m16 m17 m18 m19 m20 m21 m22 m23 m24 m25 m26 m27 m28 m29 m41 m42 m43 m44 m45 m46 m47 m48 m49 m50 m51 m52 m53 m54 m55 m56 m57 m58 m40
          simp only [Array.getD_eq_getD_getElem?, List.getElem?_toArray, List.getElem?_cons_succ, List.getElem?_cons_zero, Option.getD_some] at m0 m1 m2 m3 m4 m5 m6 m7 m8 m9 m10 m11 m12 m13 m14 m15 m16 m17 m18 m19 m20 m21 m22 m23 m24 m25 m26 m27 m28 m29 m41 m42 m43 m44 m45 m46 m47 m48 m49 m50 m51 m52 m53 m54 m55 m56 m57 m58
          simp only [List.range, List.range.loop, List.map_cons, List.map_nil, m0, m1, m2, m3, m4, m5, m6, m7, m8, m9, m10, m11, m12, m13, m14, m15, m16, m17, m18, m19, m20, m21, m22, m23, m24, m25, m26, m27, m28, m29, m41, m42, m43, m44, m45, m46, m47, m48, m49, m50, m51, m52, m53, m54, m55, m56, m57, m58, m40] at ea
          subst ea
          clear m0 m1 m2 m3 m4 m5 m6 m7 m8 m9 m10 m11 m12 m13 m14 m15 m16 m17 m18 m19 m20 m21 m22 m23 m24 m25 m26 m27 m28 m29 m41 m42 m43 m44 m45 m46 m47 m48 m49 m50 m51 m52 m53 m54 m55 m56 m57 m58 m40 hfv md hf
          have HN : Hid (xs.take (j + 1) = ys.take (j + 1)) := take_succG HT.out HX.out.1 HX.out.2 HE.out
          clear h5 h5'
          go_wp2
          go_roundw
          case rel => exact ⟨j + 1, by omega, by go_num, hbu, HN.out⟩
          case measure => simp [intOf]; omega
        | false =>
          have HE : Hid (x ≠ y) := by show x ≠ y; exact of_decide_eq_false HCD.out
          have m40 : a.tmps.getD 40 undef = .bool true := m40
          clear HCD
          obtain ⟨fq, ea, hfv⟩ := act_lit a 59 hf.size
          have md : a.defers = [] := hf.defers
          rw [md] at ea
          have m0 := hf.at_ 0 (by kernel_rfl)
          have m1 := hf.at_ 1 (by kernel_rfl)
          have m2 := hf.at_ 2 (by kernel_rfl)
          have m3 := hf.at_ 3 (by kernel_rfl)
          have m4 := hf.at_ 4 (by kernel_rfl)
          have m5 := hf.at_ 5 (by kernel_rfl)
          have m6 := hf.at_ 6 (by kernel_rfl)
          have m7 := hf.at_ 7 (by kernel_rfl)
          have m8 := hf.at_ 8 (by kernel_rfl)
          have m9 := hf.at_ 9 (by kernel_rfl)
          have m10 := hf.at_ 10 (by kernel_rfl)
          have m11 := hf.at_ 11 (by kernel_rfl)
          have m12 := hf.at_ 12 (by kernel_rfl)
          have m13 := hf.at_ 13 (by kernel_rfl)
          have m14 := hf.at_ 14 (by kernel_rfl)
          have m15 := hf.at_ 15 (by kernel_rfl)
          have m16 := hf.at_ 16 (by kernel_rfl)
          have m17 := hf.at_ 17 (by kernel_rfl)
          have m18 := hf.at_ 18 (by kernel_rfl)
          have m19 := hf.at_ 19 (by kernel_rfl)
          have m20 := hf.at_ 20 (by kernel_rfl)
          have m21 := hf.at_ 21 (by kernel_rfl)
          have m22 := hf.at_ 22 (by kernel_rfl)
          have m23 := hf.at_ 23 (by kernel_rfl)
          have m24 := hf.at_ 24 (by kernel_rfl)
          have m25 := hf.at_ 25 (by kernel_rfl)
          have m26 := hf.at_ 26 (by kernel_rfl)
          have m27 := hf.at_ 27 (by kernel_rfl)
          have m28 := hf.at_ 28 (by kernel_rfl)
          have m29 := hf.at_ 29 (by kernel_rfl)
          have m41 := hf.at_ 41 (by kernel_rfl)
          have m42 := hf.at_ 42 (by kernel_rfl)
          have m43 := hf.at_ 43 (by kernel_rfl)
          have m44 := hf.at_ 44 (by kernel_rfl)
          have m45 := hf.at_ 45 (by kernel_rfl)
          have m46 := hf.at_ 46 (by kernel_rfl)
          have m47 := hf.at_ 47 (by kernel_rfl)
          have m48 := hf.at_ 48 (by kernel_rfl)
          have m49 := hf.at_ 49 (by kernel_rfl)
          have m50 := hf.at_ 50 (by kernel_rfl)
          have m51 := hf.at_ 51 (by kernel_rfl)
          have m52 := hf.at_ 52 (by kernel_rfl)
          have m53 := hf.at_ 53 (by kernel_rfl)
          have m54 := hf.at_ 54 (by kernel_rfl)
          have m55 := hf.at_ 55 (by kernel_rfl)
          have m56 := hf.at_ 56 (by kernel_rfl)
          have m57 := hf.at_ 57 (by kernel_rfl)
          have m58 := hf.at_ 58 (by kernel_rfl)
          rw [← hfv] at m0 m1 m2 m3 m4 m5 m6 m7 m8 m9 m10 m11 m12 m13 m14 m15 m16 m17 m18 m19 m20 m21 m22 m23 m24 m25 m26 m27 m28 m29 m41 m42 m43 m44 m45 m46 m47 m48 m49 m50 m51 m52 m53 m54 m55 m56 m57 m58 m40
          simp only [Array.getD_eq_getD_getElem?, List.getElem?_toArray, List.getElem?_cons_succ, List.getElem?_cons_zero, Option.getD_some] at m0 m1 m2 m3 m4 m5 m6 m7 m8 m9 m10 m11 m12 m13 m14 m15 m16 m17 m18 m19 m20 m21 m22 m23 m24 m25 m26 m27 m28 m29 m41 m42 m43 m44 m45 m46 m47 m48 m49 m50 m51 m52 m53 m54 m55 m56 m57 m58
          simp only [List.range, List.range.loop, List.map_cons, List.map_nil, m0, m1, m2, m3, m4, m5, m6, m7, m8, m9, m10, m11, m12, m13, m14, m15, m16, m17, m18, m19, m20, m21, m22, m23, m24, m25, m26, m27, m28, m29, m41, m42, m43, m44, m45, m46, m47, m48, m49, m50, m51, m52, m53, m54, m55, m56, m57, m58, m40] at ea
          subst ea
          clear m0 m1 m2 m3 m4 m5 m6 m7 m8 m9 m10 m11 m12 m13 m14 m15 m16 m17 m18 m19 m20 m21 m22 m23 m24 m25 m26 m27 m28 m29 m41 m42 m43 m44 m45 m46 m47 m48 m49 m50 m51 m52 m53 m54 m55 m56 m57 m58 m40 hfv md hf
          have HF : Hid (R = false) := by show R = false; rw [← HR.out]; exact decide_eq_false fun h => ne_atG HX.out.1 HX.out.2 HE.out (by injection h)
          clear h5 h5'
          go_wp2
          go_ret
          exact ⟨ret_bool HF.out.symm, G2.trans (hbu.mono (by omega))⟩
    · obtain rfl : j = xs.length := by omega
      have HW : Hid (xs = ys) := by
        show xs = ys
        have := HT.out; rwa [List.take_length, HL.out, List.take_length] at this
      clear HT
      have HB1 : Hid (Below w0.heap.size w0 wr) := hb
      go_wp2_with fail
      clear c0
      go_loopw [6] (fun i wr => ∃ j : Nat, j ≤ xd.length ∧ i = .int .i64 j ∧ Below w0.heap.size w0 wr ∧ xd.take j = yd.take j) (fun i _ => xd.length - (intOf i).toNat)
      case atStart => exact ⟨0, Nat.zero_le _, rfl, HB1.out, rfl⟩
      case round =>
        clear hb hsz HB1
        obtain ⟨j, hj, rfl, hb, htk⟩ := hrel
        have HT : Hid (xd.take j = yd.take j) := htk
        clear htk
        have hsz := hb.size
        have c0 : wr.cell? ⟨w.heap.size, 1, none⟩ = some (.slice add xd.length capd) := (pv.below hb (by omega)).c 1 _ rfl
        by_cases hlt : j < xd.length
        · obtain ⟨x, hx⟩ : ∃ x, xd[j]? = some x := ⟨xd[j], List.getElem?_eq_getElem hlt⟩
          have hlt' : j < yd.length := by have := HLd.out; omega
          obtain ⟨y, hy⟩ : ∃ y, yd[j]? = some y := ⟨yd[j], List.getElem?_eq_getElem hlt'⟩
          obtain ⟨b, off, capx, hv, hb1, hb2, h5⟩ := HKd.out.1.at_ hx
          obtain ⟨b', off', capy, hv', hb1', hb2', h5'⟩ := HKd.out.2.at_ hy
          simp only [Value.slice.injEq, true_and] at hv hv'
          obtain ⟨rfl, rfl⟩ := hv
          obtain ⟨rfl, rfl⟩ := hv'
          have h5 : CV w0 b (off + j * 1) (boolC1 x) := h5
          have h5' : CV w0 b' (off' + j * 1) (boolC1 y) := h5'
          have HX : Hid (xd[j]? = some x ∧ yd[j]? = some y) := ⟨hx, hy⟩
          clear hx hy
          obtain ⟨cd, hcd⟩ : ∃ cd, decide (x = y) = cd := ⟨_, rfl⟩
          have HCD : Hid (decide (x = y) = cd) := hcd
          clear hcd
          go_wp2_with fail
          clear c0
          refine wp_region_dag (R := Grow) (Φ := fun i v u => match i with
              | 0 => v = .pointer (some ⟨w.heap.size, 1, none⟩)
              | 1 => v = .slice (some ⟨b, off, none⟩) xd.length capd
              | 2 => v = .int .i64 j
              | 3 => v = .pointer (some ⟨b, off + j, none⟩)
              | 4 => v = .bool x
              | 5 => v = .pointer (some ⟨w.heap.size + 1, 1, none⟩)
              | 6 => v = .slice (some ⟨b', off', none⟩) yd.length capd'
              | 7 => v = .int .i64 j
              | 8 => v = .pointer (some ⟨b', off' + j, none⟩)
              | 9 => v = .bool y
              | 10 => v = .bool (!cd)
              | _ => True) (by kernel_rfl) (by kernel_rfl) (by kernel_rfl) (Below.refl _ _) grow_trans ?_ ?_ ?_
          · intro i v u u' hr
            match i with
            | 0 | 1 | 2 | 3 | 4 | 5 | 6 | 7 | 8 | 9 | 10 | _ + 11 => exact fun h => h
          · intro i o ho a u hf hR0 he K' hK
            have hR : Grow wr u := (Below.drew (Below.refl _ _)).trans hR0
            have hsz' : a.tmps.size = 59 := hf.size
            have hus : wr.heap.size ≤ u.heap.size := hR.size
            rcases i with _ | _ | _ | _ | _ | _ | _ | _ | _ | _ | _ | i
            · obtain rfl := Option.some.inj ho
              have q2 : a.tmps.getD 2 undef = .pointer (some ⟨w.heap.size, 0, none⟩) := hf.at_ 2 (by kernel_rfl)
              clear he
              go_simp
              exact hK _ _ (Below.refl _ _) (getD_put_self a 48 _ (by show _ < a.tmps.size; omega))
            · obtain rfl := Option.some.inj ho
              have q48 : a.tmps.getD 48 undef = .pointer (some ⟨w.heap.size, 1, none⟩) := he _ (Array.mem_of_getElem? (i := 0) rfl) (by kernel_rfl) _ rfl
              clear he
              have cc : u.cell? ⟨w.heap.size, 1, none⟩ = some (.slice (some ⟨b, off, none⟩) xd.length capd) := (pv.below (hb.trans (hR.mono hsz)) (by omega)).c 1 _ rfl
              go_simp
              exact hK _ _ (Below.refl _ _) (getD_put_self a 49 _ (by show _ < a.tmps.size; omega))
            · obtain rfl := Option.some.inj ho
              have q6 : a.tmps.getD 6 undef = .int .i64 j := hf.at_ 6 (by kernel_rfl)
              clear he
              go_simp
              exact hK _ _ (Below.refl _ _) (getD_put_self a 50 _ (by show _ < a.tmps.size; omega))
            · obtain rfl := Option.some.inj ho
              have q49 : a.tmps.getD 49 undef = .slice (some ⟨b, off, none⟩) xd.length capd := he _ (Array.mem_of_getElem? (i := 0) rfl) (by kernel_rfl) _ rfl
              have q50 : a.tmps.getD 50 undef = .int .i64 j := he _ (Array.mem_of_getElem? (i := 1) rfl) (by kernel_rfl) _ rfl
              clear he
              go_simp
              exact hK _ _ (Below.refl _ _) (getD_put_self a 51 _ (by show _ < a.tmps.size; omega))
            · obtain rfl := Option.some.inj ho
              have q51 : a.tmps.getD 51 undef = .pointer (some ⟨b, off + j, none⟩) := he _ (Array.mem_of_getElem? (i := 0) rfl) (by kernel_rfl) _ rfl
              clear he
              have cc : u.cell? ⟨b, off + j, none⟩ = some (.bool x) := by
                have := (h5.kept (w' := u) ((hb.trans (hR.mono hsz)).block b (by omega))) 0 (.bool x) rfl
                rwa [Nat.add_zero, Nat.mul_one] at this
              go_simp
              exact hK _ _ (Below.refl _ _) (getD_put_self a 52 _ (by show _ < a.tmps.size; omega))
            · obtain rfl := Option.some.inj ho
              have q3 : a.tmps.getD 3 undef = .pointer (some ⟨w.heap.size + 1, 0, none⟩) := hf.at_ 3 (by kernel_rfl)
              clear he
              go_simp
              exact hK _ _ (Below.refl _ _) (getD_put_self a 53 _ (by show _ < a.tmps.size; omega))
            · obtain rfl := Option.some.inj ho
              have q53 : a.tmps.getD 53 undef = .pointer (some ⟨w.heap.size + 1, 1, none⟩) := he _ (Array.mem_of_getElem? (i := 0) rfl) (by kernel_rfl) _ rfl
              clear he
              have cc : u.cell? ⟨w.heap.size + 1, 1, none⟩ = some (.slice (some ⟨b', off', none⟩) yd.length capd') := (qv.below (hb.trans (hR.mono hsz)) (by omega)).c 1 _ rfl
              go_simp
              exact hK _ _ (Below.refl _ _) (getD_put_self a 54 _ (by show _ < a.tmps.size; omega))
            · obtain rfl := Option.some.inj ho
              have q6 : a.tmps.getD 6 undef = .int .i64 j := hf.at_ 6 (by kernel_rfl)
              clear he
              go_simp
              exact hK _ _ (Below.refl _ _) (getD_put_self a 55 _ (by show _ < a.tmps.size; omega))
            · obtain rfl := Option.some.inj ho
              have q54 : a.tmps.getD 54 undef = .slice (some ⟨b', off', none⟩) yd.length capd' := he _ (Array.mem_of_getElem? (i := 0) rfl) (by kernel_rfl) _ rfl
              have q55 : a.tmps.getD 55 undef = .int .i64 j := he _ (Array.mem_of_getElem? (i := 1) rfl) (by kernel_rfl) _ rfl
              clear he
              go_simp
              exact hK _ _ (Below.refl _ _) (getD_put_self a 56 _ (by show _ < a.tmps.size; omega))
            · obtain rfl := Option.some.inj ho
              have q56 : a.tmps.getD 56 undef = .pointer (some ⟨b', off' + j, none⟩) := he _ (Array.mem_of_getElem? (i := 0) rfl) (by kernel_rfl) _ rfl
              clear he
              have cc : u.cell? ⟨b', off' + j, none⟩ = some (.bool y) := by
                have := (h5'.kept (w' := u) ((hb.trans (hR.mono hsz)).block b' (by omega))) 0 (.bool y) rfl
                rwa [Nat.add_zero, Nat.mul_one] at this
              go_simp
              exact hK _ _ (Below.refl _ _) (getD_put_self a 57 _ (by show _ < a.tmps.size; omega))
            · obtain rfl := Option.some.inj ho
              have q52 : a.tmps.getD 52 undef = .bool x := he _ (Array.mem_of_getElem? (i := 0) rfl) (by kernel_rfl) _ rfl
              have q57 : a.tmps.getD 57 undef = .bool y := he _ (Array.mem_of_getElem? (i := 1) rfl) (by kernel_rfl) _ rfl
              clear he
              have hn : (!(x == y)) = !cd := by rw [← HCD.out]; cases x <;> cases y <;> rfl
              go_simp
              exact hK _ _ (Below.refl _ _) (getD_put_self a 58 _ (by show _ < a.tmps.size; omega))
            · exact absurd ho (by simp)
          · intro a u hf hR0 hp
            have hR : Grow wr u := (Below.drew (Below.refl _ _)).trans hR0
            have m58 : a.tmps.getD 58 undef = .bool (!cd) := hp 10 _ rfl
            have hbu : Below w0.heap.size w0 u := hb.trans (hR.mono hsz)
            have husz := hR.size
            clear hp hR hR0
            cases cd with
            | true =>
              have HE : Hid (x = y) := by show x = y; exact of_decide_eq_true HCD.out
              have m58 : a.tmps.getD 58 undef = .bool false := m58
              clear HCD
              obtain ⟨fq, ea, hfv⟩ := act_lit a 59 hf.size
              have md : a.defers = [] := hf.defers
              rw [md] at ea
              have m0 := hf.at_ 0 (by kernel_rfl)
              have m1 := hf.at_ 1 (by kernel_rfl)
              have m2 := hf.at_ 2 (by kernel_rfl)
              have m3 := hf.at_ 3 (by kernel_rfl)
              have m4 := hf.at_ 4 (by kernel_rfl)
              have m5 := hf.at_ 5 (by kernel_rfl)
              have m6 := hf.at_ 6 (by kernel_rfl)
              have m7 := hf.at_ 7 (by kernel_rfl)
              have m8 := hf.at_ 8 (by kernel_rfl)
              have m9 := hf.at_ 9 (by kernel_rfl)
              have m10 := hf.at_ 10 (by kernel_rfl)
              have m11 := hf.at_ 11 (by kernel_rfl)
              have m12 := hf.at_ 12 (by kernel_rfl)
              have m13 := hf.at_ 13 (by kernel_rfl)
              have m14 := hf.at_ 14 (by kernel_rfl)
              have m15 := hf.at_ 15 (by kernel_rfl)
              have m16 := hf.at_ 16 (by kernel_rfl)
              have m17 := hf.at_ 17 (by kernel_rfl)
              have m18 := hf.at_ 18 (by kernel_rfl)
              have m19 := hf.at_ 19 (by kernel_rfl)
              have m20 := hf.at_ 20 (by kernel_rfl)
              have m21 := hf.at_ 21 (by kernel_rfl)
              have m22 := hf.at_ 22 (by kernel_rfl)
              have m23 := hf.at_ 23 (by kernel_rfl)
              have m24 := hf.at_ 24 (by kernel_rfl)
              have m25 := hf.at_ 25 (by kernel_rfl)
              have m26 := hf.at_ 26 (by kernel_rfl)
              have m27 := hf.at_ 27 (by kernel_rfl)
              have m28 := hf.at_ 28 (by kernel_rfl)
              have m29 := hf.at_ 29 (by kernel_rfl)
              have m30 := hf.at_ 30 (by kernel_rfl)
              have m31 := hf.at_ 31 (by kernel_rfl)
              have m32 := hf.at_ 32 (by kernel_rfl)
              have m33 := hf.at_ 33 (by kernel_rfl)
              have m34 := hf.at_ 34 (by kernel_rfl)
              have m35 := hf.at_ 35 (by kernel_rfl)
              have m36 := hf.at_ 36 (by kernel_rfl)
              have m37 := hf.at_ 37 (by kernel_rfl)
              have m38 := hf.at_ 38 (by kernel_rfl)
              have m39 := hf.at_ 39 (by kernel_rfl)
              have m40 := hf.at_ 40 (by kernel_rfl)
              have m41 := hf.at_ 41 (by kernel_rfl)
              have m42 := hf.at_ 42 (by kernel_rfl)
              have m43 := hf.at_ 43 (by kernel_rfl)
              have m44 := hf.at_ 44 (by kernel_rfl)
              have m45 := hf.at_ 45 (by kernel_rfl)
              have m46 := hf.at_ 46 (by kernel_rfl)
              have m47 := hf.at_ 47 (by kernel_rfl)
              rw [← hfv] at m0 m1 m2 m3 m4 m5 m6 m7 m8 m9 m10 m11 m12 m13 m14 m15 m16 m17 m18 m19 m20 m21 m22 m23 m24 m25 m26 m27 m28 m29 m30 m31 m32 m33 m34 m35 m36 m37 m38 m39 m40 m41 m42 m43 m44 m45 m46 m47 m58
              simp only [Array.getD_eq_getD_getElem?, List.getElem?_toArray, List.getElem?_cons_succ, List.getElem?_cons_zero, Option.getD_some] at m0 m1 m2 m3 m4 m5 m6 m7 m8 m9 m10 m11 m12 m13 m14 m15 m16 m17 m18 m19 m20 m21 m22 m23 m24 m25 m26 m27 m28 m29 m30 m31 m32 m33 m34 m35 m36 m37 m38 m39 m40 m41 m42 m43 m44 m45 m46 m47
              simp only [List.range, List.range.loop, List.map_cons, List.map_nil, m0, m1, m2, m3, m4, m5, m6, m7, m8, m9, m10, m11, m12, m13, m14, m15, m16, m17, m18, m19, m20, m21, m22, m23, m24, m25, m26, m27, m28, m29, m30, m31, m32, m33, m34, m35, m36, m37, m38, m39, m40, m41, m42, m43, m44, m45, m46, m47, m58] at ea
              subst ea
              clear m0 m1 m2 m3 m4 m5 m6 m7 m8 m9 m10 m11 m12 m13 m14 m15 m16 m17 m18 m19 m20 m21 m22 m23 m24 m25 m26 m27 m28 m29 m30 m31 m32 m33 m34 m35 m36 m37 m38 m39 m40 m41 m42 m43 m44 m45 m46 m47 m58 hfv md hf
              have HN : Hid (xd.take (j + 1) = yd.take (j + 1)) := take_succG HT.out HX.out.1 HX.out.2 HE.out
              clear h5 h5'
              go_wp2
              go_roundw
              case rel => exact ⟨j + 1, by omega, by go_num, hbu, HN.out⟩
              case measure => simp [intOf]; omega
            | false =>
              have HE : Hid (x ≠ y) := by show x ≠ y; exact of_decide_eq_false HCD.out
              have m58 : a.tmps.getD 58 undef = .bool true := m58
              clear HCD
              obtain ⟨fq, ea, hfv⟩ := act_lit a 59 hf.size
              have md : a.defers = [] := hf.defers
              rw [md] at ea
              have m0 := hf.at_ 0 (by kernel_rfl)
              have m1 := hf.at_ 1 (by kernel_rfl)
              have m2 := hf.at_ 2 (by kernel_rfl)
              have m3 := hf.at_ 3 (by kernel_rfl)
              have m4 := hf.at_ 4 (by kernel_rfl)
              have m5 := hf.at_ 5 (by kernel_rfl)
              have m6 := hf.at_ 6 (by kernel_rfl)
              have m7 := hf.at_ 7 (by kernel_rfl)
              have m8 := hf.at_ 8 (by kernel_rfl)
              have m9 := hf.at_ 9 (by kernel_rfl)
              have m10 := hf.at_ 10 (by kernel_rfl)
              have m11 := hf.at_ 11 (by kernel_rfl)
              have m12 := hf.at_ 12 (by kernel_rfl)
              have m13 := hf.at_ 13 (by kernel_rfl)
              have m14 := hf.at_ 14 (by kernel_rfl)
              have m15 := hf.at_ 15 (by kernel_rfl)
              have m16 := hf.at_ 16 (by kernel_rfl)
              have m17 := hf.at_ 17 (by kernel_rfl)
              have m18 := hf.at_ 18 (by kernel_rfl)
              have m19 := hf.at_ 19 (by kernel_rfl)
              have m20 := hf.at_ 20 (by kernel_rfl)
              have m21 := hf.at_ 21 (by kernel_rfl)
              have m22 := hf.at_ 22 (by kernel_rfl)
              have m23 := hf.at_ 23 (by kernel_rfl)
              have m24 := hf.at_ 24 (by kernel_rfl)
              have m25 := hf.at_ 25 (by kernel_rfl)
              have m26 := hf.at_ 26 (by kernel_rfl)
              have m27 := hf.at_ 27 (by kernel_rfl)
              have m28 := hf.at_ 28 (by kernel_rfl)
              have m29 := hf.at_ 29 (by kernel_rfl)
              have m30 := hf.at_ 30 (by kernel_rfl)
              have m31 := hf.at_ 31 (by kernel_rfl)
              have m32 := hf.at_ 32 (by kernel_rfl)
              have m33 := hf.at_ 33 (by kernel_rfl)
              have m34 := hf.at_ 34 (by kernel_rfl)
              have m35 := hf.at_ 35 (by kernel_rfl)
              have m36 := hf.at_ 36 (by kernel_rfl)
              have m37 := hf.at_ 37 (by kernel_rfl)
              have m38 := hf.at_ 38 (by kernel_rfl)
              have m39 := hf.at_ 39 (by kernel_rfl)
              have m40 := hf.at_ 40 (by kernel_rfl)
              have m41 := hf.at_ 41 (by kernel_rfl)
              have m42 := hf.at_ 42 (by kernel_rfl)
              have m43 := hf.at_ 43 (by kernel_rfl)
              have m44 := hf.at_ 44 (by kernel_rfl)
              have m45 := hf.at_ 45 (by kernel_rfl)
              have m46 := hf.at_ 46 (by kernel_rfl)
              have m47 := hf.at_ 47 (by kernel_rfl)
              rw [← hfv] at m0 m1 m2 m3 m4 m5 m6 m7 m8 m9 m10 m11 m12 m13 m14 m15 m16 m17 m18 m19 m20 m21 m22 m23 m24 m25 m26 m27 m28 m29 m30 m31 m32 m33 m34 m35 m36 m37 m38 m39 m40 m41 m42 m43 m44 m45 m46 m47 m58
              simp only [Array.getD_eq_getD_getElem?, List.getElem?_toArray, List.getElem?_cons_succ, List.getElem?_cons_zero, Option.getD_some] at m0 m1 m2 m3 m4 m5 m6 m7 m8 m9 m10 m11 m12 m13 m14 m15 m16 m17 m18 m19 m20 m21 m22 m23 m24 m25 m26 m27 m28 m29 m30 m31 m32 m33 m34 m35 m36 m37 m38 m39 m40 m41 m42 m43 m44 m45 m46 m47
              simp only [List.range, List.range.loop, List.map_cons, List.map_nil, m0, m1, m2, m3, m4, m5, m6, m7, m8, m9, m10, m11, m12, m13, m14, m15, m16, m17, m18, m19, m20, m21, m22, m23, m24, m25, m26, m27, m28, m29, m30, m31, m32, m33, m34, m35, m36, m37, m38, m39, m40, m41, m42, m43, m44, m45, m46, m47, m58] at ea
              subst ea
              clear m0 m1 m2 m3 m4 m5 m6 m7 m8 m9 m10 m11 m12 m13 m14 m15 m16 m17 m18 m19 m20 m21 m22 m23 m24 m25 m26 m27 m28 m29 m30 m31 m32 m33 m34 m35 m36 m37 m38 m39 m40 m41 m42 m43 m44 m45 m46 m47 m58 hfv md hf
              have HF : Hid (R = false) := by show R = false; rw [← HR.out]; exact decide_eq_false fun h => ne_atG HX.out.1 HX.out.2 HE.out (by injection h)
              clear h5 h5'
              go_wp2
              go_ret
              exact ⟨ret_bool HF.out.symm, G2.trans (hbu.mono (by omega))⟩
        · obtain rfl : j = xd.length := by omega
          have HF : Hid (R = true) := by
            show R = true
            rw [← HR.out]
            refine decide_eq_true ?_
            have h := HT.out
            rw [List.take_length, HLd.out, List.take_length] at h
            rw [HW.out, h]
          go_wp2
          go_ret
          exact ⟨ret_bool HF.out.symm, G2.trans (hb.mono (by omega))⟩

end Go.Proofs.Ytaoiookfmgpmkaa
