/-
  What chapter 4's model StmtsSame (package spec) answers: whether two lists are the same in all parts.
-/
import Derived.Test.YtaoiookfmgpmkaaPM6
import Derived.Test.YtaoiookfmgpmkaaExprAlike
import Derived.Test.YtaoiookfmgpmkaaGuard
namespace Go.Proofs.Ytaoiookfmgpmkaa
open Go.ChangeShapes Go.WideShapes Go.ChangeAt Go.RowKit
set_option linter.unusedVariables false

theorem eq_of_iff2 {a b : Bool} {p : Prop} (h : a = true ↔ p) (k : b = true ↔ p) : a = b := Bool.eq_iff_iff.mpr (h.trans k.symm)

theorem bool_of (p : Prop) : ∃ r : Bool, r = true ↔ p := ⟨@decide p (Classical.propDecidable p), by simp⟩

/-- What StmtsSame answers of lists of which the first has at most n. -/
def SmT (n : Nat) : Prop := ∀ (w : World) (lo hi lo' hi' : Nat) (v v' : Value) (ss ss' : List StmtD), sizeL ss ≤ n → SR w lo hi v ss → SR w lo' hi' v' ss' → hi ≤ w.heap.size → hi' ≤ w.heap.size →
  Calls Try.prog 15 #[v, v'] w fun e w' => ∃ r : Bool, e = .returned (.bool r) ∧ (r = true ↔ ss = ss') ∧ Below w.heap.size w w'

set_option maxRecDepth 100000 in
set_option maxHeartbeats 16000000 in
theorem sameT_step {n : Nat} (H : ∀ m, m < n → SmT m) : SmT n := by
  intro w lo hi lo' hi' v v' ss ss' hn h h' hhi hhi'
  obtain ⟨ad, cap, rfl, hc1, hc2⟩ := h.shape
  obtain ⟨ad', cap', rfl, hd1, hd2⟩ := h'.shape
  have hmx : ss.length ≤ 9223372036854775807 := by unfold maxLen at hc2; omega
  have hmx' : ss'.length ≤ 9223372036854775807 := by unfold maxLen at hd2; omega
  have HK : Hid (SR w lo hi (.slice ad ss.length cap) ss) := h
  have HK' : Hid (SR w lo' hi' (.slice ad' ss'.length cap') ss') := h'
  clear h h' hc1 hc2 hd1 hd2
  by_cases hl : ss.length = ss'.length
  · have hl2 : ((ss.length : Int) != (ss'.length : Int)) = false := by simp; omega
    have HL : Hid (ss.length = ss'.length) := hl
    clear hl
    go_enter Try.func15, Try.ntmps15
    go_wp2_with fail
    go_loopw [5] (fun i wr => ∃ j : Nat, j ≤ ss.length ∧ i = .int .i64 j ∧ Below w.heap.size w wr ∧ ss.take j = ss'.take j) (fun i _ => ss.length - (intOf i).toNat)
    case atStart => exact ⟨0, Nat.zero_le _, rfl, Below.refl _ _, rfl⟩
    case round =>
      obtain ⟨j, hj, rfl, hb, ht⟩ := hrel
      have HT : Hid (ss.take j = ss'.take j) := ht
      clear ht
      by_cases hlt : j < ss.length
      · obtain ⟨x, hx⟩ : ∃ x, ss[j]? = some x := ⟨ss[j], List.getElem?_eq_getElem hlt⟩
        have hlt' : j < ss'.length := by rw [← HL.out]; exact hlt
        obtain ⟨y, hy⟩ : ∃ y, ss'[j]? = some y := ⟨ss'[j]'hlt', List.getElem?_eq_getElem hlt'⟩
        obtain ⟨b, off, cap1, x1, x2, x3, hv, hb1, hb2, h5, hk1, hk2, hk3⟩ := HK.out.at_ hx
        obtain ⟨b', off', cap1', y1, y2, y3, hv', hb1', hb2', h5', hl1, hl2', hl3⟩ := HK'.out.at_ hy
        simp only [Value.slice.injEq, true_and] at hv hv'
        obtain ⟨rfl, rfl⟩ := hv
        obtain ⟨rfl, rfl⟩ := hv'
        have hkl := stmt_lt hx
        have hsz := hb.size
        have HXY : Hid (ss[j]? = some x ∧ ss'[j]? = some y) := ⟨hx, hy⟩
        clear hx hy
        obtain ⟨a1x, c1x, rfl, _, _⟩ := hk1.shape
        obtain ⟨a2x, c2x, rfl, _, _⟩ := hk2.shape
        obtain ⟨a3x, c3x, rfl, _, _⟩ := hk3.shape
        obtain ⟨a1y, c1y, rfl, _, _⟩ := hl1.shape
        obtain ⟨a2y, c2y, rfl, _, _⟩ := hl2'.shape
        obtain ⟨a3y, c3y, rfl, _, _⟩ := hl3.shape
        obtain ⟨b1, eb1⟩ : ∃ r, (x.k != y.k) = r := ⟨_, rfl⟩
        obtain ⟨b2, eb2⟩ : ∃ r, (!((x.tk == y.tk) && (x.ta == y.ta))) = r := ⟨_, rfl⟩
        obtain ⟨r3, er3⟩ := bool_of (x.e = y.e)
        obtain ⟨r4, er4⟩ := bool_of (x.th = y.th)
        obtain ⟨r5, er5⟩ := bool_of (x.el = y.el)
        obtain ⟨d2, ed2⟩ : ∃ r, r = (b1 || b2) := ⟨_, rfl⟩
        obtain ⟨d3, ed3⟩ : ∃ r, r = (d2 || !r3) := ⟨_, rfl⟩
        obtain ⟨d4, ed4⟩ : ∃ r, r = (d3 || !r4) := ⟨_, rfl⟩
        obtain ⟨d5, ed5⟩ : ∃ r, r = (d4 || !r5) := ⟨_, rfl⟩
        have HX5 : Hid (d5 = false ↔ x = y) := by
          show d5 = false ↔ x = y
          rw [stmtD_eq, ← er3, ← er4, ← er5, ed5, ed4, ed3, ed2, ← eb1, ← eb2]
          simp [and_assoc]
        have HB1 : Hid ((x.k != y.k) = b1) := eb1
        have HB2 : Hid ((!((x.tk == y.tk) && (x.ta == y.ta))) = b2) := eb2
        have HR3 : Hid (r3 = true ↔ x.e = y.e) := er3
        have HR4 : Hid (r4 = true ↔ x.th = y.th) := er4
        have HR5 : Hid (r5 = true ↔ x.el = y.el) := er5
        have HD2 : Hid (d2 = (b1 || b2)) := ed2
        have HD3 : Hid (d3 = (d2 || !r3)) := ed3
        have HD4 : Hid (d4 = (d3 || !r4)) := ed4
        have HD5 : Hid (d5 = (d4 || !r5)) := ed5
        clear eb1 eb2 er3 er4 er5 ed2 ed3 ed4 ed5
        go_wp2_with fail
        refine wp_region_dag (R := Grow) (Φ := fun i v u => match i with
            | 0 => v = .slice (some ⟨b, off, none⟩) ss.length cap
            | 1 => v = .int .i64 j
            | 2 => v = .pointer (some ⟨b, off + j * 10, none⟩)
            | 3 => v = .pointer (some ⟨b, off + j * 10, none⟩)
            | 4 => v = .int .i64 x.k
            | 5 => v = .slice (some ⟨b', off', none⟩) ss'.length cap'
            | 6 => v = .int .i64 j
            | 7 => v = .pointer (some ⟨b', off' + j * 10, none⟩)
            | 8 => v = .pointer (some ⟨b', off' + j * 10, none⟩)
            | 9 => v = .int .i64 y.k
            | 10 => v = .bool b1
            | 11 => v = .bool b1
            | 12 => v = cond b1 undef (.slice (some ⟨b, off, none⟩) ss.length cap)
            | 13 => v = cond b1 undef (.int .i64 j)
            | 14 => v = cond b1 undef (.pointer (some ⟨b, off + j * 10, none⟩))
            | 15 => v = cond b1 undef (.pointer (some ⟨b, off + j * 10 + 1, none⟩))
            | 16 => v = cond b1 undef (.agg #[.int .i64 x.tk, .int .i64 x.ta])
            | 17 => v = cond b1 undef (.slice (some ⟨b', off', none⟩) ss'.length cap')
            | 18 => v = cond b1 undef (.int .i64 j)
            | 19 => v = cond b1 undef (.pointer (some ⟨b', off' + j * 10, none⟩))
            | 20 => v = cond b1 undef (.pointer (some ⟨b', off' + j * 10 + 1, none⟩))
            | 21 => v = cond b1 undef (.agg #[.int .i64 y.tk, .int .i64 y.ta])
            | 22 => v = cond b1 undef (.bool b2)
            | 23 => v = .bool d2
            | 24 => v = .bool d2
            | 25 => v = cond d2 undef (.slice (some ⟨b, off, none⟩) ss.length cap)
            | 26 => v = cond d2 undef (.int .i64 j)
            | 27 => v = cond d2 undef (.pointer (some ⟨b, off + j * 10, none⟩))
            | 28 => v = cond d2 undef (.pointer (some ⟨b, off + j * 10 + 3, none⟩))
            | 29 => v = cond d2 undef (.agg #[.int .i64 x.e.k, .int .i64 x.e.n, .int .i64 x.e.ak, .int .i64 x.e.at_, .slice a1x x.e.kids.length c1x])
            | 30 => v = cond d2 undef (.slice (some ⟨b', off', none⟩) ss'.length cap')
            | 31 => v = cond d2 undef (.int .i64 j)
            | 32 => v = cond d2 undef (.pointer (some ⟨b', off' + j * 10, none⟩))
            | 33 => v = cond d2 undef (.pointer (some ⟨b', off' + j * 10 + 3, none⟩))
            | 34 => v = cond d2 undef (.agg #[.int .i64 y.e.k, .int .i64 y.e.n, .int .i64 y.e.ak, .int .i64 y.e.at_, .slice a1y y.e.kids.length c1y])
            | 35 => v = cond d2 undef (.bool r3)
            | 36 => v = cond d2 undef (.bool (!r3))
            | 37 => v = .bool d3
            | 38 => v = .bool d3
            | 39 => v = cond d3 undef (.slice (some ⟨b, off, none⟩) ss.length cap)
            | 40 => v = cond d3 undef (.int .i64 j)
            | 41 => v = cond d3 undef (.pointer (some ⟨b, off + j * 10, none⟩))
            | 42 => v = cond d3 undef (.pointer (some ⟨b, off + j * 10 + 8, none⟩))
            | 43 => v = cond d3 undef (.slice a2x x.th.length c2x)
            | 44 => v = cond d3 undef (.slice (some ⟨b', off', none⟩) ss'.length cap')
            | 45 => v = cond d3 undef (.int .i64 j)
            | 46 => v = cond d3 undef (.pointer (some ⟨b', off' + j * 10, none⟩))
            | 47 => v = cond d3 undef (.pointer (some ⟨b', off' + j * 10 + 8, none⟩))
            | 48 => v = cond d3 undef (.slice a2y y.th.length c2y)
            | 49 => v = cond d3 undef (.bool r4)
            | 50 => v = cond d3 undef (.bool (!r4))
            | 51 => v = .bool d4
            | 52 => v = .bool d4
            | 53 => v = cond d4 undef (.slice (some ⟨b, off, none⟩) ss.length cap)
            | 54 => v = cond d4 undef (.int .i64 j)
            | 55 => v = cond d4 undef (.pointer (some ⟨b, off + j * 10, none⟩))
            | 56 => v = cond d4 undef (.pointer (some ⟨b, off + j * 10 + 9, none⟩))
            | 57 => v = cond d4 undef (.slice a3x x.el.length c3x)
            | 58 => v = cond d4 undef (.slice (some ⟨b', off', none⟩) ss'.length cap')
            | 59 => v = cond d4 undef (.int .i64 j)
            | 60 => v = cond d4 undef (.pointer (some ⟨b', off' + j * 10, none⟩))
            | 61 => v = cond d4 undef (.pointer (some ⟨b', off' + j * 10 + 9, none⟩))
            | 62 => v = cond d4 undef (.slice a3y y.el.length c3y)
            | 63 => v = cond d4 undef (.bool r5)
            | 64 => v = cond d4 undef (.bool (!r5))
            | 65 => v = .bool d5
            | _ => True) (by kernel_rfl) (by kernel_rfl) (by kernel_rfl) (Below.refl _ _) grow_trans ?_ ?_ ?_
        · intro i v u u' hr
          match i with
          | 0 | 1 | 2 | 3 | 4 | 5 | 6 | 7 | 8 | 9 | 10 | 11 | 12 | 13 | 14 | 15 | 16 | 17 | 18 | 19 | 20 | 21 | 22 | 23 | 24 | 25 | 26 | 27 | 28 | 29 | 30 | 31 | 32 | 33 | 34 | 35 | 36 | 37 | 38 | 39 | 40 | 41 | 42 | 43 | 44 | 45 | 46 | 47 | 48 | 49 | 50 | 51 | 52 | 53 | 54 | 55 | 56 | 57 | 58 | 59 | 60 | 61 | 62 | 63 | 64 | 65 | _ + 66 => exact fun h => h
        · intro i o ho a u hf hR0 he K' hK
          have hR : Grow wr u := (Below.drew (Below.refl _ _)).trans hR0
          have hsz' : a.tmps.size = 83 := hf.size
          have hus := hR.size
          have hRw : Below w.heap.size w u := hb.trans (hR.mono hsz)
          rcases i with _ | _ | _ | _ | _ | _ | _ | _ | _ | _ | _ | _ | _ | _ | _ | _ | _ | _ | _ | _ | _ | _ | _ | _ | _ | _ | _ | _ | _ | _ | _ | _ | _ | _ | _ | _ | _ | _ | _ | _ | _ | _ | _ | _ | _ | _ | _ | _ | _ | _ | _ | _ | _ | _ | _ | _ | _ | _ | _ | _ | _ | _ | _ | _ | _ | _ | i
          · obtain rfl := Option.some.inj ho
            have q0 : a.tmps.getD 0 undef = .slice (some ⟨b, off, none⟩) ss.length cap := hf.at_ 0 (by kernel_rfl)
            clear he
            go_simp
            exact hK _ _ (Below.refl _ _) (getD_put_self a 17 _ (by show _ < a.tmps.size; omega))
          · obtain rfl := Option.some.inj ho
            have q5 : a.tmps.getD 5 undef = .int .i64 j := hf.at_ 5 (by kernel_rfl)
            clear he
            go_simp
            exact hK _ _ (Below.refl _ _) (getD_put_self a 18 _ (by show _ < a.tmps.size; omega))
          · obtain rfl := Option.some.inj ho
            have q17 : a.tmps.getD 17 undef = .slice (some ⟨b, off, none⟩) ss.length cap := he _ (Array.mem_of_getElem? (i := 0) rfl) (by kernel_rfl) _ rfl
            have q18 : a.tmps.getD 18 undef = .int .i64 j := he _ (Array.mem_of_getElem? (i := 1) rfl) (by kernel_rfl) _ rfl
            clear he
            go_simp
            exact hK _ _ (Below.refl _ _) (getD_put_self a 19 _ (by show _ < a.tmps.size; omega))
          · obtain rfl := Option.some.inj ho
            have q19 : a.tmps.getD 19 undef = .pointer (some ⟨b, off + j * 10, none⟩) := he _ (Array.mem_of_getElem? (i := 0) rfl) (by kernel_rfl) _ rfl
            clear he
            go_simp
            exact hK _ _ (Below.refl _ _) (getD_put_self a 20 _ (by show _ < a.tmps.size; omega))
          · obtain rfl := Option.some.inj ho
            have q20 : a.tmps.getD 20 undef = .pointer (some ⟨b, off + j * 10, none⟩) := he _ (Array.mem_of_getElem? (i := 0) rfl) (by kernel_rfl) _ rfl
            clear he
            obtain ⟨c0, _, _, _, _, _, _, _, _, _⟩ := h5.kept (hRw.block b (by omega))
            go_simp
            exact hK _ _ (Below.refl _ _) (getD_put_self a 21 _ (by show _ < a.tmps.size; omega))
          · obtain rfl := Option.some.inj ho
            have q1 : a.tmps.getD 1 undef = .slice (some ⟨b', off', none⟩) ss'.length cap' := hf.at_ 1 (by kernel_rfl)
            clear he
            go_simp
            exact hK _ _ (Below.refl _ _) (getD_put_self a 22 _ (by show _ < a.tmps.size; omega))
          · obtain rfl := Option.some.inj ho
            have q5 : a.tmps.getD 5 undef = .int .i64 j := hf.at_ 5 (by kernel_rfl)
            clear he
            go_simp
            exact hK _ _ (Below.refl _ _) (getD_put_self a 23 _ (by show _ < a.tmps.size; omega))
          · obtain rfl := Option.some.inj ho
            have q22 : a.tmps.getD 22 undef = .slice (some ⟨b', off', none⟩) ss'.length cap' := he _ (Array.mem_of_getElem? (i := 0) rfl) (by kernel_rfl) _ rfl
            have q23 : a.tmps.getD 23 undef = .int .i64 j := he _ (Array.mem_of_getElem? (i := 1) rfl) (by kernel_rfl) _ rfl
            clear he
            go_simp
            exact hK _ _ (Below.refl _ _) (getD_put_self a 24 _ (by show _ < a.tmps.size; omega))
          · obtain rfl := Option.some.inj ho
            have q24 : a.tmps.getD 24 undef = .pointer (some ⟨b', off' + j * 10, none⟩) := he _ (Array.mem_of_getElem? (i := 0) rfl) (by kernel_rfl) _ rfl
            clear he
            go_simp
            exact hK _ _ (Below.refl _ _) (getD_put_self a 25 _ (by show _ < a.tmps.size; omega))
          · obtain rfl := Option.some.inj ho
            have q25 : a.tmps.getD 25 undef = .pointer (some ⟨b', off' + j * 10, none⟩) := he _ (Array.mem_of_getElem? (i := 0) rfl) (by kernel_rfl) _ rfl
            clear he
            obtain ⟨c0, _, _, _, _, _, _, _, _, _⟩ := h5'.kept (hRw.block b' (by omega))
            go_simp
            exact hK _ _ (Below.refl _ _) (getD_put_self a 26 _ (by show _ < a.tmps.size; omega))
          · obtain rfl := Option.some.inj ho
            have q21 : a.tmps.getD 21 undef = .int .i64 x.k := he _ (Array.mem_of_getElem? (i := 0) rfl) (by kernel_rfl) _ rfl
            have q26 : a.tmps.getD 26 undef = .int .i64 y.k := he _ (Array.mem_of_getElem? (i := 1) rfl) (by kernel_rfl) _ rfl
            clear he
            have e1 := HB1.out
            go_simp
            exact hK _ _ (Below.refl _ _) ((getD_put_self a 27 _ (by show _ < a.tmps.size; omega)).trans (by first | rfl | rw [e1]))
          · obtain rfl := Option.some.inj ho
            have q27 : a.tmps.getD 27 undef = .bool b1 := he _ (Array.mem_of_getElem? (i := 0) rfl) (by kernel_rfl) _ rfl
            clear he
            go_simp
            exact hK _ _ (Below.refl _ _) (getD_put_self a 28 _ (by show _ < a.tmps.size; omega))
          · obtain rfl := Option.some.inj ho
            have qg : a.tmps.getD 28 undef = .bool b1 := he _ (Array.mem_of_getElem? (i := 0) rfl) (by kernel_rfl) _ rfl
            cases b1 with
            | true =>
              refine wanted_off rfl (yielded_g (i := 11) rfl rfl (by show 28 < a.tmps.size; omega) qg) ?_
              exact hK undef u (Below.refl _ _) (getD_put_self a 29 _ (by show _ < a.tmps.size; omega))
            | false =>
              have q0 : a.tmps.getD 0 undef = .slice (some ⟨b, off, none⟩) ss.length cap := hf.at_ 0 (by kernel_rfl)
              clear he
              refine wanted_on rfl (yielded_g (i := 11) rfl rfl (by show 28 < a.tmps.size; omega) qg) ?_
              go_simp
              exact hK _ _ (Below.refl _ _) (getD_put_self a 29 _ (by show _ < a.tmps.size; omega))
          · obtain rfl := Option.some.inj ho
            have qg : a.tmps.getD 28 undef = .bool b1 := he _ (Array.mem_of_getElem? (i := 0) rfl) (by kernel_rfl) _ rfl
            cases b1 with
            | true =>
              refine wanted_off rfl (yielded_g (i := 11) rfl rfl (by show 28 < a.tmps.size; omega) qg) ?_
              exact hK undef u (Below.refl _ _) (getD_put_self a 30 _ (by show _ < a.tmps.size; omega))
            | false =>
              have q5 : a.tmps.getD 5 undef = .int .i64 j := hf.at_ 5 (by kernel_rfl)
              clear he
              refine wanted_on rfl (yielded_g (i := 11) rfl rfl (by show 28 < a.tmps.size; omega) qg) ?_
              go_simp
              exact hK _ _ (Below.refl _ _) (getD_put_self a 30 _ (by show _ < a.tmps.size; omega))
          · obtain rfl := Option.some.inj ho
            have qg : a.tmps.getD 28 undef = .bool b1 := he _ (Array.mem_of_getElem? (i := 2) rfl) (by kernel_rfl) _ rfl
            cases b1 with
            | true =>
              refine wanted_off rfl (yielded_g (i := 11) rfl rfl (by show 28 < a.tmps.size; omega) qg) ?_
              exact hK undef u (Below.refl _ _) (getD_put_self a 31 _ (by show _ < a.tmps.size; omega))
            | false =>
              have q29 : a.tmps.getD 29 undef = .slice (some ⟨b, off, none⟩) ss.length cap := he _ (Array.mem_of_getElem? (i := 0) rfl) (by kernel_rfl) _ rfl
              have q30 : a.tmps.getD 30 undef = .int .i64 j := he _ (Array.mem_of_getElem? (i := 1) rfl) (by kernel_rfl) _ rfl
              clear he
              refine wanted_on rfl (yielded_g (i := 11) rfl rfl (by show 28 < a.tmps.size; omega) qg) ?_
              go_simp
              exact hK _ _ (Below.refl _ _) (getD_put_self a 31 _ (by show _ < a.tmps.size; omega))
          · obtain rfl := Option.some.inj ho
            have qg : a.tmps.getD 28 undef = .bool b1 := he _ (Array.mem_of_getElem? (i := 1) rfl) (by kernel_rfl) _ rfl
            cases b1 with
            | true =>
              refine wanted_off rfl (yielded_g (i := 11) rfl rfl (by show 28 < a.tmps.size; omega) qg) ?_
              exact hK undef u (Below.refl _ _) (getD_put_self a 32 _ (by show _ < a.tmps.size; omega))
            | false =>
              have q31 : a.tmps.getD 31 undef = .pointer (some ⟨b, off + j * 10, none⟩) := he _ (Array.mem_of_getElem? (i := 0) rfl) (by kernel_rfl) _ rfl
              clear he
              refine wanted_on rfl (yielded_g (i := 11) rfl rfl (by show 28 < a.tmps.size; omega) qg) ?_
              go_simp
              exact hK _ _ (Below.refl _ _) (getD_put_self a 32 _ (by show _ < a.tmps.size; omega))
          · obtain rfl := Option.some.inj ho
            have qg : a.tmps.getD 28 undef = .bool b1 := he _ (Array.mem_of_getElem? (i := 1) rfl) (by kernel_rfl) _ rfl
            cases b1 with
            | true =>
              refine wanted_off rfl (yielded_g (i := 11) rfl rfl (by show 28 < a.tmps.size; omega) qg) ?_
              exact hK undef u (Below.refl _ _) (getD_put_self a 33 _ (by show _ < a.tmps.size; omega))
            | false =>
              have q32 : a.tmps.getD 32 undef = .pointer (some ⟨b, off + j * 10 + 1, none⟩) := he _ (Array.mem_of_getElem? (i := 0) rfl) (by kernel_rfl) _ rfl
              clear he
              obtain ⟨_, c1, c2, _, _, _, _, _, _, _⟩ := h5.kept (hRw.block b (by omega))
              refine wanted_on rfl (yielded_g (i := 11) rfl rfl (by show 28 < a.tmps.size; omega) qg) ?_
              go_simp
              exact hK _ _ (Below.refl _ _) (getD_put_self a 33 _ (by show _ < a.tmps.size; omega))
          · obtain rfl := Option.some.inj ho
            have qg : a.tmps.getD 28 undef = .bool b1 := he _ (Array.mem_of_getElem? (i := 0) rfl) (by kernel_rfl) _ rfl
            cases b1 with
            | true =>
              refine wanted_off rfl (yielded_g (i := 11) rfl rfl (by show 28 < a.tmps.size; omega) qg) ?_
              exact hK undef u (Below.refl _ _) (getD_put_self a 34 _ (by show _ < a.tmps.size; omega))
            | false =>
              have q1 : a.tmps.getD 1 undef = .slice (some ⟨b', off', none⟩) ss'.length cap' := hf.at_ 1 (by kernel_rfl)
              clear he
              refine wanted_on rfl (yielded_g (i := 11) rfl rfl (by show 28 < a.tmps.size; omega) qg) ?_
              go_simp
              exact hK _ _ (Below.refl _ _) (getD_put_self a 34 _ (by show _ < a.tmps.size; omega))
          · obtain rfl := Option.some.inj ho
            have qg : a.tmps.getD 28 undef = .bool b1 := he _ (Array.mem_of_getElem? (i := 0) rfl) (by kernel_rfl) _ rfl
            cases b1 with
            | true =>
              refine wanted_off rfl (yielded_g (i := 11) rfl rfl (by show 28 < a.tmps.size; omega) qg) ?_
              exact hK undef u (Below.refl _ _) (getD_put_self a 35 _ (by show _ < a.tmps.size; omega))
            | false =>
              have q5 : a.tmps.getD 5 undef = .int .i64 j := hf.at_ 5 (by kernel_rfl)
              clear he
              refine wanted_on rfl (yielded_g (i := 11) rfl rfl (by show 28 < a.tmps.size; omega) qg) ?_
              go_simp
              exact hK _ _ (Below.refl _ _) (getD_put_self a 35 _ (by show _ < a.tmps.size; omega))
          · obtain rfl := Option.some.inj ho
            have qg : a.tmps.getD 28 undef = .bool b1 := he _ (Array.mem_of_getElem? (i := 2) rfl) (by kernel_rfl) _ rfl
            cases b1 with
            | true =>
              refine wanted_off rfl (yielded_g (i := 11) rfl rfl (by show 28 < a.tmps.size; omega) qg) ?_
              exact hK undef u (Below.refl _ _) (getD_put_self a 36 _ (by show _ < a.tmps.size; omega))
            | false =>
              have q34 : a.tmps.getD 34 undef = .slice (some ⟨b', off', none⟩) ss'.length cap' := he _ (Array.mem_of_getElem? (i := 0) rfl) (by kernel_rfl) _ rfl
              have q35 : a.tmps.getD 35 undef = .int .i64 j := he _ (Array.mem_of_getElem? (i := 1) rfl) (by kernel_rfl) _ rfl
              clear he
              refine wanted_on rfl (yielded_g (i := 11) rfl rfl (by show 28 < a.tmps.size; omega) qg) ?_
              go_simp
              exact hK _ _ (Below.refl _ _) (getD_put_self a 36 _ (by show _ < a.tmps.size; omega))
          · obtain rfl := Option.some.inj ho
            have qg : a.tmps.getD 28 undef = .bool b1 := he _ (Array.mem_of_getElem? (i := 1) rfl) (by kernel_rfl) _ rfl
            cases b1 with
            | true =>
              refine wanted_off rfl (yielded_g (i := 11) rfl rfl (by show 28 < a.tmps.size; omega) qg) ?_
              exact hK undef u (Below.refl _ _) (getD_put_self a 37 _ (by show _ < a.tmps.size; omega))
            | false =>
              have q36 : a.tmps.getD 36 undef = .pointer (some ⟨b', off' + j * 10, none⟩) := he _ (Array.mem_of_getElem? (i := 0) rfl) (by kernel_rfl) _ rfl
              clear he
              refine wanted_on rfl (yielded_g (i := 11) rfl rfl (by show 28 < a.tmps.size; omega) qg) ?_
              go_simp
              exact hK _ _ (Below.refl _ _) (getD_put_self a 37 _ (by show _ < a.tmps.size; omega))
          · obtain rfl := Option.some.inj ho
            have qg : a.tmps.getD 28 undef = .bool b1 := he _ (Array.mem_of_getElem? (i := 1) rfl) (by kernel_rfl) _ rfl
            cases b1 with
            | true =>
              refine wanted_off rfl (yielded_g (i := 11) rfl rfl (by show 28 < a.tmps.size; omega) qg) ?_
              exact hK undef u (Below.refl _ _) (getD_put_self a 38 _ (by show _ < a.tmps.size; omega))
            | false =>
              have q37 : a.tmps.getD 37 undef = .pointer (some ⟨b', off' + j * 10 + 1, none⟩) := he _ (Array.mem_of_getElem? (i := 0) rfl) (by kernel_rfl) _ rfl
              clear he
              obtain ⟨_, c1, c2, _, _, _, _, _, _, _⟩ := h5'.kept (hRw.block b' (by omega))
              refine wanted_on rfl (yielded_g (i := 11) rfl rfl (by show 28 < a.tmps.size; omega) qg) ?_
              go_simp
              exact hK _ _ (Below.refl _ _) (getD_put_self a 38 _ (by show _ < a.tmps.size; omega))
          · obtain rfl := Option.some.inj ho
            have qg : a.tmps.getD 28 undef = .bool b1 := he _ (Array.mem_of_getElem? (i := 2) rfl) (by kernel_rfl) _ rfl
            cases b1 with
            | true =>
              refine wanted_off rfl (yielded_g (i := 11) rfl rfl (by show 28 < a.tmps.size; omega) qg) ?_
              exact hK undef u (Below.refl _ _) (getD_put_self a 39 _ (by show _ < a.tmps.size; omega))
            | false =>
              have q33 : a.tmps.getD 33 undef = .agg #[.int .i64 x.tk, .int .i64 x.ta] := he _ (Array.mem_of_getElem? (i := 0) rfl) (by kernel_rfl) _ rfl
              have q38 : a.tmps.getD 38 undef = .agg #[.int .i64 y.tk, .int .i64 y.ta] := he _ (Array.mem_of_getElem? (i := 1) rfl) (by kernel_rfl) _ rfl
              clear he
              have e2 := HB2.out
              rcases Bool.eq_false_or_eq_true (x.tk == y.tk) with t1 | t1 <;> rcases Bool.eq_false_or_eq_true (x.ta == y.ta) with t2 | t2
              all_goals (
                refine wanted_on rfl (yielded_g (i := 11) rfl rfl (by show 28 < a.tmps.size; omega) qg) ?_
                go_simp
                exact hK _ _ (Below.refl _ _) ((getD_put_self a 39 _ (by show _ < a.tmps.size; omega)).trans (by rw [← e2, t1, t2]; rfl)))
          · obtain rfl := Option.some.inj ho
            cases b1 with
            | true =>
              have q28 : a.tmps.getD 28 undef = .bool true := he _ (Array.mem_of_getElem? (i := 0) rfl) (by kernel_rfl) _ rfl
              clear he
              go_simp
              exact hK _ _ (Below.refl _ _) ((getD_put_self a 40 _ (by show _ < a.tmps.size; omega)).trans (by rw [HD2.out]; rfl))
            | false =>
              have q28 : a.tmps.getD 28 undef = .bool false := he _ (Array.mem_of_getElem? (i := 0) rfl) (by kernel_rfl) _ rfl
              have q39 : a.tmps.getD 39 undef = .bool b2 := he _ (Array.mem_of_getElem? (i := 1) rfl) (by kernel_rfl) _ rfl
              clear he
              go_simp
              exact hK _ _ (Below.refl _ _) ((getD_put_self a 40 _ (by show _ < a.tmps.size; omega)).trans (by rw [HD2.out]; rfl))
          · obtain rfl := Option.some.inj ho
            have q40 : a.tmps.getD 40 undef = .bool d2 := he _ (Array.mem_of_getElem? (i := 0) rfl) (by kernel_rfl) _ rfl
            clear he
            go_simp
            exact hK _ _ (Below.refl _ _) (getD_put_self a 41 _ (by show _ < a.tmps.size; omega))
          · obtain rfl := Option.some.inj ho
            have qg : a.tmps.getD 41 undef = .bool d2 := he _ (Array.mem_of_getElem? (i := 0) rfl) (by kernel_rfl) _ rfl
            cases d2 with
            | true =>
              refine wanted_off rfl (yielded_g (i := 24) rfl rfl (by show 41 < a.tmps.size; omega) qg) ?_
              exact hK undef u (Below.refl _ _) (getD_put_self a 42 _ (by show _ < a.tmps.size; omega))
            | false =>
              have q0 : a.tmps.getD 0 undef = .slice (some ⟨b, off, none⟩) ss.length cap := hf.at_ 0 (by kernel_rfl)
              clear he
              refine wanted_on rfl (yielded_g (i := 24) rfl rfl (by show 41 < a.tmps.size; omega) qg) ?_
              go_simp
              exact hK _ _ (Below.refl _ _) (getD_put_self a 42 _ (by show _ < a.tmps.size; omega))
          · obtain rfl := Option.some.inj ho
            have qg : a.tmps.getD 41 undef = .bool d2 := he _ (Array.mem_of_getElem? (i := 0) rfl) (by kernel_rfl) _ rfl
            cases d2 with
            | true =>
              refine wanted_off rfl (yielded_g (i := 24) rfl rfl (by show 41 < a.tmps.size; omega) qg) ?_
              exact hK undef u (Below.refl _ _) (getD_put_self a 43 _ (by show _ < a.tmps.size; omega))
            | false =>
              have q5 : a.tmps.getD 5 undef = .int .i64 j := hf.at_ 5 (by kernel_rfl)
              clear he
              refine wanted_on rfl (yielded_g (i := 24) rfl rfl (by show 41 < a.tmps.size; omega) qg) ?_
              go_simp
              exact hK _ _ (Below.refl _ _) (getD_put_self a 43 _ (by show _ < a.tmps.size; omega))
          · obtain rfl := Option.some.inj ho
            have qg : a.tmps.getD 41 undef = .bool d2 := he _ (Array.mem_of_getElem? (i := 2) rfl) (by kernel_rfl) _ rfl
            cases d2 with
            | true =>
              refine wanted_off rfl (yielded_g (i := 24) rfl rfl (by show 41 < a.tmps.size; omega) qg) ?_
              exact hK undef u (Below.refl _ _) (getD_put_self a 44 _ (by show _ < a.tmps.size; omega))
            | false =>
              have q42 : a.tmps.getD 42 undef = .slice (some ⟨b, off, none⟩) ss.length cap := he _ (Array.mem_of_getElem? (i := 0) rfl) (by kernel_rfl) _ rfl
              have q43 : a.tmps.getD 43 undef = .int .i64 j := he _ (Array.mem_of_getElem? (i := 1) rfl) (by kernel_rfl) _ rfl
              clear he
              refine wanted_on rfl (yielded_g (i := 24) rfl rfl (by show 41 < a.tmps.size; omega) qg) ?_
              go_simp
              exact hK _ _ (Below.refl _ _) (getD_put_self a 44 _ (by show _ < a.tmps.size; omega))
          · obtain rfl := Option.some.inj ho
            have qg : a.tmps.getD 41 undef = .bool d2 := he _ (Array.mem_of_getElem? (i := 1) rfl) (by kernel_rfl) _ rfl
            cases d2 with
            | true =>
              refine wanted_off rfl (yielded_g (i := 24) rfl rfl (by show 41 < a.tmps.size; omega) qg) ?_
              exact hK undef u (Below.refl _ _) (getD_put_self a 45 _ (by show _ < a.tmps.size; omega))
            | false =>
              have q44 : a.tmps.getD 44 undef = .pointer (some ⟨b, off + j * 10, none⟩) := he _ (Array.mem_of_getElem? (i := 0) rfl) (by kernel_rfl) _ rfl
              clear he
              refine wanted_on rfl (yielded_g (i := 24) rfl rfl (by show 41 < a.tmps.size; omega) qg) ?_
              go_simp
              exact hK _ _ (Below.refl _ _) (getD_put_self a 45 _ (by show _ < a.tmps.size; omega))
          · obtain rfl := Option.some.inj ho
            have qg : a.tmps.getD 41 undef = .bool d2 := he _ (Array.mem_of_getElem? (i := 1) rfl) (by kernel_rfl) _ rfl
            cases d2 with
            | true =>
              refine wanted_off rfl (yielded_g (i := 24) rfl rfl (by show 41 < a.tmps.size; omega) qg) ?_
              exact hK undef u (Below.refl _ _) (getD_put_self a 46 _ (by show _ < a.tmps.size; omega))
            | false =>
              have q45 : a.tmps.getD 45 undef = .pointer (some ⟨b, off + j * 10 + 3, none⟩) := he _ (Array.mem_of_getElem? (i := 0) rfl) (by kernel_rfl) _ rfl
              clear he
              obtain ⟨_, _, _, c3, c4, c5, c6, c7, _, _⟩ := h5.kept (hRw.block b (by omega))
              refine wanted_on rfl (yielded_g (i := 24) rfl rfl (by show 41 < a.tmps.size; omega) qg) ?_
              go_simp
              exact hK _ _ (Below.refl _ _) (getD_put_self a 46 _ (by show _ < a.tmps.size; omega))
          · obtain rfl := Option.some.inj ho
            have qg : a.tmps.getD 41 undef = .bool d2 := he _ (Array.mem_of_getElem? (i := 0) rfl) (by kernel_rfl) _ rfl
            cases d2 with
            | true =>
              refine wanted_off rfl (yielded_g (i := 24) rfl rfl (by show 41 < a.tmps.size; omega) qg) ?_
              exact hK undef u (Below.refl _ _) (getD_put_self a 47 _ (by show _ < a.tmps.size; omega))
            | false =>
              have q1 : a.tmps.getD 1 undef = .slice (some ⟨b', off', none⟩) ss'.length cap' := hf.at_ 1 (by kernel_rfl)
              clear he
              refine wanted_on rfl (yielded_g (i := 24) rfl rfl (by show 41 < a.tmps.size; omega) qg) ?_
              go_simp
              exact hK _ _ (Below.refl _ _) (getD_put_self a 47 _ (by show _ < a.tmps.size; omega))
          · obtain rfl := Option.some.inj ho
            have qg : a.tmps.getD 41 undef = .bool d2 := he _ (Array.mem_of_getElem? (i := 0) rfl) (by kernel_rfl) _ rfl
            cases d2 with
            | true =>
              refine wanted_off rfl (yielded_g (i := 24) rfl rfl (by show 41 < a.tmps.size; omega) qg) ?_
              exact hK undef u (Below.refl _ _) (getD_put_self a 48 _ (by show _ < a.tmps.size; omega))
            | false =>
              have q5 : a.tmps.getD 5 undef = .int .i64 j := hf.at_ 5 (by kernel_rfl)
              clear he
              refine wanted_on rfl (yielded_g (i := 24) rfl rfl (by show 41 < a.tmps.size; omega) qg) ?_
              go_simp
              exact hK _ _ (Below.refl _ _) (getD_put_self a 48 _ (by show _ < a.tmps.size; omega))
          · obtain rfl := Option.some.inj ho
            have qg : a.tmps.getD 41 undef = .bool d2 := he _ (Array.mem_of_getElem? (i := 2) rfl) (by kernel_rfl) _ rfl
            cases d2 with
            | true =>
              refine wanted_off rfl (yielded_g (i := 24) rfl rfl (by show 41 < a.tmps.size; omega) qg) ?_
              exact hK undef u (Below.refl _ _) (getD_put_self a 49 _ (by show _ < a.tmps.size; omega))
            | false =>
              have q47 : a.tmps.getD 47 undef = .slice (some ⟨b', off', none⟩) ss'.length cap' := he _ (Array.mem_of_getElem? (i := 0) rfl) (by kernel_rfl) _ rfl
              have q48 : a.tmps.getD 48 undef = .int .i64 j := he _ (Array.mem_of_getElem? (i := 1) rfl) (by kernel_rfl) _ rfl
              clear he
              refine wanted_on rfl (yielded_g (i := 24) rfl rfl (by show 41 < a.tmps.size; omega) qg) ?_
              go_simp
              exact hK _ _ (Below.refl _ _) (getD_put_self a 49 _ (by show _ < a.tmps.size; omega))
          · obtain rfl := Option.some.inj ho
            have qg : a.tmps.getD 41 undef = .bool d2 := he _ (Array.mem_of_getElem? (i := 1) rfl) (by kernel_rfl) _ rfl
            cases d2 with
            | true =>
              refine wanted_off rfl (yielded_g (i := 24) rfl rfl (by show 41 < a.tmps.size; omega) qg) ?_
              exact hK undef u (Below.refl _ _) (getD_put_self a 50 _ (by show _ < a.tmps.size; omega))
            | false =>
              have q49 : a.tmps.getD 49 undef = .pointer (some ⟨b', off' + j * 10, none⟩) := he _ (Array.mem_of_getElem? (i := 0) rfl) (by kernel_rfl) _ rfl
              clear he
              refine wanted_on rfl (yielded_g (i := 24) rfl rfl (by show 41 < a.tmps.size; omega) qg) ?_
              go_simp
              exact hK _ _ (Below.refl _ _) (getD_put_self a 50 _ (by show _ < a.tmps.size; omega))
          · obtain rfl := Option.some.inj ho
            have qg : a.tmps.getD 41 undef = .bool d2 := he _ (Array.mem_of_getElem? (i := 1) rfl) (by kernel_rfl) _ rfl
            cases d2 with
            | true =>
              refine wanted_off rfl (yielded_g (i := 24) rfl rfl (by show 41 < a.tmps.size; omega) qg) ?_
              exact hK undef u (Below.refl _ _) (getD_put_self a 51 _ (by show _ < a.tmps.size; omega))
            | false =>
              have q50 : a.tmps.getD 50 undef = .pointer (some ⟨b', off' + j * 10 + 3, none⟩) := he _ (Array.mem_of_getElem? (i := 0) rfl) (by kernel_rfl) _ rfl
              clear he
              obtain ⟨_, _, _, c3, c4, c5, c6, c7, _, _⟩ := h5'.kept (hRw.block b' (by omega))
              refine wanted_on rfl (yielded_g (i := 24) rfl rfl (by show 41 < a.tmps.size; omega) qg) ?_
              go_simp
              exact hK _ _ (Below.refl _ _) (getD_put_self a 51 _ (by show _ < a.tmps.size; omega))
          · obtain rfl := Option.some.inj ho
            have qg : a.tmps.getD 41 undef = .bool d2 := he _ (Array.mem_of_getElem? (i := 2) rfl) (by kernel_rfl) _ rfl
            cases d2 with
            | true =>
              refine wanted_off rfl (yielded_g (i := 24) rfl rfl (by show 41 < a.tmps.size; omega) qg) ?_
              exact hK undef u (Below.refl _ _) (getD_put_self a 52 _ (by show _ < a.tmps.size; omega))
            | false =>
              have q46 : a.tmps.getD 46 undef = .agg #[.int .i64 x.e.k, .int .i64 x.e.n, .int .i64 x.e.ak, .int .i64 x.e.at_, .slice a1x x.e.kids.length c1x] := he _ (Array.mem_of_getElem? (i := 0) rfl) (by kernel_rfl) _ rfl
              have q51 : a.tmps.getD 51 undef = .agg #[.int .i64 y.e.k, .int .i64 y.e.n, .int .i64 y.e.ak, .int .i64 y.e.at_, .slice a1y y.e.kids.length c1y] := he _ (Array.mem_of_getElem? (i := 1) rfl) (by kernel_rfl) _ rfl
              clear he
              refine wanted_on rfl (yielded_g (i := 24) rfl rfl (by show 41 < a.tmps.size; omega) qg) ?_
              go_simp
              refine (sExprAlike_any u lo hi lo' hi' _ _ x.e y.e ⟨_, rfl, hk1.under hRw hhi⟩ ⟨_, rfl, hl1.under hRw hhi'⟩ (by omega) (by omega)).mono ?_
              rintro e1 u' ⟨rr, rfl, hrr, hbu⟩
              obtain rfl : rr = r3 := eq_of_iff2 hrr HR3.out
              exact hK _ _ hbu (getD_put_self a 52 _ (by show _ < a.tmps.size; omega))
          · obtain rfl := Option.some.inj ho
            have qg : a.tmps.getD 41 undef = .bool d2 := he _ (Array.mem_of_getElem? (i := 1) rfl) (by kernel_rfl) _ rfl
            cases d2 with
            | true =>
              refine wanted_off rfl (yielded_g (i := 24) rfl rfl (by show 41 < a.tmps.size; omega) qg) ?_
              exact hK undef u (Below.refl _ _) (getD_put_self a 53 _ (by show _ < a.tmps.size; omega))
            | false =>
              have q52 : a.tmps.getD 52 undef = .bool r3 := he _ (Array.mem_of_getElem? (i := 0) rfl) (by kernel_rfl) _ rfl
              clear he
              refine wanted_on rfl (yielded_g (i := 24) rfl rfl (by show 41 < a.tmps.size; omega) qg) ?_
              go_simp
              exact hK _ _ (Below.refl _ _) (getD_put_self a 53 _ (by show _ < a.tmps.size; omega))
          · obtain rfl := Option.some.inj ho
            cases d2 with
            | true =>
              have q41 : a.tmps.getD 41 undef = .bool true := he _ (Array.mem_of_getElem? (i := 0) rfl) (by kernel_rfl) _ rfl
              clear he
              go_simp
              exact hK _ _ (Below.refl _ _) ((getD_put_self a 54 _ (by show _ < a.tmps.size; omega)).trans (by rw [HD3.out]; rfl))
            | false =>
              have q41 : a.tmps.getD 41 undef = .bool false := he _ (Array.mem_of_getElem? (i := 0) rfl) (by kernel_rfl) _ rfl
              have q53 : a.tmps.getD 53 undef = .bool (!r3) := he _ (Array.mem_of_getElem? (i := 1) rfl) (by kernel_rfl) _ rfl
              clear he
              go_simp
              exact hK _ _ (Below.refl _ _) ((getD_put_self a 54 _ (by show _ < a.tmps.size; omega)).trans (by rw [HD3.out]; rfl))
          · obtain rfl := Option.some.inj ho
            have q54 : a.tmps.getD 54 undef = .bool d3 := he _ (Array.mem_of_getElem? (i := 0) rfl) (by kernel_rfl) _ rfl
            clear he
            go_simp
            exact hK _ _ (Below.refl _ _) (getD_put_self a 55 _ (by show _ < a.tmps.size; omega))
          · obtain rfl := Option.some.inj ho
            have qg : a.tmps.getD 55 undef = .bool d3 := he _ (Array.mem_of_getElem? (i := 0) rfl) (by kernel_rfl) _ rfl
            cases d3 with
            | true =>
              refine wanted_off rfl (yielded_g (i := 38) rfl rfl (by show 55 < a.tmps.size; omega) qg) ?_
              exact hK undef u (Below.refl _ _) (getD_put_self a 56 _ (by show _ < a.tmps.size; omega))
            | false =>
              have q0 : a.tmps.getD 0 undef = .slice (some ⟨b, off, none⟩) ss.length cap := hf.at_ 0 (by kernel_rfl)
              clear he
              refine wanted_on rfl (yielded_g (i := 38) rfl rfl (by show 55 < a.tmps.size; omega) qg) ?_
              go_simp
              exact hK _ _ (Below.refl _ _) (getD_put_self a 56 _ (by show _ < a.tmps.size; omega))
          · obtain rfl := Option.some.inj ho
            have qg : a.tmps.getD 55 undef = .bool d3 := he _ (Array.mem_of_getElem? (i := 0) rfl) (by kernel_rfl) _ rfl
            cases d3 with
            | true =>
              refine wanted_off rfl (yielded_g (i := 38) rfl rfl (by show 55 < a.tmps.size; omega) qg) ?_
              exact hK undef u (Below.refl _ _) (getD_put_self a 57 _ (by show _ < a.tmps.size; omega))
            | false =>
              have q5 : a.tmps.getD 5 undef = .int .i64 j := hf.at_ 5 (by kernel_rfl)
              clear he
              refine wanted_on rfl (yielded_g (i := 38) rfl rfl (by show 55 < a.tmps.size; omega) qg) ?_
              go_simp
              exact hK _ _ (Below.refl _ _) (getD_put_self a 57 _ (by show _ < a.tmps.size; omega))
          · obtain rfl := Option.some.inj ho
            have qg : a.tmps.getD 55 undef = .bool d3 := he _ (Array.mem_of_getElem? (i := 2) rfl) (by kernel_rfl) _ rfl
            cases d3 with
            | true =>
              refine wanted_off rfl (yielded_g (i := 38) rfl rfl (by show 55 < a.tmps.size; omega) qg) ?_
              exact hK undef u (Below.refl _ _) (getD_put_self a 58 _ (by show _ < a.tmps.size; omega))
            | false =>
              have q56 : a.tmps.getD 56 undef = .slice (some ⟨b, off, none⟩) ss.length cap := he _ (Array.mem_of_getElem? (i := 0) rfl) (by kernel_rfl) _ rfl
              have q57 : a.tmps.getD 57 undef = .int .i64 j := he _ (Array.mem_of_getElem? (i := 1) rfl) (by kernel_rfl) _ rfl
              clear he
              refine wanted_on rfl (yielded_g (i := 38) rfl rfl (by show 55 < a.tmps.size; omega) qg) ?_
              go_simp
              exact hK _ _ (Below.refl _ _) (getD_put_self a 58 _ (by show _ < a.tmps.size; omega))
          · obtain rfl := Option.some.inj ho
            have qg : a.tmps.getD 55 undef = .bool d3 := he _ (Array.mem_of_getElem? (i := 1) rfl) (by kernel_rfl) _ rfl
            cases d3 with
            | true =>
              refine wanted_off rfl (yielded_g (i := 38) rfl rfl (by show 55 < a.tmps.size; omega) qg) ?_
              exact hK undef u (Below.refl _ _) (getD_put_self a 59 _ (by show _ < a.tmps.size; omega))
            | false =>
              have q58 : a.tmps.getD 58 undef = .pointer (some ⟨b, off + j * 10, none⟩) := he _ (Array.mem_of_getElem? (i := 0) rfl) (by kernel_rfl) _ rfl
              clear he
              refine wanted_on rfl (yielded_g (i := 38) rfl rfl (by show 55 < a.tmps.size; omega) qg) ?_
              go_simp
              exact hK _ _ (Below.refl _ _) (getD_put_self a 59 _ (by show _ < a.tmps.size; omega))
          · obtain rfl := Option.some.inj ho
            have qg : a.tmps.getD 55 undef = .bool d3 := he _ (Array.mem_of_getElem? (i := 1) rfl) (by kernel_rfl) _ rfl
            cases d3 with
            | true =>
              refine wanted_off rfl (yielded_g (i := 38) rfl rfl (by show 55 < a.tmps.size; omega) qg) ?_
              exact hK undef u (Below.refl _ _) (getD_put_self a 60 _ (by show _ < a.tmps.size; omega))
            | false =>
              have q59 : a.tmps.getD 59 undef = .pointer (some ⟨b, off + j * 10 + 8, none⟩) := he _ (Array.mem_of_getElem? (i := 0) rfl) (by kernel_rfl) _ rfl
              clear he
              obtain ⟨_, _, _, _, _, _, _, _, c8, _⟩ := h5.kept (hRw.block b (by omega))
              refine wanted_on rfl (yielded_g (i := 38) rfl rfl (by show 55 < a.tmps.size; omega) qg) ?_
              go_simp
              exact hK _ _ (Below.refl _ _) (getD_put_self a 60 _ (by show _ < a.tmps.size; omega))
          · obtain rfl := Option.some.inj ho
            have qg : a.tmps.getD 55 undef = .bool d3 := he _ (Array.mem_of_getElem? (i := 0) rfl) (by kernel_rfl) _ rfl
            cases d3 with
            | true =>
              refine wanted_off rfl (yielded_g (i := 38) rfl rfl (by show 55 < a.tmps.size; omega) qg) ?_
              exact hK undef u (Below.refl _ _) (getD_put_self a 61 _ (by show _ < a.tmps.size; omega))
            | false =>
              have q1 : a.tmps.getD 1 undef = .slice (some ⟨b', off', none⟩) ss'.length cap' := hf.at_ 1 (by kernel_rfl)
              clear he
              refine wanted_on rfl (yielded_g (i := 38) rfl rfl (by show 55 < a.tmps.size; omega) qg) ?_
              go_simp
              exact hK _ _ (Below.refl _ _) (getD_put_self a 61 _ (by show _ < a.tmps.size; omega))
          · obtain rfl := Option.some.inj ho
            have qg : a.tmps.getD 55 undef = .bool d3 := he _ (Array.mem_of_getElem? (i := 0) rfl) (by kernel_rfl) _ rfl
            cases d3 with
            | true =>
              refine wanted_off rfl (yielded_g (i := 38) rfl rfl (by show 55 < a.tmps.size; omega) qg) ?_
              exact hK undef u (Below.refl _ _) (getD_put_self a 62 _ (by show _ < a.tmps.size; omega))
            | false =>
              have q5 : a.tmps.getD 5 undef = .int .i64 j := hf.at_ 5 (by kernel_rfl)
              clear he
              refine wanted_on rfl (yielded_g (i := 38) rfl rfl (by show 55 < a.tmps.size; omega) qg) ?_
              go_simp
              exact hK _ _ (Below.refl _ _) (getD_put_self a 62 _ (by show _ < a.tmps.size; omega))
          · obtain rfl := Option.some.inj ho
            have qg : a.tmps.getD 55 undef = .bool d3 := he _ (Array.mem_of_getElem? (i := 2) rfl) (by kernel_rfl) _ rfl
            cases d3 with
            | true =>
              refine wanted_off rfl (yielded_g (i := 38) rfl rfl (by show 55 < a.tmps.size; omega) qg) ?_
              exact hK undef u (Below.refl _ _) (getD_put_self a 63 _ (by show _ < a.tmps.size; omega))
            | false =>
              have q61 : a.tmps.getD 61 undef = .slice (some ⟨b', off', none⟩) ss'.length cap' := he _ (Array.mem_of_getElem? (i := 0) rfl) (by kernel_rfl) _ rfl
              have q62 : a.tmps.getD 62 undef = .int .i64 j := he _ (Array.mem_of_getElem? (i := 1) rfl) (by kernel_rfl) _ rfl
              clear he
              refine wanted_on rfl (yielded_g (i := 38) rfl rfl (by show 55 < a.tmps.size; omega) qg) ?_
              go_simp
              exact hK _ _ (Below.refl _ _) (getD_put_self a 63 _ (by show _ < a.tmps.size; omega))
          · obtain rfl := Option.some.inj ho
            have qg : a.tmps.getD 55 undef = .bool d3 := he _ (Array.mem_of_getElem? (i := 1) rfl) (by kernel_rfl) _ rfl
            cases d3 with
            | true =>
              refine wanted_off rfl (yielded_g (i := 38) rfl rfl (by show 55 < a.tmps.size; omega) qg) ?_
              exact hK undef u (Below.refl _ _) (getD_put_self a 64 _ (by show _ < a.tmps.size; omega))
            | false =>
              have q63 : a.tmps.getD 63 undef = .pointer (some ⟨b', off' + j * 10, none⟩) := he _ (Array.mem_of_getElem? (i := 0) rfl) (by kernel_rfl) _ rfl
              clear he
              refine wanted_on rfl (yielded_g (i := 38) rfl rfl (by show 55 < a.tmps.size; omega) qg) ?_
              go_simp
              exact hK _ _ (Below.refl _ _) (getD_put_self a 64 _ (by show _ < a.tmps.size; omega))
          · obtain rfl := Option.some.inj ho
            have qg : a.tmps.getD 55 undef = .bool d3 := he _ (Array.mem_of_getElem? (i := 1) rfl) (by kernel_rfl) _ rfl
            cases d3 with
            | true =>
              refine wanted_off rfl (yielded_g (i := 38) rfl rfl (by show 55 < a.tmps.size; omega) qg) ?_
              exact hK undef u (Below.refl _ _) (getD_put_self a 65 _ (by show _ < a.tmps.size; omega))
            | false =>
              have q64 : a.tmps.getD 64 undef = .pointer (some ⟨b', off' + j * 10 + 8, none⟩) := he _ (Array.mem_of_getElem? (i := 0) rfl) (by kernel_rfl) _ rfl
              clear he
              obtain ⟨_, _, _, _, _, _, _, _, c8, _⟩ := h5'.kept (hRw.block b' (by omega))
              refine wanted_on rfl (yielded_g (i := 38) rfl rfl (by show 55 < a.tmps.size; omega) qg) ?_
              go_simp
              exact hK _ _ (Below.refl _ _) (getD_put_self a 65 _ (by show _ < a.tmps.size; omega))
          · obtain rfl := Option.some.inj ho
            have qg : a.tmps.getD 55 undef = .bool d3 := he _ (Array.mem_of_getElem? (i := 2) rfl) (by kernel_rfl) _ rfl
            cases d3 with
            | true =>
              refine wanted_off rfl (yielded_g (i := 38) rfl rfl (by show 55 < a.tmps.size; omega) qg) ?_
              exact hK undef u (Below.refl _ _) (getD_put_self a 66 _ (by show _ < a.tmps.size; omega))
            | false =>
              have q60 : a.tmps.getD 60 undef = .slice a2x x.th.length c2x := he _ (Array.mem_of_getElem? (i := 0) rfl) (by kernel_rfl) _ rfl
              have q65 : a.tmps.getD 65 undef = .slice a2y y.th.length c2y := he _ (Array.mem_of_getElem? (i := 1) rfl) (by kernel_rfl) _ rfl
              clear he
              refine wanted_on rfl (yielded_g (i := 38) rfl rfl (by show 55 < a.tmps.size; omega) qg) ?_
              go_simp
              refine (H _ (by omega) u lo hi lo' hi' _ _ x.th y.th (Nat.le_refl _) (hk2.under hRw hhi) (hl2'.under hRw hhi') (by omega) (by omega)).mono ?_
              rintro e1 u' ⟨rr, rfl, hrr, hbu⟩
              obtain rfl : rr = r4 := eq_of_iff2 hrr HR4.out
              exact hK _ _ hbu (getD_put_self a 66 _ (by show _ < a.tmps.size; omega))
          · obtain rfl := Option.some.inj ho
            have qg : a.tmps.getD 55 undef = .bool d3 := he _ (Array.mem_of_getElem? (i := 1) rfl) (by kernel_rfl) _ rfl
            cases d3 with
            | true =>
              refine wanted_off rfl (yielded_g (i := 38) rfl rfl (by show 55 < a.tmps.size; omega) qg) ?_
              exact hK undef u (Below.refl _ _) (getD_put_self a 67 _ (by show _ < a.tmps.size; omega))
            | false =>
              have q66 : a.tmps.getD 66 undef = .bool r4 := he _ (Array.mem_of_getElem? (i := 0) rfl) (by kernel_rfl) _ rfl
              clear he
              refine wanted_on rfl (yielded_g (i := 38) rfl rfl (by show 55 < a.tmps.size; omega) qg) ?_
              go_simp
              exact hK _ _ (Below.refl _ _) (getD_put_self a 67 _ (by show _ < a.tmps.size; omega))
          · obtain rfl := Option.some.inj ho
            cases d3 with
            | true =>
              have q55 : a.tmps.getD 55 undef = .bool true := he _ (Array.mem_of_getElem? (i := 0) rfl) (by kernel_rfl) _ rfl
              clear he
              go_simp
              exact hK _ _ (Below.refl _ _) ((getD_put_self a 68 _ (by show _ < a.tmps.size; omega)).trans (by rw [HD4.out]; rfl))
            | false =>
              have q55 : a.tmps.getD 55 undef = .bool false := he _ (Array.mem_of_getElem? (i := 0) rfl) (by kernel_rfl) _ rfl
              have q67 : a.tmps.getD 67 undef = .bool (!r4) := he _ (Array.mem_of_getElem? (i := 1) rfl) (by kernel_rfl) _ rfl
              clear he
              go_simp
              exact hK _ _ (Below.refl _ _) ((getD_put_self a 68 _ (by show _ < a.tmps.size; omega)).trans (by rw [HD4.out]; rfl))
          · obtain rfl := Option.some.inj ho
            have q68 : a.tmps.getD 68 undef = .bool d4 := he _ (Array.mem_of_getElem? (i := 0) rfl) (by kernel_rfl) _ rfl
            clear he
            go_simp
            exact hK _ _ (Below.refl _ _) (getD_put_self a 69 _ (by show _ < a.tmps.size; omega))
          · obtain rfl := Option.some.inj ho
            have qg : a.tmps.getD 69 undef = .bool d4 := he _ (Array.mem_of_getElem? (i := 0) rfl) (by kernel_rfl) _ rfl
            cases d4 with
            | true =>
              refine wanted_off rfl (yielded_g (i := 52) rfl rfl (by show 69 < a.tmps.size; omega) qg) ?_
              exact hK undef u (Below.refl _ _) (getD_put_self a 70 _ (by show _ < a.tmps.size; omega))
            | false =>
              have q0 : a.tmps.getD 0 undef = .slice (some ⟨b, off, none⟩) ss.length cap := hf.at_ 0 (by kernel_rfl)
              clear he
              refine wanted_on rfl (yielded_g (i := 52) rfl rfl (by show 69 < a.tmps.size; omega) qg) ?_
              go_simp
              exact hK _ _ (Below.refl _ _) (getD_put_self a 70 _ (by show _ < a.tmps.size; omega))
          · obtain rfl := Option.some.inj ho
            have qg : a.tmps.getD 69 undef = .bool d4 := he _ (Array.mem_of_getElem? (i := 0) rfl) (by kernel_rfl) _ rfl
            cases d4 with
            | true =>
              refine wanted_off rfl (yielded_g (i := 52) rfl rfl (by show 69 < a.tmps.size; omega) qg) ?_
              exact hK undef u (Below.refl _ _) (getD_put_self a 71 _ (by show _ < a.tmps.size; omega))
            | false =>
              have q5 : a.tmps.getD 5 undef = .int .i64 j := hf.at_ 5 (by kernel_rfl)
              clear he
              refine wanted_on rfl (yielded_g (i := 52) rfl rfl (by show 69 < a.tmps.size; omega) qg) ?_
              go_simp
              exact hK _ _ (Below.refl _ _) (getD_put_self a 71 _ (by show _ < a.tmps.size; omega))
          · obtain rfl := Option.some.inj ho
            have qg : a.tmps.getD 69 undef = .bool d4 := he _ (Array.mem_of_getElem? (i := 2) rfl) (by kernel_rfl) _ rfl
            cases d4 with
            | true =>
              refine wanted_off rfl (yielded_g (i := 52) rfl rfl (by show 69 < a.tmps.size; omega) qg) ?_
              exact hK undef u (Below.refl _ _) (getD_put_self a 72 _ (by show _ < a.tmps.size; omega))
            | false =>
              have q70 : a.tmps.getD 70 undef = .slice (some ⟨b, off, none⟩) ss.length cap := he _ (Array.mem_of_getElem? (i := 0) rfl) (by kernel_rfl) _ rfl
              have q71 : a.tmps.getD 71 undef = .int .i64 j := he _ (Array.mem_of_getElem? (i := 1) rfl) (by kernel_rfl) _ rfl
              clear he
              refine wanted_on rfl (yielded_g (i := 52) rfl rfl (by show 69 < a.tmps.size; omega) qg) ?_
              go_simp
              exact hK _ _ (Below.refl _ _) (getD_put_self a 72 _ (by show _ < a.tmps.size; omega))
          · obtain rfl := Option.some.inj ho
            have qg : a.tmps.getD 69 undef = .bool d4 := he _ (Array.mem_of_getElem? (i := 1) rfl) (by kernel_rfl) _ rfl
            cases d4 with
            | true =>
              refine wanted_off rfl (yielded_g (i := 52) rfl rfl (by show 69 < a.tmps.size; omega) qg) ?_
              exact hK undef u (Below.refl _ _) (getD_put_self a 73 _ (by show _ < a.tmps.size; omega))
            | false =>
              have q72 : a.tmps.getD 72 undef = .pointer (some ⟨b, off + j * 10, none⟩) := he _ (Array.mem_of_getElem? (i := 0) rfl) (by kernel_rfl) _ rfl
              clear he
              refine wanted_on rfl (yielded_g (i := 52) rfl rfl (by show 69 < a.tmps.size; omega) qg) ?_
              go_simp
              exact hK _ _ (Below.refl _ _) (getD_put_self a 73 _ (by show _ < a.tmps.size; omega))
          · obtain rfl := Option.some.inj ho
            have qg : a.tmps.getD 69 undef = .bool d4 := he _ (Array.mem_of_getElem? (i := 1) rfl) (by kernel_rfl) _ rfl
            cases d4 with
            | true =>
              refine wanted_off rfl (yielded_g (i := 52) rfl rfl (by show 69 < a.tmps.size; omega) qg) ?_
              exact hK undef u (Below.refl _ _) (getD_put_self a 74 _ (by show _ < a.tmps.size; omega))
            | false =>
              have q73 : a.tmps.getD 73 undef = .pointer (some ⟨b, off + j * 10 + 9, none⟩) := he _ (Array.mem_of_getElem? (i := 0) rfl) (by kernel_rfl) _ rfl
              clear he
              obtain ⟨_, _, _, _, _, _, _, _, _, c9⟩ := h5.kept (hRw.block b (by omega))
              refine wanted_on rfl (yielded_g (i := 52) rfl rfl (by show 69 < a.tmps.size; omega) qg) ?_
              go_simp
              exact hK _ _ (Below.refl _ _) (getD_put_self a 74 _ (by show _ < a.tmps.size; omega))
          · obtain rfl := Option.some.inj ho
            have qg : a.tmps.getD 69 undef = .bool d4 := he _ (Array.mem_of_getElem? (i := 0) rfl) (by kernel_rfl) _ rfl
            cases d4 with
            | true =>
              refine wanted_off rfl (yielded_g (i := 52) rfl rfl (by show 69 < a.tmps.size; omega) qg) ?_
              exact hK undef u (Below.refl _ _) (getD_put_self a 75 _ (by show _ < a.tmps.size; omega))
            | false =>
              have q1 : a.tmps.getD 1 undef = .slice (some ⟨b', off', none⟩) ss'.length cap' := hf.at_ 1 (by kernel_rfl)
              clear he
              refine wanted_on rfl (yielded_g (i := 52) rfl rfl (by show 69 < a.tmps.size; omega) qg) ?_
              go_simp
              exact hK _ _ (Below.refl _ _) (getD_put_self a 75 _ (by show _ < a.tmps.size; omega))
          · obtain rfl := Option.some.inj ho
            have qg : a.tmps.getD 69 undef = .bool d4 := he _ (Array.mem_of_getElem? (i := 0) rfl) (by kernel_rfl) _ rfl
            cases d4 with
            | true =>
              refine wanted_off rfl (yielded_g (i := 52) rfl rfl (by show 69 < a.tmps.size; omega) qg) ?_
              exact hK undef u (Below.refl _ _) (getD_put_self a 76 _ (by show _ < a.tmps.size; omega))
            | false =>
              have q5 : a.tmps.getD 5 undef = .int .i64 j := hf.at_ 5 (by kernel_rfl)
              clear he
              refine wanted_on rfl (yielded_g (i := 52) rfl rfl (by show 69 < a.tmps.size; omega) qg) ?_
              go_simp
              exact hK _ _ (Below.refl _ _) (getD_put_self a 76 _ (by show _ < a.tmps.size; omega))
          · obtain rfl := Option.some.inj ho
            have qg : a.tmps.getD 69 undef = .bool d4 := he _ (Array.mem_of_getElem? (i := 2) rfl) (by kernel_rfl) _ rfl
            cases d4 with
            | true =>
              refine wanted_off rfl (yielded_g (i := 52) rfl rfl (by show 69 < a.tmps.size; omega) qg) ?_
              exact hK undef u (Below.refl _ _) (getD_put_self a 77 _ (by show _ < a.tmps.size; omega))
            | false =>
              have q75 : a.tmps.getD 75 undef = .slice (some ⟨b', off', none⟩) ss'.length cap' := he _ (Array.mem_of_getElem? (i := 0) rfl) (by kernel_rfl) _ rfl
              have q76 : a.tmps.getD 76 undef = .int .i64 j := he _ (Array.mem_of_getElem? (i := 1) rfl) (by kernel_rfl) _ rfl
              clear he
              refine wanted_on rfl (yielded_g (i := 52) rfl rfl (by show 69 < a.tmps.size; omega) qg) ?_
              go_simp
              exact hK _ _ (Below.refl _ _) (getD_put_self a 77 _ (by show _ < a.tmps.size; omega))
          · obtain rfl := Option.some.inj ho
            have qg : a.tmps.getD 69 undef = .bool d4 := he _ (Array.mem_of_getElem? (i := 1) rfl) (by kernel_rfl) _ rfl
            cases d4 with
            | true =>
              refine wanted_off rfl (yielded_g (i := 52) rfl rfl (by show 69 < a.tmps.size; omega) qg) ?_
              exact hK undef u (Below.refl _ _) (getD_put_self a 78 _ (by show _ < a.tmps.size; omega))
            | false =>
              have q77 : a.tmps.getD 77 undef = .pointer (some ⟨b', off' + j * 10, none⟩) := he _ (Array.mem_of_getElem? (i := 0) rfl) (by kernel_rfl) _ rfl
              clear he
              refine wanted_on rfl (yielded_g (i := 52) rfl rfl (by show 69 < a.tmps.size; omega) qg) ?_
              go_simp
              exact hK _ _ (Below.refl _ _) (getD_put_self a 78 _ (by show _ < a.tmps.size; omega))
          · obtain rfl := Option.some.inj ho
            have qg : a.tmps.getD 69 undef = .bool d4 := he _ (Array.mem_of_getElem? (i := 1) rfl) (by kernel_rfl) _ rfl
            cases d4 with
            | true =>
              refine wanted_off rfl (yielded_g (i := 52) rfl rfl (by show 69 < a.tmps.size; omega) qg) ?_
              exact hK undef u (Below.refl _ _) (getD_put_self a 79 _ (by show _ < a.tmps.size; omega))
            | false =>
              have q78 : a.tmps.getD 78 undef = .pointer (some ⟨b', off' + j * 10 + 9, none⟩) := he _ (Array.mem_of_getElem? (i := 0) rfl) (by kernel_rfl) _ rfl
              clear he
              obtain ⟨_, _, _, _, _, _, _, _, _, c9⟩ := h5'.kept (hRw.block b' (by omega))
              refine wanted_on rfl (yielded_g (i := 52) rfl rfl (by show 69 < a.tmps.size; omega) qg) ?_
              go_simp
              exact hK _ _ (Below.refl _ _) (getD_put_self a 79 _ (by show _ < a.tmps.size; omega))
          · obtain rfl := Option.some.inj ho
            have qg : a.tmps.getD 69 undef = .bool d4 := he _ (Array.mem_of_getElem? (i := 2) rfl) (by kernel_rfl) _ rfl
            cases d4 with
            | true =>
              refine wanted_off rfl (yielded_g (i := 52) rfl rfl (by show 69 < a.tmps.size; omega) qg) ?_
              exact hK undef u (Below.refl _ _) (getD_put_self a 80 _ (by show _ < a.tmps.size; omega))
            | false =>
              have q74 : a.tmps.getD 74 undef = .slice a3x x.el.length c3x := he _ (Array.mem_of_getElem? (i := 0) rfl) (by kernel_rfl) _ rfl
              have q79 : a.tmps.getD 79 undef = .slice a3y y.el.length c3y := he _ (Array.mem_of_getElem? (i := 1) rfl) (by kernel_rfl) _ rfl
              clear he
              refine wanted_on rfl (yielded_g (i := 52) rfl rfl (by show 69 < a.tmps.size; omega) qg) ?_
              go_simp
              refine (H _ (by omega) u lo hi lo' hi' _ _ x.el y.el (Nat.le_refl _) (hk3.under hRw hhi) (hl3.under hRw hhi') (by omega) (by omega)).mono ?_
              rintro e1 u' ⟨rr, rfl, hrr, hbu⟩
              obtain rfl : rr = r5 := eq_of_iff2 hrr HR5.out
              exact hK _ _ hbu (getD_put_self a 80 _ (by show _ < a.tmps.size; omega))
          · obtain rfl := Option.some.inj ho
            have qg : a.tmps.getD 69 undef = .bool d4 := he _ (Array.mem_of_getElem? (i := 1) rfl) (by kernel_rfl) _ rfl
            cases d4 with
            | true =>
              refine wanted_off rfl (yielded_g (i := 52) rfl rfl (by show 69 < a.tmps.size; omega) qg) ?_
              exact hK undef u (Below.refl _ _) (getD_put_self a 81 _ (by show _ < a.tmps.size; omega))
            | false =>
              have q80 : a.tmps.getD 80 undef = .bool r5 := he _ (Array.mem_of_getElem? (i := 0) rfl) (by kernel_rfl) _ rfl
              clear he
              refine wanted_on rfl (yielded_g (i := 52) rfl rfl (by show 69 < a.tmps.size; omega) qg) ?_
              go_simp
              exact hK _ _ (Below.refl _ _) (getD_put_self a 81 _ (by show _ < a.tmps.size; omega))
          · obtain rfl := Option.some.inj ho
            cases d4 with
            | true =>
              have q69 : a.tmps.getD 69 undef = .bool true := he _ (Array.mem_of_getElem? (i := 0) rfl) (by kernel_rfl) _ rfl
              clear he
              go_simp
              exact hK _ _ (Below.refl _ _) ((getD_put_self a 82 _ (by show _ < a.tmps.size; omega)).trans (by rw [HD5.out]; rfl))
            | false =>
              have q69 : a.tmps.getD 69 undef = .bool false := he _ (Array.mem_of_getElem? (i := 0) rfl) (by kernel_rfl) _ rfl
              have q81 : a.tmps.getD 81 undef = .bool (!r5) := he _ (Array.mem_of_getElem? (i := 1) rfl) (by kernel_rfl) _ rfl
              clear he
              go_simp
              exact hK _ _ (Below.refl _ _) ((getD_put_self a 82 _ (by show _ < a.tmps.size; omega)).trans (by rw [HD5.out]; rfl))
          · exact absurd ho (by simp)
        · intro a u hf hR0 hp
          have hR : Grow wr u := (Below.drew (Below.refl _ _)).trans hR0
          have hRw : Below w.heap.size w u := hb.trans (hR.mono hsz)
          have m82 : a.tmps.getD 82 undef = .bool d5 := hp 65 _ rfl
          clear hp hR0 hR h5 h5' hk1 hk2 hk3 hl1 hl2' hl3
          obtain ⟨f, ea, hfv⟩ := act_lit a 83 hf.size
          have md : a.defers = [] := hf.defers
          rw [md] at ea
          have m0 := hf.at_ 0 (by kernel_rfl)
          have m1 := hf.at_ 1 (by kernel_rfl)
          have m2 := hf.at_ 2 (by kernel_rfl)
          have m3 := hf.at_ 3 (by kernel_rfl)
          have m4 := hf.at_ 4 (by kernel_rfl)
          have m5 := hf.at_ 5 (by kernel_rfl)
          have m6 := hf.at_ 6 (by kernel_rfl)
          have m7 := hf.at_ 7 (by kernel_rfl)
          have m8 := hf.at_ 8 (by kernel_rfl)
          have m9 := hf.at_ 9 (by kernel_rfl)
          have m10 := hf.at_ 10 (by kernel_rfl)
          have m11 := hf.at_ 11 (by kernel_rfl)
          have m12 := hf.at_ 12 (by kernel_rfl)
          have m13 := hf.at_ 13 (by kernel_rfl)
          have m14 := hf.at_ 14 (by kernel_rfl)
          have m15 := hf.at_ 15 (by kernel_rfl)
          have m16 := hf.at_ 16 (by kernel_rfl)
          rw [← hfv] at m0 m1 m2 m3 m4 m5 m6 m7 m8 m9 m10 m11 m12 m13 m14 m15 m16 m82
          simp only [Array.getD_eq_getD_getElem?, List.getElem?_toArray, List.getElem?_cons_succ, List.getElem?_cons_zero, Option.getD_some] at m0 m1 m2 m3 m4 m5 m6 m7 m8 m9 m10 m11 m12 m13 m14 m15 m16
          simp only [List.range, List.range.loop, List.map_cons, List.map_nil, m0, m1, m2, m3, m4, m5, m6, m7, m8, m9, m10, m11, m12, m13, m14, m15, m16, m82] at ea
          subst ea
          clear m0 m1 m2 m3 m4 m5 m6 m7 m8 m9 m10 m11 m12 m13 m14 m15 m16 m82 hfv md hf
          cases d5 with
          | true =>
            have HN : Hid (ss ≠ ss') := ne_at_stmt HXY.out.1 HXY.out.2 fun h => by have := HX5.out.2 h; cases this
            go_wp2
            go_ret
            exact ⟨false, rfl, by simp [HN.out], hRw⟩
          | false =>
            have HN : Hid (ss.take (j + 1) = ss'.take (j + 1)) := take_succ_eqT HT.out HXY.out.1 HXY.out.2 (HX5.out.1 rfl)
            go_wp2
            go_roundw
            case rel => exact ⟨j + 1, by omega, by go_num, hRw, HN.out⟩
            case measure => simp [intOf]; omega
      · have hje : j = ss.length := by omega
        subst hje
        have he : ss = ss' := by have := HT.out; rwa [List.take_length, HL.out, List.take_length] at this
        have HE : Hid (ss = ss') := he
        clear he
        go_wp2
        go_ret
        exact ⟨true, rfl, by simp [HE.out], hb⟩
  · have hl2 : ((ss.length : Int) != (ss'.length : Int)) = true := by simp; omega
    have HE : Hid (ss ≠ ss') := fun h => hl (by rw [h])
    go_enter Try.func15, Try.ntmps15
    go_wp2
    go_ret
    exact ⟨false, rfl, by simp [HE.out], Below.refl _ _⟩

theorem smT (n : Nat) : SmT n := by
  induction n using Nat.strongRecOn with
  | ind n ih => exact sameT_step ih

theorem sStmtsSame_any (w : World) (lo hi lo' hi' : Nat) (v v' : Value) (x y : List StmtD) (h : SR w lo hi v x) (h' : SR w lo' hi' v' y) (hhi : hi ≤ w.heap.size) (hhi' : hi' ≤ w.heap.size) :
    Calls Try.prog 15 #[v, v'] w fun e w' => ∃ r : Bool, e = .returned (.bool r) ∧ (r = true ↔ x = y) ∧ Below w.heap.size w w' :=
  smT _ w lo hi lo' hi' v v' x y (Nat.le_refl _) h h' hhi hhi'
end Go.Proofs.Ytaoiookfmgpmkaa
