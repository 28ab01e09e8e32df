/-
  What chapter 3's model ExprAlike (package spec) answers: whether two are the same in all parts.
-/
import Derived.Test.YtkeockippmmneaaGreatQS6
import Derived.Test.YtkeockippmmneaaGreatQS1
import Derived.Laws.StructEq
namespace Go.Proofs.YtkeockippmmneaaGreat
open Go.ChangeShapes Go.WideShapes Go.ChangeAt Go.RowKit
set_option linter.unusedVariables false

/-- What ExprAlike answers, of one whose kids have at most n parts. -/
def AlS (n : Nat) : Prop := ∀ (w : World) (lo hi lo' hi' : Nat) (x y : ExprD) (s s' : Value), manyL x.kids ≤ n → KR w lo hi s x.kids → KR w lo' hi' s' y.kids → hi ≤ w.heap.size → hi' ≤ w.heap.size →
  Calls Tryz.prog 59 #[.agg #[.int .i64 x.k, .int .i64 x.n, .int .i64 x.ak, .int .i64 x.at_, s], .agg #[.int .i64 y.k, .int .i64 y.n, .int .i64 y.ak, .int .i64 y.at_, s']] w fun e w' => ∃ r : Bool, e = .returned (.bool r) ∧ (r = true ↔ x = y) ∧ Below w.heap.size w w'

set_option maxHeartbeats 4000000 in
theorem alike_step {n : Nat} (H : ∀ m, m < n → AlS m) : AlS n := by
  intro w lo hi lo' hi' x y s s' hn h h' hhi hhi'
  obtain ⟨ad, cap, rfl, hc1, hc2⟩ := h.shape
  obtain ⟨ad', cap', rfl, hd1, hd2⟩ := h'.shape
  have hmx : x.kids.length ≤ 9223372036854775807 := by unfold maxLen at hc2; omega
  have hmy : y.kids.length ≤ 9223372036854775807 := by unfold maxLen at hd2; omega
  have b2 := fun o o' => ((Below.refl w.heap.size w).alloc (Nat.le_refl _) o).alloc (by simp) o'
  have HX : Hid (x = y ↔ x.k = y.k ∧ x.n = y.n ∧ x.ak = y.ak ∧ x.at_ = y.at_ ∧ x.kids = y.kids) := exprD_eq
  have HK : Hid (KR w lo hi (.slice ad x.kids.length cap) x.kids) := h
  have HK' : Hid (KR w lo' hi' (.slice ad' y.kids.length cap') y.kids) := h'
  have HN : Hid (manyL x.kids ≤ n) := hn
  clear h h' hn hc1 hc2 hd1 hd2
  by_cases q1 : x.k = y.k
  · have q1' : (x.k != y.k) = false := by simp [q1]
    by_cases q2 : x.n = y.n
    · have q2' : (x.n != y.n) = false := by simp [q2]
      by_cases q3 : x.ak = y.ak
      · have q3' : (x.ak == y.ak) = true := by simp [q3]
        by_cases q4 : x.at_ = y.at_
        · have q4' : (x.at_ == y.at_) = true := by simp [q4]
          by_cases q5 : x.kids.length = y.kids.length
          · have q5' : ((x.kids.length : Int) != (y.kids.length : Int)) = false := by simp; omega
            have Q : Hid (x.k = y.k ∧ x.n = y.n ∧ x.ak = y.ak ∧ x.at_ = y.at_ ∧ x.kids.length = y.kids.length) := ⟨q1, q2, q3, q4, q5⟩
            clear q1 q2 q3 q4 q5
            go_enter Tryz.func59, Tryz.ntmps59
            go_wp2_with fail
            obtain ⟨u0, hu0, G0, A0, B0, S0⟩ : ∃ u0, (w.alloc (.cells #[.int .i64 x.k, .int .i64 x.n, .int .i64 x.ak, .int .i64 x.at_, .slice ad x.kids.length cap] 42)).alloc (.cells #[.int .i64 y.k, .int .i64 y.n, .int .i64 y.ak, .int .i64 y.at_, .slice ad' y.kids.length cap'] 42) = u0 ∧ Below w.heap.size w u0 ∧ u0.cell? ⟨w.heap.size, 4, none⟩ = some (.slice ad x.kids.length cap) ∧ u0.cell? ⟨w.heap.size + 1, 4, none⟩ = some (.slice ad' y.kids.length cap') ∧ w.heap.size + 1 < u0.heap.size :=
              ⟨_, rfl, b2 _ _, World.cell?_alloc2_first _ _ _ _, World.cell?_alloc2_new _ _ _ _, by simp⟩
            rw [hu0]
            clear hu0
            go_loopw [5] (fun i wr => ∃ j : Nat, j ≤ x.kids.length ∧ i = .int .i64 j ∧ Below w.heap.size w wr ∧ wr.cell? ⟨w.heap.size, 4, none⟩ = some (.slice ad x.kids.length cap) ∧ wr.cell? ⟨w.heap.size + 1, 4, none⟩ = some (.slice ad' y.kids.length cap') ∧ w.heap.size + 1 < wr.heap.size ∧ x.kids.take j = y.kids.take j) (fun i _ => x.kids.length - (intOf i).toNat)
            case atStart => exact ⟨0, Nat.zero_le _, rfl, G0, A0, B0, S0, rfl⟩
            case round =>
              clear G0 A0 B0 S0
              obtain ⟨j, hj, rfl, hb, A, B, hs, ht⟩ := hrel
              have HT : Hid (x.kids.take j = y.kids.take j) := ht
              clear ht
              by_cases hlt : j < x.kids.length
              · have hlt' : j < y.kids.length := by rw [← Q.out.2.2.2.2]; exact hlt
                obtain ⟨p, hp⟩ : ∃ p, x.kids[j]? = some p := ⟨x.kids[j], List.getElem?_eq_getElem hlt⟩
                obtain ⟨q, hq⟩ : ∃ q, y.kids[j]? = some q := ⟨y.kids[j]'hlt', List.getElem?_eq_getElem hlt'⟩
                obtain ⟨b, off, cap1, s, hv, hb1, hb2, h5, hk⟩ := HK.out.at_ hp
                obtain ⟨b', off', cap1', s', hv', hb1', hb2', h5', hk'⟩ := HK'.out.at_ hq
                simp only [Value.slice.injEq, true_and] at hv hv'
                obtain ⟨rfl, rfl⟩ := hv
                obtain ⟨rfl, rfl⟩ := hv'
                have hkl := kid_lt hp
                have hnn := HN.out
                have hsz := hb.size
                have HP : Hid (x.kids[j]? = some p ∧ y.kids[j]? = some q) := ⟨hp, hq⟩
                clear hp hq
                obtain ⟨ads, cps, rfl, _, _⟩ := hk.shape
                obtain ⟨ads', cps', rfl, _, _⟩ := hk'.shape
                go_wp2_with fail
                refine wp_region_dag (R := Grow) (Φ := fun i v u => match i with
                    | 0 => v = .pointer (some ⟨w.heap.size, 4, none⟩)
                    | 1 => v = .slice (some ⟨b, off, none⟩) x.kids.length cap
                    | 2 => v = .int .i64 j
                    | 3 => v = .pointer (some ⟨b, off + j * 5, none⟩)
                    | 4 => v = .agg #[.int .i64 p.k, .int .i64 p.n, .int .i64 p.ak, .int .i64 p.at_, .slice ads p.kids.length cps]
                    | 5 => v = .pointer (some ⟨w.heap.size + 1, 4, none⟩)
                    | 6 => v = .slice (some ⟨b', off', none⟩) y.kids.length cap'
                    | 7 => v = .int .i64 j
                    | 8 => v = .pointer (some ⟨b', off' + j * 5, none⟩)
                    | 9 => v = .agg #[.int .i64 q.k, .int .i64 q.n, .int .i64 q.ak, .int .i64 q.at_, .slice ads' q.kids.length cps']
                    | 10 => ∃ r : Bool, v = .bool r ∧ (r = true ↔ p = q)
                    | 11 => ∃ r : Bool, v = .bool (!r) ∧ (r = true ↔ p = q)
                    | _ => True) (by kernel_rfl) (by kernel_rfl) (by kernel_rfl) (Below.refl _ _) grow_trans ?_ ?_ ?_
                · intro i v u u' hr
                  match i with
                  | 0 | 1 | 2 | 3 | 4 | 5 | 6 | 7 | 8 | 9 | 10 | 11 | _ + 12 => exact fun h => h
                · intro i o ho a u hf hR0 he K' hK
                  have hR : Grow wr u := (Below.drew (Below.refl _ _)).trans hR0
                  have hRw : Below w.heap.size w u := hb.trans (hR.mono hsz)
                  have hsz' : a.tmps.size = 53 := hf.size
                  have hus : wr.heap.size ≤ u.heap.size := hR.size
                  have putat : ∀ (t : Nat) (v : Value), t < a.tmps.size → (a.put (some t) v).tmps.getD t undef = v := fun t v ht => by
                    show (a.tmps.setIfInBounds t v).getD t undef = v
                    simp [ht]
                  rcases i with _ | _ | _ | _ | _ | _ | _ | _ | _ | _ | _ | _ | i
                  · obtain rfl := Option.some.inj ho
                    have f1 : a.tmps.getD 2 undef = .pointer (some ⟨w.heap.size, 0, none⟩) := hf.at_ 2 (by kernel_rfl)
                    clear he
                    go_simp
                    exact hK _ _ (Below.refl _ _) (putat 41 _ (by omega))
                  · obtain rfl := Option.some.inj ho
                    have f1 : a.tmps.getD 41 undef = .pointer (some ⟨w.heap.size, 4, none⟩) := he _ (Array.mem_of_getElem? (i := 0) rfl) (by kernel_rfl) _ rfl
                    have f2 := A
                    rw [← hR.cell (p := ⟨w.heap.size, 4, none⟩) (by show w.heap.size < _; omega)] at f2
                    clear he
                    go_simp
                    exact hK _ _ (Below.refl _ _) (putat 42 _ (by omega))
                  · obtain rfl := Option.some.inj ho
                    have f1 : a.tmps.getD 5 undef = .int .i64 j := hf.at_ 5 (by kernel_rfl)
                    clear he
                    go_simp
                    exact hK _ _ (Below.refl _ _) (putat 43 _ (by omega))
                  · obtain rfl := Option.some.inj ho
                    have f1 : a.tmps.getD 42 undef = .slice (some ⟨b, off, none⟩) x.kids.length cap := he _ (Array.mem_of_getElem? (i := 0) rfl) (by kernel_rfl) _ rfl
                    have f2 : a.tmps.getD 43 undef = .int .i64 j := he _ (Array.mem_of_getElem? (i := 1) rfl) (by kernel_rfl) _ rfl
                    clear he
                    go_simp
                    exact hK _ _ (Below.refl _ _) (putat 44 _ (by omega))
                  · obtain rfl := Option.some.inj ho
                    have f1 : a.tmps.getD 44 undef = .pointer (some ⟨b, off + j * 5, none⟩) := he _ (Array.mem_of_getElem? (i := 0) rfl) (by kernel_rfl) _ rfl
                    obtain ⟨c0, c1, c2, c3, c4⟩ := h5
                    rw [← hRw.cell (p := ⟨b, off + j * 5, none⟩) (by show b < _; omega)] at c0
                    rw [← hRw.cell (p := ⟨b, off + j * 5 + 1, none⟩) (by show b < _; omega)] at c1
                    rw [← hRw.cell (p := ⟨b, off + j * 5 + 2, none⟩) (by show b < _; omega)] at c2
                    rw [← hRw.cell (p := ⟨b, off + j * 5 + 3, none⟩) (by show b < _; omega)] at c3
                    rw [← hRw.cell (p := ⟨b, off + j * 5 + 4, none⟩) (by show b < _; omega)] at c4
                    clear he
                    go_simp
                    exact hK _ _ (Below.refl _ _) (putat 45 _ (by omega))
                  · obtain rfl := Option.some.inj ho
                    have f1 : a.tmps.getD 3 undef = .pointer (some ⟨w.heap.size + 1, 0, none⟩) := hf.at_ 3 (by kernel_rfl)
                    clear he
                    go_simp
                    exact hK _ _ (Below.refl _ _) (putat 46 _ (by omega))
                  · obtain rfl := Option.some.inj ho
                    have f1 : a.tmps.getD 46 undef = .pointer (some ⟨w.heap.size + 1, 4, none⟩) := he _ (Array.mem_of_getElem? (i := 0) rfl) (by kernel_rfl) _ rfl
                    have f2 := B
                    rw [← hR.cell (p := ⟨w.heap.size + 1, 4, none⟩) (by show w.heap.size + 1 < _; omega)] at f2
                    clear he
                    go_simp
                    exact hK _ _ (Below.refl _ _) (putat 47 _ (by omega))
                  · obtain rfl := Option.some.inj ho
                    have f1 : a.tmps.getD 5 undef = .int .i64 j := hf.at_ 5 (by kernel_rfl)
                    clear he
                    go_simp
                    exact hK _ _ (Below.refl _ _) (putat 48 _ (by omega))
                  · obtain rfl := Option.some.inj ho
                    have f1 : a.tmps.getD 47 undef = .slice (some ⟨b', off', none⟩) y.kids.length cap' := he _ (Array.mem_of_getElem? (i := 0) rfl) (by kernel_rfl) _ rfl
                    have f2 : a.tmps.getD 48 undef = .int .i64 j := he _ (Array.mem_of_getElem? (i := 1) rfl) (by kernel_rfl) _ rfl
                    clear he
                    go_simp
                    exact hK _ _ (Below.refl _ _) (putat 49 _ (by omega))
                  · obtain rfl := Option.some.inj ho
                    have f1 : a.tmps.getD 49 undef = .pointer (some ⟨b', off' + j * 5, none⟩) := he _ (Array.mem_of_getElem? (i := 0) rfl) (by kernel_rfl) _ rfl
                    obtain ⟨c0, c1, c2, c3, c4⟩ := h5'
                    rw [← hRw.cell (p := ⟨b', off' + j * 5, none⟩) (by show b' < _; omega)] at c0
                    rw [← hRw.cell (p := ⟨b', off' + j * 5 + 1, none⟩) (by show b' < _; omega)] at c1
                    rw [← hRw.cell (p := ⟨b', off' + j * 5 + 2, none⟩) (by show b' < _; omega)] at c2
                    rw [← hRw.cell (p := ⟨b', off' + j * 5 + 3, none⟩) (by show b' < _; omega)] at c3
                    rw [← hRw.cell (p := ⟨b', off' + j * 5 + 4, none⟩) (by show b' < _; omega)] at c4
                    clear he
                    go_simp
                    exact hK _ _ (Below.refl _ _) (putat 50 _ (by omega))
                  · obtain rfl := Option.some.inj ho
                    have f1 : a.tmps.getD 45 undef = .agg #[.int .i64 p.k, .int .i64 p.n, .int .i64 p.ak, .int .i64 p.at_, .slice ads p.kids.length cps] := he _ (Array.mem_of_getElem? (i := 0) rfl) (by kernel_rfl) _ rfl
                    have f2 : a.tmps.getD 50 undef = .agg #[.int .i64 q.k, .int .i64 q.n, .int .i64 q.ak, .int .i64 q.at_, .slice ads' q.kids.length cps'] := he _ (Array.mem_of_getElem? (i := 1) rfl) (by kernel_rfl) _ rfl
                    clear he
                    go_simp
                    refine (H (manyL p.kids) (by omega) u lo hi lo' hi' p q _ _ (Nat.le_refl _) (hk.under hRw hhi) (hk'.under hRw hhi') (by omega) (by omega)).mono ?_
                    rintro e u' ⟨r, rfl, hr, hbu⟩
                    exact hK _ _ hbu ⟨r, putat 51 _ (by omega), hr⟩
                  · obtain rfl := Option.some.inj ho
                    obtain ⟨r, f1, hr⟩ := he _ (Array.mem_of_getElem? (i := 0) rfl) (by kernel_rfl) _ rfl
                    have f1 : a.tmps.getD 51 undef = .bool r := f1
                    clear he
                    go_simp
                    exact hK _ _ (Below.refl _ _) ⟨r, putat 52 _ (by omega), hr⟩
                  · exact absurd ho (by simp)
                · intro a u hf hR0 hp
                  have hR : Grow wr u := (Below.drew (Below.refl _ _)).trans hR0
                  have hRw : Below w.heap.size w u := hb.trans (hR.mono hsz)
                  have md : a.defers = [] := hf.defers
                  obtain ⟨r, m52, hr⟩ := hp 11 _ rfl
                  have m52 : a.tmps.getD 52 undef = .bool (!r) := m52
                  rw [← hR.cell (p := ⟨w.heap.size, 4, none⟩) (by show w.heap.size < _; omega)] at A
                  rw [← hR.cell (p := ⟨w.heap.size + 1, 4, none⟩) (by show w.heap.size + 1 < _; omega)] at B
                  have hs2 : w.heap.size + 1 < u.heap.size := by have := hR.size; omega
                  obtain ⟨f, ea, hfv⟩ := act_lit a 53 hf.size
                  rw [← hfv] at m52
                  rw [md] at ea
                  have m0 := hf.at_ 0 (by kernel_rfl)
                  have m1 := hf.at_ 1 (by kernel_rfl)
                  have m2 := hf.at_ 2 (by kernel_rfl)
                  have m3 := hf.at_ 3 (by kernel_rfl)
                  have m4 := hf.at_ 4 (by kernel_rfl)
                  have m5 := hf.at_ 5 (by kernel_rfl)
                  have m6 := hf.at_ 6 (by kernel_rfl)
                  have m7 := hf.at_ 7 (by kernel_rfl)
                  have m8 := hf.at_ 8 (by kernel_rfl)
                  have m9 := hf.at_ 9 (by kernel_rfl)
                  have m10 := hf.at_ 10 (by kernel_rfl)
                  have m11 := hf.at_ 11 (by kernel_rfl)
                  have m12 := hf.at_ 12 (by kernel_rfl)
                  have m13 := hf.at_ 13 (by kernel_rfl)
                  have m14 := hf.at_ 14 (by kernel_rfl)
                  have m15 := hf.at_ 15 (by kernel_rfl)
                  have m16 := hf.at_ 16 (by kernel_rfl)
                  have m17 := hf.at_ 17 (by kernel_rfl)
                  have m18 := hf.at_ 18 (by kernel_rfl)
                  have m19 := hf.at_ 19 (by kernel_rfl)
                  have m20 := hf.at_ 20 (by kernel_rfl)
                  have m21 := hf.at_ 21 (by kernel_rfl)
                  have m22 := hf.at_ 22 (by kernel_rfl)
                  have m23 := hf.at_ 23 (by kernel_rfl)
                  have m24 := hf.at_ 24 (by kernel_rfl)
                  have m25 := hf.at_ 25 (by kernel_rfl)
                  have m26 := hf.at_ 26 (by kernel_rfl)
                  have m27 := hf.at_ 27 (by kernel_rfl)
                  have m28 := hf.at_ 28 (by kernel_rfl)
                  have m29 := hf.at_ 29 (by kernel_rfl)
                  have m30 := hf.at_ 30 (by kernel_rfl)
                  have m31 := hf.at_ 31 (by kernel_rfl)
                  have m32 := hf.at_ 32 (by kernel_rfl)
                  have m33 := hf.at_ 33 (by kernel_rfl)
                  rw [← hfv] at m0 m1 m2 m3 m4 m5 m6 m7 m8 m9 m10 m11 m12 m13 m14 m15 m16 m17 m18 m19 m20 m21 m22 m23 m24 m25 m26 m27 m28 m29 m30 m31 m32 m33
                  simp only [Array.getD_eq_getD_getElem?, List.getElem?_toArray, List.getElem?_cons_succ, List.getElem?_cons_zero, Option.getD_some] at m0 m1 m2 m3 m4 m5 m6 m7 m8 m9 m10 m11 m12 m13 m14 m15 m16 m17 m18 m19 m20 m21 m22 m23 m24 m25 m26 m27 m28 m29 m30 m31 m32 m33
                  cases r with
                  | true =>
                    simp only [List.range, List.range.loop, List.map_cons, List.map_nil, m0, m1, m2, m3, m4, m5, m6, m7, m8, m9, m10, m11, m12, m13, m14, m15, m16, m17, m18, m19, m20, m21, m22, m23, m24, m25, m26, m27, m28, m29, m30, m31, m32, m33, m52, Bool.not_true] at ea
                    subst ea
                    have HR : Hid (x.kids.take (j + 1) = y.kids.take (j + 1)) := take_succ_eq HT.out HP.out.1 HP.out.2 (hr.mp rfl)
                    clear hfv hf hp hR0 hR md hr h5 h5' hk hk'
                    go_wp2
                    go_roundw
                    case rel => exact ⟨j + 1, by omega, by go_num, hRw, A, B, hs2, HR.out⟩
                    case measure => simp [intOf]; omega
                  | false =>
                    simp only [List.range, List.range.loop, List.map_cons, List.map_nil, m0, m1, m2, m3, m4, m5, m6, m7, m8, m9, m10, m11, m12, m13, m14, m15, m16, m17, m18, m19, m20, m21, m22, m23, m24, m25, m26, m27, m28, m29, m30, m31, m32, m33, m52, Bool.not_false] at ea
                    subst ea
                    have HR : Hid (x ≠ y) := fun h => ne_at_expr HP.out.1 HP.out.2 (fun h => by have := hr.mpr h; cases this) (HX.out.mp h).2.2.2.2
                    clear hfv hf hp hR0 hR md hr h5 h5' hk hk'
                    go_wp2
                    go_ret
                    exact ⟨false, rfl, by simp [HR.out], hRw⟩
              · have hje : j = x.kids.length := by omega
                subst hje
                have he : x.kids = y.kids := by have := HT.out; rwa [List.take_length, Q.out.2.2.2.2, List.take_length] at this
                have HE : Hid (x = y) := HX.out.mpr ⟨Q.out.1, Q.out.2.1, Q.out.2.2.1, Q.out.2.2.2.1, he⟩
                clear he
                go_wp2
                go_ret
                exact ⟨true, rfl, by simp [HE.out], hb⟩
          · have q5' : ((x.kids.length : Int) != (y.kids.length : Int)) = true := by simp; omega
            have HR : Hid (x ≠ y) := fun h => q5 (by rw [(HX.out.mp h).2.2.2.2])
            clear q1 q2 q3 q4 q5
            go_enter Tryz.func59, Tryz.ntmps59
            go_wp2
            go_ret
            exact ⟨false, rfl, by simp [HR.out], b2 _ _⟩
        · have q4' : (x.at_ == y.at_) = false := by simp [q4]
          have HR : Hid (x ≠ y) := fun h => q4 (HX.out.mp h).2.2.2.1
          clear q1 q2 q3 q4
          go_enter Tryz.func59, Tryz.ntmps59
          go_wp2
          go_ret
          exact ⟨false, rfl, by simp [HR.out], b2 _ _⟩
      · have q3' : (x.ak == y.ak) = false := by simp [q3]
        have HR : Hid (x ≠ y) := fun h => q3 (HX.out.mp h).2.2.1
        clear q1 q2 q3
        go_enter Tryz.func59, Tryz.ntmps59
        go_wp2
        go_ret
        exact ⟨false, rfl, by simp [HR.out], b2 _ _⟩
    · have q2' : (x.n != y.n) = true := by simp [q2]
      have HR : Hid (x ≠ y) := fun h => q2 (HX.out.mp h).2.1
      clear q1 q2
      go_enter Tryz.func59, Tryz.ntmps59
      go_wp2
      go_ret
      exact ⟨false, rfl, by simp [HR.out], b2 _ _⟩
  · have q1' : (x.k != y.k) = true := by simp [q1]
    have HR : Hid (x ≠ y) := fun h => q1 (HX.out.mp h).1
    clear q1
    go_enter Tryz.func59, Tryz.ntmps59
    go_wp2
    go_ret
    exact ⟨false, rfl, by simp [HR.out], b2 _ _⟩

theorem alS (n : Nat) : AlS n := by
  induction n using Nat.strongRecOn with
  | ind n ih => exact alike_step ih

theorem sExprAlike_any (w : World) (lo hi lo' hi' : Nat) (v v' : Value) (x y : ExprD) (h : ER w lo hi v x) (h' : ER w lo' hi' v' y) (hhi : hi ≤ w.heap.size) (hhi' : hi' ≤ w.heap.size) :
    Calls Tryz.prog 59 #[v, v'] w fun e w' => ∃ r : Bool, e = .returned (.bool r) ∧ (r = true ↔ x = y) ∧ Below w.heap.size w w' := by
  obtain ⟨s, rfl, hk⟩ := h
  obtain ⟨s', rfl, hk'⟩ := h'
  exact alS _ w lo hi lo' hi' x y s s' (Nat.le_refl _) hk hk' hhi hhi'
end Go.Proofs.YtkeockippmmneaaGreat
