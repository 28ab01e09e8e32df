/-
  The model's ChartSame. (Written by our generator gen_chartsames.py.)
-/
import Derived.Test.YtaoiookfmgpmkaaChartSame
namespace Go.Proofs.Ytaoiookfmgpmkaa
open Go.ChangeShapes Go.WideShapes Go.ChangeAt Go.RowKit
set_option linter.unusedVariables false
set_option linter.unusedSimpArgs false
set_option maxRecDepth 100000

theorem some_bool (p : Prop) : ∃ r : Bool, r = true ↔ p := ⟨@decide p (Classical.propDecidable p), by simp⟩

set_option maxHeartbeats 16000000 in
theorem sChartSame_any (w : World) (lo hi lo' hi' : Nat) (va vb : Value) (c d : ChartD) (ha : HIc w lo hi va c) (hb' : HIc w lo' hi' vb d) (hhi : hi ≤ w.heap.size) (hhi' : hi' ≤ w.heap.size) :
    Calls Try.prog 17 #[va, vb] w fun e w' => ∃ r : Bool, e = .returned (.bool r) ∧ (r = true ↔ c = d) ∧ Below w.heap.size w w' := by
  have HE : Hid (c = d ↔ c.steps = d.steps ∧ c.ts = d.ts ∧ c.acts = d.acts) := chartD_eq
  obtain ⟨xa, xb, rfl, hxa, hxb⟩ := ha
  obtain ⟨ya, yb, rfl, hya, hyb⟩ := hb'
  obtain ⟨ad, cap, rfl, k1, k1'⟩ := hxa.shape
  obtain ⟨add, capd, rfl, k2, k2'⟩ := hxb.shape
  obtain ⟨ad', cap', rfl, k3, k3'⟩ := hya.shape
  obtain ⟨add', capd', rfl, k4, k4'⟩ := hyb.shape
  unfold maxLen at k1' k2' k3' k4'
  obtain ⟨xs, hxs⟩ : ∃ xs, c.ts = xs := ⟨_, rfl⟩
  obtain ⟨ys, hys⟩ : ∃ ys, d.ts = ys := ⟨_, rfl⟩
  obtain ⟨xd, hxd⟩ : ∃ xd, c.acts = xd := ⟨_, rfl⟩
  obtain ⟨yd, hyd⟩ : ∃ yd, d.acts = yd := ⟨_, rfl⟩
  obtain ⟨n1, hn1⟩ : ∃ k, c.steps = k := ⟨_, rfl⟩
  obtain ⟨n2, hn2⟩ : ∃ k, d.steps = k := ⟨_, rfl⟩
  rw [hxs, hys, hxd, hyd, hn1, hn2] at HE
  rw [hxs] at hxa k1
  rw [hys] at hya k3
  rw [hxd] at hxb k2
  rw [hyd] at hyb k4
  rw [hxs, hys, hxd, hyd, hn1, hn2]
  have HEE := HE
  clear hxs hys hxd hyd hn1 hn2
  have HK0 : Hid ((TR w lo hi (.slice ad xs.length cap) xs ∧ TR w lo' hi' (.slice ad' ys.length cap') ys) ∧ (GR actE w lo hi (.slice add xd.length capd) xd ∧ GR actE w lo' hi' (.slice add' yd.length capd') yd)) := ⟨⟨hxa, hya⟩, hxb, hyb⟩
  clear hxa hxb hya hyb

  by_cases hl : n1 = n2
  rotate_left
  · have hl0 : (n1 != n2) = true := by simp [hl]
    have HF : Hid (¬ c = d) := fun h => hl (by exact (HE.out.mp h).1)
    clear hl
    go_enter Try.func17, Try.ntmps17
    go_wp2_with (refine wpList_boxG (vs := [.int .i64 n1, .slice ad xs.length cap, .slice add xd.length capd]) rfl _ rfl rfl ?_)
    intro u1 g1 p1 s1
    go_wp2_with (refine wpList_boxG (vs := [.int .i64 n2, .slice ad' ys.length cap', .slice add' yd.length capd']) rfl _ rfl rfl ?_)
    intro w0 g2 qv s2
    have pv := p1.below g2 (by omega)
    have G2 := g1.trans (g2.mono (by omega))
    clear g1 g2 p1
    have b0 : w0.cell? ⟨w.heap.size, 0, none⟩ = some (.int .i64 n1) := pv.c 0 _ rfl
    have b1 : w0.cell? ⟨w.heap.size + 1, 0, none⟩ = some (.int .i64 n2) := qv.c 0 _ rfl
    have c0 : w0.cell? ⟨w.heap.size, 1, none⟩ = some (.slice ad xs.length cap) := pv.c 1 _ rfl
    have d0 : w0.cell? ⟨w.heap.size + 1, 1, none⟩ = some (.slice ad' ys.length cap') := qv.c 1 _ rfl
    have c1 : w0.cell? ⟨w.heap.size, 2, none⟩ = some (.slice add xd.length capd) := pv.c 2 _ rfl
    have d1 : w0.cell? ⟨w.heap.size + 1, 2, none⟩ = some (.slice add' yd.length capd') := qv.c 2 _ rfl
    go_wp2_with fail
    go_ret
    exact ⟨false, rfl, by simp [HF.out], G2⟩
  have hl0 : (n1 != n2) = false := by simp [hl]
  have HL0 : Hid (n1 = n2) := hl
  clear hl
  by_cases hl : xs.length = ys.length
  rotate_left
  · have hl2 : ((xs.length : Int) != (ys.length : Int)) = true := by simp; omega
    have HF : Hid (¬ c = d) := fun h => hl (by rw [(HE.out.mp h).2.1])
    clear hl
    go_enter Try.func17, Try.ntmps17
    go_wp2_with (refine wpList_boxG (vs := [.int .i64 n1, .slice ad xs.length cap, .slice add xd.length capd]) rfl _ rfl rfl ?_)
    intro u1 g1 p1 s1
    go_wp2_with (refine wpList_boxG (vs := [.int .i64 n2, .slice ad' ys.length cap', .slice add' yd.length capd']) rfl _ rfl rfl ?_)
    intro w0 g2 qv s2
    have pv := p1.below g2 (by omega)
    have G2 := g1.trans (g2.mono (by omega))
    clear g1 g2 p1
    have b0 : w0.cell? ⟨w.heap.size, 0, none⟩ = some (.int .i64 n1) := pv.c 0 _ rfl
    have b1 : w0.cell? ⟨w.heap.size + 1, 0, none⟩ = some (.int .i64 n2) := qv.c 0 _ rfl
    have c0 : w0.cell? ⟨w.heap.size, 1, none⟩ = some (.slice ad xs.length cap) := pv.c 1 _ rfl
    have d0 : w0.cell? ⟨w.heap.size + 1, 1, none⟩ = some (.slice ad' ys.length cap') := qv.c 1 _ rfl
    have c1 : w0.cell? ⟨w.heap.size, 2, none⟩ = some (.slice add xd.length capd) := pv.c 2 _ rfl
    have d1 : w0.cell? ⟨w.heap.size + 1, 2, none⟩ = some (.slice add' yd.length capd') := qv.c 2 _ rfl
    go_wp2_with fail
    go_ret
    exact ⟨false, rfl, by simp [HF.out], G2⟩
  have hl2 : ((xs.length : Int) != (ys.length : Int)) = false := by simp; omega
  have HL : Hid (xs.length = ys.length) := hl
  clear hl
  by_cases hl : xd.length = yd.length
  rotate_left
  · have hl3 : ((xd.length : Int) != (yd.length : Int)) = true := by simp; omega
    have HF : Hid (¬ c = d) := fun h => hl (by rw [(HE.out.mp h).2.2])
    clear hl
    go_enter Try.func17, Try.ntmps17
    go_wp2_with (refine wpList_boxG (vs := [.int .i64 n1, .slice ad xs.length cap, .slice add xd.length capd]) rfl _ rfl rfl ?_)
    intro u1 g1 p1 s1
    go_wp2_with (refine wpList_boxG (vs := [.int .i64 n2, .slice ad' ys.length cap', .slice add' yd.length capd']) rfl _ rfl rfl ?_)
    intro w0 g2 qv s2
    have pv := p1.below g2 (by omega)
    have G2 := g1.trans (g2.mono (by omega))
    clear g1 g2 p1
    have b0 : w0.cell? ⟨w.heap.size, 0, none⟩ = some (.int .i64 n1) := pv.c 0 _ rfl
    have b1 : w0.cell? ⟨w.heap.size + 1, 0, none⟩ = some (.int .i64 n2) := qv.c 0 _ rfl
    have c0 : w0.cell? ⟨w.heap.size, 1, none⟩ = some (.slice ad xs.length cap) := pv.c 1 _ rfl
    have d0 : w0.cell? ⟨w.heap.size + 1, 1, none⟩ = some (.slice ad' ys.length cap') := qv.c 1 _ rfl
    have c1 : w0.cell? ⟨w.heap.size, 2, none⟩ = some (.slice add xd.length capd) := pv.c 2 _ rfl
    have d1 : w0.cell? ⟨w.heap.size + 1, 2, none⟩ = some (.slice add' yd.length capd') := qv.c 2 _ rfl
    go_wp2_with fail
    go_ret
    exact ⟨false, rfl, by simp [HF.out], G2⟩
  have hl3 : ((xd.length : Int) != (yd.length : Int)) = false := by simp; omega
  have HLd : Hid (xd.length = yd.length) := hl
  clear hl
  go_enter Try.func17, Try.ntmps17
  go_wp2_with (refine wpList_boxG (vs := [.int .i64 n1, .slice ad xs.length cap, .slice add xd.length capd]) rfl _ rfl rfl ?_)
  intro u1 g1 p1 s1
  go_wp2_with (refine wpList_boxG (vs := [.int .i64 n2, .slice ad' ys.length cap', .slice add' yd.length capd']) rfl _ rfl rfl ?_)
  intro w0 g2 qv s2
  have pv := p1.below g2 (by omega)
  have G2 := g1.trans (g2.mono (by omega))
  clear g1 g2 p1
  have b0 : w0.cell? ⟨w.heap.size, 0, none⟩ = some (.int .i64 n1) := pv.c 0 _ rfl
  have b1 : w0.cell? ⟨w.heap.size + 1, 0, none⟩ = some (.int .i64 n2) := qv.c 0 _ rfl
  have c0 : w0.cell? ⟨w.heap.size, 1, none⟩ = some (.slice ad xs.length cap) := pv.c 1 _ rfl
  have d0 : w0.cell? ⟨w.heap.size + 1, 1, none⟩ = some (.slice ad' ys.length cap') := qv.c 1 _ rfl
  have c1 : w0.cell? ⟨w.heap.size, 2, none⟩ = some (.slice add xd.length capd) := pv.c 2 _ rfl
  have d1 : w0.cell? ⟨w.heap.size + 1, 2, none⟩ = some (.slice add' yd.length capd') := qv.c 2 _ rfl
  go_wp2_with fail
  clear c0 d0 c1 d1 b0 b1
  have HK : Hid (TR w0 lo hi (.slice ad xs.length cap) xs ∧ TR w0 lo' hi' (.slice ad' ys.length cap') ys) := ⟨HK0.out.1.1.under G2 hhi, HK0.out.1.2.under G2 hhi'⟩
  have HKd : Hid (GR actE w0 lo hi (.slice add xd.length capd) xd ∧ GR actE w0 lo' hi' (.slice add' yd.length capd') yd) := ⟨HK0.out.2.1.under G2 hhi, HK0.out.2.2.under G2 hhi'⟩
  clear HK0
  have hhi0 : hi ≤ w0.heap.size := by omega
  have hhi0' : hi' ≤ w0.heap.size := by omega
  go_loopw [5] (fun i wr => ∃ j : Nat, j ≤ xs.length ∧ i = .int .i64 j ∧ Below w0.heap.size w0 wr ∧ xs.take j = ys.take j) (fun i _ => xs.length - (intOf i).toNat)
  case atStart => exact ⟨0, Nat.zero_le _, rfl, Below.refl _ _, rfl⟩
  case round =>
    obtain ⟨j, hj, rfl, hb, htk⟩ := hrel
    have HT : Hid (xs.take j = ys.take j) := htk
    clear htk
    have hsz := hb.size
    have c0 : wr.cell? ⟨w.heap.size, 1, none⟩ = some (.slice ad xs.length cap) := (pv.below hb (by omega)).c 1 _ rfl
    by_cases hlt : j < xs.length
    · obtain ⟨x, hx⟩ : ∃ x, xs[j]? = some x := ⟨xs[j], List.getElem?_eq_getElem hlt⟩
      have hlt' : j < ys.length := by have := HL.out; omega
      obtain ⟨y, hy⟩ : ∃ y, ys[j]? = some y := ⟨ys[j], List.getElem?_eq_getElem hlt'⟩
      obtain ⟨b, off, capx, x1, y1, s1, hv, hb1, hb2, h5, hw⟩ := HK.out.1.at_ hx
      obtain ⟨b', off', capy, x2, y2, s2', hv', hb1', hb2', h5', hw'⟩ := HK.out.2.at_ hy
      simp only [Value.slice.injEq, true_and] at hv hv'
      obtain ⟨rfl, rfl⟩ := hv
      obtain ⟨rfl, rfl⟩ := hv'
      have HX : Hid (xs[j]? = some x ∧ ys[j]? = some y) := ⟨hx, hy⟩
      have HW : Hid (WayR w0 lo hi x1 y1 s1 x ∧ WayR w0 lo' hi' x2 y2 s2' y) := ⟨hw, hw'⟩
      have HTE : Hid (x = y ↔ x.fr = y.fr ∧ x.to = y.to ∧ x.e = y.e) := transD_eq
      obtain ⟨ax, cx, ay, cy, az, cz, rfl, rfl, rfl⟩ := hw.shape
      obtain ⟨bx, dx, by_, dy, bz, dz, rfl, rfl, rfl⟩ := hw'.shape
      clear hx hy hw hw'
      by_cases e1 : x.fr = y.fr
      rotate_left
      · have HD1 : Hid (decide (x.fr = y.fr) = false) := decide_eq_false e1
        have HF : Hid (¬ c = d) := fun h => ne_atW HX.out.1 HX.out.2 (fun h' => e1 (HTE.out.mp h').1) (HE.out.mp h).2.1
        clear e1
        go_wp2_with fail
        clear c0
        refine wp_region_dag (R := Grow) (Φ := fun i v u => match i with
            | 0 => v = .pointer (some ⟨w.heap.size, 1, none⟩)
            | 1 => v = .slice (some ⟨b, off, none⟩) xs.length cap
            | 2 => v = .int .i64 ((j : Nat) : Int)
            | 3 => v = .pointer (some ⟨b, off + j * 7, none⟩)
            | 4 => v = .pointer (some ⟨b, off + j * 7, none⟩)
            | 5 => v = .slice ax x.fr.length cx
            | 6 => v = .pointer (some ⟨w.heap.size + 1, 1, none⟩)
            | 7 => v = .slice (some ⟨b', off', none⟩) ys.length cap'
            | 8 => v = .int .i64 ((j : Nat) : Int)
            | 9 => v = .pointer (some ⟨b', off' + j * 7, none⟩)
            | 10 => v = .pointer (some ⟨b', off' + j * 7, none⟩)
            | 11 => v = .slice bx y.fr.length dx
            | 12 => v = .bool false
            | 13 => v = .bool true
            | 14 => v = .bool true
            | 15 => v = undef
            | 16 => v = undef
            | 17 => v = undef
            | 18 => v = undef
            | 19 => v = undef
            | 20 => v = undef
            | 21 => v = undef
            | 22 => v = undef
            | 23 => v = undef
            | 24 => v = undef
            | 25 => v = undef
            | 26 => v = undef
            | 27 => v = undef
            | 28 => v = undef
            | 29 => v = .bool true
            | 30 => v = .bool true
            | 31 => v = undef
            | 32 => v = undef
            | 33 => v = undef
            | 34 => v = undef
            | 35 => v = undef
            | 36 => v = undef
            | 37 => v = undef
            | 38 => v = undef
            | 39 => v = undef
            | 40 => v = undef
            | 41 => v = undef
            | 42 => v = undef
            | 43 => v = undef
            | 44 => v = undef
            | 45 => v = .bool true
            | _ => True) (by kernel_rfl) (by kernel_rfl) (by kernel_rfl) (Below.refl _ _) grow_trans ?_ ?_ ?_
        · intro i v u u' hr
          match i with
          | 0 | 1 | 2 | 3 | 4 | 5 | 6 | 7 | 8 | 9 | 10 | 11 | 12 | 13 | 14 | 15 | 16 | 17 | 18 | 19 | 20 | 21 | 22 | 23 | 24 | 25 | 26 | 27 | 28 | 29 | 30 | 31 | 32 | 33 | 34 | 35 | 36 | 37 | 38 | 39 | 40 | 41 | 42 | 43 | 44 | 45 | _ + 46 => exact fun h => h
        · intro i o ho a u hf hR0 he K' hK
          have hR : Grow wr u := (Below.drew (Below.refl _ _)).trans hR0
          have hsz' : a.tmps.size = 101 := hf.size
          have hus := hR.size
          rcases i with _ | _ | _ | _ | _ | _ | _ | _ | _ | _ | _ | _ | _ | _ | _ | _ | _ | _ | _ | _ | _ | _ | _ | _ | _ | _ | _ | _ | _ | _ | _ | _ | _ | _ | _ | _ | _ | _ | _ | _ | _ | _ | _ | _ | _ | _ | i
          · obtain rfl := Option.some.inj ho
            have q2 : a.tmps.getD 2 undef = .pointer (some ⟨w.heap.size, 0, none⟩) := hf.at_ 2 (by kernel_rfl)
            clear he
            go_simp
            exact hK _ _ (Below.refl _ _) (getD_put_self a 37 _ (by show _ < a.tmps.size; omega))
          · obtain rfl := Option.some.inj ho
            have q37 : a.tmps.getD 37 undef = .pointer (some ⟨w.heap.size, 1, none⟩) := he _ (Array.mem_of_getElem? (i := 0) rfl) (by kernel_rfl) _ rfl
            clear he
            have cc : u.cell? ⟨w.heap.size, 1, none⟩ = some (.slice (some ⟨b, off, none⟩) xs.length cap) := (pv.below (hb.trans (hR.mono hsz)) (by omega)).c 1 _ rfl
            go_simp
            exact hK _ _ (Below.refl _ _) (getD_put_self a 38 _ (by show _ < a.tmps.size; omega))
          · obtain rfl := Option.some.inj ho
            have q5 : a.tmps.getD 5 undef = .int .i64 ((j : Nat) : Int) := hf.at_ 5 (by kernel_rfl)
            clear he
            go_simp
            exact hK _ _ (Below.refl _ _) (getD_put_self a 39 _ (by show _ < a.tmps.size; omega))
          · obtain rfl := Option.some.inj ho
            have q38 : a.tmps.getD 38 undef = .slice (some ⟨b, off, none⟩) xs.length cap := he _ (Array.mem_of_getElem? (i := 0) rfl) (by kernel_rfl) _ rfl
            have q39 : a.tmps.getD 39 undef = .int .i64 ((j : Nat) : Int) := he _ (Array.mem_of_getElem? (i := 1) rfl) (by kernel_rfl) _ rfl
            clear he
            go_simp
            exact hK _ _ (Below.refl _ _) (getD_put_self a 40 _ (by show _ < a.tmps.size; omega))
          · obtain rfl := Option.some.inj ho
            have q40 : a.tmps.getD 40 undef = .pointer (some ⟨b, off + j * 7, none⟩) := he _ (Array.mem_of_getElem? (i := 0) rfl) (by kernel_rfl) _ rfl
            clear he
            go_simp
            exact hK _ _ (Below.refl _ _) (getD_put_self a 41 _ (by show _ < a.tmps.size; omega))
          · obtain rfl := Option.some.inj ho
            have q41 : a.tmps.getD 41 undef = .pointer (some ⟨b, off + j * 7, none⟩) := he _ (Array.mem_of_getElem? (i := 0) rfl) (by kernel_rfl) _ rfl
            clear he
            have cc : u.cell? ⟨b, off + j * 7, none⟩ = some (.slice ax x.fr.length cx) := (h5.kept ((hb.trans (hR.mono hsz)).block b (by omega))) 0 _ rfl
            go_simp
            exact hK _ _ (Below.refl _ _) (getD_put_self a 42 _ (by show _ < a.tmps.size; omega))
          · obtain rfl := Option.some.inj ho
            have q3 : a.tmps.getD 3 undef = .pointer (some ⟨w.heap.size + 1, 0, none⟩) := hf.at_ 3 (by kernel_rfl)
            clear he
            go_simp
            exact hK _ _ (Below.refl _ _) (getD_put_self a 43 _ (by show _ < a.tmps.size; omega))
          · obtain rfl := Option.some.inj ho
            have q43 : a.tmps.getD 43 undef = .pointer (some ⟨w.heap.size + 1, 1, none⟩) := he _ (Array.mem_of_getElem? (i := 0) rfl) (by kernel_rfl) _ rfl
            clear he
            have cc : u.cell? ⟨w.heap.size + 1, 1, none⟩ = some (.slice (some ⟨b', off', none⟩) ys.length cap') := (qv.below (hb.trans (hR.mono hsz)) (by omega)).c 1 _ rfl
            go_simp
            exact hK _ _ (Below.refl _ _) (getD_put_self a 44 _ (by show _ < a.tmps.size; omega))
          · obtain rfl := Option.some.inj ho
            have q5 : a.tmps.getD 5 undef = .int .i64 ((j : Nat) : Int) := hf.at_ 5 (by kernel_rfl)
            clear he
            go_simp
            exact hK _ _ (Below.refl _ _) (getD_put_self a 45 _ (by show _ < a.tmps.size; omega))
          · obtain rfl := Option.some.inj ho
            have q44 : a.tmps.getD 44 undef = .slice (some ⟨b', off', none⟩) ys.length cap' := he _ (Array.mem_of_getElem? (i := 0) rfl) (by kernel_rfl) _ rfl
            have q45 : a.tmps.getD 45 undef = .int .i64 ((j : Nat) : Int) := he _ (Array.mem_of_getElem? (i := 1) rfl) (by kernel_rfl) _ rfl
            clear he
            go_simp
            exact hK _ _ (Below.refl _ _) (getD_put_self a 46 _ (by show _ < a.tmps.size; omega))
          · obtain rfl := Option.some.inj ho
            have q46 : a.tmps.getD 46 undef = .pointer (some ⟨b', off' + j * 7, none⟩) := he _ (Array.mem_of_getElem? (i := 0) rfl) (by kernel_rfl) _ rfl
            clear he
            go_simp
            exact hK _ _ (Below.refl _ _) (getD_put_self a 47 _ (by show _ < a.tmps.size; omega))
          · obtain rfl := Option.some.inj ho
            have q47 : a.tmps.getD 47 undef = .pointer (some ⟨b', off' + j * 7, none⟩) := he _ (Array.mem_of_getElem? (i := 0) rfl) (by kernel_rfl) _ rfl
            clear he
            have cc : u.cell? ⟨b', off' + j * 7, none⟩ = some (.slice bx y.fr.length dx) := (h5'.kept ((hb.trans (hR.mono hsz)).block b' (by omega))) 0 _ rfl
            go_simp
            exact hK _ _ (Below.refl _ _) (getD_put_self a 48 _ (by show _ < a.tmps.size; omega))
          · obtain rfl := Option.some.inj ho
            have q42 : a.tmps.getD 42 undef = .slice ax x.fr.length cx := he _ (Array.mem_of_getElem? (i := 0) rfl) (by kernel_rfl) _ rfl
            have q48 : a.tmps.getD 48 undef = .slice bx y.fr.length dx := he _ (Array.mem_of_getElem? (i := 1) rfl) (by kernel_rfl) _ rfl
            have hcall := l2IntsC_any u lo hi lo' hi' _ _ x.fr y.fr (HW.out.1.under (hb.trans (hR.mono hsz)) hhi0).fr (HW.out.2.under (hb.trans (hR.mono hsz)) hhi0').fr
            rw [HD1.out] at hcall
            clear he
            go_simp
            refine hcall.mono ?_
            rintro e1 u' ⟨m9, rfl, hm9⟩
            have hbu : Below u.heap.size u u' := by rw [hm9]; exact below_drewN (Below.refl _ _) m9
            exact hK _ _ hbu (getD_put_self a 49 _ (by show _ < a.tmps.size; omega))
          · obtain rfl := Option.some.inj ho
            have q49 : a.tmps.getD 49 undef = .bool false := he _ (Array.mem_of_getElem? (i := 0) rfl) (by kernel_rfl) _ rfl
            clear he
            go_simp
            exact hK _ _ (Below.refl _ _) (getD_put_self a 50 _ (by show _ < a.tmps.size; omega))
          · obtain rfl := Option.some.inj ho
            have q50 : a.tmps.getD 50 undef = .bool true := he _ (Array.mem_of_getElem? (i := 0) rfl) (by kernel_rfl) _ rfl
            clear he
            go_simp
            exact hK _ _ (Below.refl _ _) (getD_put_self a 51 _ (by show _ < a.tmps.size; omega))
          · obtain rfl := Option.some.inj ho
            have q51 : a.tmps.getD 51 undef = .bool true := he _ (Array.mem_of_getElem? (i := 0) rfl) (by kernel_rfl) _ rfl
            refine wanted_off rfl (yielded_g (i := 14) rfl rfl (by show 51 < a.tmps.size; omega) q51) ?_
            exact hK undef u (Below.refl _ _) (getD_put_self a 52 _ (by show _ < a.tmps.size; omega))
          · obtain rfl := Option.some.inj ho
            have q51 : a.tmps.getD 51 undef = .bool true := he _ (Array.mem_of_getElem? (i := 1) rfl) (by kernel_rfl) _ rfl
            refine wanted_off rfl (yielded_g (i := 14) rfl rfl (by show 51 < a.tmps.size; omega) q51) ?_
            exact hK undef u (Below.refl _ _) (getD_put_self a 53 _ (by show _ < a.tmps.size; omega))
          · obtain rfl := Option.some.inj ho
            have q51 : a.tmps.getD 51 undef = .bool true := he _ (Array.mem_of_getElem? (i := 0) rfl) (by kernel_rfl) _ rfl
            refine wanted_off rfl (yielded_g (i := 14) rfl rfl (by show 51 < a.tmps.size; omega) q51) ?_
            exact hK undef u (Below.refl _ _) (getD_put_self a 54 _ (by show _ < a.tmps.size; omega))
          · obtain rfl := Option.some.inj ho
            have q51 : a.tmps.getD 51 undef = .bool true := he _ (Array.mem_of_getElem? (i := 2) rfl) (by kernel_rfl) _ rfl
            refine wanted_off rfl (yielded_g (i := 14) rfl rfl (by show 51 < a.tmps.size; omega) q51) ?_
            exact hK undef u (Below.refl _ _) (getD_put_self a 55 _ (by show _ < a.tmps.size; omega))
          · obtain rfl := Option.some.inj ho
            have q51 : a.tmps.getD 51 undef = .bool true := he _ (Array.mem_of_getElem? (i := 1) rfl) (by kernel_rfl) _ rfl
            refine wanted_off rfl (yielded_g (i := 14) rfl rfl (by show 51 < a.tmps.size; omega) q51) ?_
            exact hK undef u (Below.refl _ _) (getD_put_self a 56 _ (by show _ < a.tmps.size; omega))
          · obtain rfl := Option.some.inj ho
            have q51 : a.tmps.getD 51 undef = .bool true := he _ (Array.mem_of_getElem? (i := 1) rfl) (by kernel_rfl) _ rfl
            refine wanted_off rfl (yielded_g (i := 14) rfl rfl (by show 51 < a.tmps.size; omega) q51) ?_
            exact hK undef u (Below.refl _ _) (getD_put_self a 57 _ (by show _ < a.tmps.size; omega))
          · obtain rfl := Option.some.inj ho
            have q51 : a.tmps.getD 51 undef = .bool true := he _ (Array.mem_of_getElem? (i := 0) rfl) (by kernel_rfl) _ rfl
            refine wanted_off rfl (yielded_g (i := 14) rfl rfl (by show 51 < a.tmps.size; omega) q51) ?_
            exact hK undef u (Below.refl _ _) (getD_put_self a 58 _ (by show _ < a.tmps.size; omega))
          · obtain rfl := Option.some.inj ho
            have q51 : a.tmps.getD 51 undef = .bool true := he _ (Array.mem_of_getElem? (i := 1) rfl) (by kernel_rfl) _ rfl
            refine wanted_off rfl (yielded_g (i := 14) rfl rfl (by show 51 < a.tmps.size; omega) q51) ?_
            exact hK undef u (Below.refl _ _) (getD_put_self a 59 _ (by show _ < a.tmps.size; omega))
          · obtain rfl := Option.some.inj ho
            have q51 : a.tmps.getD 51 undef = .bool true := he _ (Array.mem_of_getElem? (i := 0) rfl) (by kernel_rfl) _ rfl
            refine wanted_off rfl (yielded_g (i := 14) rfl rfl (by show 51 < a.tmps.size; omega) q51) ?_
            exact hK undef u (Below.refl _ _) (getD_put_self a 60 _ (by show _ < a.tmps.size; omega))
          · obtain rfl := Option.some.inj ho
            have q51 : a.tmps.getD 51 undef = .bool true := he _ (Array.mem_of_getElem? (i := 2) rfl) (by kernel_rfl) _ rfl
            refine wanted_off rfl (yielded_g (i := 14) rfl rfl (by show 51 < a.tmps.size; omega) q51) ?_
            exact hK undef u (Below.refl _ _) (getD_put_self a 61 _ (by show _ < a.tmps.size; omega))
          · obtain rfl := Option.some.inj ho
            have q51 : a.tmps.getD 51 undef = .bool true := he _ (Array.mem_of_getElem? (i := 1) rfl) (by kernel_rfl) _ rfl
            refine wanted_off rfl (yielded_g (i := 14) rfl rfl (by show 51 < a.tmps.size; omega) q51) ?_
            exact hK undef u (Below.refl _ _) (getD_put_self a 62 _ (by show _ < a.tmps.size; omega))
          · obtain rfl := Option.some.inj ho
            have q51 : a.tmps.getD 51 undef = .bool true := he _ (Array.mem_of_getElem? (i := 1) rfl) (by kernel_rfl) _ rfl
            refine wanted_off rfl (yielded_g (i := 14) rfl rfl (by show 51 < a.tmps.size; omega) q51) ?_
            exact hK undef u (Below.refl _ _) (getD_put_self a 63 _ (by show _ < a.tmps.size; omega))
          · obtain rfl := Option.some.inj ho
            have q51 : a.tmps.getD 51 undef = .bool true := he _ (Array.mem_of_getElem? (i := 2) rfl) (by kernel_rfl) _ rfl
            refine wanted_off rfl (yielded_g (i := 14) rfl rfl (by show 51 < a.tmps.size; omega) q51) ?_
            exact hK undef u (Below.refl _ _) (getD_put_self a 64 _ (by show _ < a.tmps.size; omega))
          · obtain rfl := Option.some.inj ho
            have q51 : a.tmps.getD 51 undef = .bool true := he _ (Array.mem_of_getElem? (i := 1) rfl) (by kernel_rfl) _ rfl
            refine wanted_off rfl (yielded_g (i := 14) rfl rfl (by show 51 < a.tmps.size; omega) q51) ?_
            exact hK undef u (Below.refl _ _) (getD_put_self a 65 _ (by show _ < a.tmps.size; omega))
          · obtain rfl := Option.some.inj ho
            have q51 : a.tmps.getD 51 undef = .bool true := he _ (Array.mem_of_getElem? (i := 0) rfl) (by kernel_rfl) _ rfl
            have q65 : a.tmps.getD 65 undef = undef := he _ (Array.mem_of_getElem? (i := 1) rfl) (by kernel_rfl) _ rfl
            clear he
            go_simp
            exact hK _ _ (Below.refl _ _) (getD_put_self a 66 _ (by show _ < a.tmps.size; omega))
          · obtain rfl := Option.some.inj ho
            have q66 : a.tmps.getD 66 undef = .bool true := he _ (Array.mem_of_getElem? (i := 0) rfl) (by kernel_rfl) _ rfl
            clear he
            go_simp
            exact hK _ _ (Below.refl _ _) (getD_put_self a 67 _ (by show _ < a.tmps.size; omega))
          · obtain rfl := Option.some.inj ho
            have q67 : a.tmps.getD 67 undef = .bool true := he _ (Array.mem_of_getElem? (i := 0) rfl) (by kernel_rfl) _ rfl
            refine wanted_off rfl (yielded_g (i := 30) rfl rfl (by show 67 < a.tmps.size; omega) q67) ?_
            exact hK undef u (Below.refl _ _) (getD_put_self a 68 _ (by show _ < a.tmps.size; omega))
          · obtain rfl := Option.some.inj ho
            have q67 : a.tmps.getD 67 undef = .bool true := he _ (Array.mem_of_getElem? (i := 1) rfl) (by kernel_rfl) _ rfl
            refine wanted_off rfl (yielded_g (i := 30) rfl rfl (by show 67 < a.tmps.size; omega) q67) ?_
            exact hK undef u (Below.refl _ _) (getD_put_self a 69 _ (by show _ < a.tmps.size; omega))
          · obtain rfl := Option.some.inj ho
            have q67 : a.tmps.getD 67 undef = .bool true := he _ (Array.mem_of_getElem? (i := 0) rfl) (by kernel_rfl) _ rfl
            refine wanted_off rfl (yielded_g (i := 30) rfl rfl (by show 67 < a.tmps.size; omega) q67) ?_
            exact hK undef u (Below.refl _ _) (getD_put_self a 70 _ (by show _ < a.tmps.size; omega))
          · obtain rfl := Option.some.inj ho
            have q67 : a.tmps.getD 67 undef = .bool true := he _ (Array.mem_of_getElem? (i := 2) rfl) (by kernel_rfl) _ rfl
            refine wanted_off rfl (yielded_g (i := 30) rfl rfl (by show 67 < a.tmps.size; omega) q67) ?_
            exact hK undef u (Below.refl _ _) (getD_put_self a 71 _ (by show _ < a.tmps.size; omega))
          · obtain rfl := Option.some.inj ho
            have q67 : a.tmps.getD 67 undef = .bool true := he _ (Array.mem_of_getElem? (i := 1) rfl) (by kernel_rfl) _ rfl
            refine wanted_off rfl (yielded_g (i := 30) rfl rfl (by show 67 < a.tmps.size; omega) q67) ?_
            exact hK undef u (Below.refl _ _) (getD_put_self a 72 _ (by show _ < a.tmps.size; omega))
          · obtain rfl := Option.some.inj ho
            have q67 : a.tmps.getD 67 undef = .bool true := he _ (Array.mem_of_getElem? (i := 1) rfl) (by kernel_rfl) _ rfl
            refine wanted_off rfl (yielded_g (i := 30) rfl rfl (by show 67 < a.tmps.size; omega) q67) ?_
            exact hK undef u (Below.refl _ _) (getD_put_self a 73 _ (by show _ < a.tmps.size; omega))
          · obtain rfl := Option.some.inj ho
            have q67 : a.tmps.getD 67 undef = .bool true := he _ (Array.mem_of_getElem? (i := 0) rfl) (by kernel_rfl) _ rfl
            refine wanted_off rfl (yielded_g (i := 30) rfl rfl (by show 67 < a.tmps.size; omega) q67) ?_
            exact hK undef u (Below.refl _ _) (getD_put_self a 74 _ (by show _ < a.tmps.size; omega))
          · obtain rfl := Option.some.inj ho
            have q67 : a.tmps.getD 67 undef = .bool true := he _ (Array.mem_of_getElem? (i := 1) rfl) (by kernel_rfl) _ rfl
            refine wanted_off rfl (yielded_g (i := 30) rfl rfl (by show 67 < a.tmps.size; omega) q67) ?_
            exact hK undef u (Below.refl _ _) (getD_put_self a 75 _ (by show _ < a.tmps.size; omega))
          · obtain rfl := Option.some.inj ho
            have q67 : a.tmps.getD 67 undef = .bool true := he _ (Array.mem_of_getElem? (i := 0) rfl) (by kernel_rfl) _ rfl
            refine wanted_off rfl (yielded_g (i := 30) rfl rfl (by show 67 < a.tmps.size; omega) q67) ?_
            exact hK undef u (Below.refl _ _) (getD_put_self a 76 _ (by show _ < a.tmps.size; omega))
          · obtain rfl := Option.some.inj ho
            have q67 : a.tmps.getD 67 undef = .bool true := he _ (Array.mem_of_getElem? (i := 2) rfl) (by kernel_rfl) _ rfl
            refine wanted_off rfl (yielded_g (i := 30) rfl rfl (by show 67 < a.tmps.size; omega) q67) ?_
            exact hK undef u (Below.refl _ _) (getD_put_self a 77 _ (by show _ < a.tmps.size; omega))
          · obtain rfl := Option.some.inj ho
            have q67 : a.tmps.getD 67 undef = .bool true := he _ (Array.mem_of_getElem? (i := 1) rfl) (by kernel_rfl) _ rfl
            refine wanted_off rfl (yielded_g (i := 30) rfl rfl (by show 67 < a.tmps.size; omega) q67) ?_
            exact hK undef u (Below.refl _ _) (getD_put_self a 78 _ (by show _ < a.tmps.size; omega))
          · obtain rfl := Option.some.inj ho
            have q67 : a.tmps.getD 67 undef = .bool true := he _ (Array.mem_of_getElem? (i := 1) rfl) (by kernel_rfl) _ rfl
            refine wanted_off rfl (yielded_g (i := 30) rfl rfl (by show 67 < a.tmps.size; omega) q67) ?_
            exact hK undef u (Below.refl _ _) (getD_put_self a 79 _ (by show _ < a.tmps.size; omega))
          · obtain rfl := Option.some.inj ho
            have q67 : a.tmps.getD 67 undef = .bool true := he _ (Array.mem_of_getElem? (i := 2) rfl) (by kernel_rfl) _ rfl
            refine wanted_off rfl (yielded_g (i := 30) rfl rfl (by show 67 < a.tmps.size; omega) q67) ?_
            exact hK undef u (Below.refl _ _) (getD_put_self a 80 _ (by show _ < a.tmps.size; omega))
          · obtain rfl := Option.some.inj ho
            have q67 : a.tmps.getD 67 undef = .bool true := he _ (Array.mem_of_getElem? (i := 1) rfl) (by kernel_rfl) _ rfl
            refine wanted_off rfl (yielded_g (i := 30) rfl rfl (by show 67 < a.tmps.size; omega) q67) ?_
            exact hK undef u (Below.refl _ _) (getD_put_self a 81 _ (by show _ < a.tmps.size; omega))
          · obtain rfl := Option.some.inj ho
            have q67 : a.tmps.getD 67 undef = .bool true := he _ (Array.mem_of_getElem? (i := 0) rfl) (by kernel_rfl) _ rfl
            have q81 : a.tmps.getD 81 undef = undef := he _ (Array.mem_of_getElem? (i := 1) rfl) (by kernel_rfl) _ rfl
            clear he
            go_simp
            exact hK _ _ (Below.refl _ _) (getD_put_self a 82 _ (by show _ < a.tmps.size; omega))
          · exact absurd ho (by simp)
        · intro a u hf hR0 hp
          have hR : Grow wr u := (Below.drew (Below.refl _ _)).trans hR0
          have hbu : Below w0.heap.size w0 u := hb.trans (hR.mono hsz)
          have m82 : a.tmps.getD 82 undef = .bool true := hp 45 _ rfl
          clear hp hR0 hR h5 h5'
          obtain ⟨fq, ea, hfv⟩ := act_lit a 101 hf.size
          have md : a.defers = [] := hf.defers
          rw [md] at ea
          have m0 := hf.at_ 0 (by kernel_rfl)
          have m1 := hf.at_ 1 (by kernel_rfl)
          have m2 := hf.at_ 2 (by kernel_rfl)
          have m3 := hf.at_ 3 (by kernel_rfl)
          have m4 := hf.at_ 4 (by kernel_rfl)
          have m5 := hf.at_ 5 (by kernel_rfl)
          have m6 := hf.at_ 6 (by kernel_rfl)
          have m7 := hf.at_ 7 (by kernel_rfl)
          have m8 := hf.at_ 8 (by kernel_rfl)
          have m9 := hf.at_ 9 (by kernel_rfl)
          have m10 := hf.at_ 10 (by kernel_rfl)
          have m11 := hf.at_ 11 (by kernel_rfl)
          have m12 := hf.at_ 12 (by kernel_rfl)
          have m13 := hf.at_ 13 (by kernel_rfl)
          have m14 := hf.at_ 14 (by kernel_rfl)
          have m15 := hf.at_ 15 (by kernel_rfl)
          have m16 := hf.at_ 16 (by kernel_rfl)
          have m17 := hf.at_ 17 (by kernel_rfl)
          have m18 := hf.at_ 18 (by kernel_rfl)
          have m19 := hf.at_ 19 (by kernel_rfl)
          have m20 := hf.at_ 20 (by kernel_rfl)
          have m21 := hf.at_ 21 (by kernel_rfl)
          have m22 := hf.at_ 22 (by kernel_rfl)
          have m23 := hf.at_ 23 (by kernel_rfl)
          have m24 := hf.at_ 24 (by kernel_rfl)
          have m25 := hf.at_ 25 (by kernel_rfl)
          have m26 := hf.at_ 26 (by kernel_rfl)
          have m27 := hf.at_ 27 (by kernel_rfl)
          have m28 := hf.at_ 28 (by kernel_rfl)
          have m29 := hf.at_ 29 (by kernel_rfl)
          have m30 := hf.at_ 30 (by kernel_rfl)
          have m31 := hf.at_ 31 (by kernel_rfl)
          have m32 := hf.at_ 32 (by kernel_rfl)
          have m33 := hf.at_ 33 (by kernel_rfl)
          have m34 := hf.at_ 34 (by kernel_rfl)
          have m35 := hf.at_ 35 (by kernel_rfl)
          have m36 := hf.at_ 36 (by kernel_rfl)
          have m83 := hf.at_ 83 (by kernel_rfl)
          have m84 := hf.at_ 84 (by kernel_rfl)
          have m85 := hf.at_ 85 (by kernel_rfl)
          have m86 := hf.at_ 86 (by kernel_rfl)
          have m87 := hf.at_ 87 (by kernel_rfl)
          have m88 := hf.at_ 88 (by kernel_rfl)
          have m89 := hf.at_ 89 (by kernel_rfl)
          have m90 := hf.at_ 90 (by kernel_rfl)
          have m91 := hf.at_ 91 (by kernel_rfl)
          have m92 := hf.at_ 92 (by kernel_rfl)
          have m93 := hf.at_ 93 (by kernel_rfl)
          have m94 := hf.at_ 94 (by kernel_rfl)
          have m95 := hf.at_ 95 (by kernel_rfl)
          have m96 := hf.at_ 96 (by kernel_rfl)
          have m97 := hf.at_ 97 (by kernel_rfl)
          have m98 := hf.at_ 98 (by kernel_rfl)
          have m99 := hf.at_ 99 (by kernel_rfl)
          have m100 := hf.at_ 100 (by kernel_rfl)
          rw [← hfv] at m0 m1 m2 m3 m4 m5 m6 m7 m8 m9 m10 m11 m12 m13 m14 m15 m16 m17 m18 m19 m20 m21 m22 m23 m24 m25 m26 m27 m28 m29 m30 m31 m32 m33 m34 m35 m36 m83 m84 m85 m86 m87 m88 m89 m90 m91 m92 m93 m94 m95 m96 m97 m98 m99 m100 m82
          simp only [Array.getD_eq_getD_getElem?, List.getElem?_toArray, List.getElem?_cons_succ, List.getElem?_cons_zero, Option.getD_some] at m0 m1 m2 m3 m4 m5 m6 m7 m8 m9 m10 m11 m12 m13 m14 m15 m16 m17 m18 m19 m20 m21 m22 m23 m24 m25 m26 m27 m28 m29 m30 m31 m32 m33 m34 m35 m36 m83 m84 m85 m86 m87 m88 m89 m90 m91 m92 m93 m94 m95 m96 m97 m98 m99 m100
          simp only [List.range, List.range.loop, List.map_cons, List.map_nil, m0, m1, m2, m3, m4, m5, m6, m7, m8, m9, m10, m11, m12, m13, m14, m15, m16, m17, m18, m19, m20, m21, m22, m23, m24, m25, m26, m27, m28, m29, m30, m31, m32, m33, m34, m35, m36, m83, m84, m85, m86, m87, m88, m89, m90, m91, m92, m93, m94, m95, m96, m97, m98, m99, m100, m82] at ea
          subst ea
          clear m0 m1 m2 m3 m4 m5 m6 m7 m8 m9 m10 m11 m12 m13 m14 m15 m16 m17 m18 m19 m20 m21 m22 m23 m24 m25 m26 m27 m28 m29 m30 m31 m32 m33 m34 m35 m36 m83 m84 m85 m86 m87 m88 m89 m90 m91 m92 m93 m94 m95 m96 m97 m98 m99 m100 m82 hfv md hf
          go_wp2
          go_ret
          exact ⟨false, rfl, by simp [HF.out], G2.trans (hbu.mono (by omega))⟩
      have HD1 : Hid (decide (x.fr = y.fr) = true) := decide_eq_true e1
      have HE1 : Hid (x.fr = y.fr) := e1
      clear e1
      by_cases e2 : x.to = y.to
      rotate_left
      · have HD2 : Hid (decide (x.to = y.to) = false) := decide_eq_false e2
        have HF : Hid (¬ c = d) := fun h => ne_atW HX.out.1 HX.out.2 (fun h' => e2 (HTE.out.mp h').2.1) (HE.out.mp h).2.1
        clear e2
        go_wp2_with fail
        clear c0
        refine wp_region_dag (R := Grow) (Φ := fun i v u => match i with
            | 0 => v = .pointer (some ⟨w.heap.size, 1, none⟩)
            | 1 => v = .slice (some ⟨b, off, none⟩) xs.length cap
            | 2 => v = .int .i64 ((j : Nat) : Int)
            | 3 => v = .pointer (some ⟨b, off + j * 7, none⟩)
            | 4 => v = .pointer (some ⟨b, off + j * 7, none⟩)
            | 5 => v = .slice ax x.fr.length cx
            | 6 => v = .pointer (some ⟨w.heap.size + 1, 1, none⟩)
            | 7 => v = .slice (some ⟨b', off', none⟩) ys.length cap'
            | 8 => v = .int .i64 ((j : Nat) : Int)
            | 9 => v = .pointer (some ⟨b', off' + j * 7, none⟩)
            | 10 => v = .pointer (some ⟨b', off' + j * 7, none⟩)
            | 11 => v = .slice bx y.fr.length dx
            | 12 => v = .bool true
            | 13 => v = .bool false
            | 14 => v = .bool false
            | 15 => v = .pointer (some ⟨w.heap.size, 1, none⟩)
            | 16 => v = .slice (some ⟨b, off, none⟩) xs.length cap
            | 17 => v = .int .i64 ((j : Nat) : Int)
            | 18 => v = .pointer (some ⟨b, off + j * 7, none⟩)
            | 19 => v = .pointer (some ⟨b, off + j * 7 + 1, none⟩)
            | 20 => v = .slice ay x.to.length cy
            | 21 => v = .pointer (some ⟨w.heap.size + 1, 1, none⟩)
            | 22 => v = .slice (some ⟨b', off', none⟩) ys.length cap'
            | 23 => v = .int .i64 ((j : Nat) : Int)
            | 24 => v = .pointer (some ⟨b', off' + j * 7, none⟩)
            | 25 => v = .pointer (some ⟨b', off' + j * 7 + 1, none⟩)
            | 26 => v = .slice by_ y.to.length dy
            | 27 => v = .bool false
            | 28 => v = .bool true
            | 29 => v = .bool true
            | 30 => v = .bool true
            | 31 => v = undef
            | 32 => v = undef
            | 33 => v = undef
            | 34 => v = undef
            | 35 => v = undef
            | 36 => v = undef
            | 37 => v = undef
            | 38 => v = undef
            | 39 => v = undef
            | 40 => v = undef
            | 41 => v = undef
            | 42 => v = undef
            | 43 => v = undef
            | 44 => v = undef
            | 45 => v = .bool true
            | _ => True) (by kernel_rfl) (by kernel_rfl) (by kernel_rfl) (Below.refl _ _) grow_trans ?_ ?_ ?_
        · intro i v u u' hr
          match i with
          | 0 | 1 | 2 | 3 | 4 | 5 | 6 | 7 | 8 | 9 | 10 | 11 | 12 | 13 | 14 | 15 | 16 | 17 | 18 | 19 | 20 | 21 | 22 | 23 | 24 | 25 | 26 | 27 | 28 | 29 | 30 | 31 | 32 | 33 | 34 | 35 | 36 | 37 | 38 | 39 | 40 | 41 | 42 | 43 | 44 | 45 | _ + 46 => exact fun h => h
        · intro i o ho a u hf hR0 he K' hK
          have hR : Grow wr u := (Below.drew (Below.refl _ _)).trans hR0
          have hsz' : a.tmps.size = 101 := hf.size
          have hus := hR.size
          rcases i with _ | _ | _ | _ | _ | _ | _ | _ | _ | _ | _ | _ | _ | _ | _ | _ | _ | _ | _ | _ | _ | _ | _ | _ | _ | _ | _ | _ | _ | _ | _ | _ | _ | _ | _ | _ | _ | _ | _ | _ | _ | _ | _ | _ | _ | _ | i
          · obtain rfl := Option.some.inj ho
            have q2 : a.tmps.getD 2 undef = .pointer (some ⟨w.heap.size, 0, none⟩) := hf.at_ 2 (by kernel_rfl)
            clear he
            go_simp
            exact hK _ _ (Below.refl _ _) (getD_put_self a 37 _ (by show _ < a.tmps.size; omega))
          · obtain rfl := Option.some.inj ho
            have q37 : a.tmps.getD 37 undef = .pointer (some ⟨w.heap.size, 1, none⟩) := he _ (Array.mem_of_getElem? (i := 0) rfl) (by kernel_rfl) _ rfl
            clear he
            have cc : u.cell? ⟨w.heap.size, 1, none⟩ = some (.slice (some ⟨b, off, none⟩) xs.length cap) := (pv.below (hb.trans (hR.mono hsz)) (by omega)).c 1 _ rfl
            go_simp
            exact hK _ _ (Below.refl _ _) (getD_put_self a 38 _ (by show _ < a.tmps.size; omega))
          · obtain rfl := Option.some.inj ho
            have q5 : a.tmps.getD 5 undef = .int .i64 ((j : Nat) : Int) := hf.at_ 5 (by kernel_rfl)
            clear he
            go_simp
            exact hK _ _ (Below.refl _ _) (getD_put_self a 39 _ (by show _ < a.tmps.size; omega))
          · obtain rfl := Option.some.inj ho
            have q38 : a.tmps.getD 38 undef = .slice (some ⟨b, off, none⟩) xs.length cap := he _ (Array.mem_of_getElem? (i := 0) rfl) (by kernel_rfl) _ rfl
            have q39 : a.tmps.getD 39 undef = .int .i64 ((j : Nat) : Int) := he _ (Array.mem_of_getElem? (i := 1) rfl) (by kernel_rfl) _ rfl
            clear he
            go_simp
            exact hK _ _ (Below.refl _ _) (getD_put_self a 40 _ (by show _ < a.tmps.size; omega))
          · obtain rfl := Option.some.inj ho
            have q40 : a.tmps.getD 40 undef = .pointer (some ⟨b, off + j * 7, none⟩) := he _ (Array.mem_of_getElem? (i := 0) rfl) (by kernel_rfl) _ rfl
            clear he
            go_simp
            exact hK _ _ (Below.refl _ _) (getD_put_self a 41 _ (by show _ < a.tmps.size; omega))
          · obtain rfl := Option.some.inj ho
            have q41 : a.tmps.getD 41 undef = .pointer (some ⟨b, off + j * 7, none⟩) := he _ (Array.mem_of_getElem? (i := 0) rfl) (by kernel_rfl) _ rfl
            clear he
            have cc : u.cell? ⟨b, off + j * 7, none⟩ = some (.slice ax x.fr.length cx) := (h5.kept ((hb.trans (hR.mono hsz)).block b (by omega))) 0 _ rfl
            go_simp
            exact hK _ _ (Below.refl _ _) (getD_put_self a 42 _ (by show _ < a.tmps.size; omega))
          · obtain rfl := Option.some.inj ho
            have q3 : a.tmps.getD 3 undef = .pointer (some ⟨w.heap.size + 1, 0, none⟩) := hf.at_ 3 (by kernel_rfl)
            clear he
            go_simp
            exact hK _ _ (Below.refl _ _) (getD_put_self a 43 _ (by show _ < a.tmps.size; omega))
          · obtain rfl := Option.some.inj ho
            have q43 : a.tmps.getD 43 undef = .pointer (some ⟨w.heap.size + 1, 1, none⟩) := he _ (Array.mem_of_getElem? (i := 0) rfl) (by kernel_rfl) _ rfl
            clear he
            have cc : u.cell? ⟨w.heap.size + 1, 1, none⟩ = some (.slice (some ⟨b', off', none⟩) ys.length cap') := (qv.below (hb.trans (hR.mono hsz)) (by omega)).c 1 _ rfl
            go_simp
            exact hK _ _ (Below.refl _ _) (getD_put_self a 44 _ (by show _ < a.tmps.size; omega))
          · obtain rfl := Option.some.inj ho
            have q5 : a.tmps.getD 5 undef = .int .i64 ((j : Nat) : Int) := hf.at_ 5 (by kernel_rfl)
            clear he
            go_simp
            exact hK _ _ (Below.refl _ _) (getD_put_self a 45 _ (by show _ < a.tmps.size; omega))
          · obtain rfl := Option.some.inj ho
            have q44 : a.tmps.getD 44 undef = .slice (some ⟨b', off', none⟩) ys.length cap' := he _ (Array.mem_of_getElem? (i := 0) rfl) (by kernel_rfl) _ rfl
            have q45 : a.tmps.getD 45 undef = .int .i64 ((j : Nat) : Int) := he _ (Array.mem_of_getElem? (i := 1) rfl) (by kernel_rfl) _ rfl
            clear he
            go_simp
            exact hK _ _ (Below.refl _ _) (getD_put_self a 46 _ (by show _ < a.tmps.size; omega))
          · obtain rfl := Option.some.inj ho
            have q46 : a.tmps.getD 46 undef = .pointer (some ⟨b', off' + j * 7, none⟩) := he _ (Array.mem_of_getElem? (i := 0) rfl) (by kernel_rfl) _ rfl
            clear he
            go_simp
            exact hK _ _ (Below.refl _ _) (getD_put_self a 47 _ (by show _ < a.tmps.size; omega))
          · obtain rfl := Option.some.inj ho
            have q47 : a.tmps.getD 47 undef = .pointer (some ⟨b', off' + j * 7, none⟩) := he _ (Array.mem_of_getElem? (i := 0) rfl) (by kernel_rfl) _ rfl
            clear he
            have cc : u.cell? ⟨b', off' + j * 7, none⟩ = some (.slice bx y.fr.length dx) := (h5'.kept ((hb.trans (hR.mono hsz)).block b' (by omega))) 0 _ rfl
            go_simp
            exact hK _ _ (Below.refl _ _) (getD_put_self a 48 _ (by show _ < a.tmps.size; omega))
          · obtain rfl := Option.some.inj ho
            have q42 : a.tmps.getD 42 undef = .slice ax x.fr.length cx := he _ (Array.mem_of_getElem? (i := 0) rfl) (by kernel_rfl) _ rfl
            have q48 : a.tmps.getD 48 undef = .slice bx y.fr.length dx := he _ (Array.mem_of_getElem? (i := 1) rfl) (by kernel_rfl) _ rfl
            have hcall := l2IntsC_any u lo hi lo' hi' _ _ x.fr y.fr (HW.out.1.under (hb.trans (hR.mono hsz)) hhi0).fr (HW.out.2.under (hb.trans (hR.mono hsz)) hhi0').fr
            rw [HD1.out] at hcall
            clear he
            go_simp
            refine hcall.mono ?_
            rintro e1 u' ⟨m9, rfl, hm9⟩
            have hbu : Below u.heap.size u u' := by rw [hm9]; exact below_drewN (Below.refl _ _) m9
            exact hK _ _ hbu (getD_put_self a 49 _ (by show _ < a.tmps.size; omega))
          · obtain rfl := Option.some.inj ho
            have q49 : a.tmps.getD 49 undef = .bool true := he _ (Array.mem_of_getElem? (i := 0) rfl) (by kernel_rfl) _ rfl
            clear he
            go_simp
            exact hK _ _ (Below.refl _ _) (getD_put_self a 50 _ (by show _ < a.tmps.size; omega))
          · obtain rfl := Option.some.inj ho
            have q50 : a.tmps.getD 50 undef = .bool false := he _ (Array.mem_of_getElem? (i := 0) rfl) (by kernel_rfl) _ rfl
            clear he
            go_simp
            exact hK _ _ (Below.refl _ _) (getD_put_self a 51 _ (by show _ < a.tmps.size; omega))
          · obtain rfl := Option.some.inj ho
            have q51 : a.tmps.getD 51 undef = .bool false := he _ (Array.mem_of_getElem? (i := 0) rfl) (by kernel_rfl) _ rfl
            have q2 : a.tmps.getD 2 undef = .pointer (some ⟨w.heap.size, 0, none⟩) := hf.at_ 2 (by kernel_rfl)
            clear he
            refine wanted_on rfl (yielded_g (i := 14) rfl rfl (by show 51 < a.tmps.size; omega) q51) ?_
            go_simp
            exact hK _ _ (Below.refl _ _) (getD_put_self a 52 _ (by show _ < a.tmps.size; omega))
          · obtain rfl := Option.some.inj ho
            have q51 : a.tmps.getD 51 undef = .bool false := he _ (Array.mem_of_getElem? (i := 1) rfl) (by kernel_rfl) _ rfl
            have q52 : a.tmps.getD 52 undef = .pointer (some ⟨w.heap.size, 1, none⟩) := he _ (Array.mem_of_getElem? (i := 0) rfl) (by kernel_rfl) _ rfl
            clear he
            have cc : u.cell? ⟨w.heap.size, 1, none⟩ = some (.slice (some ⟨b, off, none⟩) xs.length cap) := (pv.below (hb.trans (hR.mono hsz)) (by omega)).c 1 _ rfl
            refine wanted_on rfl (yielded_g (i := 14) rfl rfl (by show 51 < a.tmps.size; omega) q51) ?_
            go_simp
            exact hK _ _ (Below.refl _ _) (getD_put_self a 53 _ (by show _ < a.tmps.size; omega))
          · obtain rfl := Option.some.inj ho
            have q51 : a.tmps.getD 51 undef = .bool false := he _ (Array.mem_of_getElem? (i := 0) rfl) (by kernel_rfl) _ rfl
            have q5 : a.tmps.getD 5 undef = .int .i64 ((j : Nat) : Int) := hf.at_ 5 (by kernel_rfl)
            clear he
            refine wanted_on rfl (yielded_g (i := 14) rfl rfl (by show 51 < a.tmps.size; omega) q51) ?_
            go_simp
            exact hK _ _ (Below.refl _ _) (getD_put_self a 54 _ (by show _ < a.tmps.size; omega))
          · obtain rfl := Option.some.inj ho
            have q51 : a.tmps.getD 51 undef = .bool false := he _ (Array.mem_of_getElem? (i := 2) rfl) (by kernel_rfl) _ rfl
            have q53 : a.tmps.getD 53 undef = .slice (some ⟨b, off, none⟩) xs.length cap := he _ (Array.mem_of_getElem? (i := 0) rfl) (by kernel_rfl) _ rfl
            have q54 : a.tmps.getD 54 undef = .int .i64 ((j : Nat) : Int) := he _ (Array.mem_of_getElem? (i := 1) rfl) (by kernel_rfl) _ rfl
            clear he
            refine wanted_on rfl (yielded_g (i := 14) rfl rfl (by show 51 < a.tmps.size; omega) q51) ?_
            go_simp
            exact hK _ _ (Below.refl _ _) (getD_put_self a 55 _ (by show _ < a.tmps.size; omega))
          · obtain rfl := Option.some.inj ho
            have q51 : a.tmps.getD 51 undef = .bool false := he _ (Array.mem_of_getElem? (i := 1) rfl) (by kernel_rfl) _ rfl
            have q55 : a.tmps.getD 55 undef = .pointer (some ⟨b, off + j * 7, none⟩) := he _ (Array.mem_of_getElem? (i := 0) rfl) (by kernel_rfl) _ rfl
            clear he
            refine wanted_on rfl (yielded_g (i := 14) rfl rfl (by show 51 < a.tmps.size; omega) q51) ?_
            go_simp
            exact hK _ _ (Below.refl _ _) (getD_put_self a 56 _ (by show _ < a.tmps.size; omega))
          · obtain rfl := Option.some.inj ho
            have q51 : a.tmps.getD 51 undef = .bool false := he _ (Array.mem_of_getElem? (i := 1) rfl) (by kernel_rfl) _ rfl
            have q56 : a.tmps.getD 56 undef = .pointer (some ⟨b, off + j * 7 + 1, none⟩) := he _ (Array.mem_of_getElem? (i := 0) rfl) (by kernel_rfl) _ rfl
            clear he
            have cc : u.cell? ⟨b, off + j * 7 + 1, none⟩ = some (.slice ay x.to.length cy) := (h5.kept ((hb.trans (hR.mono hsz)).block b (by omega))) 1 _ rfl
            refine wanted_on rfl (yielded_g (i := 14) rfl rfl (by show 51 < a.tmps.size; omega) q51) ?_
            go_simp
            exact hK _ _ (Below.refl _ _) (getD_put_self a 57 _ (by show _ < a.tmps.size; omega))
          · obtain rfl := Option.some.inj ho
            have q51 : a.tmps.getD 51 undef = .bool false := he _ (Array.mem_of_getElem? (i := 0) rfl) (by kernel_rfl) _ rfl
            have q3 : a.tmps.getD 3 undef = .pointer (some ⟨w.heap.size + 1, 0, none⟩) := hf.at_ 3 (by kernel_rfl)
            clear he
            refine wanted_on rfl (yielded_g (i := 14) rfl rfl (by show 51 < a.tmps.size; omega) q51) ?_
            go_simp
            exact hK _ _ (Below.refl _ _) (getD_put_self a 58 _ (by show _ < a.tmps.size; omega))
          · obtain rfl := Option.some.inj ho
            have q51 : a.tmps.getD 51 undef = .bool false := he _ (Array.mem_of_getElem? (i := 1) rfl) (by kernel_rfl) _ rfl
            have q58 : a.tmps.getD 58 undef = .pointer (some ⟨w.heap.size + 1, 1, none⟩) := he _ (Array.mem_of_getElem? (i := 0) rfl) (by kernel_rfl) _ rfl
            clear he
            have cc : u.cell? ⟨w.heap.size + 1, 1, none⟩ = some (.slice (some ⟨b', off', none⟩) ys.length cap') := (qv.below (hb.trans (hR.mono hsz)) (by omega)).c 1 _ rfl
            refine wanted_on rfl (yielded_g (i := 14) rfl rfl (by show 51 < a.tmps.size; omega) q51) ?_
            go_simp
            exact hK _ _ (Below.refl _ _) (getD_put_self a 59 _ (by show _ < a.tmps.size; omega))
          · obtain rfl := Option.some.inj ho
            have q51 : a.tmps.getD 51 undef = .bool false := he _ (Array.mem_of_getElem? (i := 0) rfl) (by kernel_rfl) _ rfl
            have q5 : a.tmps.getD 5 undef = .int .i64 ((j : Nat) : Int) := hf.at_ 5 (by kernel_rfl)
            clear he
            refine wanted_on rfl (yielded_g (i := 14) rfl rfl (by show 51 < a.tmps.size; omega) q51) ?_
            go_simp
            exact hK _ _ (Below.refl _ _) (getD_put_self a 60 _ (by show _ < a.tmps.size; omega))
          · obtain rfl := Option.some.inj ho
            have q51 : a.tmps.getD 51 undef = .bool false := he _ (Array.mem_of_getElem? (i := 2) rfl) (by kernel_rfl) _ rfl
            have q59 : a.tmps.getD 59 undef = .slice (some ⟨b', off', none⟩) ys.length cap' := he _ (Array.mem_of_getElem? (i := 0) rfl) (by kernel_rfl) _ rfl
            have q60 : a.tmps.getD 60 undef = .int .i64 ((j : Nat) : Int) := he _ (Array.mem_of_getElem? (i := 1) rfl) (by kernel_rfl) _ rfl
            clear he
            refine wanted_on rfl (yielded_g (i := 14) rfl rfl (by show 51 < a.tmps.size; omega) q51) ?_
            go_simp
            exact hK _ _ (Below.refl _ _) (getD_put_self a 61 _ (by show _ < a.tmps.size; omega))
          · obtain rfl := Option.some.inj ho
            have q51 : a.tmps.getD 51 undef = .bool false := he _ (Array.mem_of_getElem? (i := 1) rfl) (by kernel_rfl) _ rfl
            have q61 : a.tmps.getD 61 undef = .pointer (some ⟨b', off' + j * 7, none⟩) := he _ (Array.mem_of_getElem? (i := 0) rfl) (by kernel_rfl) _ rfl
            clear he
            refine wanted_on rfl (yielded_g (i := 14) rfl rfl (by show 51 < a.tmps.size; omega) q51) ?_
            go_simp
            exact hK _ _ (Below.refl _ _) (getD_put_self a 62 _ (by show _ < a.tmps.size; omega))
          · obtain rfl := Option.some.inj ho
            have q51 : a.tmps.getD 51 undef = .bool false := he _ (Array.mem_of_getElem? (i := 1) rfl) (by kernel_rfl) _ rfl
            have q62 : a.tmps.getD 62 undef = .pointer (some ⟨b', off' + j * 7 + 1, none⟩) := he _ (Array.mem_of_getElem? (i := 0) rfl) (by kernel_rfl) _ rfl
            clear he
            have cc : u.cell? ⟨b', off' + j * 7 + 1, none⟩ = some (.slice by_ y.to.length dy) := (h5'.kept ((hb.trans (hR.mono hsz)).block b' (by omega))) 1 _ rfl
            refine wanted_on rfl (yielded_g (i := 14) rfl rfl (by show 51 < a.tmps.size; omega) q51) ?_
            go_simp
            exact hK _ _ (Below.refl _ _) (getD_put_self a 63 _ (by show _ < a.tmps.size; omega))
          · obtain rfl := Option.some.inj ho
            have q51 : a.tmps.getD 51 undef = .bool false := he _ (Array.mem_of_getElem? (i := 2) rfl) (by kernel_rfl) _ rfl
            have q57 : a.tmps.getD 57 undef = .slice ay x.to.length cy := he _ (Array.mem_of_getElem? (i := 0) rfl) (by kernel_rfl) _ rfl
            have q63 : a.tmps.getD 63 undef = .slice by_ y.to.length dy := he _ (Array.mem_of_getElem? (i := 1) rfl) (by kernel_rfl) _ rfl
            have hcall := l2IntsC_any u lo hi lo' hi' _ _ x.to y.to (HW.out.1.under (hb.trans (hR.mono hsz)) hhi0).to (HW.out.2.under (hb.trans (hR.mono hsz)) hhi0').to
            rw [HD2.out] at hcall
            clear he
            refine wanted_on rfl (yielded_g (i := 14) rfl rfl (by show 51 < a.tmps.size; omega) q51) ?_
            go_simp
            refine hcall.mono ?_
            rintro e1 u' ⟨m9, rfl, hm9⟩
            have hbu : Below u.heap.size u u' := by rw [hm9]; exact below_drewN (Below.refl _ _) m9
            exact hK _ _ hbu (getD_put_self a 64 _ (by show _ < a.tmps.size; omega))
          · obtain rfl := Option.some.inj ho
            have q51 : a.tmps.getD 51 undef = .bool false := he _ (Array.mem_of_getElem? (i := 1) rfl) (by kernel_rfl) _ rfl
            have q64 : a.tmps.getD 64 undef = .bool false := he _ (Array.mem_of_getElem? (i := 0) rfl) (by kernel_rfl) _ rfl
            clear he
            refine wanted_on rfl (yielded_g (i := 14) rfl rfl (by show 51 < a.tmps.size; omega) q51) ?_
            go_simp
            exact hK _ _ (Below.refl _ _) (getD_put_self a 65 _ (by show _ < a.tmps.size; omega))
          · obtain rfl := Option.some.inj ho
            have q51 : a.tmps.getD 51 undef = .bool false := he _ (Array.mem_of_getElem? (i := 0) rfl) (by kernel_rfl) _ rfl
            have q65 : a.tmps.getD 65 undef = .bool true := he _ (Array.mem_of_getElem? (i := 1) rfl) (by kernel_rfl) _ rfl
            clear he
            go_simp
            exact hK _ _ (Below.refl _ _) (getD_put_self a 66 _ (by show _ < a.tmps.size; omega))
          · obtain rfl := Option.some.inj ho
            have q66 : a.tmps.getD 66 undef = .bool true := he _ (Array.mem_of_getElem? (i := 0) rfl) (by kernel_rfl) _ rfl
            clear he
            go_simp
            exact hK _ _ (Below.refl _ _) (getD_put_self a 67 _ (by show _ < a.tmps.size; omega))
          · obtain rfl := Option.some.inj ho
            have q67 : a.tmps.getD 67 undef = .bool true := he _ (Array.mem_of_getElem? (i := 0) rfl) (by kernel_rfl) _ rfl
            refine wanted_off rfl (yielded_g (i := 30) rfl rfl (by show 67 < a.tmps.size; omega) q67) ?_
            exact hK undef u (Below.refl _ _) (getD_put_self a 68 _ (by show _ < a.tmps.size; omega))
          · obtain rfl := Option.some.inj ho
            have q67 : a.tmps.getD 67 undef = .bool true := he _ (Array.mem_of_getElem? (i := 1) rfl) (by kernel_rfl) _ rfl
            refine wanted_off rfl (yielded_g (i := 30) rfl rfl (by show 67 < a.tmps.size; omega) q67) ?_
            exact hK undef u (Below.refl _ _) (getD_put_self a 69 _ (by show _ < a.tmps.size; omega))
          · obtain rfl := Option.some.inj ho
            have q67 : a.tmps.getD 67 undef = .bool true := he _ (Array.mem_of_getElem? (i := 0) rfl) (by kernel_rfl) _ rfl
            refine wanted_off rfl (yielded_g (i := 30) rfl rfl (by show 67 < a.tmps.size; omega) q67) ?_
            exact hK undef u (Below.refl _ _) (getD_put_self a 70 _ (by show _ < a.tmps.size; omega))
          · obtain rfl := Option.some.inj ho
            have q67 : a.tmps.getD 67 undef = .bool true := he _ (Array.mem_of_getElem? (i := 2) rfl) (by kernel_rfl) _ rfl
            refine wanted_off rfl (yielded_g (i := 30) rfl rfl (by show 67 < a.tmps.size; omega) q67) ?_
            exact hK undef u (Below.refl _ _) (getD_put_self a 71 _ (by show _ < a.tmps.size; omega))
          · obtain rfl := Option.some.inj ho
            have q67 : a.tmps.getD 67 undef = .bool true := he _ (Array.mem_of_getElem? (i := 1) rfl) (by kernel_rfl) _ rfl
            refine wanted_off rfl (yielded_g (i := 30) rfl rfl (by show 67 < a.tmps.size; omega) q67) ?_
            exact hK undef u (Below.refl _ _) (getD_put_self a 72 _ (by show _ < a.tmps.size; omega))
          · obtain rfl := Option.some.inj ho
            have q67 : a.tmps.getD 67 undef = .bool true := he _ (Array.mem_of_getElem? (i := 1) rfl) (by kernel_rfl) _ rfl
            refine wanted_off rfl (yielded_g (i := 30) rfl rfl (by show 67 < a.tmps.size; omega) q67) ?_
            exact hK undef u (Below.refl _ _) (getD_put_self a 73 _ (by show _ < a.tmps.size; omega))
          · obtain rfl := Option.some.inj ho
            have q67 : a.tmps.getD 67 undef = .bool true := he _ (Array.mem_of_getElem? (i := 0) rfl) (by kernel_rfl) _ rfl
            refine wanted_off rfl (yielded_g (i := 30) rfl rfl (by show 67 < a.tmps.size; omega) q67) ?_
            exact hK undef u (Below.refl _ _) (getD_put_self a 74 _ (by show _ < a.tmps.size; omega))
          · obtain rfl := Option.some.inj ho
            have q67 : a.tmps.getD 67 undef = .bool true := he _ (Array.mem_of_getElem? (i := 1) rfl) (by kernel_rfl) _ rfl
            refine wanted_off rfl (yielded_g (i := 30) rfl rfl (by show 67 < a.tmps.size; omega) q67) ?_
            exact hK undef u (Below.refl _ _) (getD_put_self a 75 _ (by show _ < a.tmps.size; omega))
          · obtain rfl := Option.some.inj ho
            have q67 : a.tmps.getD 67 undef = .bool true := he _ (Array.mem_of_getElem? (i := 0) rfl) (by kernel_rfl) _ rfl
            refine wanted_off rfl (yielded_g (i := 30) rfl rfl (by show 67 < a.tmps.size; omega) q67) ?_
            exact hK undef u (Below.refl _ _) (getD_put_self a 76 _ (by show _ < a.tmps.size; omega))
          · obtain rfl := Option.some.inj ho
            have q67 : a.tmps.getD 67 undef = .bool true := he _ (Array.mem_of_getElem? (i := 2) rfl) (by kernel_rfl) _ rfl
            refine wanted_off rfl (yielded_g (i := 30) rfl rfl (by show 67 < a.tmps.size; omega) q67) ?_
            exact hK undef u (Below.refl _ _) (getD_put_self a 77 _ (by show _ < a.tmps.size; omega))
          · obtain rfl := Option.some.inj ho
            have q67 : a.tmps.getD 67 undef = .bool true := he _ (Array.mem_of_getElem? (i := 1) rfl) (by kernel_rfl) _ rfl
            refine wanted_off rfl (yielded_g (i := 30) rfl rfl (by show 67 < a.tmps.size; omega) q67) ?_
            exact hK undef u (Below.refl _ _) (getD_put_self a 78 _ (by show _ < a.tmps.size; omega))
          · obtain rfl := Option.some.inj ho
            have q67 : a.tmps.getD 67 undef = .bool true := he _ (Array.mem_of_getElem? (i := 1) rfl) (by kernel_rfl) _ rfl
            refine wanted_off rfl (yielded_g (i := 30) rfl rfl (by show 67 < a.tmps.size; omega) q67) ?_
            exact hK undef u (Below.refl _ _) (getD_put_self a 79 _ (by show _ < a.tmps.size; omega))
          · obtain rfl := Option.some.inj ho
            have q67 : a.tmps.getD 67 undef = .bool true := he _ (Array.mem_of_getElem? (i := 2) rfl) (by kernel_rfl) _ rfl
            refine wanted_off rfl (yielded_g (i := 30) rfl rfl (by show 67 < a.tmps.size; omega) q67) ?_
            exact hK undef u (Below.refl _ _) (getD_put_self a 80 _ (by show _ < a.tmps.size; omega))
          · obtain rfl := Option.some.inj ho
            have q67 : a.tmps.getD 67 undef = .bool true := he _ (Array.mem_of_getElem? (i := 1) rfl) (by kernel_rfl) _ rfl
            refine wanted_off rfl (yielded_g (i := 30) rfl rfl (by show 67 < a.tmps.size; omega) q67) ?_
            exact hK undef u (Below.refl _ _) (getD_put_self a 81 _ (by show _ < a.tmps.size; omega))
          · obtain rfl := Option.some.inj ho
            have q67 : a.tmps.getD 67 undef = .bool true := he _ (Array.mem_of_getElem? (i := 0) rfl) (by kernel_rfl) _ rfl
            have q81 : a.tmps.getD 81 undef = undef := he _ (Array.mem_of_getElem? (i := 1) rfl) (by kernel_rfl) _ rfl
            clear he
            go_simp
            exact hK _ _ (Below.refl _ _) (getD_put_self a 82 _ (by show _ < a.tmps.size; omega))
          · exact absurd ho (by simp)
        · intro a u hf hR0 hp
          have hR : Grow wr u := (Below.drew (Below.refl _ _)).trans hR0
          have hbu : Below w0.heap.size w0 u := hb.trans (hR.mono hsz)
          have m82 : a.tmps.getD 82 undef = .bool true := hp 45 _ rfl
          clear hp hR0 hR h5 h5'
          obtain ⟨fq, ea, hfv⟩ := act_lit a 101 hf.size
          have md : a.defers = [] := hf.defers
          rw [md] at ea
          have m0 := hf.at_ 0 (by kernel_rfl)
          have m1 := hf.at_ 1 (by kernel_rfl)
          have m2 := hf.at_ 2 (by kernel_rfl)
          have m3 := hf.at_ 3 (by kernel_rfl)
          have m4 := hf.at_ 4 (by kernel_rfl)
          have m5 := hf.at_ 5 (by kernel_rfl)
          have m6 := hf.at_ 6 (by kernel_rfl)
          have m7 := hf.at_ 7 (by kernel_rfl)
          have m8 := hf.at_ 8 (by kernel_rfl)
          have m9 := hf.at_ 9 (by kernel_rfl)
          have m10 := hf.at_ 10 (by kernel_rfl)
          have m11 := hf.at_ 11 (by kernel_rfl)
          have m12 := hf.at_ 12 (by kernel_rfl)
          have m13 := hf.at_ 13 (by kernel_rfl)
          have m14 := hf.at_ 14 (by kernel_rfl)
          have m15 := hf.at_ 15 (by kernel_rfl)
          have m16 := hf.at_ 16 (by kernel_rfl)
          have m17 := hf.at_ 17 (by kernel_rfl)
          have m18 := hf.at_ 18 (by kernel_rfl)
          have m19 := hf.at_ 19 (by kernel_rfl)
          have m20 := hf.at_ 20 (by kernel_rfl)
          have m21 := hf.at_ 21 (by kernel_rfl)
          have m22 := hf.at_ 22 (by kernel_rfl)
          have m23 := hf.at_ 23 (by kernel_rfl)
          have m24 := hf.at_ 24 (by kernel_rfl)
          have m25 := hf.at_ 25 (by kernel_rfl)
          have m26 := hf.at_ 26 (by kernel_rfl)
          have m27 := hf.at_ 27 (by kernel_rfl)
          have m28 := hf.at_ 28 (by kernel_rfl)
          have m29 := hf.at_ 29 (by kernel_rfl)
          have m30 := hf.at_ 30 (by kernel_rfl)
          have m31 := hf.at_ 31 (by kernel_rfl)
          have m32 := hf.at_ 32 (by kernel_rfl)
          have m33 := hf.at_ 33 (by kernel_rfl)
          have m34 := hf.at_ 34 (by kernel_rfl)
          have m35 := hf.at_ 35 (by kernel_rfl)
          have m36 := hf.at_ 36 (by kernel_rfl)
          have m83 := hf.at_ 83 (by kernel_rfl)
          have m84 := hf.at_ 84 (by kernel_rfl)
          have m85 := hf.at_ 85 (by kernel_rfl)
          have m86 := hf.at_ 86 (by kernel_rfl)
          have m87 := hf.at_ 87 (by kernel_rfl)
          have m88 := hf.at_ 88 (by kernel_rfl)
          have m89 := hf.at_ 89 (by kernel_rfl)
          have m90 := hf.at_ 90 (by kernel_rfl)
          have m91 := hf.at_ 91 (by kernel_rfl)
          have m92 := hf.at_ 92 (by kernel_rfl)
          have m93 := hf.at_ 93 (by kernel_rfl)
          have m94 := hf.at_ 94 (by kernel_rfl)
          have m95 := hf.at_ 95 (by kernel_rfl)
          have m96 := hf.at_ 96 (by kernel_rfl)
          have m97 := hf.at_ 97 (by kernel_rfl)
          have m98 := hf.at_ 98 (by kernel_rfl)
          have m99 := hf.at_ 99 (by kernel_rfl)
          have m100 := hf.at_ 100 (by kernel_rfl)
          rw [← hfv] at m0 m1 m2 m3 m4 m5 m6 m7 m8 m9 m10 m11 m12 m13 m14 m15 m16 m17 m18 m19 m20 m21 m22 m23 m24 m25 m26 m27 m28 m29 m30 m31 m32 m33 m34 m35 m36 m83 m84 m85 m86 m87 m88 m89 m90 m91 m92 m93 m94 m95 m96 m97 m98 m99 m100 m82
          simp only [Array.getD_eq_getD_getElem?, List.getElem?_toArray, List.getElem?_cons_succ, List.getElem?_cons_zero, Option.getD_some] at m0 m1 m2 m3 m4 m5 m6 m7 m8 m9 m10 m11 m12 m13 m14 m15 m16 m17 m18 m19 m20 m21 m22 m23 m24 m25 m26 m27 m28 m29 m30 m31 m32 m33 m34 m35 m36 m83 m84 m85 m86 m87 m88 m89 m90 m91 m92 m93 m94 m95 m96 m97 m98 m99 m100
          simp only [List.range, List.range.loop, List.map_cons, List.map_nil, m0, m1, m2, m3, m4, m5, m6, m7, m8, m9, m10, m11, m12, m13, m14, m15, m16, m17, m18, m19, m20, m21, m22, m23, m24, m25, m26, m27, m28, m29, m30, m31, m32, m33, m34, m35, m36, m83, m84, m85, m86, m87, m88, m89, m90, m91, m92, m93, m94, m95, m96, m97, m98, m99, m100, m82] at ea
          subst ea
          clear m0 m1 m2 m3 m4 m5 m6 m7 m8 m9 m10 m11 m12 m13 m14 m15 m16 m17 m18 m19 m20 m21 m22 m23 m24 m25 m26 m27 m28 m29 m30 m31 m32 m33 m34 m35 m36 m83 m84 m85 m86 m87 m88 m89 m90 m91 m92 m93 m94 m95 m96 m97 m98 m99 m100 m82 hfv md hf
          go_wp2
          go_ret
          exact ⟨false, rfl, by simp [HF.out], G2.trans (hbu.mono (by omega))⟩
      have HD2 : Hid (decide (x.to = y.to) = true) := decide_eq_true e2
      have HE2 : Hid (x.to = y.to) := e2
      clear e2
      obtain ⟨r3, hr3⟩ := some_bool (x.e = y.e)
      have HR3 : Hid (r3 = true ↔ x.e = y.e) := hr3
      clear hr3
      go_wp2_with fail
      clear c0
      refine wp_region_dag (R := Grow) (Φ := fun i v u => match i with
          | 0 => v = .pointer (some ⟨w.heap.size, 1, none⟩)
          | 1 => v = .slice (some ⟨b, off, none⟩) xs.length cap
          | 2 => v = .int .i64 ((j : Nat) : Int)
          | 3 => v = .pointer (some ⟨b, off + j * 7, none⟩)
          | 4 => v = .pointer (some ⟨b, off + j * 7, none⟩)
          | 5 => v = .slice ax x.fr.length cx
          | 6 => v = .pointer (some ⟨w.heap.size + 1, 1, none⟩)
          | 7 => v = .slice (some ⟨b', off', none⟩) ys.length cap'
          | 8 => v = .int .i64 ((j : Nat) : Int)
          | 9 => v = .pointer (some ⟨b', off' + j * 7, none⟩)
          | 10 => v = .pointer (some ⟨b', off' + j * 7, none⟩)
          | 11 => v = .slice bx y.fr.length dx
          | 12 => v = .bool true
          | 13 => v = .bool false
          | 14 => v = .bool false
          | 15 => v = .pointer (some ⟨w.heap.size, 1, none⟩)
          | 16 => v = .slice (some ⟨b, off, none⟩) xs.length cap
          | 17 => v = .int .i64 ((j : Nat) : Int)
          | 18 => v = .pointer (some ⟨b, off + j * 7, none⟩)
          | 19 => v = .pointer (some ⟨b, off + j * 7 + 1, none⟩)
          | 20 => v = .slice ay x.to.length cy
          | 21 => v = .pointer (some ⟨w.heap.size + 1, 1, none⟩)
          | 22 => v = .slice (some ⟨b', off', none⟩) ys.length cap'
          | 23 => v = .int .i64 ((j : Nat) : Int)
          | 24 => v = .pointer (some ⟨b', off' + j * 7, none⟩)
          | 25 => v = .pointer (some ⟨b', off' + j * 7 + 1, none⟩)
          | 26 => v = .slice by_ y.to.length dy
          | 27 => v = .bool true
          | 28 => v = .bool false
          | 29 => v = .bool false
          | 30 => v = .bool false
          | 31 => v = .pointer (some ⟨w.heap.size, 1, none⟩)
          | 32 => v = .slice (some ⟨b, off, none⟩) xs.length cap
          | 33 => v = .int .i64 ((j : Nat) : Int)
          | 34 => v = .pointer (some ⟨b, off + j * 7, none⟩)
          | 35 => v = .pointer (some ⟨b, off + j * 7 + 2, none⟩)
          | 36 => v = .agg (exprC x.e (.slice az x.e.kids.length cz)).toArray
          | 37 => v = .pointer (some ⟨w.heap.size + 1, 1, none⟩)
          | 38 => v = .slice (some ⟨b', off', none⟩) ys.length cap'
          | 39 => v = .int .i64 ((j : Nat) : Int)
          | 40 => v = .pointer (some ⟨b', off' + j * 7, none⟩)
          | 41 => v = .pointer (some ⟨b', off' + j * 7 + 2, none⟩)
          | 42 => v = .agg (exprC y.e (.slice bz y.e.kids.length dz)).toArray
          | 43 => v = .bool r3
          | 44 => v = .bool (!r3)
          | 45 => v = .bool (!r3)
          | _ => True) (by kernel_rfl) (by kernel_rfl) (by kernel_rfl) (Below.refl _ _) grow_trans ?_ ?_ ?_
      · intro i v u u' hr
        match i with
        | 0 | 1 | 2 | 3 | 4 | 5 | 6 | 7 | 8 | 9 | 10 | 11 | 12 | 13 | 14 | 15 | 16 | 17 | 18 | 19 | 20 | 21 | 22 | 23 | 24 | 25 | 26 | 27 | 28 | 29 | 30 | 31 | 32 | 33 | 34 | 35 | 36 | 37 | 38 | 39 | 40 | 41 | 42 | 43 | 44 | 45 | _ + 46 => exact fun h => h
      · intro i o ho a u hf hR0 he K' hK
        have hR : Grow wr u := (Below.drew (Below.refl _ _)).trans hR0
        have hsz' : a.tmps.size = 101 := hf.size
        have hus := hR.size
        rcases i with _ | _ | _ | _ | _ | _ | _ | _ | _ | _ | _ | _ | _ | _ | _ | _ | _ | _ | _ | _ | _ | _ | _ | _ | _ | _ | _ | _ | _ | _ | _ | _ | _ | _ | _ | _ | _ | _ | _ | _ | _ | _ | _ | _ | _ | _ | i
        · obtain rfl := Option.some.inj ho
          have q2 : a.tmps.getD 2 undef = .pointer (some ⟨w.heap.size, 0, none⟩) := hf.at_ 2 (by kernel_rfl)
          clear he
          go_simp
          exact hK _ _ (Below.refl _ _) (getD_put_self a 37 _ (by show _ < a.tmps.size; omega))
        · obtain rfl := Option.some.inj ho
          have q37 : a.tmps.getD 37 undef = .pointer (some ⟨w.heap.size, 1, none⟩) := he _ (Array.mem_of_getElem? (i := 0) rfl) (by kernel_rfl) _ rfl
          clear he
          have cc : u.cell? ⟨w.heap.size, 1, none⟩ = some (.slice (some ⟨b, off, none⟩) xs.length cap) := (pv.below (hb.trans (hR.mono hsz)) (by omega)).c 1 _ rfl
          go_simp
          exact hK _ _ (Below.refl _ _) (getD_put_self a 38 _ (by show _ < a.tmps.size; omega))
        · obtain rfl := Option.some.inj ho
          have q5 : a.tmps.getD 5 undef = .int .i64 ((j : Nat) : Int) := hf.at_ 5 (by kernel_rfl)
          clear he
          go_simp
          exact hK _ _ (Below.refl _ _) (getD_put_self a 39 _ (by show _ < a.tmps.size; omega))
        · obtain rfl := Option.some.inj ho
          have q38 : a.tmps.getD 38 undef = .slice (some ⟨b, off, none⟩) xs.length cap := he _ (Array.mem_of_getElem? (i := 0) rfl) (by kernel_rfl) _ rfl
          have q39 : a.tmps.getD 39 undef = .int .i64 ((j : Nat) : Int) := he _ (Array.mem_of_getElem? (i := 1) rfl) (by kernel_rfl) _ rfl
          clear he
          go_simp
          exact hK _ _ (Below.refl _ _) (getD_put_self a 40 _ (by show _ < a.tmps.size; omega))
        · obtain rfl := Option.some.inj ho
          have q40 : a.tmps.getD 40 undef = .pointer (some ⟨b, off + j * 7, none⟩) := he _ (Array.mem_of_getElem? (i := 0) rfl) (by kernel_rfl) _ rfl
          clear he
          go_simp
          exact hK _ _ (Below.refl _ _) (getD_put_self a 41 _ (by show _ < a.tmps.size; omega))
        · obtain rfl := Option.some.inj ho
          have q41 : a.tmps.getD 41 undef = .pointer (some ⟨b, off + j * 7, none⟩) := he _ (Array.mem_of_getElem? (i := 0) rfl) (by kernel_rfl) _ rfl
          clear he
          have cc : u.cell? ⟨b, off + j * 7, none⟩ = some (.slice ax x.fr.length cx) := (h5.kept ((hb.trans (hR.mono hsz)).block b (by omega))) 0 _ rfl
          go_simp
          exact hK _ _ (Below.refl _ _) (getD_put_self a 42 _ (by show _ < a.tmps.size; omega))
        · obtain rfl := Option.some.inj ho
          have q3 : a.tmps.getD 3 undef = .pointer (some ⟨w.heap.size + 1, 0, none⟩) := hf.at_ 3 (by kernel_rfl)
          clear he
          go_simp
          exact hK _ _ (Below.refl _ _) (getD_put_self a 43 _ (by show _ < a.tmps.size; omega))
        · obtain rfl := Option.some.inj ho
          have q43 : a.tmps.getD 43 undef = .pointer (some ⟨w.heap.size + 1, 1, none⟩) := he _ (Array.mem_of_getElem? (i := 0) rfl) (by kernel_rfl) _ rfl
          clear he
          have cc : u.cell? ⟨w.heap.size + 1, 1, none⟩ = some (.slice (some ⟨b', off', none⟩) ys.length cap') := (qv.below (hb.trans (hR.mono hsz)) (by omega)).c 1 _ rfl
          go_simp
          exact hK _ _ (Below.refl _ _) (getD_put_self a 44 _ (by show _ < a.tmps.size; omega))
        · obtain rfl := Option.some.inj ho
          have q5 : a.tmps.getD 5 undef = .int .i64 ((j : Nat) : Int) := hf.at_ 5 (by kernel_rfl)
          clear he
          go_simp
          exact hK _ _ (Below.refl _ _) (getD_put_self a 45 _ (by show _ < a.tmps.size; omega))
        · obtain rfl := Option.some.inj ho
          have q44 : a.tmps.getD 44 undef = .slice (some ⟨b', off', none⟩) ys.length cap' := he _ (Array.mem_of_getElem? (i := 0) rfl) (by kernel_rfl) _ rfl
          have q45 : a.tmps.getD 45 undef = .int .i64 ((j : Nat) : Int) := he _ (Array.mem_of_getElem? (i := 1) rfl) (by kernel_rfl) _ rfl
          clear he
          go_simp
          exact hK _ _ (Below.refl _ _) (getD_put_self a 46 _ (by show _ < a.tmps.size; omega))
        · obtain rfl := Option.some.inj ho
          have q46 : a.tmps.getD 46 undef = .pointer (some ⟨b', off' + j * 7, none⟩) := he _ (Array.mem_of_getElem? (i := 0) rfl) (by kernel_rfl) _ rfl
          clear he
          go_simp
          exact hK _ _ (Below.refl _ _) (getD_put_self a 47 _ (by show _ < a.tmps.size; omega))
        · obtain rfl := Option.some.inj ho
          have q47 : a.tmps.getD 47 undef = .pointer (some ⟨b', off' + j * 7, none⟩) := he _ (Array.mem_of_getElem? (i := 0) rfl) (by kernel_rfl) _ rfl
          clear he
          have cc : u.cell? ⟨b', off' + j * 7, none⟩ = some (.slice bx y.fr.length dx) := (h5'.kept ((hb.trans (hR.mono hsz)).block b' (by omega))) 0 _ rfl
          go_simp
          exact hK _ _ (Below.refl _ _) (getD_put_self a 48 _ (by show _ < a.tmps.size; omega))
        · obtain rfl := Option.some.inj ho
          have q42 : a.tmps.getD 42 undef = .slice ax x.fr.length cx := he _ (Array.mem_of_getElem? (i := 0) rfl) (by kernel_rfl) _ rfl
          have q48 : a.tmps.getD 48 undef = .slice bx y.fr.length dx := he _ (Array.mem_of_getElem? (i := 1) rfl) (by kernel_rfl) _ rfl
          have hcall := l2IntsC_any u lo hi lo' hi' _ _ x.fr y.fr (HW.out.1.under (hb.trans (hR.mono hsz)) hhi0).fr (HW.out.2.under (hb.trans (hR.mono hsz)) hhi0').fr
          rw [HD1.out] at hcall
          clear he
          go_simp
          refine hcall.mono ?_
          rintro e1 u' ⟨m9, rfl, hm9⟩
          have hbu : Below u.heap.size u u' := by rw [hm9]; exact below_drewN (Below.refl _ _) m9
          exact hK _ _ hbu (getD_put_self a 49 _ (by show _ < a.tmps.size; omega))
        · obtain rfl := Option.some.inj ho
          have q49 : a.tmps.getD 49 undef = .bool true := he _ (Array.mem_of_getElem? (i := 0) rfl) (by kernel_rfl) _ rfl
          clear he
          go_simp
          exact hK _ _ (Below.refl _ _) (getD_put_self a 50 _ (by show _ < a.tmps.size; omega))
        · obtain rfl := Option.some.inj ho
          have q50 : a.tmps.getD 50 undef = .bool false := he _ (Array.mem_of_getElem? (i := 0) rfl) (by kernel_rfl) _ rfl
          clear he
          go_simp
          exact hK _ _ (Below.refl _ _) (getD_put_self a 51 _ (by show _ < a.tmps.size; omega))
        · obtain rfl := Option.some.inj ho
          have q51 : a.tmps.getD 51 undef = .bool false := he _ (Array.mem_of_getElem? (i := 0) rfl) (by kernel_rfl) _ rfl
          have q2 : a.tmps.getD 2 undef = .pointer (some ⟨w.heap.size, 0, none⟩) := hf.at_ 2 (by kernel_rfl)
          clear he
          refine wanted_on rfl (yielded_g (i := 14) rfl rfl (by show 51 < a.tmps.size; omega) q51) ?_
          go_simp
          exact hK _ _ (Below.refl _ _) (getD_put_self a 52 _ (by show _ < a.tmps.size; omega))
        · obtain rfl := Option.some.inj ho
          have q51 : a.tmps.getD 51 undef = .bool false := he _ (Array.mem_of_getElem? (i := 1) rfl) (by kernel_rfl) _ rfl
          have q52 : a.tmps.getD 52 undef = .pointer (some ⟨w.heap.size, 1, none⟩) := he _ (Array.mem_of_getElem? (i := 0) rfl) (by kernel_rfl) _ rfl
          clear he
          have cc : u.cell? ⟨w.heap.size, 1, none⟩ = some (.slice (some ⟨b, off, none⟩) xs.length cap) := (pv.below (hb.trans (hR.mono hsz)) (by omega)).c 1 _ rfl
          refine wanted_on rfl (yielded_g (i := 14) rfl rfl (by show 51 < a.tmps.size; omega) q51) ?_
          go_simp
          exact hK _ _ (Below.refl _ _) (getD_put_self a 53 _ (by show _ < a.tmps.size; omega))
        · obtain rfl := Option.some.inj ho
          have q51 : a.tmps.getD 51 undef = .bool false := he _ (Array.mem_of_getElem? (i := 0) rfl) (by kernel_rfl) _ rfl
          have q5 : a.tmps.getD 5 undef = .int .i64 ((j : Nat) : Int) := hf.at_ 5 (by kernel_rfl)
          clear he
          refine wanted_on rfl (yielded_g (i := 14) rfl rfl (by show 51 < a.tmps.size; omega) q51) ?_
          go_simp
          exact hK _ _ (Below.refl _ _) (getD_put_self a 54 _ (by show _ < a.tmps.size; omega))
        · obtain rfl := Option.some.inj ho
          have q51 : a.tmps.getD 51 undef = .bool false := he _ (Array.mem_of_getElem? (i := 2) rfl) (by kernel_rfl) _ rfl
          have q53 : a.tmps.getD 53 undef = .slice (some ⟨b, off, none⟩) xs.length cap := he _ (Array.mem_of_getElem? (i := 0) rfl) (by kernel_rfl) _ rfl
          have q54 : a.tmps.getD 54 undef = .int .i64 ((j : Nat) : Int) := he _ (Array.mem_of_getElem? (i := 1) rfl) (by kernel_rfl) _ rfl
          clear he
          refine wanted_on rfl (yielded_g (i := 14) rfl rfl (by show 51 < a.tmps.size; omega) q51) ?_
          go_simp
          exact hK _ _ (Below.refl _ _) (getD_put_self a 55 _ (by show _ < a.tmps.size; omega))
        · obtain rfl := Option.some.inj ho
          have q51 : a.tmps.getD 51 undef = .bool false := he _ (Array.mem_of_getElem? (i := 1) rfl) (by kernel_rfl) _ rfl
          have q55 : a.tmps.getD 55 undef = .pointer (some ⟨b, off + j * 7, none⟩) := he _ (Array.mem_of_getElem? (i := 0) rfl) (by kernel_rfl) _ rfl
          clear he
          refine wanted_on rfl (yielded_g (i := 14) rfl rfl (by show 51 < a.tmps.size; omega) q51) ?_
          go_simp
          exact hK _ _ (Below.refl _ _) (getD_put_self a 56 _ (by show _ < a.tmps.size; omega))
        · obtain rfl := Option.some.inj ho
          have q51 : a.tmps.getD 51 undef = .bool false := he _ (Array.mem_of_getElem? (i := 1) rfl) (by kernel_rfl) _ rfl
          have q56 : a.tmps.getD 56 undef = .pointer (some ⟨b, off + j * 7 + 1, none⟩) := he _ (Array.mem_of_getElem? (i := 0) rfl) (by kernel_rfl) _ rfl
          clear he
          have cc : u.cell? ⟨b, off + j * 7 + 1, none⟩ = some (.slice ay x.to.length cy) := (h5.kept ((hb.trans (hR.mono hsz)).block b (by omega))) 1 _ rfl
          refine wanted_on rfl (yielded_g (i := 14) rfl rfl (by show 51 < a.tmps.size; omega) q51) ?_
          go_simp
          exact hK _ _ (Below.refl _ _) (getD_put_self a 57 _ (by show _ < a.tmps.size; omega))
        · obtain rfl := Option.some.inj ho
          have q51 : a.tmps.getD 51 undef = .bool false := he _ (Array.mem_of_getElem? (i := 0) rfl) (by kernel_rfl) _ rfl
          have q3 : a.tmps.getD 3 undef = .pointer (some ⟨w.heap.size + 1, 0, none⟩) := hf.at_ 3 (by kernel_rfl)
          clear he
          refine wanted_on rfl (yielded_g (i := 14) rfl rfl (by show 51 < a.tmps.size; omega) q51) ?_
          go_simp
          exact hK _ _ (Below.refl _ _) (getD_put_self a 58 _ (by show _ < a.tmps.size; omega))
        · obtain rfl := Option.some.inj ho
          have q51 : a.tmps.getD 51 undef = .bool false := he _ (Array.mem_of_getElem? (i := 1) rfl) (by kernel_rfl) _ rfl
          have q58 : a.tmps.getD 58 undef = .pointer (some ⟨w.heap.size + 1, 1, none⟩) := he _ (Array.mem_of_getElem? (i := 0) rfl) (by kernel_rfl) _ rfl
          clear he
          have cc : u.cell? ⟨w.heap.size + 1, 1, none⟩ = some (.slice (some ⟨b', off', none⟩) ys.length cap') := (qv.below (hb.trans (hR.mono hsz)) (by omega)).c 1 _ rfl
          refine wanted_on rfl (yielded_g (i := 14) rfl rfl (by show 51 < a.tmps.size; omega) q51) ?_
          go_simp
          exact hK _ _ (Below.refl _ _) (getD_put_self a 59 _ (by show _ < a.tmps.size; omega))
        · obtain rfl := Option.some.inj ho
          have q51 : a.tmps.getD 51 undef = .bool false := he _ (Array.mem_of_getElem? (i := 0) rfl) (by kernel_rfl) _ rfl
          have q5 : a.tmps.getD 5 undef = .int .i64 ((j : Nat) : Int) := hf.at_ 5 (by kernel_rfl)
          clear he
          refine wanted_on rfl (yielded_g (i := 14) rfl rfl (by show 51 < a.tmps.size; omega) q51) ?_
          go_simp
          exact hK _ _ (Below.refl _ _) (getD_put_self a 60 _ (by show _ < a.tmps.size; omega))
        · obtain rfl := Option.some.inj ho
          have q51 : a.tmps.getD 51 undef = .bool false := he _ (Array.mem_of_getElem? (i := 2) rfl) (by kernel_rfl) _ rfl
          have q59 : a.tmps.getD 59 undef = .slice (some ⟨b', off', none⟩) ys.length cap' := he _ (Array.mem_of_getElem? (i := 0) rfl) (by kernel_rfl) _ rfl
          have q60 : a.tmps.getD 60 undef = .int .i64 ((j : Nat) : Int) := he _ (Array.mem_of_getElem? (i := 1) rfl) (by kernel_rfl) _ rfl
          clear he
          refine wanted_on rfl (yielded_g (i := 14) rfl rfl (by show 51 < a.tmps.size; omega) q51) ?_
          go_simp
          exact hK _ _ (Below.refl _ _) (getD_put_self a 61 _ (by show _ < a.tmps.size; omega))
        · obtain rfl := Option.some.inj ho
          have q51 : a.tmps.getD 51 undef = .bool false := he _ (Array.mem_of_getElem? (i := 1) rfl) (by kernel_rfl) _ rfl
          have q61 : a.tmps.getD 61 undef = .pointer (some ⟨b', off' + j * 7, none⟩) := he _ (Array.mem_of_getElem? (i := 0) rfl) (by kernel_rfl) _ rfl
          clear he
          refine wanted_on rfl (yielded_g (i := 14) rfl rfl (by show 51 < a.tmps.size; omega) q51) ?_
          go_simp
          exact hK _ _ (Below.refl _ _) (getD_put_self a 62 _ (by show _ < a.tmps.size; omega))
        · obtain rfl := Option.some.inj ho
          have q51 : a.tmps.getD 51 undef = .bool false := he _ (Array.mem_of_getElem? (i := 1) rfl) (by kernel_rfl) _ rfl
          have q62 : a.tmps.getD 62 undef = .pointer (some ⟨b', off' + j * 7 + 1, none⟩) := he _ (Array.mem_of_getElem? (i := 0) rfl) (by kernel_rfl) _ rfl
          clear he
          have cc : u.cell? ⟨b', off' + j * 7 + 1, none⟩ = some (.slice by_ y.to.length dy) := (h5'.kept ((hb.trans (hR.mono hsz)).block b' (by omega))) 1 _ rfl
          refine wanted_on rfl (yielded_g (i := 14) rfl rfl (by show 51 < a.tmps.size; omega) q51) ?_
          go_simp
          exact hK _ _ (Below.refl _ _) (getD_put_self a 63 _ (by show _ < a.tmps.size; omega))
        · obtain rfl := Option.some.inj ho
          have q51 : a.tmps.getD 51 undef = .bool false := he _ (Array.mem_of_getElem? (i := 2) rfl) (by kernel_rfl) _ rfl
          have q57 : a.tmps.getD 57 undef = .slice ay x.to.length cy := he _ (Array.mem_of_getElem? (i := 0) rfl) (by kernel_rfl) _ rfl
          have q63 : a.tmps.getD 63 undef = .slice by_ y.to.length dy := he _ (Array.mem_of_getElem? (i := 1) rfl) (by kernel_rfl) _ rfl
          have hcall := l2IntsC_any u lo hi lo' hi' _ _ x.to y.to (HW.out.1.under (hb.trans (hR.mono hsz)) hhi0).to (HW.out.2.under (hb.trans (hR.mono hsz)) hhi0').to
          rw [HD2.out] at hcall
          clear he
          refine wanted_on rfl (yielded_g (i := 14) rfl rfl (by show 51 < a.tmps.size; omega) q51) ?_
          go_simp
          refine hcall.mono ?_
          rintro e1 u' ⟨m9, rfl, hm9⟩
          have hbu : Below u.heap.size u u' := by rw [hm9]; exact below_drewN (Below.refl _ _) m9
          exact hK _ _ hbu (getD_put_self a 64 _ (by show _ < a.tmps.size; omega))
        · obtain rfl := Option.some.inj ho
          have q51 : a.tmps.getD 51 undef = .bool false := he _ (Array.mem_of_getElem? (i := 1) rfl) (by kernel_rfl) _ rfl
          have q64 : a.tmps.getD 64 undef = .bool true := he _ (Array.mem_of_getElem? (i := 0) rfl) (by kernel_rfl) _ rfl
          clear he
          refine wanted_on rfl (yielded_g (i := 14) rfl rfl (by show 51 < a.tmps.size; omega) q51) ?_
          go_simp
          exact hK _ _ (Below.refl _ _) (getD_put_self a 65 _ (by show _ < a.tmps.size; omega))
        · obtain rfl := Option.some.inj ho
          have q51 : a.tmps.getD 51 undef = .bool false := he _ (Array.mem_of_getElem? (i := 0) rfl) (by kernel_rfl) _ rfl
          have q65 : a.tmps.getD 65 undef = .bool false := he _ (Array.mem_of_getElem? (i := 1) rfl) (by kernel_rfl) _ rfl
          clear he
          go_simp
          exact hK _ _ (Below.refl _ _) (getD_put_self a 66 _ (by show _ < a.tmps.size; omega))
        · obtain rfl := Option.some.inj ho
          have q66 : a.tmps.getD 66 undef = .bool false := he _ (Array.mem_of_getElem? (i := 0) rfl) (by kernel_rfl) _ rfl
          clear he
          go_simp
          exact hK _ _ (Below.refl _ _) (getD_put_self a 67 _ (by show _ < a.tmps.size; omega))
        · obtain rfl := Option.some.inj ho
          have q67 : a.tmps.getD 67 undef = .bool false := he _ (Array.mem_of_getElem? (i := 0) rfl) (by kernel_rfl) _ rfl
          have q2 : a.tmps.getD 2 undef = .pointer (some ⟨w.heap.size, 0, none⟩) := hf.at_ 2 (by kernel_rfl)
          clear he
          refine wanted_on rfl (yielded_g (i := 30) rfl rfl (by show 67 < a.tmps.size; omega) q67) ?_
          go_simp
          exact hK _ _ (Below.refl _ _) (getD_put_self a 68 _ (by show _ < a.tmps.size; omega))
        · obtain rfl := Option.some.inj ho
          have q67 : a.tmps.getD 67 undef = .bool false := he _ (Array.mem_of_getElem? (i := 1) rfl) (by kernel_rfl) _ rfl
          have q68 : a.tmps.getD 68 undef = .pointer (some ⟨w.heap.size, 1, none⟩) := he _ (Array.mem_of_getElem? (i := 0) rfl) (by kernel_rfl) _ rfl
          clear he
          have cc : u.cell? ⟨w.heap.size, 1, none⟩ = some (.slice (some ⟨b, off, none⟩) xs.length cap) := (pv.below (hb.trans (hR.mono hsz)) (by omega)).c 1 _ rfl
          refine wanted_on rfl (yielded_g (i := 30) rfl rfl (by show 67 < a.tmps.size; omega) q67) ?_
          go_simp
          exact hK _ _ (Below.refl _ _) (getD_put_self a 69 _ (by show _ < a.tmps.size; omega))
        · obtain rfl := Option.some.inj ho
          have q67 : a.tmps.getD 67 undef = .bool false := he _ (Array.mem_of_getElem? (i := 0) rfl) (by kernel_rfl) _ rfl
          have q5 : a.tmps.getD 5 undef = .int .i64 ((j : Nat) : Int) := hf.at_ 5 (by kernel_rfl)
          clear he
          refine wanted_on rfl (yielded_g (i := 30) rfl rfl (by show 67 < a.tmps.size; omega) q67) ?_
          go_simp
          exact hK _ _ (Below.refl _ _) (getD_put_self a 70 _ (by show _ < a.tmps.size; omega))
        · obtain rfl := Option.some.inj ho
          have q67 : a.tmps.getD 67 undef = .bool false := he _ (Array.mem_of_getElem? (i := 2) rfl) (by kernel_rfl) _ rfl
          have q69 : a.tmps.getD 69 undef = .slice (some ⟨b, off, none⟩) xs.length cap := he _ (Array.mem_of_getElem? (i := 0) rfl) (by kernel_rfl) _ rfl
          have q70 : a.tmps.getD 70 undef = .int .i64 ((j : Nat) : Int) := he _ (Array.mem_of_getElem? (i := 1) rfl) (by kernel_rfl) _ rfl
          clear he
          refine wanted_on rfl (yielded_g (i := 30) rfl rfl (by show 67 < a.tmps.size; omega) q67) ?_
          go_simp
          exact hK _ _ (Below.refl _ _) (getD_put_self a 71 _ (by show _ < a.tmps.size; omega))
        · obtain rfl := Option.some.inj ho
          have q67 : a.tmps.getD 67 undef = .bool false := he _ (Array.mem_of_getElem? (i := 1) rfl) (by kernel_rfl) _ rfl
          have q71 : a.tmps.getD 71 undef = .pointer (some ⟨b, off + j * 7, none⟩) := he _ (Array.mem_of_getElem? (i := 0) rfl) (by kernel_rfl) _ rfl
          clear he
          refine wanted_on rfl (yielded_g (i := 30) rfl rfl (by show 67 < a.tmps.size; omega) q67) ?_
          go_simp
          exact hK _ _ (Below.refl _ _) (getD_put_self a 72 _ (by show _ < a.tmps.size; omega))
        · obtain rfl := Option.some.inj ho
          have q67 : a.tmps.getD 67 undef = .bool false := he _ (Array.mem_of_getElem? (i := 1) rfl) (by kernel_rfl) _ rfl
          have q72 : a.tmps.getD 72 undef = .pointer (some ⟨b, off + j * 7 + 2, none⟩) := he _ (Array.mem_of_getElem? (i := 0) rfl) (by kernel_rfl) _ rfl
          clear he
          refine wanted_on rfl (yielded_g (i := 30) rfl rfl (by show 67 < a.tmps.size; omega) q67) ?_
          refine wp_loadG Try.isAgg99 Try.sizeOf99 (vs := exprC x.e (.slice az x.e.kids.length cz)) _ rfl q72 rfl ((h5.kept ((hb.trans (hR.mono hsz)).block b (by omega))).part 2 5) ?_
          exact hK _ _ (Below.refl _ _) (getD_put_self a 73 _ (by show _ < a.tmps.size; omega))
        · obtain rfl := Option.some.inj ho
          have q67 : a.tmps.getD 67 undef = .bool false := he _ (Array.mem_of_getElem? (i := 0) rfl) (by kernel_rfl) _ rfl
          have q3 : a.tmps.getD 3 undef = .pointer (some ⟨w.heap.size + 1, 0, none⟩) := hf.at_ 3 (by kernel_rfl)
          clear he
          refine wanted_on rfl (yielded_g (i := 30) rfl rfl (by show 67 < a.tmps.size; omega) q67) ?_
          go_simp
          exact hK _ _ (Below.refl _ _) (getD_put_self a 74 _ (by show _ < a.tmps.size; omega))
        · obtain rfl := Option.some.inj ho
          have q67 : a.tmps.getD 67 undef = .bool false := he _ (Array.mem_of_getElem? (i := 1) rfl) (by kernel_rfl) _ rfl
          have q74 : a.tmps.getD 74 undef = .pointer (some ⟨w.heap.size + 1, 1, none⟩) := he _ (Array.mem_of_getElem? (i := 0) rfl) (by kernel_rfl) _ rfl
          clear he
          have cc : u.cell? ⟨w.heap.size + 1, 1, none⟩ = some (.slice (some ⟨b', off', none⟩) ys.length cap') := (qv.below (hb.trans (hR.mono hsz)) (by omega)).c 1 _ rfl
          refine wanted_on rfl (yielded_g (i := 30) rfl rfl (by show 67 < a.tmps.size; omega) q67) ?_
          go_simp
          exact hK _ _ (Below.refl _ _) (getD_put_self a 75 _ (by show _ < a.tmps.size; omega))
        · obtain rfl := Option.some.inj ho
          have q67 : a.tmps.getD 67 undef = .bool false := he _ (Array.mem_of_getElem? (i := 0) rfl) (by kernel_rfl) _ rfl
          have q5 : a.tmps.getD 5 undef = .int .i64 ((j : Nat) : Int) := hf.at_ 5 (by kernel_rfl)
          clear he
          refine wanted_on rfl (yielded_g (i := 30) rfl rfl (by show 67 < a.tmps.size; omega) q67) ?_
          go_simp
          exact hK _ _ (Below.refl _ _) (getD_put_self a 76 _ (by show _ < a.tmps.size; omega))
        · obtain rfl := Option.some.inj ho
          have q67 : a.tmps.getD 67 undef = .bool false := he _ (Array.mem_of_getElem? (i := 2) rfl) (by kernel_rfl) _ rfl
          have q75 : a.tmps.getD 75 undef = .slice (some ⟨b', off', none⟩) ys.length cap' := he _ (Array.mem_of_getElem? (i := 0) rfl) (by kernel_rfl) _ rfl
          have q76 : a.tmps.getD 76 undef = .int .i64 ((j : Nat) : Int) := he _ (Array.mem_of_getElem? (i := 1) rfl) (by kernel_rfl) _ rfl
          clear he
          refine wanted_on rfl (yielded_g (i := 30) rfl rfl (by show 67 < a.tmps.size; omega) q67) ?_
          go_simp
          exact hK _ _ (Below.refl _ _) (getD_put_self a 77 _ (by show _ < a.tmps.size; omega))
        · obtain rfl := Option.some.inj ho
          have q67 : a.tmps.getD 67 undef = .bool false := he _ (Array.mem_of_getElem? (i := 1) rfl) (by kernel_rfl) _ rfl
          have q77 : a.tmps.getD 77 undef = .pointer (some ⟨b', off' + j * 7, none⟩) := he _ (Array.mem_of_getElem? (i := 0) rfl) (by kernel_rfl) _ rfl
          clear he
          refine wanted_on rfl (yielded_g (i := 30) rfl rfl (by show 67 < a.tmps.size; omega) q67) ?_
          go_simp
          exact hK _ _ (Below.refl _ _) (getD_put_self a 78 _ (by show _ < a.tmps.size; omega))
        · obtain rfl := Option.some.inj ho
          have q67 : a.tmps.getD 67 undef = .bool false := he _ (Array.mem_of_getElem? (i := 1) rfl) (by kernel_rfl) _ rfl
          have q78 : a.tmps.getD 78 undef = .pointer (some ⟨b', off' + j * 7 + 2, none⟩) := he _ (Array.mem_of_getElem? (i := 0) rfl) (by kernel_rfl) _ rfl
          clear he
          refine wanted_on rfl (yielded_g (i := 30) rfl rfl (by show 67 < a.tmps.size; omega) q67) ?_
          refine wp_loadG Try.isAgg99 Try.sizeOf99 (vs := exprC y.e (.slice bz y.e.kids.length dz)) _ rfl q78 rfl ((h5'.kept ((hb.trans (hR.mono hsz)).block b' (by omega))).part 2 5) ?_
          exact hK _ _ (Below.refl _ _) (getD_put_self a 79 _ (by show _ < a.tmps.size; omega))
        · obtain rfl := Option.some.inj ho
          have q67 : a.tmps.getD 67 undef = .bool false := he _ (Array.mem_of_getElem? (i := 2) rfl) (by kernel_rfl) _ rfl
          have q73 : a.tmps.getD 73 undef = .agg (exprC x.e (.slice az x.e.kids.length cz)).toArray := he _ (Array.mem_of_getElem? (i := 0) rfl) (by kernel_rfl) _ rfl
          have q79 : a.tmps.getD 79 undef = .agg (exprC y.e (.slice bz y.e.kids.length dz)).toArray := he _ (Array.mem_of_getElem? (i := 1) rfl) (by kernel_rfl) _ rfl
          clear he
          refine wanted_on rfl (yielded_g (i := 30) rfl rfl (by show 67 < a.tmps.size; omega) q67) ?_
          go_simp
          refine (sExprAlike_any u lo hi lo' hi' _ _ x.e y.e ⟨_, rfl, (HW.out.1.under (hb.trans (hR.mono hsz)) hhi0).e⟩ ⟨_, rfl, (HW.out.2.under (hb.trans (hR.mono hsz)) hhi0').e⟩ (by omega) (by omega)).mono ?_
          rintro e1 u' ⟨rr, rfl, hrr, hbu⟩
          obtain rfl : rr = r3 := iff_same hrr HR3.out
          exact hK _ _ hbu (getD_put_self a 80 _ (by show _ < a.tmps.size; omega))
        · obtain rfl := Option.some.inj ho
          have q67 : a.tmps.getD 67 undef = .bool false := he _ (Array.mem_of_getElem? (i := 1) rfl) (by kernel_rfl) _ rfl
          have q80 : a.tmps.getD 80 undef = .bool r3 := he _ (Array.mem_of_getElem? (i := 0) rfl) (by kernel_rfl) _ rfl
          clear he
          refine wanted_on rfl (yielded_g (i := 30) rfl rfl (by show 67 < a.tmps.size; omega) q67) ?_
          go_simp
          exact hK _ _ (Below.refl _ _) (getD_put_self a 81 _ (by show _ < a.tmps.size; omega))
        · obtain rfl := Option.some.inj ho
          have q67 : a.tmps.getD 67 undef = .bool false := he _ (Array.mem_of_getElem? (i := 0) rfl) (by kernel_rfl) _ rfl
          have q81 : a.tmps.getD 81 undef = .bool (!r3) := he _ (Array.mem_of_getElem? (i := 1) rfl) (by kernel_rfl) _ rfl
          clear he
          go_simp
          exact hK _ _ (Below.refl _ _) (getD_put_self a 82 _ (by show _ < a.tmps.size; omega))
        · exact absurd ho (by simp)
      · intro a u hf hR0 hp
        have hR : Grow wr u := (Below.drew (Below.refl _ _)).trans hR0
        have hbu : Below w0.heap.size w0 u := hb.trans (hR.mono hsz)
        have m82 : a.tmps.getD 82 undef = .bool (!r3) := hp 45 _ rfl
        clear hp hR0 hR h5 h5'
        cases r3 with
        | true =>
          have m82 : a.tmps.getD 82 undef = .bool false := m82
          obtain ⟨fq, ea, hfv⟩ := act_lit a 101 hf.size
          have md : a.defers = [] := hf.defers
          rw [md] at ea
          have m0 := hf.at_ 0 (by kernel_rfl)
          have m1 := hf.at_ 1 (by kernel_rfl)
          have m2 := hf.at_ 2 (by kernel_rfl)
          have m3 := hf.at_ 3 (by kernel_rfl)
          have m4 := hf.at_ 4 (by kernel_rfl)
          have m5 := hf.at_ 5 (by kernel_rfl)
          have m6 := hf.at_ 6 (by kernel_rfl)
          have m7 := hf.at_ 7 (by kernel_rfl)
          have m8 := hf.at_ 8 (by kernel_rfl)
          have m9 := hf.at_ 9 (by kernel_rfl)
          have m10 := hf.at_ 10 (by kernel_rfl)
          have m11 := hf.at_ 11 (by kernel_rfl)
          have m12 := hf.at_ 12 (by kernel_rfl)
          have m13 := hf.at_ 13 (by kernel_rfl)
          have m14 := hf.at_ 14 (by kernel_rfl)
          have m15 := hf.at_ 15 (by kernel_rfl)
          have m16 := hf.at_ 16 (by kernel_rfl)
          have m17 := hf.at_ 17 (by kernel_rfl)
          have m18 := hf.at_ 18 (by kernel_rfl)
          have m19 := hf.at_ 19 (by kernel_rfl)
          have m20 := hf.at_ 20 (by kernel_rfl)
          have m21 := hf.at_ 21 (by kernel_rfl)
          have m22 := hf.at_ 22 (by kernel_rfl)
          have m23 := hf.at_ 23 (by kernel_rfl)
          have m24 := hf.at_ 24 (by kernel_rfl)
          have m25 := hf.at_ 25 (by kernel_rfl)
          have m26 := hf.at_ 26 (by kernel_rfl)
          have m27 := hf.at_ 27 (by kernel_rfl)
          have m28 := hf.at_ 28 (by kernel_rfl)
          have m29 := hf.at_ 29 (by kernel_rfl)
          have m30 := hf.at_ 30 (by kernel_rfl)
          have m31 := hf.at_ 31 (by kernel_rfl)
          have m32 := hf.at_ 32 (by kernel_rfl)
          have m33 := hf.at_ 33 (by kernel_rfl)
          have m34 := hf.at_ 34 (by kernel_rfl)
          have m35 := hf.at_ 35 (by kernel_rfl)
          have m36 := hf.at_ 36 (by kernel_rfl)
          have m83 := hf.at_ 83 (by kernel_rfl)
          have m84 := hf.at_ 84 (by kernel_rfl)
          have m85 := hf.at_ 85 (by kernel_rfl)
          have m86 := hf.at_ 86 (by kernel_rfl)
          have m87 := hf.at_ 87 (by kernel_rfl)
          have m88 := hf.at_ 88 (by kernel_rfl)
          have m89 := hf.at_ 89 (by kernel_rfl)
          have m90 := hf.at_ 90 (by kernel_rfl)
          have m91 := hf.at_ 91 (by kernel_rfl)
          have m92 := hf.at_ 92 (by kernel_rfl)
          have m93 := hf.at_ 93 (by kernel_rfl)
          have m94 := hf.at_ 94 (by kernel_rfl)
          have m95 := hf.at_ 95 (by kernel_rfl)
          have m96 := hf.at_ 96 (by kernel_rfl)
          have m97 := hf.at_ 97 (by kernel_rfl)
          have m98 := hf.at_ 98 (by kernel_rfl)
          have m99 := hf.at_ 99 (by kernel_rfl)
          have m100 := hf.at_ 100 (by kernel_rfl)
          rw [← hfv] at m0 m1 m2 m3 m4 m5 m6 m7 m8 m9 m10 m11 m12 m13 m14 m15 m16 m17 m18 m19 m20 m21 m22 m23 m24 m25 m26 m27 m28 m29 m30 m31 m32 m33 m34 m35 m36 m83 m84 m85 m86 m87 m88 m89 m90 m91 m92 m93 m94 m95 m96 m97 m98 m99 m100 m82
          simp only [Array.getD_eq_getD_getElem?, List.getElem?_toArray, List.getElem?_cons_succ, List.getElem?_cons_zero, Option.getD_some] at m0 m1 m2 m3 m4 m5 m6 m7 m8 m9 m10 m11 m12 m13 m14 m15 m16 m17 m18 m19 m20 m21 m22 m23 m24 m25 m26 m27 m28 m29 m30 m31 m32 m33 m34 m35 m36 m83 m84 m85 m86 m87 m88 m89 m90 m91 m92 m93 m94 m95 m96 m97 m98 m99 m100
          simp only [List.range, List.range.loop, List.map_cons, List.map_nil, m0, m1, m2, m3, m4, m5, m6, m7, m8, m9, m10, m11, m12, m13, m14, m15, m16, m17, m18, m19, m20, m21, m22, m23, m24, m25, m26, m27, m28, m29, m30, m31, m32, m33, m34, m35, m36, m83, m84, m85, m86, m87, m88, m89, m90, m91, m92, m93, m94, m95, m96, m97, m98, m99, m100, m82] at ea
          subst ea
          clear m0 m1 m2 m3 m4 m5 m6 m7 m8 m9 m10 m11 m12 m13 m14 m15 m16 m17 m18 m19 m20 m21 m22 m23 m24 m25 m26 m27 m28 m29 m30 m31 m32 m33 m34 m35 m36 m83 m84 m85 m86 m87 m88 m89 m90 m91 m92 m93 m94 m95 m96 m97 m98 m99 m100 m82 hfv md hf
          have HN : Hid (xs.take (j + 1) = ys.take (j + 1)) := take_succG HT.out HX.out.1 HX.out.2 (HTE.out.mpr ⟨HE1.out, HE2.out, HR3.out.mp rfl⟩)
          go_wp2
          go_roundw
          case rel => exact ⟨j + 1, by omega, by go_num, hbu, HN.out⟩
          case measure => simp [intOf]; omega
        | false =>
          have m82 : a.tmps.getD 82 undef = .bool true := m82
          obtain ⟨fq, ea, hfv⟩ := act_lit a 101 hf.size
          have md : a.defers = [] := hf.defers
          rw [md] at ea
          have m0 := hf.at_ 0 (by kernel_rfl)
          have m1 := hf.at_ 1 (by kernel_rfl)
          have m2 := hf.at_ 2 (by kernel_rfl)
          have m3 := hf.at_ 3 (by kernel_rfl)
          have m4 := hf.at_ 4 (by kernel_rfl)
          have m5 := hf.at_ 5 (by kernel_rfl)
          have m6 := hf.at_ 6 (by kernel_rfl)
          have m7 := hf.at_ 7 (by kernel_rfl)
          have m8 := hf.at_ 8 (by kernel_rfl)
          have m9 := hf.at_ 9 (by kernel_rfl)
          have m10 := hf.at_ 10 (by kernel_rfl)
          have m11 := hf.at_ 11 (by kernel_rfl)
          have m12 := hf.at_ 12 (by kernel_rfl)
          have m13 := hf.at_ 13 (by kernel_rfl)
          have m14 := hf.at_ 14 (by kernel_rfl)
          have m15 := hf.at_ 15 (by kernel_rfl)
          have m16 := hf.at_ 16 (by kernel_rfl)
          have m17 := hf.at_ 17 (by kernel_rfl)
          have m18 := hf.at_ 18 (by kernel_rfl)
          have m19 := hf.at_ 19 (by kernel_rfl)
          have m20 := hf.at_ 20 (by kernel_rfl)
          have m21 := hf.at_ 21 (by kernel_rfl)
          have m22 := hf.at_ 22 (by kernel_rfl)
          have m23 := hf.at_ 23 (by kernel_rfl)
          have m24 := hf.at_ 24 (by kernel_rfl)
          have m25 := hf.at_ 25 (by kernel_rfl)
          have m26 := hf.at_ 26 (by kernel_rfl)
          have m27 := hf.at_ 27 (by kernel_rfl)
          have m28 := hf.at_ 28 (by kernel_rfl)
          have m29 := hf.at_ 29 (by kernel_rfl)
          have m30 := hf.at_ 30 (by kernel_rfl)
          have m31 := hf.at_ 31 (by kernel_rfl)
          have m32 := hf.at_ 32 (by kernel_rfl)
          have m33 := hf.at_ 33 (by kernel_rfl)
          have m34 := hf.at_ 34 (by kernel_rfl)
          have m35 := hf.at_ 35 (by kernel_rfl)
          have m36 := hf.at_ 36 (by kernel_rfl)
          have m83 := hf.at_ 83 (by kernel_rfl)
          have m84 := hf.at_ 84 (by kernel_rfl)
          have m85 := hf.at_ 85 (by kernel_rfl)
          have m86 := hf.at_ 86 (by kernel_rfl)
          have m87 := hf.at_ 87 (by kernel_rfl)
          have m88 := hf.at_ 88 (by kernel_rfl)
          have m89 := hf.at_ 89 (by kernel_rfl)
          have m90 := hf.at_ 90 (by kernel_rfl)
          have m91 := hf.at_ 91 (by kernel_rfl)
          have m92 := hf.at_ 92 (by kernel_rfl)
          have m93 := hf.at_ 93 (by kernel_rfl)
          have m94 := hf.at_ 94 (by kernel_rfl)
          have m95 := hf.at_ 95 (by kernel_rfl)
          have m96 := hf.at_ 96 (by kernel_rfl)
          have m97 := hf.at_ 97 (by kernel_rfl)
          have m98 := hf.at_ 98 (by kernel_rfl)
          have m99 := hf.at_ 99 (by kernel_rfl)
          have m100 := hf.at_ 100 (by kernel_rfl)
          rw [← hfv] at m0 m1 m2 m3 m4 m5 m6 m7 m8 m9 m10 m11 m12 m13 m14 m15 m16 m17 m18 m19 m20 m21 m22 m23 m24 m25 m26 m27 m28 m29 m30 m31 m32 m33 m34 m35 m36 m83 m84 m85 m86 m87 m88 m89 m90 m91 m92 m93 m94 m95 m96 m97 m98 m99 m100 m82
          simp only [Array.getD_eq_getD_getElem?, List.getElem?_toArray, List.getElem?_cons_succ, List.getElem?_cons_zero, Option.getD_some] at m0 m1 m2 m3 m4 m5 m6 m7 m8 m9 m10 m11 m12 m13 m14 m15 m16 m17 m18 m19 m20 m21 m22 m23 m24 m25 m26 m27 m28 m29 m30 m31 m32 m33 m34 m35 m36 m83 m84 m85 m86 m87 m88 m89 m90 m91 m92 m93 m94 m95 m96 m97 m98 m99 m100
          simp only [List.range, List.range.loop, List.map_cons, List.map_nil, m0, m1, m2, m3, m4, m5, m6, m7, m8, m9, m10, m11, m12, m13, m14, m15, m16, m17, m18, m19, m20, m21, m22, m23, m24, m25, m26, m27, m28, m29, m30, m31, m32, m33, m34, m35, m36, m83, m84, m85, m86, m87, m88, m89, m90, m91, m92, m93, m94, m95, m96, m97, m98, m99, m100, m82] at ea
          subst ea
          clear m0 m1 m2 m3 m4 m5 m6 m7 m8 m9 m10 m11 m12 m13 m14 m15 m16 m17 m18 m19 m20 m21 m22 m23 m24 m25 m26 m27 m28 m29 m30 m31 m32 m33 m34 m35 m36 m83 m84 m85 m86 m87 m88 m89 m90 m91 m92 m93 m94 m95 m96 m97 m98 m99 m100 m82 hfv md hf
          have HF : Hid (¬ c = d) := fun h => ne_atW HX.out.1 HX.out.2 (fun h' => by have := HR3.out.mpr (HTE.out.mp h').2.2; cases this) (HE.out.mp h).2.1
          go_wp2
          go_ret
          exact ⟨false, rfl, by simp [HF.out], G2.trans (hbu.mono (by omega))⟩
    · obtain rfl : j = xs.length := by omega
      have HW : Hid (xs = ys) := by
        show xs = ys
        have := HT.out; rwa [List.take_length, HL.out, List.take_length] at this
      clear HT
      have HB1 : Hid (Below w0.heap.size w0 wr) := hb
      go_wp2_with fail
      clear c0
      go_loopw [6] (fun i wr => ∃ j : Nat, j ≤ xd.length ∧ i = .int .i64 j ∧ Below w0.heap.size w0 wr ∧ xd.take j = yd.take j) (fun i _ => xd.length - (intOf i).toNat)
      case atStart => exact ⟨0, Nat.zero_le _, rfl, HB1.out, rfl⟩
      case round =>
        clear hb hsz HB1
        obtain ⟨j, hj, rfl, hb, htk⟩ := hrel
        have HT : Hid (xd.take j = yd.take j) := htk
        clear htk
        have hsz := hb.size
        have c0 : wr.cell? ⟨w.heap.size, 2, none⟩ = some (.slice add xd.length capd) := (pv.below hb (by omega)).c 2 _ rfl
        by_cases hlt : j < xd.length
        · obtain ⟨x, hx⟩ : ∃ x, xd[j]? = some x := ⟨xd[j], List.getElem?_eq_getElem hlt⟩
          have hlt' : j < yd.length := by have := HLd.out; omega
          obtain ⟨y, hy⟩ : ∃ y, yd[j]? = some y := ⟨yd[j], List.getElem?_eq_getElem hlt'⟩
          obtain ⟨b, off, capx, hv, hb1, hb2, h5⟩ := HKd.out.1.at_ hx
          obtain ⟨b', off', capy, hv', hb1', hb2', h5'⟩ := HKd.out.2.at_ hy
          simp only [Value.slice.injEq, true_and] at hv hv'
          obtain ⟨rfl, rfl⟩ := hv
          obtain ⟨rfl, rfl⟩ := hv'
          have h5 : CV w0 b (off + j * 4) (actC x) := h5
          have h5' : CV w0 b' (off' + j * 4) (actC y) := h5'
          have HX : Hid (xd[j]? = some x ∧ yd[j]? = some y) := ⟨hx, hy⟩
          clear hx hy
          obtain ⟨cd, hcd⟩ : ∃ cd, decide (x = y) = cd := ⟨_, rfl⟩
          have HCD : Hid (decide (x = y) = cd) := hcd
          clear hcd
          go_wp2_with fail
          clear c0
          refine wp_region_dag (R := Grow) (Φ := fun i v u => match i with
              | 0 => v = .pointer (some ⟨w.heap.size, 2, none⟩)
              | 1 => v = .slice (some ⟨b, off, none⟩) xd.length capd
              | 2 => v = .int .i64 j
              | 3 => v = .pointer (some ⟨b, off + j * 4, none⟩)
              | 4 => v = .agg (actC x).toArray
              | 5 => v = .pointer (some ⟨w.heap.size + 1, 2, none⟩)
              | 6 => v = .slice (some ⟨b', off', none⟩) yd.length capd'
              | 7 => v = .int .i64 j
              | 8 => v = .pointer (some ⟨b', off' + j * 4, none⟩)
              | 9 => v = .agg (actC y).toArray
              | 10 => v = .bool (!cd)
              | _ => True) (by kernel_rfl) (by kernel_rfl) (by kernel_rfl) (Below.refl _ _) grow_trans ?_ ?_ ?_
          · intro i v u u' hr
            match i with
            | 0 | 1 | 2 | 3 | 4 | 5 | 6 | 7 | 8 | 9 | 10 | _ + 11 => exact fun h => h
          · intro i o ho a u hf hR0 he K' hK
            have hR : Grow wr u := (Below.drew (Below.refl _ _)).trans hR0
            have hsz' : a.tmps.size = 101 := hf.size
            have hus : wr.heap.size ≤ u.heap.size := hR.size
            rcases i with _ | _ | _ | _ | _ | _ | _ | _ | _ | _ | _ | i
            · obtain rfl := Option.some.inj ho
              have q2 : a.tmps.getD 2 undef = .pointer (some ⟨w.heap.size, 0, none⟩) := hf.at_ 2 (by kernel_rfl)
              clear he
              go_simp
              exact hK _ _ (Below.refl _ _) (getD_put_self a 90 _ (by show _ < a.tmps.size; omega))
            · obtain rfl := Option.some.inj ho
              have q90 : a.tmps.getD 90 undef = .pointer (some ⟨w.heap.size, 2, none⟩) := he _ (Array.mem_of_getElem? (i := 0) rfl) (by kernel_rfl) _ rfl
              clear he
              have cc : u.cell? ⟨w.heap.size, 2, none⟩ = some (.slice (some ⟨b, off, none⟩) xd.length capd) := (pv.below (hb.trans (hR.mono hsz)) (by omega)).c 2 _ rfl
              go_simp
              exact hK _ _ (Below.refl _ _) (getD_put_self a 91 _ (by show _ < a.tmps.size; omega))
            · obtain rfl := Option.some.inj ho
              have q6 : a.tmps.getD 6 undef = .int .i64 j := hf.at_ 6 (by kernel_rfl)
              clear he
              go_simp
              exact hK _ _ (Below.refl _ _) (getD_put_self a 92 _ (by show _ < a.tmps.size; omega))
            · obtain rfl := Option.some.inj ho
              have q91 : a.tmps.getD 91 undef = .slice (some ⟨b, off, none⟩) xd.length capd := he _ (Array.mem_of_getElem? (i := 0) rfl) (by kernel_rfl) _ rfl
              have q92 : a.tmps.getD 92 undef = .int .i64 j := he _ (Array.mem_of_getElem? (i := 1) rfl) (by kernel_rfl) _ rfl
              clear he
              go_simp
              exact hK _ _ (Below.refl _ _) (getD_put_self a 93 _ (by show _ < a.tmps.size; omega))
            · obtain rfl := Option.some.inj ho
              have q93 : a.tmps.getD 93 undef = .pointer (some ⟨b, off + j * 4, none⟩) := he _ (Array.mem_of_getElem? (i := 0) rfl) (by kernel_rfl) _ rfl
              clear he
              refine wantedG rfl (wp_loadG Try.isAgg113 Try.sizeOf113 (vs := actC x) _ rfl q93 rfl (h5.kept ((hb.trans (hR.mono hsz)).block b (by omega))) ?_)
              exact hK _ _ (Below.refl _ _) (getD_put_self a 94 _ (by show _ < a.tmps.size; omega))
            · obtain rfl := Option.some.inj ho
              have q3 : a.tmps.getD 3 undef = .pointer (some ⟨w.heap.size + 1, 0, none⟩) := hf.at_ 3 (by kernel_rfl)
              clear he
              go_simp
              exact hK _ _ (Below.refl _ _) (getD_put_self a 95 _ (by show _ < a.tmps.size; omega))
            · obtain rfl := Option.some.inj ho
              have q95 : a.tmps.getD 95 undef = .pointer (some ⟨w.heap.size + 1, 2, none⟩) := he _ (Array.mem_of_getElem? (i := 0) rfl) (by kernel_rfl) _ rfl
              clear he
              have cc : u.cell? ⟨w.heap.size + 1, 2, none⟩ = some (.slice (some ⟨b', off', none⟩) yd.length capd') := (qv.below (hb.trans (hR.mono hsz)) (by omega)).c 2 _ rfl
              go_simp
              exact hK _ _ (Below.refl _ _) (getD_put_self a 96 _ (by show _ < a.tmps.size; omega))
            · obtain rfl := Option.some.inj ho
              have q6 : a.tmps.getD 6 undef = .int .i64 j := hf.at_ 6 (by kernel_rfl)
              clear he
              go_simp
              exact hK _ _ (Below.refl _ _) (getD_put_self a 97 _ (by show _ < a.tmps.size; omega))
            · obtain rfl := Option.some.inj ho
              have q96 : a.tmps.getD 96 undef = .slice (some ⟨b', off', none⟩) yd.length capd' := he _ (Array.mem_of_getElem? (i := 0) rfl) (by kernel_rfl) _ rfl
              have q97 : a.tmps.getD 97 undef = .int .i64 j := he _ (Array.mem_of_getElem? (i := 1) rfl) (by kernel_rfl) _ rfl
              clear he
              go_simp
              exact hK _ _ (Below.refl _ _) (getD_put_self a 98 _ (by show _ < a.tmps.size; omega))
            · obtain rfl := Option.some.inj ho
              have q98 : a.tmps.getD 98 undef = .pointer (some ⟨b', off' + j * 4, none⟩) := he _ (Array.mem_of_getElem? (i := 0) rfl) (by kernel_rfl) _ rfl
              clear he
              refine wantedG rfl (wp_loadG Try.isAgg113 Try.sizeOf113 (vs := actC y) _ rfl q98 rfl (h5'.kept ((hb.trans (hR.mono hsz)).block b' (by omega))) ?_)
              exact hK _ _ (Below.refl _ _) (getD_put_self a 99 _ (by show _ < a.tmps.size; omega))
            · obtain rfl := Option.some.inj ho
              have q94 : a.tmps.getD 94 undef = .agg (actC x).toArray := he _ (Array.mem_of_getElem? (i := 0) rfl) (by kernel_rfl) _ rfl
              have q99 : a.tmps.getD 99 undef = .agg (actC y).toArray := he _ (Array.mem_of_getElem? (i := 1) rfl) (by kernel_rfl) _ rfl
              clear he
              have hg := guard_actS .neq (.tmp 94) (.tmp 99) x y u
              have hn := neq_actS x y u
              rw [HCD.out] at hn
              exact wantedG rfl (wp_binG (.tmp 94) (.tmp 99) rfl q94 q99 hg hn (hK _ _ (Below.refl _ _) (getD_put_self a 100 _ (by show _ < a.tmps.size; omega))))
            · exact absurd ho (by simp)
          · intro a u hf hR0 hp
            have hR : Grow wr u := (Below.drew (Below.refl _ _)).trans hR0
            have m100 : a.tmps.getD 100 undef = .bool (!cd) := hp 10 _ rfl
            have hbu : Below w0.heap.size w0 u := hb.trans (hR.mono hsz)
            have husz := hR.size
            clear hp hR hR0
            cases cd with
            | true =>
              have HE : Hid (x = y) := by show x = y; exact of_decide_eq_true HCD.out
              have m100 : a.tmps.getD 100 undef = .bool false := m100
              clear HCD
              obtain ⟨fq, ea, hfv⟩ := act_lit a 101 hf.size
              have md : a.defers = [] := hf.defers
              rw [md] at ea
              have m0 := hf.at_ 0 (by kernel_rfl)
              have m1 := hf.at_ 1 (by kernel_rfl)
              have m2 := hf.at_ 2 (by kernel_rfl)
              have m3 := hf.at_ 3 (by kernel_rfl)
              have m4 := hf.at_ 4 (by kernel_rfl)
              have m5 := hf.at_ 5 (by kernel_rfl)
              have m6 := hf.at_ 6 (by kernel_rfl)
              have m7 := hf.at_ 7 (by kernel_rfl)
              have m8 := hf.at_ 8 (by kernel_rfl)
              have m9 := hf.at_ 9 (by kernel_rfl)
              have m10 := hf.at_ 10 (by kernel_rfl)
              have m11 := hf.at_ 11 (by kernel_rfl)
              have m12 := hf.at_ 12 (by kernel_rfl)
              have m13 := hf.at_ 13 (by kernel_rfl)
              have m14 := hf.at_ 14 (by kernel_rfl)
              have m15 := hf.at_ 15 (by kernel_rfl)
              have m16 := hf.at_ 16 (by kernel_rfl)
              have m17 := hf.at_ 17 (by kernel_rfl)
              have m18 := hf.at_ 18 (by kernel_rfl)
              have m19 := hf.at_ 19 (by kernel_rfl)
              have m20 := hf.at_ 20 (by kernel_rfl)
              have m21 := hf.at_ 21 (by kernel_rfl)
              have m22 := hf.at_ 22 (by kernel_rfl)
              have m23 := hf.at_ 23 (by kernel_rfl)
              have m24 := hf.at_ 24 (by kernel_rfl)
              have m25 := hf.at_ 25 (by kernel_rfl)
              have m26 := hf.at_ 26 (by kernel_rfl)
              have m27 := hf.at_ 27 (by kernel_rfl)
              have m28 := hf.at_ 28 (by kernel_rfl)
              have m29 := hf.at_ 29 (by kernel_rfl)
              have m30 := hf.at_ 30 (by kernel_rfl)
              have m31 := hf.at_ 31 (by kernel_rfl)
              have m32 := hf.at_ 32 (by kernel_rfl)
              have m33 := hf.at_ 33 (by kernel_rfl)
              have m34 := hf.at_ 34 (by kernel_rfl)
              have m35 := hf.at_ 35 (by kernel_rfl)
              have m36 := hf.at_ 36 (by kernel_rfl)
              have m37 := hf.at_ 37 (by kernel_rfl)
              have m38 := hf.at_ 38 (by kernel_rfl)
              have m39 := hf.at_ 39 (by kernel_rfl)
              have m40 := hf.at_ 40 (by kernel_rfl)
              have m41 := hf.at_ 41 (by kernel_rfl)
              have m42 := hf.at_ 42 (by kernel_rfl)
              have m43 := hf.at_ 43 (by kernel_rfl)
              have m44 := hf.at_ 44 (by kernel_rfl)
              have m45 := hf.at_ 45 (by kernel_rfl)
              have m46 := hf.at_ 46 (by kernel_rfl)
              have m47 := hf.at_ 47 (by kernel_rfl)
              have m48 := hf.at_ 48 (by kernel_rfl)
              have m49 := hf.at_ 49 (by kernel_rfl)
              have m50 := hf.at_ 50 (by kernel_rfl)
              have m51 := hf.at_ 51 (by kernel_rfl)
              have m52 := hf.at_ 52 (by kernel_rfl)
              have m53 := hf.at_ 53 (by kernel_rfl)
              have m54 := hf.at_ 54 (by kernel_rfl)
              have m55 := hf.at_ 55 (by kernel_rfl)
              have m56 := hf.at_ 56 (by kernel_rfl)
              have m57 := hf.at_ 57 (by kernel_rfl)
              have m58 := hf.at_ 58 (by kernel_rfl)
              have m59 := hf.at_ 59 (by kernel_rfl)
              have m60 := hf.at_ 60 (by kernel_rfl)
              have m61 := hf.at_ 61 (by kernel_rfl)
              have m62 := hf.at_ 62 (by kernel_rfl)
              have m63 := hf.at_ 63 (by kernel_rfl)
              have m64 := hf.at_ 64 (by kernel_rfl)
              have m65 := hf.at_ 65 (by kernel_rfl)
              have m66 := hf.at_ 66 (by kernel_rfl)
              have m67 := hf.at_ 67 (by kernel_rfl)
              have m68 := hf.at_ 68 (by kernel_rfl)
              have m69 := hf.at_ 69 (by kernel_rfl)
              have m70 := hf.at_ 70 (by kernel_rfl)
              have m71 := hf.at_ 71 (by kernel_rfl)
              have m72 := hf.at_ 72 (by kernel_rfl)
              have m73 := hf.at_ 73 (by kernel_rfl)
              have m74 := hf.at_ 74 (by kernel_rfl)
              have m75 := hf.at_ 75 (by kernel_rfl)
              have m76 := hf.at_ 76 (by kernel_rfl)
              have m77 := hf.at_ 77 (by kernel_rfl)
              have m78 := hf.at_ 78 (by kernel_rfl)
              have m79 := hf.at_ 79 (by kernel_rfl)
              have m80 := hf.at_ 80 (by kernel_rfl)
              have m81 := hf.at_ 81 (by kernel_rfl)
              have m82 := hf.at_ 82 (by kernel_rfl)
              have m83 := hf.at_ 83 (by kernel_rfl)
              have m84 := hf.at_ 84 (by kernel_rfl)
              have m85 := hf.at_ 85 (by kernel_rfl)
              have m86 := hf.at_ 86 (by kernel_rfl)
              have m87 := hf.at_ 87 (by kernel_rfl)
              have m88 := hf.at_ 88 (by kernel_rfl)
              have m89 := hf.at_ 89 (by kernel_rfl)
              rw [← hfv] at m0 m1 m2 m3 m4 m5 m6 m7 m8 m9 m10 m11 m12 m13 m14 m15 m16 m17 m18 m19 m20 m21 m22 m23 m24 m25 m26 m27 m28 m29 m30 m31 m32 m33 m34 m35 m36 m37 m38 m39 m40 m41 m42 m43 m44 m45 m46 m47 m48 m49 m50 m51 m52 m53 m54 m55 m56 m57 m58 m59 m60 m61 m62 m63 m64 m65 m66 m67 m68 m69 m70 m71 m72 m73 m74 m75 m76 m77 m78 m79 m80 m81 m82 m83 m84 m85 m86 m87 m88 m89 m100
              simp only [Array.getD_eq_getD_getElem?, List.getElem?_toArray, List.getElem?_cons_succ, List.getElem?_cons_zero, Option.getD_some] at m0 m1 m2 m3 m4 m5 m6 m7 m8 m9 m10 m11 m12 m13 m14 m15 m16 m17 m18 m19 m20 m21 m22 m23 m24 m25 m26 m27 m28 m29 m30 m31 m32 m33 m34 m35 m36 m37 m38 m39 m40 m41 m42 m43 m44 m45 m46 m47 m48 m49 m50 m51 m52 m53 m54 m55 m56 m57 m58 m59 m60 m61 m62 m63 m64 m65 m66 m67 m68 m69 m70 m71 m72 m73 m74 m75 m76 m77 m78 m79 m80 m81 m82 m83 m84 m85 m86 m87 m88 m89
              simp only [List.range, List.range.loop, List.map_cons, List.map_nil, m0, m1, m2, m3, m4, m5, m6, m7, m8, m9, m10, m11, m12, m13, m14, m15, m16, m17, m18, m19, m20, m21, m22, m23, m24, m25, m26, m27, m28, m29, m30, m31, m32, m33, m34, m35, m36, m37, m38, m39, m40, m41, m42, m43, m44, m45, m46, m47, m48, m49, m50, m51, m52, m53, m54, m55, m56, m57, m58, m59, m60, m61, m62, m63, m64, m65, m66, m67, m68, m69, m70, m71, m72, m73, m74, m75, m76, m77, m78, m79, m80, m81, m82, m83, m84, m85, m86, m87, m88, m89, m100] at ea
              subst ea
              clear m0 m1 m2 m3 m4 m5 m6 m7 m8 m9 m10 m11 m12 m13 m14 m15 m16 m17 m18 m19 m20 m21 m22 m23 m24 m25 m26 m27 m28 m29 m30 m31 m32 m33 m34 m35 m36 m37 m38 m39 m40 m41 m42 m43 m44 m45 m46 m47 m48 m49 m50 m51 m52 m53 m54 m55 m56 m57 m58 m59 m60 m61 m62 m63 m64 m65 m66 m67 m68 m69 m70 m71 m72 m73 m74 m75 m76 m77 m78 m79 m80 m81 m82 m83 m84 m85 m86 m87 m88 m89 m100 hfv md hf
              have HN : Hid (xd.take (j + 1) = yd.take (j + 1)) := take_succG HT.out HX.out.1 HX.out.2 HE.out
              clear h5 h5'
              go_wp2
              go_roundw
              case rel => exact ⟨j + 1, by omega, by go_num, hbu, HN.out⟩
              case measure => simp [intOf]; omega
            | false =>
              have HE : Hid (x ≠ y) := by show x ≠ y; exact of_decide_eq_false HCD.out
              have m100 : a.tmps.getD 100 undef = .bool true := m100
              clear HCD
              obtain ⟨fq, ea, hfv⟩ := act_lit a 101 hf.size
              have md : a.defers = [] := hf.defers
              rw [md] at ea
              have m0 := hf.at_ 0 (by kernel_rfl)
              have m1 := hf.at_ 1 (by kernel_rfl)
              have m2 := hf.at_ 2 (by kernel_rfl)
              have m3 := hf.at_ 3 (by kernel_rfl)
              have m4 := hf.at_ 4 (by kernel_rfl)
              have m5 := hf.at_ 5 (by kernel_rfl)
              have m6 := hf.at_ 6 (by kernel_rfl)
              have m7 := hf.at_ 7 (by kernel_rfl)
              have m8 := hf.at_ 8 (by kernel_rfl)
              have m9 := hf.at_ 9 (by kernel_rfl)
              have m10 := hf.at_ 10 (by kernel_rfl)
              have m11 := hf.at_ 11 (by kernel_rfl)
              have m12 := hf.at_ 12 (by kernel_rfl)
              have m13 := hf.at_ 13 (by kernel_rfl)
              have m14 := hf.at_ 14 (by kernel_rfl)
              have m15 := hf.at_ 15 (by kernel_rfl)
              have m16 := hf.at_ 16 (by kernel_rfl)
              have m17 := hf.at_ 17 (by kernel_rfl)
              have m18 := hf.at_ 18 (by kernel_rfl)
              have m19 := hf.at_ 19 (by kernel_rfl)
              have m20 := hf.at_ 20 (by kernel_rfl)
              have m21 := hf.at_ 21 (by kernel_rfl)
              have m22 := hf.at_ 22 (by kernel_rfl)
              have m23 := hf.at_ 23 (by kernel_rfl)
              have m24 := hf.at_ 24 (by kernel_rfl)
              have m25 := hf.at_ 25 (by kernel_rfl)
              have m26 := hf.at_ 26 (by kernel_rfl)
              have m27 := hf.at_ 27 (by kernel_rfl)
              have m28 := hf.at_ 28 (by kernel_rfl)
              have m29 := hf.at_ 29 (by kernel_rfl)
              have m30 := hf.at_ 30 (by kernel_rfl)
              have m31 := hf.at_ 31 (by kernel_rfl)
              have m32 := hf.at_ 32 (by kernel_rfl)
              have m33 := hf.at_ 33 (by kernel_rfl)
              have m34 := hf.at_ 34 (by kernel_rfl)
              have m35 := hf.at_ 35 (by kernel_rfl)
              have m36 := hf.at_ 36 (by kernel_rfl)
              have m37 := hf.at_ 37 (by kernel_rfl)
              have m38 := hf.at_ 38 (by kernel_rfl)
              have m39 := hf.at_ 39 (by kernel_rfl)
              have m40 := hf.at_ 40 (by kernel_rfl)
              have m41 := hf.at_ 41 (by kernel_rfl)
              have m42 := hf.at_ 42 (by kernel_rfl)
              have m43 := hf.at_ 43 (by kernel_rfl)
              have m44 := hf.at_ 44 (by kernel_rfl)
              have m45 := hf.at_ 45 (by kernel_rfl)
              have m46 := hf.at_ 46 (by kernel_rfl)
              have m47 := hf.at_ 47 (by kernel_rfl)
              have m48 := hf.at_ 48 (by kernel_rfl)
              have m49 := hf.at_ 49 (by kernel_rfl)
              have m50 := hf.at_ 50 (by kernel_rfl)
              have m51 := hf.at_ 51 (by kernel_rfl)
              have m52 := hf.at_ 52 (by kernel_rfl)
              have m53 := hf.at_ 53 (by kernel_rfl)
              have m54 := hf.at_ 54 (by kernel_rfl)
              have m55 := hf.at_ 55 (by kernel_rfl)
              have m56 := hf.at_ 56 (by kernel_rfl)
              have m57 := hf.at_ 57 (by kernel_rfl)
              have m58 := hf.at_ 58 (by kernel_rfl)
              have m59 := hf.at_ 59 (by kernel_rfl)
              have m60 := hf.at_ 60 (by kernel_rfl)
              have m61 := hf.at_ 61 (by kernel_rfl)
              have m62 := hf.at_ 62 (by kernel_rfl)
              have m63 := hf.at_ 63 (by kernel_rfl)
              have m64 := hf.at_ 64 (by kernel_rfl)
              have m65 := hf.at_ 65 (by kernel_rfl)
              have m66 := hf.at_ 66 (by kernel_rfl)
              have m67 := hf.at_ 67 (by kernel_rfl)
              have m68 := hf.at_ 68 (by kernel_rfl)
              have m69 := hf.at_ 69 (by kernel_rfl)
              have m70 := hf.at_ 70 (by kernel_rfl)
              have m71 := hf.at_ 71 (by kernel_rfl)
              have m72 := hf.at_ 72 (by kernel_rfl)
              have m73 := hf.at_ 73 (by kernel_rfl)
              have m74 := hf.at_ 74 (by kernel_rfl)
              have m75 := hf.at_ 75 (by kernel_rfl)
              have m76 := hf.at_ 76 (by kernel_rfl)
              have m77 := hf.at_ 77 (by kernel_rfl)
              have m78 := hf.at_ 78 (by kernel_rfl)
              have m79 := hf.at_ 79 (by kernel_rfl)
              have m80 := hf.at_ 80 (by kernel_rfl)
              have m81 := hf.at_ 81 (by kernel_rfl)
              have m82 := hf.at_ 82 (by kernel_rfl)
              have m83 := hf.at_ 83 (by kernel_rfl)
              have m84 := hf.at_ 84 (by kernel_rfl)
              have m85 := hf.at_ 85 (by kernel_rfl)
              have m86 := hf.at_ 86 (by kernel_rfl)
              have m87 := hf.at_ 87 (by kernel_rfl)
              have m88 := hf.at_ 88 (by kernel_rfl)
              have m89 := hf.at_ 89 (by kernel_rfl)
              rw [← hfv] at m0 m1 m2 m3 m4 m5 m6 m7 m8 m9 m10 m11 m12 m13 m14 m15 m16 m17 m18 m19 m20 m21 m22 m23 m24 m25 m26 m27 m28 m29 m30 m31 m32 m33 m34 m35 m36 m37 m38 m39 m40 m41 m42 m43 m44 m45 m46 m47 m48 m49 m50 m51 m52 m53 m54 m55 m56 m57 m58 m59 m60 m61 m62 m63 m64 m65 m66 m67 m68 m69 m70 m71 m72 m73 m74 m75 m76 m77 m78 m79 m80 m81 m82 m83 m84 m85 m86 m87 m88 m89 m100
              simp only [Array.getD_eq_getD_getElem?, List.getElem?_toArray, List.getElem?_cons_succ, List.getElem?_cons_zero, Option.getD_some] at m0 m1 m2 m3 m4 m5 m6 m7 m8 m9 m10 m11 m12 m13 m14 m15 m16 m17 m18 m19 m20 m21 m22 m23 m24 m25 m26 m27 m28 m29 m30 m31 m32 m33 m34 m35 m36 m37 m38 m39 m40 m41 m42 m43 m44 m45 m46 m47 m48 m49 m50 m51 m52 m53 m54 m55 m56 m57 m58 m59 m60 m61 m62 m63 m64 m65 m66 m67 m68 m69 m70 m71 m72 m73 m74 m75 m76 m77 m78 m79 m80 m81 m82 m83 m84 m85 m86 m87 m88 m89
              simp only [List.range, List.range.loop, List.map_cons, List.map_nil, m0, m1, m2, m3, m4, m5, m6, m7, m8, m9, m10, m11, m12, m13, m14, m15, m16, m17, m18, m19, m20, m21, m22, m23, m24, m25, m26, m27, m28, m29, m30, m31, m32, m33, m34, m35, m36, m37, m38, m39, m40, m41, m42, m43, m44, m45, m46, m47, m48, m49, m50, m51, m52, m53, m54, m55, m56, m57, m58, m59, m60, m61, m62, m63, m64, m65, m66, m67, m68, m69, m70, m71, m72, m73, m74, m75, m76, m77, m78, m79, m80, m81, m82, m83, m84, m85, m86, m87, m88, m89, m100] at ea
              subst ea
              clear m0 m1 m2 m3 m4 m5 m6 m7 m8 m9 m10 m11 m12 m13 m14 m15 m16 m17 m18 m19 m20 m21 m22 m23 m24 m25 m26 m27 m28 m29 m30 m31 m32 m33 m34 m35 m36 m37 m38 m39 m40 m41 m42 m43 m44 m45 m46 m47 m48 m49 m50 m51 m52 m53 m54 m55 m56 m57 m58 m59 m60 m61 m62 m63 m64 m65 m66 m67 m68 m69 m70 m71 m72 m73 m74 m75 m76 m77 m78 m79 m80 m81 m82 m83 m84 m85 m86 m87 m88 m89 m100 hfv md hf
              have HF : Hid (¬ c = d) := fun h => ne_atG HX.out.1 HX.out.2 HE.out (HEE.out.mp h).2.2
              clear h5 h5'
              go_wp2
              go_ret
              exact ⟨false, rfl, by simp [HF.out], G2.trans (hbu.mono (by omega))⟩
        · obtain rfl : j = xd.length := by omega
          have HF : Hid (c = d) := by
            have h := HT.out
            rw [List.take_length, HLd.out, List.take_length] at h
            exact HEE.out.mpr ⟨HL0.out, HW.out, h⟩
          go_wp2
          go_ret
          exact ⟨true, rfl, by simp [HF.out], G2.trans (hb.mono (by omega))⟩

end Go.Proofs.Ytaoiookfmgpmkaa
