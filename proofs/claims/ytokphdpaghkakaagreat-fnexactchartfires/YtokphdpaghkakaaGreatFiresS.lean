/-
  The model's ChartFires (package spec).
-/
import Derived.Test.YtokphdpaghkakaaGreatM7
import Derived.Test.YtokphdpaghkakaaGreatM3
import Derived.Test.YtokphdpaghkakaaGreatChartSpec
namespace Go.Proofs.YtokphdpaghkakaaGreat
open Go.ChangeShapes Go.WideShapes Go.ChangeAt Go.RowKit
set_option linter.unusedVariables false
set_option linter.unusedSimpArgs false
set_option maxRecDepth 100000

set_option maxHeartbeats 4000000 in
theorem l8All_any (w : World) (lo hi lo' hi' : Nat) (va vb : Value) (free : List Bool) (fr : List Int) (ha : GR bool2 w lo hi va free) (hb : SI w lo' hi' vb fr) (hhi : hi ≤ w.heap.size) (hhi' : hi' ≤ w.heap.size) (hx : ∀ x ∈ fr, 0 ≤ x ∧ x < (free.length : Int)) :
    Calls Tryz.prog 73 #[va, vb] w fun e w' => e = .returned (.bool (allOn free fr)) ∧ w' = w := by
  obtain ⟨R, hR⟩ : ∃ R, allOn free fr = R := ⟨_, rfl⟩
  rw [hR]
  have HR : Hid (allOn free fr = R) := hR
  clear hR
  obtain ⟨ad, cap, rfl, h1, h2⟩ := ha.shape
  obtain ⟨ad', cap', rfl, h1', h2', h3'⟩ := hb
  unfold maxLen at h2 h2'
  have HA : Hid (GR bool2 w lo hi (.slice ad free.length cap) free) := ha
  have HX : Hid (∀ x ∈ fr, 0 ≤ x ∧ x < (free.length : Int)) := hx
  clear ha hx
  go_enter Tryz.func73, Tryz.ntmps73
  go_wp2_with fail
  go_loopw [5] (fun i wr => ∃ j : Nat, j ≤ fr.length ∧ i = .int .i64 j ∧ wr = w ∧ Hid (allOn free (fr.take j) = true)) (fun i _ => fr.length - (intOf i).toNat)
  case atStart => exact ⟨0, Nat.zero_le _, rfl, rfl, rfl⟩
  case round =>
    obtain ⟨j, hj, rfl, rfl, HT⟩ := hrel
    by_cases hlt : j < fr.length
    · obtain ⟨x, hx⟩ : ∃ x, fr[j]? = some x := ⟨fr[j], List.getElem?_eq_getElem hlt⟩
      rcases h3' with h0 | ⟨b', off', rfl, hl0, hh0, hc⟩
      · rw [h0] at hlt; simp at hlt
      have hxr := HX.out x (List.mem_of_getElem? hx)
      obtain ⟨a, ha⟩ : ∃ a : Nat, x = (a : Int) := ⟨x.toNat, by omega⟩
      subst ha
      have c1 : wr.cell? ⟨b', off' + j, none⟩ = some (.int .i64 (a : Int)) := hc j _ hx
      have hal : a < free.length := by omega
      obtain ⟨y, hy⟩ : ∃ y, free[a]? = some y := ⟨free[a], List.getElem?_eq_getElem hal⟩
      obtain ⟨b, off, capx, hv, hb1, hb2, h5⟩ := HA.out.at_ hy
      simp only [Value.slice.injEq, true_and] at hv
      obtain ⟨rfl, rfl⟩ := hv
      have c2 : wr.cell? ⟨b, off + a, none⟩ = some (.bool y) := by
        have := h5 0 (.bool y) rfl
        rwa [Nat.add_zero, show a * bool2.k = a from Nat.mul_one a] at this
      have hya : (free[((a : Int)).toNat]?).getD false = y := by rw [Int.toNat_natCast, hy]; rfl
      cases y
      · have HFF : Hid (R = false) := by show R = false; rw [← HR.out]; exact allOn_no hx hya
        clear hx hy hc h5 hya
        go_wp2
        go_ret
        exact ⟨ret_bool HFF.out.symm, rfl⟩
      · have HN : Hid (allOn free (fr.take (j + 1)) = true) := by show _ = _; rw [allOn_take hx HT.out]; exact hya
        clear hx hy hc h5 hya HT
        go_wp2
        go_roundw
        case rel => exact ⟨j + 1, by omega, by go_num, trivial, HN⟩
        case measure => simp [intOf]; omega
    · obtain rfl : j = fr.length := by omega
      have HFF : Hid (R = true) := by show R = true; rw [← HR.out]; have := HT.out; rwa [List.take_length] at this
      go_wp2
      go_ret
      exact ⟨ret_bool HFF.out.symm, rfl⟩

/-- What holds as j ways have been told. -/
structure LF (w : World) (c0 c1 c2 m0 m1 m2 : Value) (B : Nat) (vf : Value) (s : List Int × List Bool) (wr : World) (vo : Value) : Prop where
  below : Below w.heap.size w wr
  cv : VarG wr w.heap.size [c0, c1, c2]
  mv : VarG wr (w.heap.size + 1 + 1) [m0, m1, m2]
  free : GO bool2 wr (w.heap.size + 3) B vf s.2
  out : RowZ wr B vo s.1
  le : w.heap.size + 3 ≤ B ∧ B ≤ wr.heap.size

theorem LF.grow {w : World} {c0 c1 c2 m0 m1 m2 : Value} {B : Nat} {vf : Value} {s : List Int × List Bool} {wr u : World} {vo : Value} (h : LF w c0 c1 c2 m0 m1 m2 B vf s wr vo) (g : Below wr.heap.size wr u) : LF w c0 c1 c2 m0 m1 m2 B vf s u vo := by
  have h1 := h.le
  have h2 := g.size
  exact ⟨h.below.trans (g.mono (by omega)), h.cv.below g (by omega), h.mv.below g (by omega), h.free.under g (by omega), h.out.below g (Nat.le_refl _), by omega⟩

/-- Steps that are left. -/
theorem LF.left {w : World} {c0 c1 c2 m0 m1 m2 : Value} {B : Nat} {vf : Value} {s : List Int × List Bool} {wr u : World} {vo : Value} {f : List Bool} (h : LF w c0 c1 c2 m0 m1 m2 B vf s wr vo) (o : Out (w.heap.size + 3) B wr u) (hf : GO bool2 u (w.heap.size + 3) B vf f) : LF w c0 c1 c2 m0 m1 m2 B vf (s.1, f) u vo := by
  have h1 := h.le
  have h2 := o.size
  refine ⟨h.below.trans (o.below (by omega) (by omega)), h.cv.at_ (o.block _ (by omega) (by omega)), h.mv.at_ (o.block _ (by omega) (by omega)), hf, h.out.at_ fun g hg => ?_, by omega⟩
  have := h.out.lt g hg
  exact o.block g (by omega) (by omega)

theorem info_bool4 : (Tryz.prog.info? 4).map (fun i => (i.zero, i.size, i.bytes)) = some (some (.bool false), 1, 1) := by kernel_rfl

set_option maxHeartbeats 16000000 in
theorem l8Fires_any (w : World) (lo hi lo1 hi1 lo2 hi2 : Nat) (vc vk vm : Value) (c : ChartD) (k : MarksD) (m : MemD) (hC : HIc w lo hi vc c) (hK : MkR w lo1 hi1 vk k) (hM : MI w lo2 hi2 vm m) (hhi : hi ≤ w.heap.size) (hhi1 : hi1 ≤ w.heap.size) (hhi2 : hi2 ≤ w.heap.size) (hok : stepOk c k m = true) (hmany : c.many ≤ 1048576) :
    Calls Tryz.prog 38 #[vc, vk, vm] w fun e w' => ∃ v', e = .returned v' ∧ RowZ w' w.heap.size v' (firesTo m c.ts k.on c.ts.length).1 ∧ Below w.heap.size w w' := by
  obtain ⟨p1, p2, p3, p4⟩ := stepOk_parts hok
  have p5 := chartOk_small p1
  have HM : Hid (MI w lo2 hi2 vm m) := hM
  obtain ⟨ma, mb, mc, rfl, _, _, _⟩ := hM
  obtain ⟨ka, kb, rfl, hka, hkb⟩ := hK
  obtain ⟨adk, capk, rfl, _, _⟩ := hka.shape
  obtain ⟨adk', capk', rfl, _, _⟩ := hkb.shape
  obtain ⟨va, vb, rfl, hA, hB⟩ := hC
  obtain ⟨ad, cap, rfl, k1, k1'⟩ := hA.shape
  obtain ⟨add, capd, rfl, _, _⟩ := hB.shape
  unfold maxLen at k1'
  have HA : Hid (TR w lo hi (.slice ad c.ts.length cap) c.ts) := hA
  have HK : Hid (GR bool2 w lo1 hi1 (.slice adk k.on.length capk) k.on) := hka
  have HOK : Hid (chartOk c = true ∧ (k.on.length : Int) = c.steps ∧ memOk m = true ∧ c.ts.length ≤ 6 ∧ c.many ≤ 1048576) := ⟨p1, p2, p4, by omega, hmany⟩
  have HKL : Hid (k.on.length ≤ 6) := by show _ ≤ _; omega
  clear hA hB hka hkb hok p1 p2 p3 p4 p5 hmany
  have hZt := (zero_of_info (P := Tryz.prog) zero_transB).1
  go_enter Tryz.func38, Tryz.ntmps38
  go_wp2_with (refine wpList_boxG (vs := [.int .i64 c.steps, .slice ad c.ts.length cap, .slice add c.acts.length capd]) rfl _ rfl rfl ?_)
  intro u1 g1 cv1 s1
  go_wp2_with (refine wpList_boxG (vs := [.slice adk k.on.length capk, .slice adk' k.kept.length capk']) rfl _ rfl rfl ?_)
  intro u2 g2 kv2 s2
  have cv2 := cv1.below g2 (by omega)
  have G2 := g1.trans (g2.mono (by omega))
  clear cv1 g1 g2
  go_wp2_with (refine wpList_boxG (vs := [ma, mb, mc]) rfl _ rfl rfl ?_)
  intro u3 g3 mv3 s3
  have cv3 := cv2.below g3 (by omega)
  have kv3 := kv2.below g3 (by omega)
  have G3 := G2.trans (g3.mono (by omega))
  clear cv2 kv2 g3 G2
  have c0 : u3.cell? ⟨w.heap.size + 1, 0, none⟩ = some (.slice adk k.on.length capk) := kv3.c 0 _ rfl
  have hlt : w.heap.size + 1 < u3.heap.size := by omega
  have g4 : Below u3.heap.size u3 (u3.alloc (.cells #[] 4)) := (Below.refl _ _).alloc (Nat.le_refl _) _
  have R4 : RowG bool2 4 (u3.alloc (.cells #[] 4)) (w.heap.size + 3) (.slice (some ⟨u3.heap.size, 0, none⟩) 0 0) ([] : List Bool) := rowG_none _ _ _ (by omega)
  rw [s3] at R4
  have K4 := HK.out.under (G3.trans (g4.mono (by omega))) hhi1
  have hb4 : w.heap.size + 3 ≤ (u3.alloc (.cells #[] 4)).heap.size := by simp; omega
  have hl4 : ([] : List Bool).length + k.on.length ≤ 16777216 := by have := HKL.out; simp; omega
  go_wp2_with (at_builtin; refine wpList_appG Tryz.underlying26 info_bool4 rfl (by decide) rfl _ _ rfl (w.heap.size + 3) lo1 hi1 rfl rfl R4 K4 hb4 hl4 ?_)
  intro vf u5 A5
  have g5 := A5.below R4 (Nat.le_refl _) hb4
  have s5 := A5.grown.size
  have sz4 : (u3.alloc (.cells #[] 4)).heap.size = u3.heap.size + 1 := by simp
  have F5 := A5.row.go
  have cv5 := (cv3.below g4 (by omega)).below g5 (by omega)
  have mv5 := (mv3.below g4 (by omega)).below g5 (by omega)
  have G5 := (G3.trans (g4.mono (by omega))).trans (g5.mono (by omega))
  obtain ⟨afr, cfr, rfl⟩ := F5.shapeO
  clear c0 hlt g4 R4 K4 hb4 hl4 A5 g5 cv3 kv3 mv3 G3
  have hI : LF w (.int .i64 c.steps) (.slice ad c.ts.length cap) (.slice add c.acts.length capd) ma mb mc u5.heap.size (.slice afr k.on.length cfr) (firesTo m c.ts k.on 0) (u5.alloc (.cells #[] 3)) (.slice (some ⟨u5.heap.size, 0, none⟩) 0 0) := by
    have g6 : Below u5.heap.size u5 (u5.alloc (.cells #[] 3)) := (Below.refl _ _).alloc (Nat.le_refl _) _
    exact ⟨G5.trans (g6.mono (by omega)), cv5.below g6 (by omega), by first | exact mv5.below g6 (by omega) | (rw [s2] at mv5; exact mv5.below g6 (by omega)), F5.under g6 (Nat.le_refl _), rowZ_none _ _ (Nat.le_refl _), by omega, by simp⟩
  have HI : Hid (LF w (.int .i64 c.steps) (.slice ad c.ts.length cap) (.slice add c.acts.length capd) ma mb mc u5.heap.size (.slice afr k.on.length cfr) (firesTo m c.ts k.on 0) (u5.alloc (.cells #[] 3)) (.slice (some ⟨u5.heap.size, 0, none⟩) 0 0)) := hI
  clear hI F5 cv5 mv5 s1 s2 s3 s5 sz4
  go_wp2_with fail
  obtain ⟨B, hB⟩ : ∃ B, u5.heap.size = B := ⟨_, rfl⟩
  obtain ⟨w0, hw0⟩ : ∃ w0, u5.alloc (.cells #[] 3) = w0 := ⟨_, rfl⟩
  rw [hB, hw0] at HI
  rw [hB, hw0]
  clear hB hw0 G5
  go_loopw [8, 9] (fun vo i wr => ∃ (j : Nat) (n cc : Nat) (ao : Option Addr), j ≤ c.ts.length ∧ i = .int .i64 j ∧ vo = .slice ao n cc ∧ LF w (.int .i64 c.steps) (.slice ad c.ts.length cap) (.slice add c.acts.length capd) ma mb mc B (.slice afr k.on.length cfr) (firesTo m c.ts k.on j) wr vo) (fun _ i _ => c.ts.length - (intOf i).toNat)
  case atStart => exact ⟨0, _, _, _, Nat.zero_le _, rfl, rfl, HI.out⟩
  case round =>
    clear HI
    obtain ⟨j, n, cc, ao, hj, rfl, rfl, hI⟩ := hrel
    have c1 : wr.cell? ⟨w.heap.size, 1, none⟩ = some (.slice ad c.ts.length cap) := hI.cv.c 1 _ rfl
    by_cases hlt : j < c.ts.length
    · have hlt' : (j : Int) < (c.ts.length : Int) := by omega
      obtain ⟨t, hx⟩ : ∃ x, c.ts[j]? = some x := ⟨c.ts[j], List.getElem?_eq_getElem hlt⟩
      obtain ⟨b, off, capx, x, y, s, hv, hb1, hb2, h5, hk⟩ := HA.out.at_ hx
      simp only [Value.slice.injEq, true_and] at hv
      obtain ⟨rfl, rfl⟩ := hv
      have h5 : CV wr b (off + j * 7) (transC x y t.e s) := h5.below hI.below (by omega)
      have HX : Hid (c.ts[j]? = some t) := hx
      have HW : Hid (WayR w lo hi x y s t) := hk
      obtain ⟨ax, cx, ay, cy, az, cz, rfl, rfl, rfl⟩ := hk.shape
      obtain ⟨S, hS⟩ : ∃ S, firesTo m c.ts k.on j = S := ⟨_, rfl⟩
      rw [hS] at hI
      have HS : Hid (firesTo m c.ts k.on j = S) := hS
      have HSL : Hid (S.2.length = k.on.length ∧ S.1.length ≤ j) := by show _ ∧ _; rw [← hS]; exact ⟨(firesTo_len _ _ _ _).2, (firesTo_len _ _ _ _).1⟩
      have HI : Hid (LF w (.int .i64 c.steps) (.slice (some ⟨b, off, none⟩) c.ts.length cap) (.slice add c.acts.length capd) ma mb mc B (.slice afr k.on.length cfr) S wr (.slice ao n cc)) := hI
      clear hx hk hS hI
      go_wp2_with (first
        | refine wpList_loadG Tryz.isAgg67 Tryz.sizeOf67 _ rfl rfl rfl rfl h5 ?_
        | refine wpList_allocG hZt rfl rfl ?_)
      intro u1 g1 q1 z1
      clear h5 c1
      have hr7 := q1.run 0 7 (show 0 + 7 ≤ 7 by decide)
      go_wp2_with (refine wpList_storeG Tryz.sizeOf67 _ _ rfl rfl rfl rfl rfl (transC_one t.e rfl rfl rfl) hr7.1 hr7.2 ?_)
      intro u2 L
      have q2 := L.var q1
      have z2 := L.size
      have G2 : Below wr.heap.size wr u2 := L.below _ _ (by omega) g1
      have hI2 := HI.out.grow G2
      have hle := hI2.le
      obtain ⟨V, hV⟩ : ∃ V, wr.heap.size = V := ⟨_, rfl⟩
      have HVB : Hid (B ≤ V ∧ V < u2.heap.size) := by show _ ∧ _; have := HI.out.le; omega
      rw [hV] at q2
      rw [hV]
      clear L q1 g1 hr7 HI hV z1 z2 G2 hle
      have d0 : u2.cell? ⟨V, 0, none⟩ = some (.slice ax t.fr.length cx) := q2.c 0 _ rfl
      have HI2 : Hid (LF w (.int .i64 c.steps) (.slice (some ⟨b, off, none⟩) c.ts.length cap) (.slice add c.acts.length capd) ma mb mc B (.slice afr k.on.length cfr) S u2 (.slice ao n cc)) := hI2
      clear hI2
      have HWO : Hid (wayOkB c.steps t = true) := chartOk_ways HOK.out.1 t (List.mem_of_getElem? HX.out)
      have HFR : Hid (∀ x ∈ t.fr, 0 ≤ x ∧ x < (S.2.length : Int)) := by
        show ∀ x ∈ t.fr, _
        have h1 := HWO.out
        unfold wayOkB at h1
        simp only [Bool.and_eq_true] at h1
        have h2 := placesOk_lt h1.1
        have h3 := HSL.out.1
        have h4 := HOK.out.2.1
        intro x hx
        have := h2 x hx
        omega
      have HEO : Hid (exprOk t.e = true) := by
        show _ = _
        have h1 := HWO.out
        unfold wayOkB at h1
        simp only [Bool.and_eq_true] at h1
        exact h1.2.2
      have HHI : Hid (hi ≤ u2.heap.size ∧ hi2 ≤ u2.heap.size ∧ B ≤ u2.heap.size) := by show _ ∧ _; have := HI2.out.below.size; have := HI2.out.le; omega
      have hall := l8All_any u2 _ _ _ _ _ _ S.2 t.fr HI2.out.free.gr (HW.out.fr.below HI2.out.below hhi) HHI.out.2.2 HHI.out.1 HFR.out
      go_wp2_with fail
      clear d0
      refine hall.mono ?_
      clear hall
      obtain ⟨r1, hr1⟩ : ∃ r, allOn S.2 t.fr = r := ⟨_, rfl⟩
      rw [hr1]
      have HR1 : Hid (allOn S.2 t.fr = r1) := hr1
      clear hr1
      rintro e3 u3 ⟨rfl, rfl⟩
      cases r1
      · have HN : Hid (LF w (.int .i64 c.steps) (.slice (some ⟨b, off, none⟩) c.ts.length cap) (.slice add c.acts.length capd) ma mb mc B (.slice afr k.on.length cfr) (firesTo m c.ts k.on (j + 1)) u3 (.slice ao n cc)) := by
          show LF _ _ _ _ _ _ _ _ _ (firesTo m c.ts k.on (j + 1)) _ _
          rw [firesTo_no HX.out (by rw [HS.out]; unfold canGo; rw [HR1.out]; rfl), HS.out]; exact HI2.out
        clear q2
        go_wp2
        go_roundw
        case rel => exact ⟨j + 1, _, _, _, by omega, by go_num, rfl, HN.out⟩
        case measure => simp [intOf]; omega
      have d2 : u3.cell? ⟨V, 2, none⟩ = some (.int .i64 t.e.k) := q2.c 2 _ rfl
      have d3 : u3.cell? ⟨V, 3, none⟩ = some (.int .i64 t.e.n) := q2.c 3 _ rfl
      have d4 : u3.cell? ⟨V, 4, none⟩ = some (.int .i64 t.e.ak) := q2.c 4 _ rfl
      have d5 : u3.cell? ⟨V, 5, none⟩ = some (.int .i64 t.e.at_) := q2.c 5 _ rfl
      have d6 : u3.cell? ⟨V, 6, none⟩ = some (.slice az t.e.kids.length cz) := q2.c 6 _ rfl
      have m0 : u3.cell? ⟨w.heap.size + 1 + 1, 0, none⟩ = some ma := HI2.out.mv.c 0 _ rfl
      have m1 : u3.cell? ⟨w.heap.size + 1 + 1, 1, none⟩ = some mb := HI2.out.mv.c 1 _ rfl
      have m2 : u3.cell? ⟨w.heap.size + 1 + 1, 2, none⟩ = some mc := HI2.out.mv.c 2 _ rfl
      have hof := ofS 6 u3 lo hi lo2 hi2 _ _ t.e m (HW.out.e.under HI2.out.below hhi) (HM.out.below HI2.out.below hhi2) HHI.out.1 HHI.out.2.1 (exprOk_form HEO.out) HOK.out.2.2.1
      obtain ⟨ev, hev⟩ : ∃ ev, evalD 6 m t.e = ev := ⟨_, rfl⟩
      rw [hev] at hof
      have HEV : Hid (evalD 6 m t.e = ev) := hev
      clear hev
      go_wp2_with fail
      clear d2 d3 d4 d5 d6 m0 m1 m2
      refine hof.mono ?_
      clear hof
      rintro e4 u4 ⟨rfl, g4⟩
      have z4 := g4.size
      have q4 := q2.below g4 HVB.out.2
      have hI4 := HI2.out.grow g4
      have HI4 : Hid (LF w (.int .i64 c.steps) (.slice (some ⟨b, off, none⟩) c.ts.length cap) (.slice add c.acts.length capd) ma mb mc B (.slice afr k.on.length cfr) S u4 (.slice ao n cc)) := hI4
      have HV4 : Hid (V < u4.heap.size) := by show _ < _; have := HVB.out; omega
      clear g4 q2 HI2 HHI hI4 z4
      go_wp2_with fail
      refine (sOn_any ev _).mono ?_
      obtain ⟨r2, hr2⟩ : ∃ r, (ev != 0) = r := ⟨_, rfl⟩
      rw [hr2]
      have HR2 : Hid ((ev != 0) = r2) := hr2
      clear hr2
      rintro e5 u5 ⟨rfl, rfl⟩
      cases r2
      · have HN : Hid (LF w (.int .i64 c.steps) (.slice (some ⟨b, off, none⟩) c.ts.length cap) (.slice add c.acts.length capd) ma mb mc B (.slice afr k.on.length cfr) (firesTo m c.ts k.on (j + 1)) u5 (.slice ao n cc)) := by
          show LF _ _ _ _ _ _ _ _ _ (firesTo m c.ts k.on (j + 1)) _ _
          rw [firesTo_no HX.out (by rw [HS.out]; unfold canGo; rw [HEV.out, HR2.out]; simp), HS.out]; exact HI4.out
        clear q4
        go_wp2
        go_roundw
        case rel => exact ⟨j + 1, _, _, _, by omega, by go_num, rfl, HN.out⟩
        case measure => simp [intOf]; omega
      have HGO : Hid (canGo m S.2 t = true) := by show _ = _; unfold canGo; rw [HR1.out, HEV.out, HR2.out]; rfl
      have Q4 : Hid (VarG u5 V (transC (.slice ax t.fr.length cx) (.slice ay t.to.length cy) t.e (.slice az t.e.kids.length cz))) := q4
      clear q4
      go_wp2_with fail
      go_loopw [11] (fun i wq => ∃ q : Nat, q ≤ t.fr.length ∧ i = .int .i64 q ∧ Out (w.heap.size + 3) B u5 wq ∧ GO bool2 wq (w.heap.size + 3) B (.slice afr k.on.length cfr) (leave S.2 (t.fr.take q))) (fun i _ => t.fr.length - (intOf i).toNat)
      case atStart => exact ⟨0, Nat.zero_le _, rfl, ⟨rfl, rfl, rfl, Nat.le_refl _, fun _ _ _ => rfl⟩, HI4.out.free⟩
      case round =>
        obtain ⟨q, hq, rfl, hO, hG⟩ := hrel
        have HO : Hid (Out (w.heap.size + 3) B u5 wr ∧ GO bool2 wr (w.heap.size + 3) B (.slice afr k.on.length cfr) (leave S.2 (t.fr.take q))) := ⟨hO, hG⟩
        have QV : Hid (VarG wr V (transC (.slice ax t.fr.length cx) (.slice ay t.to.length cy) t.e (.slice az t.e.kids.length cz))) := Q4.out.at_ (hO.block V HV4.out (by have := HVB.out.1; omega))
        have d0 : wr.cell? ⟨V, 0, none⟩ = some (.slice ax t.fr.length cx) := QV.out.c 0 _ rfl
        clear hO hG
        by_cases hql : q < t.fr.length
        · have hql' : (q : Int) < (t.fr.length : Int) := by omega
          obtain ⟨z, hz⟩ : ∃ z, t.fr[q]? = some z := ⟨t.fr[q], List.getElem?_eq_getElem hql⟩
          have hzr := HFR.out z (List.mem_of_getElem? hz)
          obtain ⟨a, ha⟩ : ∃ a : Nat, z = (a : Int) := ⟨z.toNat, by omega⟩
          subst ha
          have hal : a < S.2.length := by omega
          obtain ⟨afx, cpx, hv, hcl, hcx, h3x⟩ := HW.out.fr
          unfold maxLen at hcx
          simp only [Value.slice.injEq, true_and] at hv
          obtain ⟨rfl, rfl⟩ := hv
          rcases h3x with h0 | ⟨bx, ofx, rfl, hl0, hh0, hcz⟩
          · rw [h0] at hql; simp at hql
          have c1 : wr.cell? ⟨bx, ofx + q, none⟩ = some (.int .i64 (a : Int)) := by
            have hbk : wr.heap[bx]? = w.heap[bx]? := by rw [HO.out.1.block bx (by have := HI4.out.below.size; omega) (by omega), HI4.out.below.block bx (by omega)]
            rw [World.cell?_of_block (w := w) hbk]
            exact hcz q _ hz
          have hll : (leave S.2 (t.fr.take q)).length = k.on.length := by rw [leave_length]; exact HSL.out.1
          obtain ⟨yv, hyv⟩ : ∃ yv, (leave S.2 (t.fr.take q))[a]? = some yv := ⟨_, List.getElem?_eq_getElem (by have := HSL.out.1; omega)⟩
          obtain ⟨g, og, cg, hv, hg1, hg2, hg3, hc2, hf2, hset⟩ := HO.out.2.setAt hyv
          simp only [Value.slice.injEq] at hv
          obtain ⟨rfl, hlen, rfl⟩ := hv
          have hak : a < k.on.length := by have := HSL.out.1; omega
          have hak' : (a : Int) < (k.on.length : Int) := by omega
          have hs2 : (wr.cell? ⟨g, og + a, none⟩).isSome = true := by
            have := hc2 0 _ rfl
            rw [Nat.add_zero, show a * bool2.k = a from Nat.mul_one a] at this
            rw [this]; rfl
          have hfz2 : wr.frozen? ⟨g, og + a, none⟩ = false := hf2 a
          have HSET : Hid (∀ u y, LaidG wr u g (og + a * bool2.k) (bool2.cells y) → GO bool2 u (w.heap.size + 3) B (.slice (some ⟨g, og, none⟩) k.on.length cfr) ((leave S.2 (t.fr.take q)).set a y)) := hset
          have HZ : Hid (t.fr[q]? = some (a : Int)) := hz
          have HG12 : Hid (w.heap.size + 3 ≤ g ∧ g < B) := ⟨hg1, hg2⟩
          clear hz hc2 hf2 hset hyv hcz hlen hll hg1 hg2
          go_wp2_with (refine wpList_store1G Tryz.sizeOf4 (z := .bool false) _ _ rfl rfl rfl rfl rfl rfl hs2 hfz2 ?_)
          intro ux L
          have HN : Hid (Out (w.heap.size + 3) B u5 ux ∧ GO bool2 ux (w.heap.size + 3) B (.slice (some ⟨g, og, none⟩) k.on.length cfr) (leave S.2 (t.fr.take (q + 1)))) := by
            have hb := L.below 0 wr (Nat.zero_le _) (Below.refl _ _)
            refine ⟨HO.out.1.trans ⟨hb.os, hb.tape, hb.output, by rw [L.size]; exact Nat.le_refl _, fun p hp hr => L.block p (by have := HG12.out; omega)⟩, ?_⟩
            rw [leave_take HZ.out, Int.toNat_natCast]
            exact HSET.out ux false (by
              show LaidG wr ux g (og + a * 1) [.bool false]
              rw [Nat.mul_one]; exact L)
          clear L hs2 hfz2 HO QV
          go_wp2
          go_roundw
          case rel => exact ⟨q + 1, by omega, by go_num, HN.out.1, HN.out.2⟩
          case measure => simp [intOf]; omega
        · have hql' : ¬ (q : Int) < (t.fr.length : Int) := by omega
          obtain rfl : q = t.fr.length := by omega
          have hIn := HI4.out.left HO.out.1 (by have := HO.out.2; rw [List.take_length] at this; exact this)
          have HIn : Hid (LF w (.int .i64 c.steps) (.slice (some ⟨b, off, none⟩) c.ts.length cap) (.slice add c.acts.length capd) ma mb mc B (.slice afr k.on.length cfr) (S.1, leave S.2 t.fr) wr (.slice ao n cc)) := hIn
          have hRA := fun o => (show RowZ wr B (.slice ao n cc) S.1 from HIn.out.out).below ((Below.refl wr.heap.size wr).alloc (Nat.le_refl _) o) (Nat.le_refl _)
          have hcell : ∀ t, (wr.alloc (.cells #[.int .i64 (j : Int)] t)).cell? ⟨wr.heap.size, 0, none⟩ = some (.int .i64 (j : Int)) := fun t => World.cell?_alloc_new _ _ _ _
          have hlen2 : S.1.length + 1 ≤ 16777216 := by have := HSL.out.2; have := HOK.out.2.2.2.1; omega
          have hle2 : B ≤ (wr.alloc (.cells #[.int .i64 (j : Int)] 3)).heap.size := by have := HIn.out.le; simp; omega
          clear hIn HO QV
          go_wp2_with (at_builtin; refine wpList_appZ rfl _ _ rfl B rfl rfl (hRA _) (hcell _) hle2 hlen2 ?_)
          intro v' u' hA
          have HN : Hid (LF w (.int .i64 c.steps) (.slice (some ⟨b, off, none⟩) c.ts.length cap) (.slice add c.acts.length capd) ma mb mc B (.slice afr k.on.length cfr) (firesTo m c.ts k.on (j + 1)) u' v') := by
            show LF _ _ _ _ _ _ _ _ _ (firesTo m c.ts k.on (j + 1)) _ _
            rw [firesTo_yes HX.out (by rw [HS.out]; exact HGO.out), HS.out]
            have hg := HIn.out.grow ((Below.refl wr.heap.size wr).alloc (Nat.le_refl _) (.cells #[.int .i64 (j : Int)] 3))
            have hb : Below B (wr.alloc (.cells #[.int .i64 (j : Int)] 3)) u' := hA.below (hRA _) (Nat.le_refl _) hle2
            have h1 := hg.le
            have h2 := hb.size
            exact ⟨hg.below.trans (hb.mono (by omega)), hg.cv.below hb (by omega), hg.mv.below hb (by omega), hg.free.under hb (Nat.le_refl _), hA.row, by omega⟩
          obtain ⟨ao', cc', hv', _⟩ := (show RowZ u' B v' _ from hA.row).shape
          subst hv'
          clear hA hRA hcell hlen2 hle2
          go_wp2
          go_roundw
          case rel => exact ⟨j + 1, _, _, _, by omega, by go_num, rfl, HN.out⟩
          case measure => simp [intOf]; omega
    · have hlt' : ¬ (j : Int) < (c.ts.length : Int) := by omega
      obtain rfl : j = c.ts.length := by omega
      have HI : Hid (LF w (.int .i64 c.steps) (.slice ad c.ts.length cap) (.slice add c.acts.length capd) ma mb mc B (.slice afr k.on.length cfr) (firesTo m c.ts k.on c.ts.length) wr (.slice ao n cc)) := hI
      clear hI
      go_wp2
      go_ret
      exact ⟨_, rfl, HI.out.out.mono (by have := HI.out.le; omega), HI.out.below⟩

set_option maxHeartbeats 4000000 in
theorem l8Marks_any (w : World) (lo1 hi1 : Nat) (sv : Int) (x y : Value) (vk : Value) (k : MarksD) (hK : MkR w lo1 hi1 vk k) :
    Calls Tryz.prog 37 #[.agg #[.int .i64 sv, x, y], vk] w fun e w' => e = .returned (.bool (decide ((k.on.length : Int) = sv) && decide (k.kept.length = 6))) ∧ Below w.heap.size w w' := by
  obtain ⟨R, hR⟩ : ∃ R, (decide ((k.on.length : Int) = sv) && decide (k.kept.length = 6)) = R := ⟨_, rfl⟩
  rw [hR]
  have HR : Hid ((decide ((k.on.length : Int) = sv) && decide (k.kept.length = 6)) = R) := hR
  clear hR
  obtain ⟨ka, kb, rfl, hka, hkb⟩ := hK
  obtain ⟨adk, capk, rfl, _, _⟩ := hka.shape
  obtain ⟨adk', capk', rfl, _, _⟩ := hkb.shape
  clear hka hkb
  go_enter Tryz.func37, Tryz.ntmps37
  go_wp2_with (refine wpList_boxG (vs := [.int .i64 sv, x, y]) rfl _ rfl rfl ?_)
  intro u1 g1 cv1 s1
  go_wp2_with (refine wpList_boxG (vs := [.slice adk k.on.length capk, .slice adk' k.kept.length capk']) rfl _ rfl rfl ?_)
  intro u2 g2 kv2 s2
  have cv2 := cv1.below g2 (by omega)
  have G2 := g1.trans (g2.mono (by omega))
  have c0 : u2.cell? ⟨w.heap.size, 0, none⟩ = some (.int .i64 sv) := cv2.c 0 _ rfl
  have d0 : u2.cell? ⟨w.heap.size + 1, 0, none⟩ = some (.slice adk k.on.length capk) := kv2.c 0 _ rfl
  have d1 : u2.cell? ⟨w.heap.size + 1, 1, none⟩ = some (.slice adk' k.kept.length capk') := kv2.c 1 _ rfl
  clear cv1 cv2 kv2 g1 g2
  by_cases h1 : (k.on.length : Int) = sv
  · have e1 : ((k.on.length : Int) == sv) = true := by simp [h1]
    by_cases h2 : k.kept.length = 6
    · have e2 : ((k.kept.length : Int) == 6) = true := by simp [h2]
      have HE : Hid (R = true) := by show R = _; rw [← HR.out]; simp [h1, h2]
      clear h1 h2
      go_wp2
      go_ret
      exact ⟨ret_bool HE.out.symm, G2⟩
    · have e2 : ((k.kept.length : Int) == 6) = false := by simp; omega
      have HE : Hid (R = false) := by show R = _; rw [← HR.out]; simp [h2]
      clear h1 h2
      go_wp2
      go_ret
      exact ⟨ret_bool HE.out.symm, G2⟩
  · have e1 : ((k.on.length : Int) == sv) = false := by simp [h1]
    have HE : Hid (R = false) := by show R = _; rw [← HR.out]; simp [h1]
    clear h1
    go_wp2
    go_ret
    exact ⟨ret_bool HE.out.symm, G2⟩

set_option maxHeartbeats 8000000 in
theorem sChartFires_any (w : World) (lo hi lo1 hi1 lo2 hi2 : Nat) (vc vk vm : Value) (c : ChartD) (k : MarksD) (m : MemD) (hC : HIc w lo hi vc c) (hK : MkR w lo1 hi1 vk k) (hM : MI w lo2 hi2 vm m) (hhi : hi ≤ w.heap.size) (hhi1 : hi1 ≤ w.heap.size) (hhi2 : hi2 ≤ w.heap.size) (hmany : c.many ≤ 1048576) :
    Calls Tryz.prog 10 #[vc, vk, vm] w fun e w' => ∃ v', e = .returned v' ∧ RowZ w' w.heap.size v' (chartFires c k m) ∧ Below w.heap.size w w' := by
  obtain ⟨R, hR⟩ : ∃ R, chartFires c k m = R := ⟨_, rfl⟩
  rw [hR]
  have HR : Hid (chartFires c k m = R) := hR
  clear hR
  have HM : Hid (MI w lo2 hi2 vm m) := hM
  obtain ⟨ma, mb, mc, rfl, _, _, _⟩ := hM
  have HK : Hid (MkR w lo1 hi1 vk k) := hK
  obtain ⟨ka, kb, rfl, hka, hkb⟩ := hK
  obtain ⟨adk, capk, rfl, _, _⟩ := hka.shape
  obtain ⟨adk', capk', rfl, _, _⟩ := hkb.shape
  have HC : Hid (HIc w lo hi vc c) := hC
  obtain ⟨pa, ca, pb, cb, rfl⟩ := hC.shape
  clear hka hkb hC
  go_enter Tryz.func10, Tryz.ntmps10
  go_wp2_with (refine wpList_boxG (vs := [.int .i64 c.steps, .slice pa c.ts.length ca, .slice pb c.acts.length cb]) rfl _ rfl rfl ?_)
  intro u1 g1 cv1 s1
  go_wp2_with (refine wpList_boxG (vs := [.slice adk k.on.length capk, .slice adk' k.kept.length capk']) rfl _ rfl rfl ?_)
  intro u2 g2 kv2 s2
  have cv2 := cv1.below g2 (by omega)
  have G2 := g1.trans (g2.mono (by omega))
  clear cv1 g1 g2
  go_wp2_with (refine wpList_boxG (vs := [ma, mb, mc]) rfl _ rfl rfl ?_)
  intro u3 g3 mv3 s3
  have cv3 := cv2.below g3 (by omega)
  have kv3 := kv2.below g3 (by omega)
  have G3 := G2.trans (g3.mono (by omega))
  clear cv2 kv2 g3 G2
  have c0 : u3.cell? ⟨w.heap.size, 0, none⟩ = some (.int .i64 c.steps) := cv3.c 0 _ rfl
  have c1 : u3.cell? ⟨w.heap.size, 1, none⟩ = some (.slice pa c.ts.length ca) := cv3.c 1 _ rfl
  have c2 : u3.cell? ⟨w.heap.size, 2, none⟩ = some (.slice pb c.acts.length cb) := cv3.c 2 _ rfl
  go_wp2_with fail
  clear c0 c1 c2
  refine (sChartOk_any u3 lo hi _ c (HC.out.under G3 hhi) (by omega) hmany).mono ?_
  obtain ⟨r1, hr1⟩ : ∃ r, chartOk c = r := ⟨_, rfl⟩
  rw [hr1]
  rintro e4 u4 ⟨rfl, g4⟩
  have s4 := g4.size
  have cv4 := cv3.below g4 (by omega)
  have kv4 := kv3.below g4 (by omega)
  have mv4 := mv3.below g4 (by omega)
  have G4 := G3.trans (g4.mono (by omega))
  clear g4 cv3 kv3 mv3 G3
  have fin : ∀ (u : World), Below w.heap.size w u → stepOk c k m = false → RowZ (u.alloc (.cells #[] 3)) w.heap.size (.slice (some ⟨u.heap.size, 0, none⟩) 0 0) R ∧ Below w.heap.size w (u.alloc (.cells #[] 3)) := by
    intro u hb hs
    have : R = [] := by rw [← HR.out]; unfold chartFires; rw [hs]; rfl
    rw [this]
    exact ⟨rowZ_none _ _ hb.size, hb.alloc hb.size _⟩
  have FIN := (show Hid _ from fin)
  clear fin
  cases r1
  · have HE := FIN.out u4 G4 (by unfold stepOk; rw [hr1]; rfl)
    have HF : Hid (RowZ (u4.alloc (.cells #[] 3)) w.heap.size (.slice (some ⟨u4.heap.size, 0, none⟩) 0 0) R ∧ Below w.heap.size w (u4.alloc (.cells #[] 3))) := HE
    clear HE hr1 cv4 kv4 mv4 FIN
    go_wp2
    go_ret
    exact ⟨_, rfl, HF.out.1, HF.out.2⟩
  have c0 : u4.cell? ⟨w.heap.size, 0, none⟩ = some (.int .i64 c.steps) := cv4.c 0 _ rfl
  have c1 : u4.cell? ⟨w.heap.size, 1, none⟩ = some (.slice pa c.ts.length ca) := cv4.c 1 _ rfl
  have c2 : u4.cell? ⟨w.heap.size, 2, none⟩ = some (.slice pb c.acts.length cb) := cv4.c 2 _ rfl
  have d0 : u4.cell? ⟨w.heap.size + 1, 0, none⟩ = some (.slice adk k.on.length capk) := kv4.c 0 _ rfl
  have d1 : u4.cell? ⟨w.heap.size + 1, 1, none⟩ = some (.slice adk' k.kept.length capk') := kv4.c 1 _ rfl
  have HR1 : Hid (chartOk c = true) := hr1
  clear hr1
  go_wp2_with fail
  clear c0 c1 c2 d0 d1
  refine (l8Marks_any u4 lo1 hi1 c.steps _ _ _ k (HK.out.under G4 hhi1)).mono ?_
  obtain ⟨r2, hr2⟩ : ∃ r, (decide ((k.on.length : Int) = c.steps) && decide (k.kept.length = 6)) = r := ⟨_, rfl⟩
  rw [hr2]
  rintro e5 u5 ⟨rfl, g5⟩
  have s5 := g5.size
  have cv5 := cv4.below g5 (by omega)
  have kv5 := kv4.below g5 (by omega)
  have mv5 := mv4.below g5 (by omega)
  have G5 := G4.trans (g5.mono (by omega))
  clear g5 cv4 kv4 mv4 G4
  cases r2
  · have HE := FIN.out u5 G5 (by unfold stepOk marksOk; rw [HR1.out, hr2]; rfl)
    have HF : Hid (RowZ (u5.alloc (.cells #[] 3)) w.heap.size (.slice (some ⟨u5.heap.size, 0, none⟩) 0 0) R ∧ Below w.heap.size w (u5.alloc (.cells #[] 3))) := HE
    clear HE hr2 cv5 kv5 mv5 FIN
    go_wp2
    go_ret
    exact ⟨_, rfl, HF.out.1, HF.out.2⟩
  have m0 : u5.cell? ⟨w.heap.size + 1 + 1, 0, none⟩ = some ma := mv5.c 0 _ rfl
  have m1 : u5.cell? ⟨w.heap.size + 1 + 1, 1, none⟩ = some mb := mv5.c 1 _ rfl
  have m2 : u5.cell? ⟨w.heap.size + 1 + 1, 2, none⟩ = some mc := mv5.c 2 _ rfl
  have HR2 : Hid ((decide ((k.on.length : Int) = c.steps) && decide (k.kept.length = 6)) = true) := hr2
  clear hr2
  go_wp2_with fail
  clear m0 m1 m2
  refine (sMemOk_any u5 lo2 hi2 _ m (HM.out.below G5 hhi2) (by omega)).mono ?_
  obtain ⟨r3, hr3⟩ : ∃ r, memOk m = r := ⟨_, rfl⟩
  rw [hr3]
  rintro e6 u6 ⟨rfl, g6⟩
  have s6 := g6.size
  have cv6 := cv5.below g6 (by omega)
  have kv6 := kv5.below g6 (by omega)
  have mv6 := mv5.below g6 (by omega)
  have G6 := G5.trans (g6.mono (by omega))
  clear g6 cv5 kv5 mv5 G5
  cases r3
  · have HE := FIN.out u6 G6 (by unfold stepOk marksOk; rw [HR1.out, HR2.out, hr3]; rfl)
    have HF : Hid (RowZ (u6.alloc (.cells #[] 3)) w.heap.size (.slice (some ⟨u6.heap.size, 0, none⟩) 0 0) R ∧ Below w.heap.size w (u6.alloc (.cells #[] 3))) := HE
    clear HE hr3 cv6 kv6 mv6 FIN
    go_wp2
    go_ret
    exact ⟨_, rfl, HF.out.1, HF.out.2⟩
  have hst : stepOk c k m = true := by unfold stepOk marksOk; rw [HR1.out, HR2.out, hr3]; rfl
  have hRR : (firesTo m c.ts k.on c.ts.length).1 = R := by rw [← HR.out]; unfold chartFires; rw [hst]; rfl
  have hfi := l8Fires_any u6 lo hi lo1 hi1 lo2 hi2 _ _ _ c k m (HC.out.under G6 hhi) (HK.out.under G6 hhi1) (HM.out.below G6 hhi2) (by omega) (by omega) (by omega) hst hmany
  rw [hRR] at hfi
  clear hRR hst hr3
  have c0 : u6.cell? ⟨w.heap.size, 0, none⟩ = some (.int .i64 c.steps) := cv6.c 0 _ rfl
  have c1 : u6.cell? ⟨w.heap.size, 1, none⟩ = some (.slice pa c.ts.length ca) := cv6.c 1 _ rfl
  have c2 : u6.cell? ⟨w.heap.size, 2, none⟩ = some (.slice pb c.acts.length cb) := cv6.c 2 _ rfl
  have d0 : u6.cell? ⟨w.heap.size + 1, 0, none⟩ = some (.slice adk k.on.length capk) := kv6.c 0 _ rfl
  have d1 : u6.cell? ⟨w.heap.size + 1, 1, none⟩ = some (.slice adk' k.kept.length capk') := kv6.c 1 _ rfl
  have m0 : u6.cell? ⟨w.heap.size + 1 + 1, 0, none⟩ = some ma := mv6.c 0 _ rfl
  have m1 : u6.cell? ⟨w.heap.size + 1 + 1, 1, none⟩ = some mb := mv6.c 1 _ rfl
  have m2 : u6.cell? ⟨w.heap.size + 1 + 1, 2, none⟩ = some mc := mv6.c 2 _ rfl
  go_wp2_with fail
  clear c0 c1 c2 d0 d1 m0 m1 m2
  refine hfi.mono ?_
  clear hfi
  rintro e7 u7 ⟨v7, rfl, R7, g7⟩
  have G7 := G6.trans (g7.mono (by omega))
  have R8 := R7.mono (base' := w.heap.size) (by omega)
  clear g7 R7 cv6 kv6 mv6 G6
  go_wp2
  go_ret
  exact ⟨_, rfl, R8, G7⟩
end Go.Proofs.YtokphdpaghkakaaGreat
