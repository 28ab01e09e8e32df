/-
  The program's ChartFires.
-/
import Derived.Test.YtokphdpaghkakaaGreatFiresW
import Derived.Test.YtokphdpaghkakaaGreatM3
import Derived.Deep.Onto
namespace Go.Proofs.YtokphdpaghkakaaGreat
open Go.ChangeShapes Go.WideShapes Go.ChangeAt Go.RowKit Go.Shelf
attribute [local go_sem] Oper.semAt_some
set_option linter.unusedVariables false
set_option linter.unusedSimpArgs false
set_option maxRecDepth 100000

set_option maxHeartbeats 8000000 in
theorem iChartFires_any (w : World) (lo hi lo1 hi1 lo2 hi2 : Nat) (vc vk vm : Value) (c : ChartD) (k : MarksD) (m : MemD) (hC : HIc w lo hi vc c) (hK : MkR w lo1 hi1 vk k) (hM : MI w lo2 hi2 vm m) (hhi : hi ≤ w.heap.size) (hhi1 : hi1 ≤ w.heap.size) (hhi2 : hi2 ≤ w.heap.size) (hmany : c.many ≤ 1048576) :
    Calls Tryz.prog 14 #[vc, vk, vm] w fun e w' => ∃ v', e = .returned v' ∧ RowZ w' w.heap.size v' (chartFires c k m) ∧ Below w.heap.size w w' := by
  obtain ⟨R, hR⟩ : ∃ R, chartFires c k m = R := ⟨_, rfl⟩
  rw [hR]
  have HR : Hid (chartFires c k m = R) := hR
  clear hR
  have HM : Hid (MI w lo2 hi2 vm m) := hM
  obtain ⟨ma, mb, mc, rfl, _, _, _⟩ := hM
  have HK : Hid (MkR w lo1 hi1 vk k) := hK
  obtain ⟨ka, kb, rfl, hka, hkb⟩ := hK
  obtain ⟨adk, capk, rfl, _, _⟩ := hka.shape
  obtain ⟨adk', capk', rfl, _, _⟩ := hkb.shape
  have HKO : Hid (GR bool2 w lo1 hi1 (.slice adk k.on.length capk) k.on) := hka
  have HC : Hid (HIc w lo hi vc c) := hC
  obtain ⟨va, vb, rfl, hta, htb⟩ := hC
  obtain ⟨pa, ca, rfl, _, _⟩ := hta.shape
  obtain ⟨pb, cb, rfl, _, _⟩ := htb.shape
  have HT : Hid (TR w lo hi (.slice pa c.ts.length ca) c.ts) := hta
  clear hka hkb hta htb
  refine (callsIn_wide (n := 5)).1 ?_
  refine callsIn_of_wp_marks Tryz.func14 rfl trivial ?_ rfl
  simp only [Tryz.ntmps14, List.size_toArray, List.length_cons, List.length_nil, Nat.reduceAdd, Nat.reduceSub, Array.replicate_succ, Array.replicate_zero, List.push_toArray, List.append_toArray, List.nil_append, List.cons_append]
  refine wpIn_wide.2 ?_
  go_wp2_with (refine wpList_boxG (vs := [.int .i64 c.steps, .slice pa c.ts.length ca, .slice pb c.acts.length cb]) rfl _ rfl rfl ?_)
  intro u1 g1 cv1 s1
  go_wp2_with (refine wpList_boxG (vs := [.slice adk k.on.length capk, .slice adk' k.kept.length capk']) rfl _ rfl rfl ?_)
  intro u2 g2 kv2 s2
  have cv2 := cv1.below g2 (by omega)
  have G2 := g1.trans (g2.mono (by omega))
  clear cv1 g1 g2
  go_wp2_with (refine wpList_boxG (vs := [ma, mb, mc]) rfl _ rfl rfl ?_)
  intro u3 g3 mv3 s3
  have cv3 := cv2.below g3 (by omega)
  have kv3 := kv2.below g3 (by omega)
  have G3 := G2.trans (g3.mono (by omega))
  clear cv2 kv2 g3 G2
  have c0 : u3.cell? ⟨w.heap.size, 0, none⟩ = some (.int .i64 c.steps) := cv3.c 0 _ rfl
  have c1 : u3.cell? ⟨w.heap.size, 1, none⟩ = some (.slice pa c.ts.length ca) := cv3.c 1 _ rfl
  have c2 : u3.cell? ⟨w.heap.size, 2, none⟩ = some (.slice pb c.acts.length cb) := cv3.c 2 _ rfl
  have d0 : u3.cell? ⟨w.heap.size + 1, 0, none⟩ = some (.slice adk k.on.length capk) := kv3.c 0 _ rfl
  have d1 : u3.cell? ⟨w.heap.size + 1, 1, none⟩ = some (.slice adk' k.kept.length capk') := kv3.c 1 _ rfl
  have m0 : u3.cell? ⟨w.heap.size + 1 + 1, 0, none⟩ = some ma := mv3.c 0 _ rfl
  have m1 : u3.cell? ⟨w.heap.size + 1 + 1, 1, none⟩ = some mb := mv3.c 1 _ rfl
  have m2 : u3.cell? ⟨w.heap.size + 1 + 1, 2, none⟩ = some mc := mv3.c 2 _ rfl
  go_wp2_with fail
  clear c0 c1 c2 d0 d1 m0 m1 m2
  refine (iCanStep_any u3 lo hi lo1 hi1 lo2 hi2 _ _ _ c k m (HC.out.under G3 hhi) (HK.out.under G3 hhi1) (HM.out.below G3 hhi2) (by omega) (by omega) (by omega) hmany).mono ?_
  obtain ⟨r1, hr1⟩ : ∃ r, stepOk c k m = r := ⟨_, rfl⟩
  rw [hr1]
  rintro e4 u4 ⟨rfl, g4⟩
  have s4 := g4.size
  have cv4 := cv3.below g4 (by omega)
  have kv4 := kv3.below g4 (by omega)
  have mv4 := mv3.below g4 (by omega)
  have G4 := G3.trans (g4.mono (by omega))
  clear g4 cv3 kv3 mv3 G3
  cases r1
  · have HE : Hid (RowZ u4 w.heap.size (.slice none 0 0) R) := by
      show RowZ _ _ _ R
      rw [← HR.out]; unfold chartFires; rw [hr1]; exact ⟨rowZ_length [], .inl ⟨rfl, rfl⟩⟩
    clear hr1 cv4 kv4 mv4
    go_wp2
    exact ⟨_, results_tmp rfl _ _ _, .slice none 0 0, rfl, HE.out, G4⟩
  have HOK : Hid (stepOk c k m = true) := hr1
  clear hr1
  obtain ⟨pp1, pp2, pp3, pp4⟩ := stepOk_parts HOK.out
  have HP : Hid (chartOk c = true ∧ (k.on.length : Int) = c.steps ∧ memOk m = true ∧ k.on.length ≤ 6) := by have := chartOk_small pp1; exact ⟨pp1, pp2, pp4, by omega⟩
  clear pp1 pp2 pp3 pp4
  go_wp2_with fail
  obtain ⟨u5, hu5, g5, b5, s5⟩ : ∃ u5, u4.alloc (.cells #[.slice none 0 0] 29) = u5 ∧ Below u4.heap.size u4 u5 ∧ Boxed u5 u4.heap.size 29 (.slice none 0 0) ∧ u5.heap.size = u4.heap.size + 1 :=
    ⟨_, rfl, (Below.refl _ _).alloc (Nat.le_refl _) _, Boxed.new u4 _ _, by simp⟩
  rw [hu5]
  clear hu5
  have cv5 := cv4.below g5 (by omega)
  have kv5 := kv4.below g5 (by omega)
  have mv5 := mv4.below g5 (by omega)
  have G5 := G4.trans (g5.mono (by omega))
  clear g5 cv4 kv4 mv4 G4
  obtain ⟨D, hD⟩ : ∃ D, u4.heap.size = D := ⟨_, rfl⟩
  have HD : Hid (w.heap.size + 3 ≤ D ∧ D < u5.heap.size ∧ u5.heap.size ≤ D + 1) := by show _ ∧ _; omega
  rw [hD] at b5
  rw [hD]
  clear hD s1 s2 s3 s4 s5
  have HV5 : Hid (VarG u5 w.heap.size [.int .i64 c.steps, .slice pa c.ts.length ca, .slice pb c.acts.length cb] ∧ VarG u5 (w.heap.size + 1) [.slice adk k.on.length capk, .slice adk' k.kept.length capk'] ∧ VarG u5 (w.heap.size + 1 + 1) [ma, mb, mc] ∧ Below w.heap.size w u5) := ⟨cv5, kv5, mv5, G5⟩
  have B5 : Hid (Boxed u5 D 29 (.slice none 0 0)) := b5
  clear cv5 kv5 mv5 G5 b5
  refine wp_region_dag (R := Grow) (Φ := fun i v u => match i with
      | 0 => v = .agg #[.int .i64 c.steps, .slice pa c.ts.length ca, .slice pb c.acts.length cb]
      | 1 => v = .pointer (some ⟨w.heap.size + 1, 0, none⟩)
      | 2 => v = .slice adk k.on.length capk
      | 3 => v = .int .u8 ((onTo k.on k.on.length : Nat) : Int)
      | 4 => v = .agg #[ma, mb, mc]
      | 5 => ∃ B, v = .func (.func 80) #[] #[.pointer (some ⟨B + 1, 0, none⟩), .pointer (some ⟨B, 0, none⟩), .pointer (some ⟨B + 1 + 1, 0, none⟩)] ∧ u5.heap.size ≤ B ∧ B + 1 + 1 < u.heap.size ∧ VarG u B [.int .i64 c.steps, .slice pa c.ts.length ca, .slice pb c.acts.length cb] ∧ u.cell? ⟨B + 1, 0, none⟩ = some (.int .u8 ((onTo k.on k.on.length : Nat) : Int)) ∧ VarG u (B + 1 + 1) [ma, mb, mc]
      | _ => True) (by kernel_rfl) (by kernel_rfl) (by kernel_rfl) (Below.refl _ _) grow_trans ?_ ?_ ?_
  · intro i v u u' hr
    match i with
    | 0 | 1 | 2 | 3 | 4 | _ + 6 => exact fun h => h
    | 5 => exact fun ⟨B, h1, h2, h3, h4, h5, h6⟩ => ⟨B, h1, h2, Nat.lt_of_lt_of_le h3 hr.size, h4.below hr (by omega), by rw [hr.cell (p := ⟨B + 1, 0, none⟩) (by show B + 1 < _; omega)]; exact h5, h6.below hr (by omega)⟩
  · intro i o ho a u hf hR0 he K' hK
    have hR : Grow u5 u := (Below.drew (Below.refl _ _)).trans hR0
    have hsz' : a.tmps.size = 27 := hf.size
    have hus := hR.size
    have hRw : Below w.heap.size w u := HV5.out.2.2.2.trans (hR.mono (by have := HD.out; omega))
    rcases i with _ | _ | _ | _ | _ | _ | i
    · obtain rfl := Option.some.inj ho
      have q3 : a.tmps.getD 3 undef = .pointer (some ⟨w.heap.size, 0, none⟩) := hf.at_ 3 (by kernel_rfl)
      clear he
      have cv := HV5.out.1.below hR (by have := HD.out; omega)
      have c0 : u.cell? ⟨w.heap.size, 0, none⟩ = some (.int .i64 c.steps) := cv.c 0 _ rfl
      have c1 : u.cell? ⟨w.heap.size, 1, none⟩ = some (.slice pa c.ts.length ca) := cv.c 1 _ rfl
      have c2 : u.cell? ⟨w.heap.size, 2, none⟩ = some (.slice pb c.acts.length cb) := cv.c 2 _ rfl
      go_simp
      exact hK _ _ (Below.refl _ _) (getD_put_self a 14 _ (by show _ < a.tmps.size; omega))
    · obtain rfl := Option.some.inj ho
      have q4 : a.tmps.getD 4 undef = .pointer (some ⟨w.heap.size + 1, 0, none⟩) := hf.at_ 4 (by kernel_rfl)
      clear he
      go_simp
      exact hK _ _ (Below.refl _ _) (getD_put_self a 15 _ (by show _ < a.tmps.size; omega))
    · obtain rfl := Option.some.inj ho
      have q15 : a.tmps.getD 15 undef = .pointer (some ⟨w.heap.size + 1, 0, none⟩) := he _ (Array.mem_of_getElem? (i := 0) rfl) (by kernel_rfl) _ rfl
      clear he
      have d0 : u.cell? ⟨w.heap.size + 1, 0, none⟩ = some (.slice adk k.on.length capk) := (HV5.out.2.1.below hR (by have := HD.out; omega)).c 0 _ rfl
      go_simp
      exact hK _ _ (Below.refl _ _) (getD_put_self a 16 _ (by show _ < a.tmps.size; omega))
    · obtain rfl := Option.some.inj ho
      have q16 : a.tmps.getD 16 undef = .slice adk k.on.length capk := he _ (Array.mem_of_getElem? (i := 0) rfl) (by kernel_rfl) _ rfl
      clear he
      have hbo := bitsOn_any u lo1 hi1 _ k.on (HKO.out.under hRw hhi1) (by have := hRw.size; omega) HP.out.2.2.2
      go_simp
      refine hbo.mono ?_
      rintro e1 u' ⟨rfl, hbu⟩
      exact hK _ _ hbu (getD_put_self a 17 _ (by show _ < a.tmps.size; omega))
    · obtain rfl := Option.some.inj ho
      have q5 : a.tmps.getD 5 undef = .pointer (some ⟨w.heap.size + 1 + 1, 0, none⟩) := hf.at_ 5 (by kernel_rfl)
      clear he
      have mv := HV5.out.2.2.1.below hR (by have := HD.out; omega)
      have c0 : u.cell? ⟨w.heap.size + 1 + 1, 0, none⟩ = some ma := mv.c 0 _ rfl
      have c1 : u.cell? ⟨w.heap.size + 1 + 1, 1, none⟩ = some mb := mv.c 1 _ rfl
      have c2 : u.cell? ⟨w.heap.size + 1 + 1, 2, none⟩ = some mc := mv.c 2 _ rfl
      go_simp
      exact hK _ _ (Below.refl _ _) (getD_put_self a 18 _ (by show _ < a.tmps.size; omega))
    · obtain rfl := Option.some.inj ho
      have q14 : a.tmps.getD 14 undef = .agg #[.int .i64 c.steps, .slice pa c.ts.length ca, .slice pb c.acts.length cb] := he _ (Array.mem_of_getElem? (i := 0) rfl) (by kernel_rfl) _ rfl
      have q17 : a.tmps.getD 17 undef = .int .u8 ((onTo k.on k.on.length : Nat) : Int) := he _ (Array.mem_of_getElem? (i := 1) rfl) (by kernel_rfl) _ rfl
      have q18 : a.tmps.getD 18 undef = .agg #[ma, mb, mc] := he _ (Array.mem_of_getElem? (i := 2) rfl) (by kernel_rfl) _ rfl
      clear he
      have hwo := iWaysOn_any u c.steps (.slice pa c.ts.length ca) (.slice pb c.acts.length cb) ma mb mc (onTo k.on k.on.length)
      generalize onTo k.on k.on.length = s0 at *
      go_simp
      refine hwo.mono ?_
      rintro e1 u' ⟨rfl, h1, h2, h3, hbu, hz⟩
      exact hK _ _ hbu ⟨u.heap.size, getD_put_self a 19 _ (by show _ < a.tmps.size; omega), hus, by omega, h1, h2, h3⟩
    · exact absurd ho (by simp)
  · intro a u6 hf hR0 hp
    have hR : Grow u5 u6 := (Below.drew (Below.refl _ _)).trans hR0
    obtain ⟨B, m19, hB1, hB2, hB3, hB4, hB5⟩ := hp 5 _ rfl
    have m19 : a.tmps.getD 19 undef = .func (.func 80) #[] #[.pointer (some ⟨B + 1, 0, none⟩), .pointer (some ⟨B, 0, none⟩), .pointer (some ⟨B + 1 + 1, 0, none⟩)] := m19
    have m14 : a.tmps.getD 14 undef = .agg #[.int .i64 c.steps, .slice pa c.ts.length ca, .slice pb c.acts.length cb] := hp 0 _ rfl
    have m15 : a.tmps.getD 15 undef = .pointer (some ⟨w.heap.size + 1, 0, none⟩) := hp 1 _ rfl
    have m16 : a.tmps.getD 16 undef = .slice adk k.on.length capk := hp 2 _ rfl
    have m17 : a.tmps.getD 17 undef = .int .u8 ((onTo k.on k.on.length : Nat) : Int) := hp 3 _ rfl
    have m18 : a.tmps.getD 18 undef = .agg #[ma, mb, mc] := hp 4 _ rfl
    obtain ⟨fq, ea, hfv⟩ := act_lit a 27 hf.size
    have md : a.defers = [] := hf.defers
    rw [md] at ea
    have m0 := hf.at_ 0 (by kernel_rfl)
    have m1 := hf.at_ 1 (by kernel_rfl)
    have m2 := hf.at_ 2 (by kernel_rfl)
    have m3 := hf.at_ 3 (by kernel_rfl)
    have m4 := hf.at_ 4 (by kernel_rfl)
    have m5 := hf.at_ 5 (by kernel_rfl)
    have m6 := hf.at_ 6 (by kernel_rfl)
    have m7 := hf.at_ 7 (by kernel_rfl)
    have m8 := hf.at_ 8 (by kernel_rfl)
    have m9 := hf.at_ 9 (by kernel_rfl)
    have m10 := hf.at_ 10 (by kernel_rfl)
    have m11 := hf.at_ 11 (by kernel_rfl)
    have m12 := hf.at_ 12 (by kernel_rfl)
    have m13 := hf.at_ 13 (by kernel_rfl)
    have m20 := hf.at_ 20 (by kernel_rfl)
    have m21 := hf.at_ 21 (by kernel_rfl)
    have m22 := hf.at_ 22 (by kernel_rfl)
    have m23 := hf.at_ 23 (by kernel_rfl)
    have m24 := hf.at_ 24 (by kernel_rfl)
    have m25 := hf.at_ 25 (by kernel_rfl)
    have m26 := hf.at_ 26 (by kernel_rfl)
    rw [← hfv] at m0 m1 m2 m3 m4 m5 m6 m7 m8 m9 m10 m11 m12 m13 m20 m21 m22 m23 m24 m25 m26 m14 m15 m16 m17 m18 m19
    simp only [Array.getD_eq_getD_getElem?, List.getElem?_toArray, List.getElem?_cons_succ, List.getElem?_cons_zero, Option.getD_some] at m0 m1 m2 m3 m4 m5 m6 m7 m8 m9 m10 m11 m12 m13 m20 m21 m22 m23 m24 m25 m26
    simp only [List.range, List.range.loop, List.map_cons, List.map_nil, m0, m1, m2, m3, m4, m5, m6, m7, m8, m9, m10, m11, m12, m13, m20, m21, m22, m23, m24, m25, m26, m14, m15, m16, m17, m18, m19] at ea
    subst ea
    clear m0 m1 m2 m3 m4 m5 m6 m7 m8 m9 m10 m11 m12 m13 m20 m21 m22 m23 m24 m25 m26 m14 m15 m16 m17 m18 m19 hfv md hf
    have hD1 := HD.out
    have B6 : Hid (Boxed u6 D 29 (.slice none 0 0)) := B5.out.kept (grown_of_below hR) (fun e => by cases e)
    have G6 : Below w.heap.size w u6 := HV5.out.2.2.2.trans (hR.mono (by omega))
    have hz6 := hR.size
    have HSZ : Hid (w.heap.size + 3 ≤ D ∧ D < u6.heap.size ∧ D < B ∧ B + 1 + 1 < u6.heap.size) := by show _ ∧ _; omega
    have hseq := ways_stops 4 (by decide) w.heap.size B lo hi lo2 hi2 (onTo k.on k.on.length) c m k.on (.slice pb c.acts.length cb) pa ca ma mb mc u6 hB3 hB4 hB5 (HT.out.under G6 hhi) (HM.out.below G6 hhi2) ⟨hB2, hhi, hhi2, by omega⟩ HP.out.1 HP.out.2.2.1 hmany HP.out.2.1 (sameB_on k.on HP.out.2.2.2)
    obtain ⟨i0, hi0, hz0, hz1, hz2⟩ := info_parts info_int
    clear hp hR0
    go_wp2
    refine (wpIn_wide (n := 5)).1 ?_
    refine wpIn_rangeFunc_ownG (F := Fence.wide) rfl (by decide) (gf := 80) (lb := #[.pointer (some ⟨B + 1, 0, none⟩), .pointer (some ⟨B, 0, none⟩), .pointer (some ⟨B + 1 + 1, 0, none⟩)]) rfl trivial (enters_of Tryz.func80 (by kernel_rfl) rfl)
      hseq (fun h k => h.trans k) (fun W l o o' hl h h1 h2 => ⟨belowK_b (w := u6) (by have := HSZ.out; omega) W l o o' hl h h1 h2, (belowK_b (w := u6) (n₀ := B + 1 + 1 + 1) (by have := HSZ.out; omega) W l o o' hl h h1 h2).block (B + 1 + 1) (by omega)⟩) (Below.refl _ _) (fun _ => rfl)
      (fun pre W => (∃ v, Boxed W D 29 v ∧ W.ownsRow u6.heap.size 3 1 v pre.length (rowZ (pre.map Prod.fst)) ∧ True) ∧ Below w.heap.size u6 W)
      (fun _ _ _ => False)
      (OwnFrom.and (Own.from (holdsRow_own u6.heap.size D 29 3 1 (fun pre : List (Int × Value) => pre.length) (fun pre => rowZ (pre.map Prod.fst)) (fun _ _ => True)) _) (ownFrom_below (by have := HSZ.out; omega) (by have := HSZ.out; omega)))
      (fun _ _ _ _ _ hs _ _ => hs)
      ⟨⟨_, B6.out, World.ownsRow_nil _ _ _ _, trivial⟩, Below.refl _ _⟩
      (fun x => { tmps := #[.agg #[.int .i64 c.steps, .slice pa c.ts.length ca, .slice pb c.acts.length cb], .agg #[.slice adk k.on.length capk, .slice adk' k.kept.length capk'], .agg #[ma, mb, mc], .pointer (some ⟨w.heap.size, 0, none⟩), .pointer (some ⟨w.heap.size + 1, 0, none⟩), .pointer (some ⟨w.heap.size + 1 + 1, 0, none⟩), .slice none 0 0, .pointer (some ⟨D, 0, none⟩), .int .i64 x.1, .agg #[.int .i64 c.steps, .slice pa c.ts.length ca, .slice pb c.acts.length cb], .agg #[.slice adk k.on.length capk, .slice adk' k.kept.length capk'], .agg #[ma, mb, mc], .bool true, .bool false, .agg #[.int .i64 c.steps, .slice pa c.ts.length ca, .slice pb c.acts.length cb], .pointer (some ⟨w.heap.size + 1, 0, none⟩), .slice adk k.on.length capk, .int .u8 ((onTo k.on k.on.length : Nat) : Int), .agg #[ma, mb, mc], .func (.func 80) #[] #[.pointer (some ⟨B + 1, 0, none⟩), .pointer (some ⟨B, 0, none⟩), .pointer (some ⟨B + 1 + 1, 0, none⟩)], .int .i64 x.1, x.2, undef, undef, undef, undef, undef], defers := [] }) ?assign ?body ?done ?stop
    case assign =>
      intro l x W K hK
      gi_wp2
      exact hK
    case body =>
      rintro l pre x W ⟨⟨v, hv, hrow, _⟩, hB⟩ hlt
      have hc := hv.cell
      have hpl : pre.length ≤ 6 := by omega
      have hb1 := hB.size
      have hz1' := HSZ.out
      have hbase : u6.heap.size ≤ (W.alloc (.cells #[.int .i64 x.1] 3)).heap.size := by simp; omega
      have hlen : pre.length + 1 ≤ maxLen := by unfold maxLen; omega
      have hbyt : (pre.length + 1) * 8 ≤ 140737488355328 := by omega
      have HROW := (show Hid _ from hrow)
      have HPL : Hid (pre.length ≤ 6) := hpl
      clear hpl
      gi_wp2_with (gi_at_builtin; refine wpListIn_append_own _ rfl _ _ 29 rfl u6.heap.size 3 i0 (.int .i64 0) 1 8 Tryz.underlying29 hi0 hz0 hz1 hz2 rfl (by decide) _ _ _ rfl (hrow.alloc _) ⟨W.heap.size, 0, none⟩ 1 1 [.int .i64 x.1] rfl rfl (cell_one_new _ _ _) (by simp [Value.oneCell']) hlen hbyt hbase ?_)
      intro v' w1 hown' hgrow _
      obtain ⟨g', cap', rfl⟩ := ownsRow_succ hown'
      obtain ⟨hv1, hv2, _, hk2, hb2⟩ := hv.appended (n₀ := w.heap.size) (by decide) (World.ownsRow.mono HROW.out (by omega)) (by omega) (by omega) (World.ownsRow.mono hown' (by omega)) hgrow
      have hr2 := hown'.kept (grownBy_setCell' w1 D (.slice (some ⟨g', 0, none⟩) (pre.length + 1) cap')) (.inr (hv1.not_row (by decide) hown').symm)
      have hc1 := hv1.cell
      have hf1 := hv1.frozen
      have hbm : (w1.setCell ⟨D, 0, none⟩ (.slice (some ⟨g', 0, none⟩) (pre.length + 1) cap')).heap[B + 1 + 1]? = W.heap[B + 1 + 1]? := by
        rw [Below.heap_setCell _ _ _ _ (by show B + 1 + 1 ≠ D; omega), hgrow.block (B + 1 + 1) (by simp; omega) (fun e => by have := (World.ownsRow.lt HROW.out _ e.symm).1; omega)]
        exact ((Below.refl W.heap.size W).alloc (Nat.le_refl _) _).block (B + 1 + 1) (by omega)
      have HFIN : Hid (KeepsFrom u6.heap.size W (w1.setCell ⟨D, 0, none⟩ (.slice (some ⟨g', 0, none⟩) (pre.length + 1) cap')) ∧ KpB w.heap.size (B + 1 + 1) W (w1.setCell ⟨D, 0, none⟩ (.slice (some ⟨g', 0, none⟩) (pre.length + 1) cap')) ∧ (∃ v, Boxed (w1.setCell ⟨D, 0, none⟩ (.slice (some ⟨g', 0, none⟩) (pre.length + 1) cap')) D 29 v ∧ (w1.setCell ⟨D, 0, none⟩ (.slice (some ⟨g', 0, none⟩) (pre.length + 1) cap')).ownsRow u6.heap.size 3 1 v (pre ++ [x]).length (rowZ ((pre ++ [x]).map Prod.fst)) ∧ True) ∧ Below w.heap.size u6 (w1.setCell ⟨D, 0, none⟩ (.slice (some ⟨g', 0, none⟩) (pre.length + 1) cap'))) := by
        refine ⟨hk2.from _, ⟨hb2, hbm⟩, ⟨_, hv2, ?_, trivial⟩, hB.trans hb2⟩
        unfold rowZ at hr2 ⊢
        rw [List.map_append, List.map_append, List.length_append]
        exact hr2
      clear hv2 hk2 hb2 hr2 hbm hgrow hown' hrow hv hbase
      gi_wp2
      exact HFIN.out
    case done =>
      rintro D' ys W hD' hS ⟨⟨v, hv, hrow, _⟩, hB⟩ hK
      have hc := hv.cell
      have hb1 := hB.size
      have hz1' := HSZ.out
      have hRR : ys.map Prod.fst = R := by rw [hS, ← HR.out]; unfold chartFires; rw [HOK.out]; rfl
      have hyl : ys.length = R.length := by rw [← hRR, List.length_map]
      rw [hRR, hyl] at hrow
      clear hyl
      have HFIN : Hid (RowZ (W.putObj D' (.deferred none)) w.heap.size v R ∧ Below w.heap.size w (W.putObj D' (.deferred none))) := ⟨World.ownsRow.mono (ownsRow_putObj hrow _ hK rfl) (by omega), (G6.trans hB).trans (belowK_b (w := u6) (by omega) W D' _ _ hD' hK rfl rfl)⟩
      clear hS hRR hrow hB hb1 hz1' G6
      go_wp2
      refine ⟨by simp, .inl ⟨_, _, rfl, run_takeDeferred hK, ?_⟩⟩
      exact ⟨_, results_tmp rfl _ _ _, v, rfl, HFIN.out.1, HFIN.out.2⟩
    case stop =>
      rintro D c pre W _ _ h _
      exact h.elim
end Go.Proofs.YtokphdpaghkakaaGreat
