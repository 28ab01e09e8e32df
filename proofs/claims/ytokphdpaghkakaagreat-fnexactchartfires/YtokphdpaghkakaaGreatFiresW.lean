/-
  The program's ways that lead on: waysOn, an iterator; what it stops with.
-/
import Derived.Test.YtokphdpaghkakaaGreatFiresB
import Derived.Test.YtokphdpaghkakaaGreatGenIn
import Derived.Test.YtokphdpaghkakaaGreatComesD
import Derived.Test.YtokphdpaghkakaaGreatM2
namespace Go.Proofs.YtokphdpaghkakaaGreat
open Go.ChangeShapes Go.WideShapes Go.ChangeAt Go.RowKit Go.Shelf
attribute [local go_sem] Oper.semAt_some
set_option linter.unusedVariables false
set_option linter.unusedSimpArgs false
set_option maxRecDepth 100000

set_option maxHeartbeats 4000000 in
theorem iWaysOn_any (w : World) (cs : Int) (x y ma mb mc : Value) (s : Nat) :
    Calls Tryz.prog 44 #[.agg #[.int .i64 cs, x, y], .int .u8 (s : Int), .agg #[ma, mb, mc]] w fun e w' => e = .returned (.func (.func 80) #[] #[.pointer (some ⟨w.heap.size + 1, 0, none⟩), .pointer (some ⟨w.heap.size, 0, none⟩), .pointer (some ⟨w.heap.size + 1 + 1, 0, none⟩)]) ∧
      VarG w' w.heap.size [.int .i64 cs, x, y] ∧ w'.cell? ⟨w.heap.size + 1, 0, none⟩ = some (.int .u8 (s : Int)) ∧ VarG w' (w.heap.size + 1 + 1) [ma, mb, mc] ∧ Below w.heap.size w w' ∧ w'.heap.size = w.heap.size + 1 + 1 + 1 := by
  go_enter Tryz.func44, Tryz.ntmps44
  go_wp2_with (refine wpList_boxG (vs := [.int .i64 cs, x, y]) rfl _ rfl rfl ?_)
  intro u1 g1 cv1 s1
  have hb : VarG (u1.alloc (.cells #[.int .u8 (s : Int)] 83)) u1.heap.size [.int .u8 (s : Int)] := varG_new u1 [.int .u8 (s : Int)] _
  have g2 : Below u1.heap.size u1 (u1.alloc (.cells #[.int .u8 (s : Int)] 83)) := (Below.refl _ _).alloc (Nat.le_refl _) _
  have z2 : (u1.alloc (.cells #[.int .u8 (s : Int)] 83)).heap.size = u1.heap.size + 1 := by simp
  have HB : Hid (VarG (u1.alloc (.cells #[.int .u8 (s : Int)] 83)) (w.heap.size + 1) [.int .u8 (s : Int)] ∧ VarG (u1.alloc (.cells #[.int .u8 (s : Int)] 83)) w.heap.size [.int .i64 cs, x, y] ∧ Below w.heap.size w (u1.alloc (.cells #[.int .u8 (s : Int)] 83)) ∧ (u1.alloc (.cells #[.int .u8 (s : Int)] 83)).heap.size = w.heap.size + 1 + 1) := by
    rw [s1] at hb
    exact ⟨hb, cv1.below g2 (by omega), g1.trans (g2.mono (by omega)), by omega⟩
  clear hb g2 z2 cv1 g1
  go_wp2_with (refine wpList_boxG (vs := [ma, mb, mc]) rfl _ rfl rfl ?_)
  intro u3 g3 mv3 s3
  obtain ⟨b1, b2, b3, b4⟩ := HB.out
  have HR : Hid (VarG u3 w.heap.size [.int .i64 cs, x, y] ∧ u3.cell? ⟨w.heap.size + 1, 0, none⟩ = some (.int .u8 (s : Int)) ∧ VarG u3 (w.heap.size + 1 + 1) [ma, mb, mc] ∧ Below w.heap.size w u3 ∧ u3.heap.size = w.heap.size + 1 + 1 + 1) := by
    refine ⟨b2.below g3 (by omega), (b1.below g3 (by omega)).c 0 _ rfl, by first | exact mv3 | (rw [b4] at mv3; exact mv3), b3.trans (g3.mono (by omega)), by omega⟩
  clear b1 b2 b3 b4 mv3 g3 HB s1 s3
  go_wp2
  go_ret
  exact ⟨rfl, HR.out⟩

theorem zero_transW : (Tryz.prog.info? 67).map (fun i => (i.zero, i.size)) = some (some (.agg (transC zSl zSl noExpr zSl).toArray), 7) := by kernel_rfl

/-- What a round keeps of what the iterator reads. -/
structure KpB (n₀ Bm : Nat) (A B : World) : Prop where
  below : Below n₀ A B
  bm : B.heap[Bm]? = A.heap[Bm]?
theorem KpB.refl (n₀ Bm : Nat) (A : World) : KpB n₀ Bm A A := ⟨Below.refl _ _, rfl⟩
theorem KpB.trans {n₀ Bm : Nat} {A B C : World} (h : KpB n₀ Bm A B) (k : KpB n₀ Bm B C) : KpB n₀ Bm A C := ⟨h.below.trans k.below, k.bm.trans h.bm⟩
theorem KpB.of {n₀ Bm : Nat} {A B : World} (h : Below A.heap.size A B) (h1 : n₀ ≤ A.heap.size) (h2 : Bm < A.heap.size) : KpB n₀ Bm A B := ⟨h.mono h1, h.block Bm h2⟩

set_option maxHeartbeats 8000000 in
theorem ways1_in (n : Nat) (hn : 1 ≤ n) (l n₀ Bc Bon Bm lo hi lo2 hi2 s0 : Nat) (c : ChartD) (m : MemD) (on : List Bool) (y : Value) (ad : Option Go.Addr) (cap : Nat) (ma mb mc : Value) (J Jx : List (Int × Value) → World → Prop)
    (hY : ∀ pre x W, J pre W → pre.length < 6 → YieldAt Fence.wide (n - 1) Tryz.prog l #[.int .i64 x.1, x.2] W fun e W' =>
      (e = .returned (.bool true) ∧ J (pre ++ [x]) W' ∧ KpB n₀ Bm W W') ∨ (e = .returned (.bool false) ∧ Jx (pre ++ [x]) W'))
    (W : World) (hJ : AbidesFrom W.heap.size J) (hc : VarG W Bc [.int .i64 c.steps, .slice ad c.ts.length cap, y]) (hon : W.cell? ⟨Bon, 0, none⟩ = some (.int .u8 (s0 : Int))) (hm : VarG W Bm [ma, mb, mc])
    (hT : TR W lo hi (.slice ad c.ts.length cap) c.ts) (hM : MI W lo2 hi2 (.agg #[ma, mb, mc]) m) (hb : Bm < W.heap.size ∧ Bm < W.heap.size ∧ Bm < W.heap.size ∧ hi ≤ n₀ ∧ hi2 ≤ n₀ ∧ n₀ ≤ W.heap.size)
    (hok : chartOk c = true) (hmo : memOk m = true) (hmany : c.many ≤ 1048576) (hl : (on.length : Int) = c.steps) (hS : SameB s0 on) (h0 : J [] W) :
    CallsIn Fence.wide n Tryz.prog 80 #[.func (.yield l) #[] #[], .pointer (some ⟨Bon, 0, none⟩), .pointer (some ⟨Bc, 0, none⟩), .pointer (some ⟨Bm, 0, none⟩)] W fun e W' => (∃ v, e = .returned v) ∧
      ((∃ ys, ys.map Prod.fst = (firesTo m c.ts on c.ts.length).1 ∧ J ys W') ∨ (∃ pre, True ∧ Jx pre W')) := by
  have hsm := chartOk_small hok
  have HOK : Hid (chartOk c = true ∧ (on.length : Int) = c.steps ∧ memOk m = true ∧ c.ts.length ≤ 6 ∧ c.many ≤ 1048576) := ⟨hok, hl, hmo, by omega, hmany⟩
  have HB : Hid (Bm < W.heap.size ∧ Bm < W.heap.size ∧ Bm < W.heap.size ∧ hi ≤ n₀ ∧ hi2 ≤ n₀ ∧ n₀ ≤ W.heap.size) := hb
  have HY := (show Hid _ from hY)
  have HJ := (show Hid _ from hJ)
  have HT : Hid (TR W lo hi (.slice ad c.ts.length cap) c.ts) := hT
  have HM : Hid (MI W lo2 hi2 (.agg #[ma, mb, mc]) m) := hM
  have HC : Hid (VarG W Bc [.int .i64 c.steps, .slice ad c.ts.length cap, y] ∧ VarG W Bm [ma, mb, mc]) := ⟨hc, hm⟩
  obtain ⟨_, _, hv, k1, k1'⟩ := hT.shape
  simp only [Value.slice.injEq, true_and] at hv
  obtain ⟨rfl, rfl⟩ := hv
  unfold maxLen at k1'
  have c1 : W.cell? ⟨Bc, 1, none⟩ = some (.slice ad c.ts.length cap) := hc.c 1 _ rfl
  have hts : c.ts.length ≤ 6 := by omega
  clear hok hl hmo hmany hb hY hJ hT hM hc hm hsm
  refine callsIn_of_wp Tryz.func80 rfl trivial ?_ rfl
  simp only [Tryz.ntmps80, List.size_toArray, List.length_cons, List.length_nil, Nat.reduceAdd, Nat.reduceSub, Array.replicate_succ, Array.replicate_zero, List.push_toArray, List.append_toArray, List.nil_append, List.cons_append]
  gi_wp2
  gi_loopw [5, 13] (fun st i wr => ∃ (j s : Nat) (ys : List (Int × Value)), j ≤ c.ts.length ∧ i = .int .i64 j ∧ st = .int .u8 (s : Int) ∧ SameB s (firesTo m c.ts on j).2 ∧ ys.map Prod.fst = (firesTo m c.ts on j).1 ∧ J ys wr ∧ KpB n₀ Bm W wr)
    (fun _ i _ => c.ts.length - (intOf i).toNat)
  case atStart => exact ⟨0, s0, [], Nat.zero_le _, rfl, rfl, hS, rfl, h0, KpB.refl _ _ _⟩
  case round =>
    obtain ⟨j, s, ys, hj, rfl, rfl, hs, hys, hJs, hnx⟩ := hrel
    have HS : Hid (SameB s (firesTo m c.ts on j).2 ∧ ys.map Prod.fst = (firesTo m c.ts on j).1 ∧ J ys wr ∧ KpB n₀ Bm W wr) := ⟨hs, hys, hJs, hnx⟩
    clear hs hys hJs
    by_cases hlt : j < c.ts.length
    · obtain ⟨t, hx⟩ : ∃ x, c.ts[j]? = some x := ⟨c.ts[j], List.getElem?_eq_getElem hlt⟩
      obtain ⟨b, off, capx, x, y', z, hv, hb1, hb2, h5, hk⟩ := HT.out.at_ hx
      simp only [Value.slice.injEq, true_and] at hv
      obtain ⟨rfl, rfl⟩ := hv
      have h5 : CV wr b (off + j * 7) (transC x y' t.e z) := h5.below hnx.below (by have := HB.out; omega)
      have HX : Hid (c.ts[j]? = some t) := hx
      have HW : Hid (WayR W lo hi x y' z t) := hk
      obtain ⟨ax, cx, ay, cy, az, cz, rfl, rfl, rfl⟩ := hk.shape
      have hZt := (zero_of_info (P := Tryz.prog) zero_transW).1
      clear hx hk hnx
      gi_wp2_with (first
        | refine wpListIn_loadG Tryz.isAgg67 Tryz.sizeOf67 _ rfl rfl rfl rfl h5 ?_
        | refine wpListIn_allocG hZt rfl rfl ?_)
      intro u1 g1 q1 z1
      have hr7 := q1.run 0 7 (show 0 + 7 ≤ 7 by decide)
      gi_wp2_with (refine wpListIn_storeG Tryz.sizeOf67 _ _ rfl rfl rfl rfl rfl (transC_one t.e rfl rfl rfl) hr7.1 hr7.2 ?_)
      intro u2 L
      have q2 := L.var q1
      have z2 := L.size
      have G2 : Below wr.heap.size wr u2 := L.below _ _ (by omega) g1
      have hnx2 := HS.out.2.2.2
      have hwz := hnx2.below.size
      have HS2 : Hid (J ys u2 ∧ KpB n₀ Bm W u2 ∧ n₀ ≤ wr.heap.size) := ⟨HJ.out ys wr u2 none HS.out.2.2.1 (grown_of_below G2) (fun r e => by cases e), hnx2.trans (KpB.of G2 (by have := HB.out; omega) (by have := HB.out; omega)), by have := HB.out; omega⟩
      obtain ⟨V, hV⟩ : ∃ V, wr.heap.size = V := ⟨_, rfl⟩
      have HV : Hid (V < u2.heap.size ∧ Bm < V ∧ n₀ ≤ V) := by show _ ∧ _; have := HB.out; omega
      rw [hV] at q2 HS2
      rw [hV]
      clear L q1 g1 hr7 z1 z2 G2 hnx2 hwz hV h5
      have d0 : u2.cell? ⟨V, 0, none⟩ = some (.slice ax t.fr.length cx) := q2.c 0 _ rfl
      have HF6 : Hid (∀ x ∈ t.fr, 0 ≤ x ∧ x < 6) := by
        show ∀ x ∈ t.fr, _
        have h1 := chartOk_ways HOK.out.1 t (List.mem_of_getElem? HX.out)
        unfold wayOkB at h1
        simp only [Bool.and_eq_true] at h1
        have h2 := placesOk_lt h1.1
        have h3 := chartOk_small HOK.out.1
        intro x hx
        have := h2 x hx
        omega
      have HEO : Hid (exprOk t.e = true ∧ manyL t.e.kids ≤ 1048576) := by
        show _ ∧ _
        have h1 := chartOk_ways HOK.out.1 t (List.mem_of_getElem? HX.out)
        unfold wayOkB at h1
        simp only [Bool.and_eq_true] at h1
        refine ⟨h1.2.2, ?_⟩
        have h2 := many_le_manyT HX.out
        have h3 := HOK.out.2.2.2.2
        unfold ChartD.many at h3
        unfold TransD.many at h2
        omega
      have HHI : Hid (hi ≤ u2.heap.size ∧ hi2 ≤ u2.heap.size) := by show _ ∧ _; have := HS2.out.2.1.below.size; have := HB.out; omega
      have hba := bitsAt_any u2 lo hi _ t.fr (HW.out.fr.below HS2.out.2.1.below HB.out.2.2.2.1) HHI.out.1 HF6.out
      have hf64 := bitsN_lt t.fr HF6.out
      obtain ⟨f, hf⟩ : ∃ f, bitsN t.fr = f := ⟨_, rfl⟩
      rw [hf] at hba hf64
      have HFF : Hid (bitsN t.fr = f) := hf
      clear hf
      gi_wp2_with fail
      clear d0
      refine ⟨trivial, (callsIn_wide.2 hba).mono ?_⟩
      clear hba
      rintro e3 u3 ⟨rfl, g3⟩
      have z3 := g3.size
      have q3 := q2.below g3 HV.out.1
      have HS3 : Hid (J ys u3 ∧ KpB n₀ Bm W u3 ∧ (n₀ ≤ V ∧ Bm < V) ∧ V < u3.heap.size ∧ hi ≤ u3.heap.size ∧ hi2 ≤ u3.heap.size) := ⟨HJ.out ys u2 u3 none HS2.out.1 (grown_of_below g3) (fun r e => by cases e), HS2.out.2.1.trans (KpB.of g3 (by have := HV.out; omega) (by have := HV.out; omega)), (by have := HV.out; omega), by have := HV.out; omega, by have := HHI.out; omega, by have := HHI.out; omega⟩
      clear q2 HS2 HV g3 z3 HHI
      have hs64 := HS.out.1.lt
      have hho := holdsB_any u3 s f hs64 hf64
      have e1 := andNot_bits s hs64 f hf64
      have hall := HS.out.1.all t.fr HF6.out
      rw [HFF.out] at hall
      have HAL : Hid ((lft f s == 0) = allOn (firesTo m c.ts on j).2 t.fr) := hall
      clear hall
      gi_wp2_with fail
      refine ⟨trivial, (callsIn_wide.2 hho).mono ?_⟩
      clear hho
      obtain ⟨r1, hr1⟩ : ∃ r, (lft f s == 0) = r := ⟨_, rfl⟩
      rw [hr1]
      have HR1 : Hid (allOn (firesTo m c.ts on j).2 t.fr = r1) := by show _ = _; rw [← HAL.out]; exact hr1
      clear hr1
      rintro e4 u4 ⟨rfl, rfl⟩
      cases r1
      · have HN : Hid (firesTo m c.ts on (j + 1) = firesTo m c.ts on j) := firesTo_no HX.out (by unfold canGo; rw [HR1.out]; rfl)
        clear e1 q3
        gi_wp2
        refine ⟨trivial, ?_⟩
        gi_wp2
        refine ⟨trivial, ?_⟩
        gi_wp2
        go_roundw
        case rel => exact ⟨j + 1, s, ys, by omega, by go_num, rfl, by rw [HN.out]; exact HS.out.1, by rw [HN.out]; exact HS.out.2.1, HS3.out.1, HS3.out.2.1⟩
        case measure => simp [intOf]; omega
      have d2 : u4.cell? ⟨V, 2, none⟩ = some (.int .i64 t.e.k) := q3.c 2 _ rfl
      have d3 : u4.cell? ⟨V, 3, none⟩ = some (.int .i64 t.e.n) := q3.c 3 _ rfl
      have d4 : u4.cell? ⟨V, 4, none⟩ = some (.int .i64 t.e.ak) := q3.c 4 _ rfl
      have d5 : u4.cell? ⟨V, 5, none⟩ = some (.int .i64 t.e.at_) := q3.c 5 _ rfl
      have d6 : u4.cell? ⟨V, 6, none⟩ = some (.slice az t.e.kids.length cz) := q3.c 6 _ rfl
      have mv := HC.out.2.at_ HS3.out.2.1.bm
      have m0 : u4.cell? ⟨Bm, 0, none⟩ = some ma := mv.c 0 _ rfl
      have m1 : u4.cell? ⟨Bm, 1, none⟩ = some mb := mv.c 1 _ rfl
      have m2 : u4.cell? ⟨Bm, 2, none⟩ = some mc := mv.c 2 _ rfl
      have hof := iExprOf_any u4 lo hi lo2 hi2 (.agg #[.int .i64 t.e.k, .int .i64 t.e.n, .int .i64 t.e.ak, .int .i64 t.e.at_, .slice az t.e.kids.length cz]) (.agg #[ma, mb, mc]) t.e m ⟨_, rfl, HW.out.e.under HS3.out.2.1.below HB.out.2.2.2.1⟩ (HM.out.below HS3.out.2.1.below HB.out.2.2.2.2.1) HS3.out.2.2.2.2.1 HS3.out.2.2.2.2.2 HEO.out.2
      obtain ⟨ev, hev⟩ : ∃ ev, exprOf t.e m = ev := ⟨_, rfl⟩
      rw [hev] at hof
      have HEV : Hid (evalD 6 m t.e = ev) := by show _ = _; rw [← hev]; unfold exprOf; rw [HEO.out.1, HOK.out.2.2.1]; rfl
      clear hev mv
      gi_wp2_with fail
      clear d2 d3 d4 d5 d6 m0 m1 m2
      refine ⟨trivial, (callsIn_wide.2 hof).mono ?_⟩
      clear hof
      rintro e5 u5 ⟨rfl, g5⟩
      have q5 := q3.below g5 HS3.out.2.2.2.1
      have HS5 : Hid (J ys u5 ∧ KpB n₀ Bm W u5) := ⟨HJ.out ys u4 u5 none HS3.out.1 (grown_of_below g5) (fun r e => by cases e), HS3.out.2.1.trans (KpB.of g5 (by have := HS3.out; omega) (by have := HS3.out; omega))⟩
      clear q3 g5
      gi_wp2_with fail
      refine ⟨trivial, (callsIn_wide.2 (numOn_any u5 ev)).mono ?_⟩
      obtain ⟨r2, hr2⟩ : ∃ r, (ev != 0) = r := ⟨_, rfl⟩
      rw [hr2]
      have HR2 : Hid ((ev != 0) = r2) := hr2
      clear hr2
      rintro e6 u6 ⟨rfl, rfl⟩
      cases r2
      · have HN : Hid (firesTo m c.ts on (j + 1) = firesTo m c.ts on j) := firesTo_no HX.out (by unfold canGo; rw [HEV.out, HR2.out]; simp)
        clear e1 q5
        gi_wp2
        go_roundw
        case rel => exact ⟨j + 1, s, ys, by omega, by go_num, rfl, by rw [HN.out]; exact HS.out.1, by rw [HN.out]; exact HS.out.2.1, HS5.out.1, HS5.out.2⟩
        case measure => simp [intOf]; omega
      have HN : Hid (firesTo m c.ts on (j + 1) = ((firesTo m c.ts on j).1 ++ [(j : Int)], leave (firesTo m c.ts on j).2 t.fr)) := firesTo_yes HX.out (by unfold canGo; rw [HR1.out, HEV.out, HR2.out]; rfl)
      have hyl : ys.length < 6 := by
        have h1 := congrArg List.length HS.out.2.1
        rw [List.length_map] at h1
        have h2 := (firesTo_len m c.ts on j).1
        omega
      obtain ⟨fn, tmps, assign, body, hy, hR⟩ := HY.out ys ((j : Int), .agg (transC (.slice ax t.fr.length cx) (.slice ay t.to.length cy) t.e (.slice az t.e.kids.length cz)).toArray) u6 HS5.out.1 hyl
      dsimp only at hy
      have hq := q5.c
      gi_wp2_with (refine wpListIn_loadG Tryz.isAgg67 Tryz.sizeOf67 _ rfl rfl rfl rfl hq ?_)
      refine hR.mono ?_
      rintro e W3 (⟨rfl, hJ3, hk3⟩ | ⟨rfl, hJx3⟩)
      · have HN3 : Hid (SameB (lft s f) (firesTo m c.ts on (j + 1)).2 ∧ (ys ++ [((j : Int), Value.agg (transC (.slice ax t.fr.length cx) (.slice ay t.to.length cy) t.e (.slice az t.e.kids.length cz)).toArray)]).map Prod.fst = (firesTo m c.ts on (j + 1)).1 ∧ J (ys ++ [((j : Int), Value.agg (transC (.slice ax t.fr.length cx) (.slice ay t.to.length cy) t.e (.slice az t.e.kids.length cz)).toArray)]) W3 ∧ KpB n₀ Bm W W3) := by
          show _ ∧ _
          rw [HN.out]
          refine ⟨by rw [← HFF.out]; exact HS.out.1.left t.fr, by rw [List.map_append, HS.out.2.1]; rfl, hJ3, HS5.out.2.trans hk3⟩
        clear hJ3 hk3 hR hy hq e1 q5
        gi_wp2
        go_roundw
        case rel => exact ⟨j + 1, lft s f, _, by omega, by go_num, rfl, HN3.out⟩
        case measure => simp [intOf]; omega
      · clear hR hy hq e1 q5
        gi_wp2
        refine bodyPost_ret (results_none rfl _ _ _) rfl ?_
        exact ⟨⟨_, rfl⟩, .inr ⟨_, trivial, hJx3⟩⟩
    · obtain rfl : j = c.ts.length := by omega
      gi_wp2
      go_end0
      exact ⟨⟨_, rfl⟩, .inl ⟨ys, HS.out.2.1, HS.out.2.2.1⟩⟩

theorem ways_stops (n : Nat) (hn : 1 ≤ n) (n₀ B lo hi lo2 hi2 s0 : Nat) (c : ChartD) (m : MemD) (on : List Bool) (y : Value) (ad : Option Go.Addr) (cap : Nat) (ma mb mc : Value) (w : World)
    (hc : VarG w B [.int .i64 c.steps, .slice ad c.ts.length cap, y]) (hon : w.cell? ⟨B + 1, 0, none⟩ = some (.int .u8 (s0 : Int))) (hm : VarG w (B + 1 + 1) [ma, mb, mc])
    (hT : TR w lo hi (.slice ad c.ts.length cap) c.ts) (hM : MI w lo2 hi2 (.agg #[ma, mb, mc]) m) (hb : B + 1 + 1 < w.heap.size ∧ hi ≤ n₀ ∧ hi2 ≤ n₀ ∧ n₀ ≤ w.heap.size)
    (hok : chartOk c = true) (hmo : memOk m = true) (hmany : c.many ≤ 1048576) (hl : (on.length : Int) = c.steps) (hS : SameB s0 on) :
    SeqStopsK Fence.wide n Tryz.prog 80 #[.pointer (some ⟨B + 1, 0, none⟩), .pointer (some ⟨B, 0, none⟩), .pointer (some ⟨B + 1 + 1, 0, none⟩)] (fun x : Int × Value => #[.int .i64 x.1, x.2]) (KpB n₀ (B + 1 + 1))
      (fun ys => ys.map Prod.fst = (firesTo m c.ts on c.ts.length).1) (fun _ => True) 6 w := fun l J Jx W hW hJ _ hY h0 => by
  have hs := hW.size
  exact ways1_in n hn l n₀ B (B + 1) (B + 1 + 1) lo hi lo2 hi2 s0 c m on y ad cap ma mb mc J Jx hY W hJ (hc.below hW (by omega)) (by rw [hW.cell (p := ⟨B + 1, 0, none⟩) (by show B + 1 < _; omega)]; exact hon) (hm.below hW hb.1) (hT.under hW (by omega)) (hM.below hW (by omega)) (by omega) hok hmo hmany hl hS h0
end Go.Proofs.YtokphdpaghkakaaGreat
