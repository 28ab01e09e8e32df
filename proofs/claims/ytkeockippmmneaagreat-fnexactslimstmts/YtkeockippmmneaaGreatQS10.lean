import Derived.Test.YtkeockippmmneaaGreatQS4
import Derived.Test.YtkeockippmmneaaGreatQS8

/-
  The statements of a list, yielded: stmtsWithin, its function literal, yieldStmts.
-/
namespace Go.Proofs.YtkeockippmmneaaGreat
open Go.ChangeShapes Go.WideShapes Go.ChangeAt Go.RowKit Go.Shelf
attribute [local go_sem] Oper.semAt_some
set_option linter.unusedVariables false

/-- A statement as it is yielded: what it is, where what it reckons and its lists lie; how many others are around it. What it reckons can be read in the world w. -/
structure StmtX (w : World) (lo hi : Nat) where
  s : StmtD
  ax : Option Go.Addr
  cx : Nat
  ay : Option Go.Addr
  cy : Nat
  az : Option Go.Addr
  cz : Nat
  d : Int
  kr : KR w lo hi (.slice ax s.e.kids.length cx) s.e.kids
  many : manyL s.e.kids ≤ 1048576
  th : s.th.length ≤ 1048576
  el : s.el.length ≤ 1048576

def StmtX.val {w : World} {lo hi : Nat} (x : StmtX w lo hi) : Value := .agg #[.int .i64 x.s.k, .int .i64 x.s.tk, .int .i64 x.s.ta, .int .i64 x.s.e.k, .int .i64 x.s.e.n, .int .i64 x.s.e.ak, .int .i64 x.s.e.at_, .slice x.ax x.s.e.kids.length x.cx, .slice x.ay x.s.th.length x.cy, .slice x.az x.s.el.length x.cz]
def StmtX.proj {w : World} {lo hi : Nat} (x : StmtX w lo hi) : StmtD × Int := (x.s, x.d)
def StmtX.encs {w : World} {lo hi : Nat} (x : StmtX w lo hi) : Array Value := #[x.val, .int .i64 x.d]

/-- What one run of yieldStmts leaves. -/
def YPostT {w0 : World} {lo hi : Nat} (n₀ n₁ : Nat) (J Jx : List (StmtX w0 lo hi) → World → Prop) (pre : List (StmtX w0 lo hi)) (l : List (StmtD × Int)) (W : World) (en : Ending) (W' : World) : Prop :=
  (en = .returned (.bool true) ∧ ∃ q, q.map StmtX.proj = l ∧ J (pre ++ q) W' ∧ KeepsP n₀ n₁ W W') ∨ (en = .returned (.bool false) ∧ ∃ q, q.map StmtX.proj <+: l ∧ Jx (pre ++ q) W')

/-- yieldStmts, of a list with at most m statements. -/
def YieldT (F : Fence) (w0 : World) (lo hi : Nat) (l n₀ n₁ N : Nat) (J Jx : List (StmtX w0 lo hi) → World → Prop) (m : Nat) : Prop :=
  ∀ (n : Nat) (W : World) (v : Value) (ss : List StmtD) (d : Int) (pre : List (StmtX w0 lo hi)), sizeL ss ≤ m → sizeL ss ≤ 1048576 → SR w0 lo hi v ss → Below w0.heap.size w0 W → n₀ ≤ W.heap.size → n₁ ≤ W.heap.size → J pre W → pre.length + cntL ss ≤ N →
    CallsIn F n Tryz.prog 45 #[v, .int .i64 d, .func (.yield l) #[] #[]] W (YPostT n₀ n₁ J Jx pre (preT d ss) W)

set_option maxRecDepth 100000 in
set_option maxHeartbeats 8000000 in
theorem yieldT_step (F : Fence) (hd : F.depth = none) (hf : F.fn 45) (hro : F.round = none) (w0 : World) (lo hi : Nat) (hhi : hi ≤ w0.heap.size) (l n₀ n₁ N B : Nat) (h0n : w0.heap.size ≤ n₀) (J Jx : List (StmtX w0 lo hi) → World → Prop)
    (hJ : AbidesFrom B J)
    (hY : ∀ m pre (x : StmtX w0 lo hi) W, J pre W → pre.length < N → YieldAt F m Tryz.prog l x.encs W fun e W' =>
      (e = .returned (.bool true) ∧ J (pre ++ [x]) W' ∧ KeepsP n₀ n₁ W W') ∨ (e = .returned (.bool false) ∧ Jx (pre ++ [x]) W'))
    {m : Nat} (H : ∀ m', m' < m → YieldT F w0 lo hi l n₀ n₁ N J Jx m') : YieldT F w0 lo hi l n₀ n₁ N J Jx m := by
  intro n W v ss d pre hm hmm h hbW hn₀ hn₁ hJ0 hN
  obtain ⟨ad, cap, rfl, hc1, hc2⟩ := h.shape
  have hmx : ss.length ≤ 9223372036854775807 := by unfold maxLen at hc2; omega
  have hdd : ∀ k : Nat, (F.depth.isSome = true → 1 ≤ k) := fun k h => by rw [hd] at h; cases h
  have HK : Hid (SR w0 lo hi (.slice ad ss.length cap) ss) := h
  have HJ : Hid (∀ pr (w : World) o, J pr w → J pr (w.alloc o)) := fun pr w o hj => hJ pr w _ none hj (World.grownBy_alloc w _ none) (fun r e => by cases e)
  have HJ0 : Hid (J pre W) := hJ0
  have HBW : Hid (Below w0.heap.size w0 W) := hbW
  have HH : Hid (∀ m', m' < m → YieldT F w0 lo hi l n₀ n₁ N J Jx m') := H
  have HY : Hid (∀ m pre (x : StmtX w0 lo hi) W, J pre W → pre.length < N → YieldAt F m Tryz.prog l x.encs W fun e W' =>
      (e = .returned (.bool true) ∧ J (pre ++ [x]) W' ∧ KeepsP n₀ n₁ W W') ∨ (e = .returned (.bool false) ∧ Jx (pre ++ [x]) W')) := hY
  clear h hJ0 hJ hbW H hY
  refine callsIn_of_wp Tryz.func45 rfl hf ?_ hro
  simp only [Tryz.ntmps45, List.size_toArray, List.length_cons, List.length_nil, Nat.reduceAdd, Nat.reduceSub, Array.replicate_succ, Array.replicate_zero, List.push_toArray, List.append_toArray, List.nil_append, List.cons_append]
  gi_wp2_with fail
  gi_loopw [11] (fun i wr => ∃ (j : Nat) (q : List (StmtX w0 lo hi)), j ≤ ss.length ∧ i = .int .i64 j ∧ W.heap.size ≤ wr.heap.size ∧ Hid (q.map StmtX.proj = preT d (ss.take j) ∧ J (pre ++ q) wr ∧ KeepsP n₀ n₁ W wr))
    (fun i _ => ss.length - (intOf i).toNat)
  case atStart => exact ⟨0, [], Nat.zero_le _, rfl, Nat.le_refl _, by rw [List.take_zero, preT]; rfl, by rw [List.append_nil]; exact HJ0.out, KeepsP.refl _ _ _⟩
  case round =>
    obtain ⟨j, q, hj, rfl, hs, HR⟩ := hrel
    by_cases hlt : j < ss.length
    · obtain ⟨s, hx⟩ : ∃ s, ss[j]? = some s := ⟨ss[j], List.getElem?_eq_getElem hlt⟩
      obtain ⟨b, off, cap', vx, vy, vz, hv, hb1, hb2, h5, hkx, hky, hkz⟩ := HK.out.at_ hx
      simp only [Value.slice.injEq, true_and] at hv
      obtain ⟨rfl, rfl⟩ := hv
      obtain ⟨hq1, hq2, hq3⟩ := HR.out
      have HX : Hid (ss[j]? = some s) := hx
      have hb := HBW.out.trans (hq3.low.mono h0n)
      obtain ⟨c0, c1, c2, c3, c4, c5, c6, c7, c8, c9⟩ := h5.kept (hb.block b (by omega))
      obtain ⟨ax, cx, rfl, _, _⟩ := hkx.shape
      obtain ⟨ay, cy, rfl, hy1, hy2⟩ := hky.shape
      obtain ⟨az, cz, rfl, hz1, hz2⟩ := hkz.shape
      have hkl := stmt_lt hx
      have hyl := length_le_sizeL s.th
      have hzl := length_le_sizeL s.el
      have hnl : (pre ++ q).length = pre.length + cntL (ss.take j) := by
        have := congrArg List.length hq1
        rw [List.length_map, preT_length] at this
        rw [List.length_append]
        omega
      have hts := cntL_take_succ hx
      have htl := cntL_take_le ss (j + 1)
      have hse := cntS_eq s
      obtain ⟨u1, hu1, G1, S1, J1, B1⟩ : ∃ u1, wr.alloc (.cells #[.int .i64 s.k, .int .i64 s.tk, .int .i64 s.ta, .int .i64 s.e.k, .int .i64 s.e.n, .int .i64 s.e.ak, .int .i64 s.e.at_, .slice ax s.e.kids.length cx, .slice ay s.th.length cy, .slice az s.el.length cz] 44) = u1 ∧ KeepsP n₀ n₁ wr u1 ∧ u1.heap.size = wr.heap.size + 1 ∧ J (pre ++ q) u1 ∧ u1.heap[wr.heap.size]? = some (.cells #[.int .i64 s.k, .int .i64 s.tk, .int .i64 s.ta, .int .i64 s.e.k, .int .i64 s.e.n, .int .i64 s.e.ak, .int .i64 s.e.at_, .slice ax s.e.kids.length cx, .slice ay s.th.length cy, .slice az s.el.length cz] 44) :=
        ⟨_, rfl, .alloc wr (by omega) _, by simp, HJ.out _ wr _ hq2, World.alloc_heap_new wr _⟩
      have T1 := tenW_of_block B1
      have HB1 : Hid (u1.heap[wr.heap.size]? = some (.cells #[.int .i64 s.k, .int .i64 s.tk, .int .i64 s.ta, .int .i64 s.e.k, .int .i64 s.e.n, .int .i64 s.e.ak, .int .i64 s.e.at_, .slice ax s.e.kids.length cx, .slice ay s.th.length cy, .slice az s.el.length cz] 44)) := B1
      have HG1 : Hid (KeepsP n₀ n₁ W u1) := hq3.trans G1
      have HQ1 : Hid (q.map StmtX.proj = preT d (ss.take j)) := hq1
      obtain ⟨x, hxx⟩ : ∃ x : StmtX w0 lo hi, x = ⟨s, ax, cx, ay, cy, az, cz, d, hkx, by omega, by omega, by omega⟩ := ⟨_, rfl⟩
      have HXX : Hid (x.proj = (s, d)) := by rw [hxx]; rfl
      have hxe : x.encs = #[.agg #[.int .i64 s.k, .int .i64 s.tk, .int .i64 s.ta, .int .i64 s.e.k, .int .i64 s.e.n, .int .i64 s.e.ak, .int .i64 s.e.at_, .slice ax s.e.kids.length cx, .slice ay s.th.length cy, .slice az s.el.length cz], .int .i64 d] := by rw [hxx]; rfl
      obtain ⟨fn, tmps, assign, body, hy, hR⟩ := HY.out (n - 1) (pre ++ q) x u1 J1 (by rw [hnl]; omega)
      rw [hxe] at hy
      have HU1 : Hid (wr.alloc (.cells #[.int .i64 s.k, .int .i64 s.tk, .int .i64 s.ta, .int .i64 s.e.k, .int .i64 s.e.n, .int .i64 s.e.ak, .int .i64 s.e.at_, .slice ax s.e.kids.length cx, .slice ay s.th.length cy, .slice az s.el.length cz] 44) = u1) := hu1
      have HKY : Hid (SR w0 lo hi (.slice ay s.th.length cy) s.th ∧ SR w0 lo hi (.slice az s.el.length cz) s.el) := ⟨hky, hkz⟩
      have HN : Hid ((pre ++ q).length + cntS s ≤ N ∧ cntS s = cntL s.th + cntL s.el + 1 ∧ manyL s.e.kids + sizeL s.th + sizeL s.el < sizeL ss) := ⟨by rw [hnl]; omega, hse, hkl⟩
      obtain ⟨d0, d1, d2, d3, d4, d5, d6, d7, d8, d9, _⟩ := id T1
      clear hq1 hq2 hq3 hx hkx hky hkz hkl hnl hts htl G1 J1 hb HR hxx hxe T1 B1 hse hy1 hy2 hz1 hz2 hyl hzl h5
      gi_wp2_with fail
      refine hR.mono ?_
      clear hR hy hu1 c0 c1 c2 c3 c4 c5 c6 c7 c8 c9 d0 d1 d2 d3 d4 d5 d6 d7 d8 d9
      rintro e1 W3 (⟨rfl, hJ3, hk3⟩ | ⟨rfl, hJx3⟩)
      · have S3 := hk3.low.size
        have HB3 : Hid (W3.heap[wr.heap.size]? = some (.cells #[.int .i64 s.k, .int .i64 s.tk, .int .i64 s.ta, .int .i64 s.e.k, .int .i64 s.e.n, .int .i64 s.e.ak, .int .i64 s.e.at_, .slice ax s.e.kids.length cx, .slice ay s.th.length cy, .slice az s.el.length cz] 44)) := hk3.cells _ _ (by omega) HB1.out rfl
        have HG3 : Hid (KeepsP n₀ n₁ W W3) := HG1.out.trans hk3
        have hN := HN.out
        have hC := HH.out (sizeL s.th) (by omega) (n - 1) W3 (.slice ay s.th.length cy) s.th (wrap64 (d + 1)) (pre ++ q ++ [x]) (Nat.le_refl _) (by omega) HKY.out.1 (HBW.out.trans (HG3.out.low.mono h0n)) (by omega) (by omega) hJ3 (by rw [List.length_append, List.length_singleton]; omega)
        clear hk3 hJ3 HB1 HG1
        have c8 := (tenW_of_block HB3.out).c8
        gi_wp2_with fail
        (try refine ⟨hdd _, ?_⟩)
        refine hC.mono ?_
        clear hC c8
        rintro e2 W4 (⟨rfl, q2, hp2, hJ4, hk4⟩ | ⟨rfl, q2, hp2, hJx4⟩)
        · have S4 := hk4.low.size
          have HB4 : Hid (W4.heap[wr.heap.size]? = some (.cells #[.int .i64 s.k, .int .i64 s.tk, .int .i64 s.ta, .int .i64 s.e.k, .int .i64 s.e.n, .int .i64 s.e.ak, .int .i64 s.e.at_, .slice ax s.e.kids.length cx, .slice ay s.th.length cy, .slice az s.el.length cz] 44)) := hk4.cells _ _ (by omega) HB3.out rfl
          have HG4 : Hid (KeepsP n₀ n₁ W W4) := HG3.out.trans hk4
          have hl2 : q2.length = cntL s.th := by have := congrArg List.length hp2; rw [List.length_map, preT_length] at this; exact this
          have hC := HH.out (sizeL s.el) (by omega) (n - 1) W4 (.slice az s.el.length cz) s.el (wrap64 (d + 1)) (pre ++ q ++ [x] ++ q2) (Nat.le_refl _) (by omega) HKY.out.2 (HBW.out.trans (HG4.out.low.mono h0n)) (by omega) (by omega) hJ4 (by simp only [List.length_append, List.length_cons, List.length_nil] at hN ⊢; omega)
          have HP2 : Hid (q2.map StmtX.proj = preT (wrap64 (d + 1)) s.th) := hp2
          clear hk4 hJ4 HB3 HG3 hp2 hl2
          have c9 := (tenW_of_block HB4.out).c9
          gi_wp2_with fail
          (try refine ⟨hdd _, ?_⟩)
          refine hC.mono ?_
          clear hC c9
          rintro e3 W5 (⟨rfl, q3, hp3, hJ5, hk5⟩ | ⟨rfl, q3, hp3, hJx5⟩)
          · have S5 := hk5.low.size
            have HP3 : Hid (q3.map StmtX.proj = preT (wrap64 (d + 1)) s.el) := hp3
            have HJ5 : Hid (J (pre ++ q ++ [x] ++ q2 ++ q3) W5 ∧ KeepsP n₀ n₁ W W5) := ⟨hJ5, HG4.out.trans hk5⟩
            clear hp3 hJ5 hk5 HG4 HB4 hN
            gi_wp2
            go_roundw
            case rel =>
              refine ⟨j + 1, q ++ ([x] ++ (q2 ++ q3)), by omega, by go_num, by omega, ?_, ?_, HJ5.out.2⟩
              · rw [List.map_append, List.map_append, List.map_append, HQ1.out, HP2.out, HP3.out, preT_take_succ HX.out, preS_eq]
                simp [HXX.out]
              · have := HJ5.out.1
                simpa [List.append_assoc] using this
            case measure => simp [intOf]; omega
          · clear HG4 HB4 hN
            gi_wp2
            go_ret
            refine .inr ⟨rfl, q ++ ([x] ++ (q2 ++ q3)), ?_, ?_⟩
            · refine List.IsPrefix.trans ?_ (preT_take_prefix d ss (j + 1))
              rw [List.map_append, List.map_append, List.map_append, HQ1.out, HP2.out, preT_take_succ HX.out, preS_eq]
              refine (List.prefix_append_right_inj _).2 ?_
              rw [List.map_singleton, HXX.out, List.singleton_append]
              exact (List.cons_prefix_cons).2 ⟨rfl, (List.prefix_append_right_inj _).2 hp3⟩
            · have := hJx5
              simpa [List.append_assoc] using this
        · clear HG3 HB3 hN
          gi_wp2
          go_ret
          refine .inr ⟨rfl, q ++ ([x] ++ q2), ?_, ?_⟩
          · refine List.IsPrefix.trans ?_ (preT_take_prefix d ss (j + 1))
            rw [List.map_append, List.map_append, HQ1.out, preT_take_succ HX.out, preS_eq]
            refine (List.prefix_append_right_inj _).2 ?_
            rw [List.map_singleton, HXX.out, List.singleton_append]
            exact (List.cons_prefix_cons).2 ⟨rfl, hp2.trans (List.prefix_append _ _)⟩
          · have := hJx4
            simpa [List.append_assoc] using this
      · clear HG1 HB1
        gi_wp2
        go_ret
        refine .inr ⟨rfl, q ++ [x], ?_, ?_⟩
        · refine List.IsPrefix.trans ?_ (preT_take_prefix d ss (j + 1))
          rw [List.map_append, HQ1.out, preT_take_succ HX.out, preS_eq]
          refine (List.prefix_append_right_inj _).2 ?_
          rw [List.map_singleton, HXX.out]
          exact (List.cons_prefix_cons).2 ⟨rfl, List.nil_prefix⟩
        · rw [← List.append_assoc]; exact hJx3
    · obtain rfl : j = ss.length := by omega
      obtain ⟨hq1, hq2, hq3⟩ := HR.out
      rw [List.take_length] at hq1
      have HQ : Hid (q.map StmtX.proj = preT d ss ∧ J (pre ++ q) wr ∧ KeepsP n₀ n₁ W wr) := ⟨hq1, hq2, hq3⟩
      clear hq1 hq2 hq3 HR
      gi_wp2
      go_ret
      exact .inl ⟨rfl, q, HQ.out.1, HQ.out.2.1, HQ.out.2.2⟩

theorem yieldT (F : Fence) (hd : F.depth = none) (hf : F.fn 45) (hro : F.round = none) (w0 : World) (lo hi : Nat) (hhi : hi ≤ w0.heap.size) (l n₀ n₁ N B : Nat) (h0n : w0.heap.size ≤ n₀) (J Jx : List (StmtX w0 lo hi) → World → Prop)
    (hJ : AbidesFrom B J)
    (hY : ∀ m pre (x : StmtX w0 lo hi) W, J pre W → pre.length < N → YieldAt F m Tryz.prog l x.encs W fun e W' =>
      (e = .returned (.bool true) ∧ J (pre ++ [x]) W' ∧ KeepsP n₀ n₁ W W') ∨ (e = .returned (.bool false) ∧ Jx (pre ++ [x]) W')) (m : Nat) : YieldT F w0 lo hi l n₀ n₁ N J Jx m := by
  induction m using Nat.strongRecOn with
  | ind m ih => exact yieldT_step F hd hf hro w0 lo hi hhi l n₀ n₁ N B h0n J Jx hJ hY ih

set_option maxHeartbeats 1000000 in
/-- The function literal of stmtsWithin. -/
theorem within1_in (F : Fence) (hd : F.depth = none) (n : Nat) (h5 : F.fn 44) (h6 : F.fn 45) (hro : F.round = none) (w0 : World) (lo hi : Nat) (hhi : hi ≤ w0.heap.size) (l Bt n₀ n₁ B : Nat) (h0n : w0.heap.size ≤ n₀) (ss : List StmtD) (v : Value) (J Jx : List (StmtX w0 lo hi) → World → Prop)
    (hJ : AbidesFrom B J)
    (hY : ∀ pre (x : StmtX w0 lo hi) W, J pre W → pre.length < cntL ss → YieldAt F (n - 1) Tryz.prog l x.encs W fun e W' =>
      (e = .returned (.bool true) ∧ J (pre ++ [x]) W' ∧ KeepsP n₀ n₁ W W') ∨ (e = .returned (.bool false) ∧ Jx (pre ++ [x]) W'))
    (W : World) (hBt : W.cell? ⟨Bt, 0, none⟩ = some v) (hT : SR w0 lo hi v ss) (hm : sizeL ss ≤ 1048576) (hbW : Below w0.heap.size w0 W) (hn₀ : n₀ ≤ W.heap.size) (hn₁ : n₁ ≤ W.heap.size) (h0 : J [] W) :
    CallsIn F n Tryz.prog 44 #[.func (.yield l) #[] #[], .pointer (some ⟨Bt, 0, none⟩)] W fun e' W' => (∃ v, e' = .returned v) ∧
      ((∃ ys : List (StmtX w0 lo hi), ys.map StmtX.proj = preT 0 ss ∧ J ys W') ∨ (∃ pre : List (StmtX w0 lo hi), pre.map StmtX.proj <+: preT 0 ss ∧ Jx pre W')) := by
  have hdd : ∀ k : Nat, (F.depth.isSome = true → 1 ≤ k) := fun k h => by rw [hd] at h; cases h
  have hp := yieldT F hd h6 hro w0 lo hi hhi l n₀ n₁ (cntL ss) B h0n J Jx hJ (fun m pre x W hj hl => yieldAt_any hd m (hY pre x W hj hl)) (sizeL ss) (n - 1) W v ss 0 [] (Nat.le_refl _) hm hT hbW hn₀ hn₁ h0 (by simp)
  obtain ⟨ad, cap, rfl, _, _⟩ := hT.shape
  clear hT
  refine callsIn_of_wp Tryz.func44 rfl h5 ?_ hro
  simp only [Tryz.ntmps44, List.size_toArray, List.length_cons, List.length_nil, Nat.reduceAdd, Nat.reduceSub, Array.replicate_succ, Array.replicate_zero, List.push_toArray, List.append_toArray, List.nil_append, List.cons_append]
  gi_wp2_with ((try refine ⟨hdd _, ?_⟩); gi_at_call 45; refine hp.mono ?_; clear hp; rintro e1 W1 (⟨rfl, q, hq, hJ1, _⟩ | ⟨rfl, q, hq, hx⟩))
  · go_end0
    exact ⟨⟨_, rfl⟩, .inl ⟨q, hq, by simpa using hJ1⟩⟩
  · go_end0
    exact ⟨⟨_, rfl⟩, .inr ⟨q, hq, by simpa using hx⟩⟩

set_option maxHeartbeats 1000000 in
theorem stmtsWithin_in (F : Fence) (n : Nat) (h4 : F.fn 31) (hro : F.round = none) (ad : Option Go.Addr) (len cap : Nat) (w : World) :
    CallsIn F n Tryz.prog 31 #[.slice ad len cap] w fun e w' => e = .returned (.func (.func 44) #[] #[.pointer (some ⟨w.heap.size, 0, none⟩)]) ∧ w' = w.alloc (.cells #[.slice ad len cap] 24) := by
  refine callsIn_of_wp Tryz.func31 rfl h4 ?_ hro
  simp only [Tryz.ntmps31, List.size_toArray, List.length_cons, List.length_nil, Nat.reduceAdd, Nat.reduceSub, Array.replicate_succ, Array.replicate_zero, List.push_toArray, List.append_toArray, List.nil_append, List.cons_append]
  gi_wp2
  go_ret
  exact ⟨rfl, rfl⟩

/-- What stmtsWithin hands back yields the statements. -/
theorem stmts_stops (F : Fence) (hd : F.depth = none) (n : Nat) (h5 : F.fn 44) (h6 : F.fn 45) (hro : F.round = none) (w0 : World) (lo hi : Nat) (hhi : hi ≤ w0.heap.size) (Bt n₀ n₁ : Nat) (h0n : w0.heap.size ≤ n₀) (ss : List StmtD) (v : Value) (w : World) (hBt : Bt < w.heap.size) (hn₀ : n₀ ≤ w.heap.size) (hn₁ : n₁ ≤ w.heap.size)
    (hb : Below w0.heap.size w0 w) (hc : w.cell? ⟨Bt, 0, none⟩ = some v) (hT : SR w0 lo hi v ss) (hm : sizeL ss ≤ 1048576) :
    SeqStopsK F n Tryz.prog 44 #[.pointer (some ⟨Bt, 0, none⟩)] (StmtX.encs (w := w0) (lo := lo) (hi := hi)) (KeepsP n₀ n₁) (fun ys => ys.map StmtX.proj = preT 0 ss) (fun pre => pre.map StmtX.proj <+: preT 0 ss) (cntL ss) w := fun l J Jx W hW hJ _ hY h0 =>
  within1_in F hd n h5 h6 hro w0 lo hi hhi l Bt n₀ n₁ W.heap.size h0n ss v J Jx hJ hY W ((hW.cell (p := ⟨Bt, 0, none⟩) hBt).trans hc) hT hm (hb.trans (hW.mono hb.size)) (Nat.le_trans hn₀ hW.size) (Nat.le_trans hn₁ hW.size) h0
end Go.Proofs.YtkeockippmmneaaGreat

/-
  Statements of a kind, behind an interface: doingOf, fits, stmtOk.
-/
namespace Go.Proofs.YtkeockippmmneaaGreat
open Go.ChangeShapes Go.WideShapes Go.ChangeAt Go.RowKit
set_option linter.unusedVariables false

/-- A statement as one of its kind, as an interface's value. -/
def doingV (k : Int) (v : Value) : Value := if k = 1 then .iface 82 v else if k = 2 then .iface 83 v else if k = 3 then .iface 84 v else .nilIface

set_option maxHeartbeats 1000000 in
theorem doingOf_any (w : World) (s : StmtD) (ax ay az : Option Go.Addr) (cx cy cz : Nat) :
    Calls Tryz.prog 46 #[.agg #[.int .i64 s.k, .int .i64 s.tk, .int .i64 s.ta, .int .i64 s.e.k, .int .i64 s.e.n, .int .i64 s.e.ak, .int .i64 s.e.at_, .slice ax s.e.kids.length cx, .slice ay s.th.length cy, .slice az s.el.length cz]] w fun e w' => e = .returned (doingV s.k (.agg #[.int .i64 s.k, .int .i64 s.tk, .int .i64 s.ta, .int .i64 s.e.k, .int .i64 s.e.n, .int .i64 s.e.ak, .int .i64 s.e.at_, .slice ax s.e.kids.length cx, .slice ay s.th.length cy, .slice az s.el.length cz])) ∧ Below w.heap.size w w' := by
  have b1 := fun o => (Below.refl w.heap.size w).alloc (Nat.le_refl _) o
  unfold doingV
  generalize s.k = k
  by_cases h1 : k = 1
  · subst h1
    go_enter Tryz.func46, Tryz.ntmps46
    go_wp2
    go_ret
    exact ⟨rfl, b1 _⟩
  by_cases h2 : k = 2
  · subst h2
    go_enter Tryz.func46, Tryz.ntmps46
    go_wp2
    go_ret
    exact ⟨rfl, b1 _⟩
  by_cases h3 : k = 3
  · subst h3
    go_enter Tryz.func46, Tryz.ntmps46
    go_wp2
    go_ret
    exact ⟨rfl, b1 _⟩
  have e1 : (k == 1) = false := by simp [h1]
  have e2 : (k == 2) = false := by simp [h2]
  have e3 : (k == 3) = false := by simp [h3]
  rw [if_neg h1, if_neg h2, if_neg h3]
  clear h1 h2 h3
  go_enter Tryz.func46, Tryz.ntmps46
  go_wp2
  go_ret
  exact ⟨rfl, b1 _⟩

set_option maxHeartbeats 400000 in
theorem placeTakes_any (w : World) (k : Int) (hk : kindOk k = true) :
    Calls Tryz.prog 100 #[.int .i64 k] w fun e w' => e = .returned (.bool (k != 1)) ∧ w' = w := by
  have ho := placeOk_any w k
  rw [hk] at ho
  cases h : (k != 1) with
  | true =>
    go_enter Tryz.func100, Tryz.ntmps100
    go_wp2_with fail
    refine ho.mono ?_
    rintro e w1 ⟨rfl, rfl⟩
    clear ho
    go_wp2
    go_ret
    exact ⟨rfl, rfl⟩
  | false =>
    go_enter Tryz.func100, Tryz.ntmps100
    go_wp2_with fail
    refine ho.mono ?_
    rintro e w1 ⟨rfl, rfl⟩
    clear ho
    go_wp2
    go_ret
    exact ⟨rfl, rfl⟩

set_option maxRecDepth 100000 in
set_option maxHeartbeats 2000000 in
theorem fits_set (w : World) (s : StmtD) (ax ay az : Option Go.Addr) (cx cy cz : Nat) (h1 : s.th.length ≤ 1048576) (h2 : s.el.length ≤ 1048576) :
    Calls Tryz.prog 96 #[.agg #[.int .i64 s.k, .int .i64 s.tk, .int .i64 s.ta, .int .i64 s.e.k, .int .i64 s.e.n, .int .i64 s.e.ak, .int .i64 s.e.at_, .slice ax s.e.kids.length cx, .slice ay s.th.length cy, .slice az s.el.length cz]] w fun e w' => e = .returned (.bool (addrOk ⟨s.tk, s.ta⟩ && ((s.tk != 1) && (((s.th.length : Int) == 0) && ((s.el.length : Int) == 0))))) ∧ Below w.heap.size w w' := by
  have ev : AddrD.val ⟨s.tk, s.ta⟩ = .agg #[.int .i64 s.tk, .int .i64 s.ta] := rfl
  have hao := fun W => iAddrOk_any W s.tk s.ta
  rw [ev] at hao
  clear ev
  go_enter Tryz.func96, Tryz.ntmps96
  go_wp2_with fail
  obtain ⟨u0, hu0, G0, T0, S0⟩ : ∃ u0, w.alloc (.cells #[.int .i64 s.k, .int .i64 s.tk, .int .i64 s.ta, .int .i64 s.e.k, .int .i64 s.e.n, .int .i64 s.e.ak, .int .i64 s.e.at_, .slice ax s.e.kids.length cx, .slice ay s.th.length cy, .slice az s.el.length cz] 82) = u0 ∧ Below w.heap.size w u0 ∧ TenW u0 w.heap.size (.int .i64 s.k) (.int .i64 s.tk) (.int .i64 s.ta) (.int .i64 s.e.k) (.int .i64 s.e.n) (.int .i64 s.e.ak) (.int .i64 s.e.at_) (.slice ax s.e.kids.length cx) (.slice ay s.th.length cy) (.slice az s.el.length cz) ∧ u0.heap.size = w.heap.size + 1 :=
    ⟨_, rfl, (Below.refl _ _).alloc (Nat.le_refl _) _, tenW_new _ _ _ _ _ _ _ _ _ _ _ _, by simp⟩
  rw [hu0]
  clear hu0
  refine (hao _).mono ?_
  rintro e1 u1 ⟨rfl, g1⟩
  have G1 := G0.trans (g1.mono (by omega))
  obtain ⟨c0, c1, c2, c3, c4, c5, c6, c7, c8, c9, _⟩ := T0.under g1 (by omega)
  clear g1 G0 T0 hao
  cases ha : addrOk ⟨s.tk, s.ta⟩ with
  | false =>
    go_wp2
    go_ret
    exact ⟨ret_bool (by rw [ha]; rfl), G1⟩
  | true =>
    have hko : kindOk s.tk = true := by
      rw [kindOk_addr] at ha
      simp only [Bool.and_eq_true] at ha
      exact ha.1.1
    go_wp2_with fail
    refine (placeTakes_any _ s.tk hko).mono ?_
    rintro e2 u2 ⟨rfl, rfl⟩
    cases ht : (s.tk != 1) with
    | false =>
      go_wp2
      go_ret
      exact ⟨ret_bool (by rw [ha, ht]; rfl), G1⟩
    | true =>
      cases hh : ((s.th.length : Int) == 0) with
      | false =>
        go_wp2
        go_ret
        exact ⟨ret_bool (by rw [ha, ht, hh]; rfl), G1⟩
      | true =>
        cases he : ((s.el.length : Int) == 0) with
        | false =>
          go_wp2
          go_ret
          exact ⟨ret_bool (by rw [ha, ht, hh, he]; rfl), G1⟩
        | true =>
          go_wp2
          go_ret
          exact ⟨ret_bool (by rw [ha, ht, hh, he]; rfl), G1⟩

set_option maxHeartbeats 1000000 in
theorem fits_if (w : World) (s : StmtD) (ax ay az : Option Go.Addr) (cx cy cz : Nat) :
    Calls Tryz.prog 104 #[.agg #[.int .i64 s.k, .int .i64 s.tk, .int .i64 s.ta, .int .i64 s.e.k, .int .i64 s.e.n, .int .i64 s.e.ak, .int .i64 s.e.at_, .slice ax s.e.kids.length cx, .slice ay s.th.length cy, .slice az s.el.length cz]] w fun e w' => e = .returned (.bool ((s.tk == 0) && (s.ta == 0))) ∧ Below w.heap.size w w' := by
  have b1 := fun o => (Below.refl w.heap.size w).alloc (Nat.le_refl _) o
  cases h1 : (s.tk == 0) with
  | false =>
    go_enter Tryz.func104, Tryz.ntmps104
    go_wp2
    go_ret
    exact ⟨rfl, b1 _⟩
  | true =>
    cases h2 : (s.ta == 0) with
    | false =>
      go_enter Tryz.func104, Tryz.ntmps104
      go_wp2
      go_ret
      exact ⟨rfl, b1 _⟩
    | true =>
      go_enter Tryz.func104, Tryz.ntmps104
      go_wp2
      go_ret
      exact ⟨rfl, b1 _⟩

set_option maxHeartbeats 1000000 in
theorem fits_while (w : World) (s : StmtD) (ax ay az : Option Go.Addr) (cx cy cz : Nat) (h2 : s.el.length ≤ 1048576) :
    Calls Tryz.prog 109 #[.agg #[.int .i64 s.k, .int .i64 s.tk, .int .i64 s.ta, .int .i64 s.e.k, .int .i64 s.e.n, .int .i64 s.e.ak, .int .i64 s.e.at_, .slice ax s.e.kids.length cx, .slice ay s.th.length cy, .slice az s.el.length cz]] w fun e w' => e = .returned (.bool (((s.tk == 0) && (s.ta == 0)) && ((s.el.length : Int) == 0))) ∧ Below w.heap.size w w' := by
  have b1 := fun o => (Below.refl w.heap.size w).alloc (Nat.le_refl _) o
  cases h1 : (s.tk == 0) with
  | false =>
    go_enter Tryz.func109, Tryz.ntmps109
    go_wp2
    go_ret
    exact ⟨rfl, b1 _⟩
  | true =>
    cases h2 : (s.ta == 0) with
    | false =>
      go_enter Tryz.func109, Tryz.ntmps109
      go_wp2
      go_ret
      exact ⟨rfl, b1 _⟩
    | true =>
      cases h3 : ((s.el.length : Int) == 0) with
      | false =>
        go_enter Tryz.func109, Tryz.ntmps109
        go_wp2
        go_ret
        exact ⟨rfl, b1 _⟩
      | true =>
        go_enter Tryz.func109, Tryz.ntmps109
        go_wp2
        go_ret
        exact ⟨rfl, b1 _⟩

theorem m_fits_set (v : Value) : ∀ w : World, (method 256 82 v "loop.example/stopgate/impl.fits").run Tryz.prog w = .ok (96, v) w := fun _ => by kernel_rfl
theorem m_fits_if (v : Value) : ∀ w : World, (method 256 83 v "loop.example/stopgate/impl.fits").run Tryz.prog w = .ok (104, v) w := fun _ => by kernel_rfl
theorem m_fits_while (v : Value) : ∀ w : World, (method 256 84 v "loop.example/stopgate/impl.fits").run Tryz.prog w = .ok (109, v) w := fun _ => by kernel_rfl
theorem calls_set_fits (args : Array Value) (w : World) : (callFunc 96 args).run Tryz.prog w = .ok (.enter 96 args) w := by kernel_rfl
theorem calls_if_fits (args : Array Value) (w : World) : (callFunc 104 args).run Tryz.prog w = .ok (.enter 104 args) w := by kernel_rfl
theorem calls_while_fits (args : Array Value) (w : World) : (callFunc 109 args).run Tryz.prog w = .ok (.enter 109 args) w := by kernel_rfl

set_option maxRecDepth 100000 in
set_option maxHeartbeats 4000000 in
/-- A statement of a kind that there is. -/
theorem stmtOk_gen (w : World) (lo hi : Nat) (s : StmtD) (ax ay az : Option Go.Addr) (cx cy cz : Nat) (T : TypeId) (ff : Nat) (r : Bool) (hx : KR w lo hi (.slice ax s.e.kids.length cx) s.e.kids) (hhi : hi ≤ w.heap.size) (hm : manyL s.e.kids ≤ 1048576)
    (hkv : doingV s.k (.agg #[.int .i64 s.k, .int .i64 s.tk, .int .i64 s.ta, .int .i64 s.e.k, .int .i64 s.e.n, .int .i64 s.e.ak, .int .i64 s.e.at_, .slice ax s.e.kids.length cx, .slice ay s.th.length cy, .slice az s.el.length cz]) = .iface T (.agg #[.int .i64 s.k, .int .i64 s.tk, .int .i64 s.ta, .int .i64 s.e.k, .int .i64 s.e.n, .int .i64 s.e.ak, .int .i64 s.e.at_, .slice ax s.e.kids.length cx, .slice ay s.th.length cy, .slice az s.el.length cz]))
    (hm2 : ∀ w : World, (method 256 T (.agg #[.int .i64 s.k, .int .i64 s.tk, .int .i64 s.ta, .int .i64 s.e.k, .int .i64 s.e.n, .int .i64 s.e.ak, .int .i64 s.e.at_, .slice ax s.e.kids.length cx, .slice ay s.th.length cy, .slice az s.el.length cz]) "loop.example/stopgate/impl.fits").run Tryz.prog w = .ok (ff, .agg #[.int .i64 s.k, .int .i64 s.tk, .int .i64 s.ta, .int .i64 s.e.k, .int .i64 s.e.n, .int .i64 s.e.ak, .int .i64 s.e.at_, .slice ax s.e.kids.length cx, .slice ay s.th.length cy, .slice az s.el.length cz]) w)
    (he2 : ∀ (args : Array Value) (w : World), (callFunc ff args).run Tryz.prog w = .ok (.enter ff args) w)
    (hf : ∀ W : World, Calls Tryz.prog ff #[.agg #[.int .i64 s.k, .int .i64 s.tk, .int .i64 s.ta, .int .i64 s.e.k, .int .i64 s.e.n, .int .i64 s.e.ak, .int .i64 s.e.at_, .slice ax s.e.kids.length cx, .slice ay s.th.length cy, .slice az s.el.length cz]] W fun e w' => e = .returned (.bool r) ∧ Below W.heap.size W w') :
    Calls Tryz.prog 32 #[.agg #[.int .i64 s.k, .int .i64 s.tk, .int .i64 s.ta, .int .i64 s.e.k, .int .i64 s.e.n, .int .i64 s.e.ak, .int .i64 s.e.at_, .slice ax s.e.kids.length cx, .slice ay s.th.length cy, .slice az s.el.length cz]] w fun e w' => e = .returned (.bool (r && exprOk s.e)) ∧ Below w.heap.size w w' := by
  have hko := fun W => doingOf_any W s ax ay az cx cy cz
  rw [hkv] at hko
  clear hkv
  have HX : Hid (KR w lo hi (.slice ax s.e.kids.length cx) s.e.kids) := hx
  clear hx
  go_enter Tryz.func32, Tryz.ntmps32
  go_wp2_with fail
  obtain ⟨u0, hu0, G0, T0, S0⟩ : ∃ u0, w.alloc (.cells #[.int .i64 s.k, .int .i64 s.tk, .int .i64 s.ta, .int .i64 s.e.k, .int .i64 s.e.n, .int .i64 s.e.ak, .int .i64 s.e.at_, .slice ax s.e.kids.length cx, .slice ay s.th.length cy, .slice az s.el.length cz] 44) = u0 ∧ Below w.heap.size w u0 ∧ TenW u0 w.heap.size (.int .i64 s.k) (.int .i64 s.tk) (.int .i64 s.ta) (.int .i64 s.e.k) (.int .i64 s.e.n) (.int .i64 s.e.ak) (.int .i64 s.e.at_) (.slice ax s.e.kids.length cx) (.slice ay s.th.length cy) (.slice az s.el.length cz) ∧ u0.heap.size = w.heap.size + 1 :=
    ⟨_, rfl, (Below.refl _ _).alloc (Nat.le_refl _) _, tenW_new _ _ _ _ _ _ _ _ _ _ _ _, by simp⟩
  rw [hu0]
  clear hu0
  refine (hko _).mono ?_
  rintro e1 u1 ⟨rfl, g1⟩
  have S1 := g1.size
  have G1 := G0.trans (g1.mono (by omega))
  have T1 := T0.under g1 (by omega)
  clear hko g1 T0 G0
  go_wp2_with fail
  refine (hf _).mono ?_
  rintro e2 u2 ⟨rfl, g2⟩
  have S2 := g2.size
  have G2 := G1.trans (g2.mono (by omega))
  obtain ⟨c0, c1, c2, c3, c4, c5, c6, c7, c8, c9, _⟩ := T1.under g2 (by omega)
  clear hf g2 T1 G1
  cases r with
  | false =>
    go_wp2
    go_ret
    exact ⟨rfl, G2⟩
  | true =>
    go_wp2_with fail
    refine (iExprOk_any _ lo hi _ s.e ⟨_, rfl, HX.out.under G2 hhi⟩ (by omega) hm).mono ?_
    rintro e3 u3 ⟨rfl, g3⟩
    have G3 := G2.trans (g3.mono (by omega))
    clear g3 G2
    go_wp2
    go_ret
    exact ⟨by simp, G3⟩

set_option maxRecDepth 100000 in
set_option maxHeartbeats 1000000 in
theorem stmtOk_nil (w : World) (s : StmtD) (ax ay az : Option Go.Addr) (cx cy cz : Nat) (hkv : doingV s.k (.agg #[.int .i64 s.k, .int .i64 s.tk, .int .i64 s.ta, .int .i64 s.e.k, .int .i64 s.e.n, .int .i64 s.e.ak, .int .i64 s.e.at_, .slice ax s.e.kids.length cx, .slice ay s.th.length cy, .slice az s.el.length cz]) = .nilIface) :
    Calls Tryz.prog 32 #[.agg #[.int .i64 s.k, .int .i64 s.tk, .int .i64 s.ta, .int .i64 s.e.k, .int .i64 s.e.n, .int .i64 s.e.ak, .int .i64 s.e.at_, .slice ax s.e.kids.length cx, .slice ay s.th.length cy, .slice az s.el.length cz]] w fun e w' => e = .returned (.bool false) ∧ Below w.heap.size w w' := by
  have hko := fun W => doingOf_any W s ax ay az cx cy cz
  rw [hkv] at hko
  have b1 := fun o => (Below.refl w.heap.size w).alloc (Nat.le_refl _) o
  clear hkv
  go_enter Tryz.func32, Tryz.ntmps32
  go_wp2_with fail
  refine (hko _).mono ?_
  rintro e1 u1 ⟨rfl, g1⟩
  have G1 := (b1 _).trans (g1.mono (by simp))
  clear hko g1 b1
  go_wp2
  go_ret
  exact ⟨rfl, G1⟩

theorem stmtOk_any (w : World) (lo hi : Nat) (s : StmtD) (ax ay az : Option Go.Addr) (cx cy cz : Nat) (hx : KR w lo hi (.slice ax s.e.kids.length cx) s.e.kids) (hhi : hi ≤ w.heap.size) (hm : manyL s.e.kids ≤ 1048576) (h1 : s.th.length ≤ 1048576) (h2 : s.el.length ≤ 1048576) :
    Calls Tryz.prog 32 #[.agg #[.int .i64 s.k, .int .i64 s.tk, .int .i64 s.ta, .int .i64 s.e.k, .int .i64 s.e.n, .int .i64 s.e.ak, .int .i64 s.e.at_, .slice ax s.e.kids.length cx, .slice ay s.th.length cy, .slice az s.el.length cz]] w fun en w' => en = .returned (.bool (stmtB s)) ∧ Below w.heap.size w w' := by
  unfold stmtB
  by_cases k1 : s.k = 1
  · have hp : fitB s = (addrOk ⟨s.tk, s.ta⟩ && ((s.tk != 1) && (((s.th.length : Int) == 0) && ((s.el.length : Int) == 0)))) := by unfold fitB; rw [if_pos k1]
    rw [hp]
    exact stmtOk_gen w lo hi s ax ay az cx cy cz 82 96 _ hx hhi hm (by unfold doingV; rw [if_pos k1]) (m_fits_set _) calls_set_fits (fun W => fits_set W s ax ay az cx cy cz h1 h2)
  by_cases k2 : s.k = 2
  · have hp : fitB s = ((s.tk == 0) && (s.ta == 0)) := by unfold fitB; rw [if_neg k1, if_pos k2]
    rw [hp]
    exact stmtOk_gen w lo hi s ax ay az cx cy cz 83 104 _ hx hhi hm (by unfold doingV; rw [if_neg k1, if_pos k2]) (m_fits_if _) calls_if_fits (fun W => fits_if W s ax ay az cx cy cz)
  by_cases k3 : s.k = 3
  · have hp : fitB s = (((s.tk == 0) && (s.ta == 0)) && ((s.el.length : Int) == 0)) := by unfold fitB; rw [if_neg k1, if_neg k2, if_pos k3]
    rw [hp]
    exact stmtOk_gen w lo hi s ax ay az cx cy cz 84 109 _ hx hhi hm (by unfold doingV; rw [if_neg k1, if_neg k2, if_pos k3]) (m_fits_while _) calls_while_fits (fun W => fits_while W s ax ay az cx cy cz h2)
  · have hp : fitB s = false := by unfold fitB; rw [if_neg k1, if_neg k2, if_neg k3]
    rw [hp, Bool.false_and]
    exact stmtOk_nil w s ax ay az cx cy cz (by unfold doingV; rw [if_neg k1, if_neg k2, if_neg k3])
end Go.Proofs.YtkeockippmmneaaGreat

/-
  StmtsOk and StmtsMany of the program: loops over the statements.
-/
namespace Go.Proofs.YtkeockippmmneaaGreat
open Go.ChangeShapes Go.WideShapes Go.ChangeAt Go.RowKit Go.Shelf
attribute [local go_sem] Oper.semAt_some
set_option linter.unusedVariables false

theorem TenW.grownBy {W W' : World} {row : Option Nat} {B : Nat} {x0 x1 x2 x3 x4 x5 x6 x7 x8 x9 : Value} (h : TenW W B x0 x1 x2 x3 x4 x5 x6 x7 x8 x9) (hg : W.grownBy W' row) (hr : ∀ r, row = some r → ∃ o : Obj, W.heap[r]? = some o ∧ o.isCells = false) : TenW W' B x0 x1 x2 x3 x4 x5 x6 x7 x8 x9 := by
  obtain ⟨o, ho, hc⟩ := cells_of_cell h.c0
  exact h.at_ ((grownBy_keeps_cells hg hr ho hc).trans (by rw [ho]))

/-- Between two rounds of StmtsOk. -/
structure OkTI {w0 : World} {lo hi : Nat} (w : World) (n₁ : Nat) (pre : List (StmtX w0 lo hi)) (W : World) : Prop where
  many : One W (w.heap.size + 1) (.int .i64 (pre.length : Int))
  res : One W w.heap.size (.bool false)
  good : ∀ x, x ∈ pre → goodT x.proj
  few : pre.length ≤ 16
  low : Below w.heap.size w W
  size : n₁ ≤ W.heap.size

/-- A round of StmtsOk has found one that is not right. -/
structure OkTX {w0 : World} {lo hi : Nat} (w : World) (pre : List (StmtX w0 lo hi)) (W : World) : Prop where
  res : One W w.heap.size (.bool false)
  bad : 16 < pre.length ∨ ∃ x, x ∈ pre ∧ ¬ goodT x.proj
  low : Below w.heap.size w W

theorem okTI_own {w0 : World} {lo hi : Nat} (w : World) (n₁ B : Nat) (hB : w.heap.size ≤ B) : OwnFrom B (OkTI (w0 := w0) (lo := lo) (hi := hi) w n₁) := fun s W W' row hs hg hr =>
  ⟨hs.many.grownBy hg fun r e => (hr r e).2, hs.res.grownBy hg fun r e => (hr r e).2, hs.good, hs.few, hs.low.grown hg hs.low.size fun k e => Nat.le_trans hB (hr k e).1, Nat.le_trans hs.size hg.size⟩
theorem okTX_own {w0 : World} {lo hi : Nat} (w : World) (B : Nat) (hB : w.heap.size ≤ B) : OwnFrom B (OkTX (w0 := w0) (lo := lo) (hi := hi) w) := fun s W W' row hs hg hr =>
  ⟨hs.res.grownBy hg fun r e => (hr r e).2, hs.bad, hs.low.grown hg hs.low.size fun k e => Nat.le_trans hB (hr k e).1⟩

set_option maxRecDepth 100000 in
set_option maxHeartbeats 8000000 in
theorem iStmtsOk_any (w : World) (lo hi : Nat) (v : Value) (ss : List StmtD) (h : SR w lo hi v ss) (hhi : hi ≤ w.heap.size) (hm : sizeL ss ≤ 1048576) :
    Calls Tryz.prog 16 #[v] w fun en w' => en = .returned (.bool (stmtsOk ss)) ∧ Below w.heap.size w w' := by
  obtain ⟨ad, cap, rfl, hc1, hc2⟩ := h.shape
  refine (callsIn_wide (n := 8)).1 ?_
  have hro : Fence.wide.round = none := rfl
  have hd : Fence.wide.depth = none := rfl
  refine callsIn_of_wp_marks Tryz.func16 rfl trivial ?_ hro
  simp only [Tryz.ntmps16, List.size_toArray, List.length_cons, List.length_nil, Nat.reduceAdd, Nat.reduceSub, Array.replicate_succ, Array.replicate_zero, List.push_toArray, List.append_toArray, List.nil_append, List.cons_append]
  gi_wp2_with ((try refine ⟨trivial, ?_⟩); gi_at_call 31; refine (stmtsWithin_in Fence.wide _ trivial hro _ _ _ _).mono ?_; rintro e1 w1 ⟨rfl, rfl⟩)
  obtain ⟨W0, hW0, Z0, B0, C1, C2, C3⟩ : ∃ W0, ((w.alloc (.cells #[.bool false] 4)).alloc (.cells #[.int .i64 0] 3)).alloc (.cells #[.slice ad ss.length cap] 24) = W0 ∧
      W0.heap.size = w.heap.size + 3 ∧ Below w.heap.size w W0 ∧ One W0 w.heap.size (.bool false) ∧ One W0 (w.heap.size + 1) (.int .i64 0) ∧ One W0 (w.heap.size + 1 + 1) (.slice ad ss.length cap) := by
    refine ⟨_, rfl, by simp, (((Below.refl _ w).alloc (Nat.le_refl _) _).alloc (by simp) _).alloc (by simp; omega) _, ?_, ?_, ?_⟩
    · exact (one_new w (.bool false) 4).below (((Below.refl _ _).alloc (Nat.le_refl _) _).alloc (by simp) _) (by simp)
    · have h1 := one_new (w.alloc (.cells #[.bool false] 4)) (.int .i64 0) 3
      rw [World.size_alloc] at h1
      exact h1.below ((Below.refl _ _).alloc (Nat.le_refl _) _) (by simp)
    · have h1 := one_new ((w.alloc (.cells #[.bool false] 4)).alloc (.cells #[.int .i64 0] 3)) (.slice ad ss.length cap) 24
      simp only [World.size_alloc] at h1
      exact h1
  rw [hW0]
  clear hW0
  have hexp := stmtsOk_iff ss
  refine wpIn_rangeFunc_ownH hro (by decide) (gf := 44) (lb := #[.pointer (some ⟨w.heap.size + 1 + 1, 0, none⟩)]) rfl trivial (enters_of Tryz.func44 (by kernel_rfl) rfl)
    (stmts_stops Fence.wide hd _ trivial trivial hro w lo hi hhi (w.heap.size + 1 + 1) w.heap.size W0.heap.size (Nat.le_refl _) ss _ W0 (by omega) (by omega) (Nat.le_refl _) B0 C3.1 h hm) KeepsP.trans (keepsP_b (by omega)) (Below.refl _ _) (fun _ => rfl)
    (OkTI w W0.heap.size) (fun c pre W => c = .ret ∧ OkTX w pre W) (okTI_own w _ _ (by omega)) (fun c s W W' row hs hg hr => ⟨hs.1, okTX_own w W0.heap.size (by omega) s W W' row hs.2 hg hr⟩)
    ⟨C2, C1, by simp, by simp, B0, Nat.le_refl _⟩
    (fun x a' W => ∃ Bx, W0.heap.size ≤ Bx ∧ Bx < W.heap.size ∧ TenW W Bx (.int .i64 x.s.k) (.int .i64 x.s.tk) (.int .i64 x.s.ta) (.int .i64 x.s.e.k) (.int .i64 x.s.e.n) (.int .i64 x.s.e.ak) (.int .i64 x.s.e.at_) (.slice x.ax x.s.e.kids.length x.cx) (.slice x.ay x.s.th.length x.cy) (.slice x.az x.s.el.length x.cz) ∧ a' = { tmps := #[.slice ad ss.length cap, undef, .pointer (some ⟨w.heap.size, 0, none⟩), .pointer (some ⟨w.heap.size + 1, 0, none⟩), .pointer (some ⟨Bx, 0, none⟩), .int .i64 x.d, .slice ad ss.length cap, .func (.func 44) #[] #[.pointer (some ⟨w.heap.size + 1 + 1, 0, none⟩)], .agg #[.int .i64 x.s.k, .int .i64 x.s.tk, .int .i64 x.s.ta, .int .i64 x.s.e.k, .int .i64 x.s.e.n, .int .i64 x.s.e.ak, .int .i64 x.s.e.at_, .slice x.ax x.s.e.kids.length x.cx, .slice x.ay x.s.th.length x.cy, .slice x.az x.s.el.length x.cz], .int .i64 x.d, undef, undef, undef, undef, undef, undef, undef, undef, undef, undef, undef, undef, undef], defers := [] })
    (fun x a' s W W' row hs hg hr => by
      obtain ⟨Bx, h1, h2, h3, h4⟩ := hs
      exact ⟨Bx, h1, Nat.lt_of_lt_of_le h2 hg.size, h3.grownBy hg fun r e => (hr r e).2, h4⟩)
    ?assign ?body ?done ?stop
  case assign =>
    intro l pre x W K hi hK
    have hsz := hi.size
    have hB := hi.low
    simp only [StmtX.encs, StmtX.val]
    gi_wp2
    refine hK _ _ ((KeepsOthers.alloc _ _).from _) (.alloc W (by omega) _) (okTI_own w W0.heap.size W0.heap.size (by omega) pre W _ none hi (World.grownBy_alloc W _ none) (fun r e => by cases e)) ⟨W.heap.size, hsz, by simp, tenW_new W _ _ _ _ _ _ _ _ _ _ _, rfl⟩
  case body =>
    rintro l pre x a' W hl _ hi ⟨Bx, hBx, hBx2, hF, rfl⟩ hlt
    obtain ⟨⟨hm1, hm2⟩, hres, hgood, hfew, hlow, hsz⟩ := hi
    have hr1 := hres.1
    have hr2 := hres.2
    obtain ⟨c0, c1, c2, c3, c4, c5, c6, c7, c8, c9, _⟩ := id hF
    have HI : Hid (One W (w.heap.size + 1) (.int .i64 (pre.length : Int)) ∧ One W w.heap.size (.bool false) ∧ (∀ x, x ∈ pre → goodT x.proj) ∧ Below w.heap.size w W) := ⟨⟨hm1, hm2⟩, hres, hgood, hlow⟩
    have hlow1 := hlow.setCell (p := ⟨w.heap.size + 1, 0, none⟩) (by show w.heap.size ≤ w.heap.size + 1; omega) (.int .i64 ((pre.length : Int) + 1))
    have hSO := stmtOk_any (W.setCell ⟨w.heap.size + 1, 0, none⟩ (.int .i64 ((pre.length : Int) + 1))) lo hi x.s x.ax x.ay x.az x.cx x.cy x.cz (x.kr.under hlow1 hhi) (Nat.le_trans hhi hlow1.size) x.many x.th x.el
    clear hres hgood hlow hF hexp hlt hlow1
    have hne1 : ¬ Bx = w.heap.size + 1 := by omega
    have hne2 : ¬ w.heap.size = w.heap.size + 1 := by omega
    by_cases h14 : pre.length = 16
    · have hp1 : (16 : Int) < (pre.length : Int) + 1 := by omega
      clear hSO
      gi_wp2
      refine ⟨trivial, ?_⟩
      gi_wp2
      obtain ⟨h1, h2, h3, h4⟩ := HI.out
      exact ⟨((KeepsOthers.setCell _ _ _).from _).trans ((KeepsOthers.setCell _ _ _).from _), rfl, ⟨(h2.other _ (by omega)).set _, .inl (by simp [h14]), (h4.setCell (p := ⟨w.heap.size + 1, 0, none⟩) (by show w.heap.size ≤ w.heap.size + 1; omega) _).setCell (p := ⟨w.heap.size, 0, none⟩) (Nat.le_refl _) _⟩⟩
    · have hp1 : ¬ (16 : Int) < (pre.length : Int) + 1 := by omega
      by_cases h6 : x.d < 4
      · have hp2 : ¬ (4 : Int) ≤ x.d := by omega
        cases hpb : stmtB x.s with
        | true =>
          rw [hpb] at hSO
          gi_wp2_with ((try refine ⟨trivial, ?_⟩); gi_at_call 32; refine (CallsIn.inRound l (callsIn_wide.2 hSO)).mono ?_; rintro e2 W2 ⟨rfl, g2⟩)
          obtain ⟨h1, h2, h3, h4⟩ := HI.out
          have hsz1 : (W.setCell ⟨w.heap.size + 1, 0, none⟩ (.int .i64 ((pre.length : Int) + 1))).heap.size = W.heap.size := by simp
          have hlow1 := h4.setCell (p := ⟨w.heap.size + 1, 0, none⟩) (by show w.heap.size ≤ w.heap.size + 1; omega) (.int .i64 ((pre.length : Int) + 1))
          refine ⟨((KeepsOthers.setCell _ _ _).from _).trans (KeepsFrom.of_below g2), (KeepsP.setCell W (by omega) (by omega) _).trans (.of_below g2 (by omega)), ⟨?_, (h2.other _ (by omega)).below g2 (by omega), ?_, ?_, hlow1.trans (g2.mono (by omega)), ?_⟩⟩
          · rw [show ((pre ++ [x]).length : Int) = (pre.length : Int) + 1 by simp]
            exact (h1.set _).below g2 (by omega)
          · intro y hy
            rcases List.mem_append.1 hy with hy | hy
            · exact h3 y hy
            · rw [List.mem_singleton] at hy; subst hy; exact ⟨h6, hpb⟩
          · simp only [List.length_append, List.length_cons, List.length_nil]; omega
          · have := g2.size; omega
        | false =>
          rw [hpb] at hSO
          gi_wp2_with ((try refine ⟨trivial, ?_⟩); gi_at_call 32; refine (CallsIn.inRound l (callsIn_wide.2 hSO)).mono ?_; rintro e2 W2 ⟨rfl, g2⟩; have hr3 := (g2.cell (p := ⟨w.heap.size, 0, none⟩) (by show w.heap.size < _; simp; omega)).trans ((HI.out.2.1.other _ (by omega)).1); have hr4 := (g2.frozen (p := ⟨w.heap.size, 0, none⟩) (by show w.heap.size < _; simp; omega)).trans ((HI.out.2.1.other _ (by omega)).2))
          obtain ⟨h1, h2, h3, h4⟩ := HI.out
          have hsz1 : (W.setCell ⟨w.heap.size + 1, 0, none⟩ (.int .i64 ((pre.length : Int) + 1))).heap.size = W.heap.size := by simp
          have hlow1 := h4.setCell (p := ⟨w.heap.size + 1, 0, none⟩) (by show w.heap.size ≤ w.heap.size + 1; omega) (.int .i64 ((pre.length : Int) + 1))
          exact ⟨(((KeepsOthers.setCell _ _ _).from _).trans (KeepsFrom.of_below g2)).trans ((KeepsOthers.setCell _ _ _).from _), rfl, ⟨One.set ⟨hr3, hr4⟩ _, .inr ⟨x, by simp, fun hg => by have := hg.2; rw [show stmtB x.proj.1 = stmtB x.s from rfl, hpb] at this; cases this⟩, (hlow1.trans (g2.mono (by omega))).setCell (p := ⟨w.heap.size, 0, none⟩) (Nat.le_refl _) _⟩⟩
      · have hp2 : (4 : Int) ≤ x.d := by omega
        clear hSO
        gi_wp2
        refine ⟨trivial, ?_⟩
        gi_wp2
        obtain ⟨h1, h2, h3, h4⟩ := HI.out
        exact ⟨((KeepsOthers.setCell _ _ _).from _).trans ((KeepsOthers.setCell _ _ _).from _), rfl, ⟨(h2.other _ (by omega)).set _, .inr ⟨x, by simp, fun hg => by have : x.d < 4 := hg.1; omega⟩, (h4.setCell (p := ⟨w.heap.size + 1, 0, none⟩) (by show w.heap.size ≤ w.heap.size + 1; omega) _).setCell (p := ⟨w.heap.size, 0, none⟩) (Nat.le_refl _) _⟩⟩
  case done =>
    intro D ys W hD hS hi hK
    have hr1 := hi.res.1
    have hr2 := hi.res.2
    have hok : stmtsOk ss = true := by
      rw [hexp]
      refine ⟨fun x hx => ?_, ?_⟩
      · rw [← hS] at hx
        obtain ⟨y, hy, rfl⟩ := List.mem_map.1 hx
        exact hi.good y hy
      · have := congrArg List.length hS
        rw [List.length_map, preT_length] at this
        have := hi.few
        omega
    have HB : Hid (Below w.heap.size w W ∧ One W w.heap.size (.bool false)) := ⟨hi.low, hi.res⟩
    clear hi
    gi_wp2
    have hK' := (KeepsOthers.setCell W ⟨w.heap.size, 0, none⟩ (.bool true)).same D _ hK rfl
    refine ⟨by simp, .inl ⟨_, _, rfl, run_takeDeferred hK', ?_⟩⟩
    have hc5 := cell_kept (HB.out.2.set (.bool true)).1 (grownBy_putObj' _ D (.deferred none)) (fun r e => by cases e; exact ⟨_, hK', rfl⟩)
    refine ⟨.bool true, ?_, by rw [hok], (HB.out.1.setCell (p := ⟨w.heap.size, 0, none⟩) (Nat.le_refl _) _).trans (belowK_b (w := w) (Nat.le_refl _) _ D _ _ (by omega) hK' rfl rfl)⟩
    simp [results, Tryz.f16, go_sem, hc5]
  case stop =>
    rintro D c pre W hD hSp ⟨rfl, hx⟩ hK
    have hok : stmtsOk ss = false := by
      rw [Bool.eq_false_iff]
      intro h
      obtain ⟨h1, h2⟩ := hexp.1 h
      rcases hx.bad with hb | ⟨x, hxm, hxb⟩
      · have := hSp.length_le
        rw [List.length_map, preT_length] at this
        omega
      · exact hxb (h1 _ (hSp.subset (List.mem_map.2 ⟨x, hxm, rfl⟩)))
    have HB : Hid (Below w.heap.size w W ∧ One W w.heap.size (.bool false)) := ⟨hx.low, hx.res⟩
    clear hx
    gi_wp2
    refine ⟨by simp, .inl ⟨_, _, rfl, run_takeDeferred hK, ?_⟩⟩
    have hc5 := cell_kept HB.out.2.1 (grownBy_putObj' _ D (.deferred none)) (fun r e => by cases e; exact ⟨_, hK, rfl⟩)
    refine ⟨.bool false, ?_, by rw [hok], HB.out.1.trans (belowK_b (w := w) (Nat.le_refl _) _ D _ _ (by omega) hK rfl rfl)⟩
    simp [results, Tryz.f16, go_sem, hc5]

end Go.Proofs.YtkeockippmmneaaGreat
