/-
  The statements of a list, yielded: stmtsWithin, its function literal, yieldStmts.
-/
import Derived.Test.YtkeockippmmneaaStmtPre
import Derived.Test.YtkeockippmmneaaPartsA
namespace Go.Proofs.Ytkeockippmmneaa
open Go.ChangeShapes Go.WideShapes Go.ChangeAt Go.RowKit Go.Shelf
attribute [local go_sem] Oper.semAt_some
set_option linter.unusedVariables false

/-- A statement as it is yielded: what it is, where what it reckons and its lists lie; how many others are around it. What it reckons can be read in the world w. -/
structure StmtX (w : World) (lo hi : Nat) where
  s : StmtD
  ax : Option Go.Addr
  cx : Nat
  ay : Option Go.Addr
  cy : Nat
  az : Option Go.Addr
  cz : Nat
  d : Int
  kr : KR w lo hi (.slice ax s.e.kids.length cx) s.e.kids
  many : manyL s.e.kids ≤ 1048576
  th : s.th.length ≤ 1048576
  el : s.el.length ≤ 1048576

def StmtX.val {w : World} {lo hi : Nat} (x : StmtX w lo hi) : Value := .agg #[.int .i64 x.s.k, .int .i64 x.s.tk, .int .i64 x.s.ta, .int .i64 x.s.e.k, .int .i64 x.s.e.n, .int .i64 x.s.e.ak, .int .i64 x.s.e.at_, .slice x.ax x.s.e.kids.length x.cx, .slice x.ay x.s.th.length x.cy, .slice x.az x.s.el.length x.cz]
def StmtX.proj {w : World} {lo hi : Nat} (x : StmtX w lo hi) : StmtD × Int := (x.s, x.d)
def StmtX.encs {w : World} {lo hi : Nat} (x : StmtX w lo hi) : Array Value := #[x.val, .int .i64 x.d]

/-- What one run of yieldStmts leaves. -/
def YPostT {w0 : World} {lo hi : Nat} (n₀ n₁ : Nat) (J Jx : List (StmtX w0 lo hi) → World → Prop) (pre : List (StmtX w0 lo hi)) (l : List (StmtD × Int)) (W : World) (en : Ending) (W' : World) : Prop :=
  (en = .returned (.bool true) ∧ ∃ q, q.map StmtX.proj = l ∧ J (pre ++ q) W' ∧ KeepsP n₀ n₁ W W') ∨ (en = .returned (.bool false) ∧ ∃ q, q.map StmtX.proj <+: l ∧ Jx (pre ++ q) W')

/-- yieldStmts, of a list with at most m statements. -/
def YieldT (F : Fence) (w0 : World) (lo hi : Nat) (l n₀ n₁ N : Nat) (J Jx : List (StmtX w0 lo hi) → World → Prop) (m : Nat) : Prop :=
  ∀ (n : Nat) (W : World) (v : Value) (ss : List StmtD) (d : Int) (pre : List (StmtX w0 lo hi)), sizeL ss ≤ m → sizeL ss ≤ 1048576 → SR w0 lo hi v ss → Below w0.heap.size w0 W → n₀ ≤ W.heap.size → n₁ ≤ W.heap.size → J pre W → pre.length + cntL ss ≤ N →
    CallsIn F n Try.prog 62 #[v, .int .i64 d, .func (.yield l) #[] #[]] W (YPostT n₀ n₁ J Jx pre (preT d ss) W)

set_option maxRecDepth 100000 in
set_option maxHeartbeats 8000000 in
theorem yieldT_step (F : Fence) (hd : F.depth = none) (hf : F.fn 62) (hro : F.round = none) (w0 : World) (lo hi : Nat) (hhi : hi ≤ w0.heap.size) (l n₀ n₁ N B : Nat) (h0n : w0.heap.size ≤ n₀) (J Jx : List (StmtX w0 lo hi) → World → Prop)
    (hJ : AbidesFrom B J)
    (hY : ∀ m pre (x : StmtX w0 lo hi) W, J pre W → pre.length < N → YieldAt F m Try.prog l x.encs W fun e W' =>
      (e = .returned (.bool true) ∧ J (pre ++ [x]) W' ∧ KeepsP n₀ n₁ W W') ∨ (e = .returned (.bool false) ∧ Jx (pre ++ [x]) W'))
    {m : Nat} (H : ∀ m', m' < m → YieldT F w0 lo hi l n₀ n₁ N J Jx m') : YieldT F w0 lo hi l n₀ n₁ N J Jx m := by
  intro n W v ss d pre hm hmm h hbW hn₀ hn₁ hJ0 hN
  obtain ⟨ad, cap, rfl, hc1, hc2⟩ := h.shape
  have hmx : ss.length ≤ 9223372036854775807 := by unfold maxLen at hc2; omega
  have hdd : ∀ k : Nat, (F.depth.isSome = true → 1 ≤ k) := fun k h => by rw [hd] at h; cases h
  have HK : Hid (SR w0 lo hi (.slice ad ss.length cap) ss) := h
  have HJ : Hid (∀ pr (w : World) o, J pr w → J pr (w.alloc o)) := fun pr w o hj => hJ pr w _ none hj (World.grownBy_alloc w _ none) (fun r e => by cases e)
  have HJ0 : Hid (J pre W) := hJ0
  have HBW : Hid (Below w0.heap.size w0 W) := hbW
  have HH : Hid (∀ m', m' < m → YieldT F w0 lo hi l n₀ n₁ N J Jx m') := H
  have HY : Hid (∀ m pre (x : StmtX w0 lo hi) W, J pre W → pre.length < N → YieldAt F m Try.prog l x.encs W fun e W' =>
      (e = .returned (.bool true) ∧ J (pre ++ [x]) W' ∧ KeepsP n₀ n₁ W W') ∨ (e = .returned (.bool false) ∧ Jx (pre ++ [x]) W')) := hY
  clear h hJ0 hJ hbW H hY
  refine callsIn_of_wp Try.func62 rfl hf ?_ hro
  simp only [Try.ntmps62, List.size_toArray, List.length_cons, List.length_nil, Nat.reduceAdd, Nat.reduceSub, Array.replicate_succ, Array.replicate_zero, List.push_toArray, List.append_toArray, List.nil_append, List.cons_append]
  gi_wp2_with fail
  gi_loopw [11] (fun i wr => ∃ (j : Nat) (q : List (StmtX w0 lo hi)), j ≤ ss.length ∧ i = .int .i64 j ∧ W.heap.size ≤ wr.heap.size ∧ Hid (q.map StmtX.proj = preT d (ss.take j) ∧ J (pre ++ q) wr ∧ KeepsP n₀ n₁ W wr))
    (fun i _ => ss.length - (intOf i).toNat)
  case atStart => exact ⟨0, [], Nat.zero_le _, rfl, Nat.le_refl _, by rw [List.take_zero, preT]; rfl, by rw [List.append_nil]; exact HJ0.out, KeepsP.refl _ _ _⟩
  case round =>
    obtain ⟨j, q, hj, rfl, hs, HR⟩ := hrel
    by_cases hlt : j < ss.length
    · obtain ⟨s, hx⟩ : ∃ s, ss[j]? = some s := ⟨ss[j], List.getElem?_eq_getElem hlt⟩
      obtain ⟨b, off, cap', vx, vy, vz, hv, hb1, hb2, h5, hkx, hky, hkz⟩ := HK.out.at_ hx
      simp only [Value.slice.injEq, true_and] at hv
      obtain ⟨rfl, rfl⟩ := hv
      obtain ⟨hq1, hq2, hq3⟩ := HR.out
      have HX : Hid (ss[j]? = some s) := hx
      have hb := HBW.out.trans (hq3.low.mono h0n)
      obtain ⟨c0, c1, c2, c3, c4, c5, c6, c7, c8, c9⟩ := h5.kept (hb.block b (by omega))
      obtain ⟨ax, cx, rfl, _, _⟩ := hkx.shape
      obtain ⟨ay, cy, rfl, hy1, hy2⟩ := hky.shape
      obtain ⟨az, cz, rfl, hz1, hz2⟩ := hkz.shape
      have hkl := stmt_lt hx
      have hyl := length_le_sizeL s.th
      have hzl := length_le_sizeL s.el
      have hnl : (pre ++ q).length = pre.length + cntL (ss.take j) := by
        have := congrArg List.length hq1
        rw [List.length_map, preT_length] at this
        rw [List.length_append]
        omega
      have hts := cntL_take_succ hx
      have htl := cntL_take_le ss (j + 1)
      have hse := cntS_eq s
      obtain ⟨u1, hu1, G1, S1, J1, B1⟩ : ∃ u1, wr.alloc (.cells #[.int .i64 s.k, .int .i64 s.tk, .int .i64 s.ta, .int .i64 s.e.k, .int .i64 s.e.n, .int .i64 s.e.ak, .int .i64 s.e.at_, .slice ax s.e.kids.length cx, .slice ay s.th.length cy, .slice az s.el.length cz] 61) = u1 ∧ KeepsP n₀ n₁ wr u1 ∧ u1.heap.size = wr.heap.size + 1 ∧ J (pre ++ q) u1 ∧ u1.heap[wr.heap.size]? = some (.cells #[.int .i64 s.k, .int .i64 s.tk, .int .i64 s.ta, .int .i64 s.e.k, .int .i64 s.e.n, .int .i64 s.e.ak, .int .i64 s.e.at_, .slice ax s.e.kids.length cx, .slice ay s.th.length cy, .slice az s.el.length cz] 61) :=
        ⟨_, rfl, .alloc wr (by omega) _, by simp, HJ.out _ wr _ hq2, World.alloc_heap_new wr _⟩
      have T1 := tenW_of_block B1
      have HB1 : Hid (u1.heap[wr.heap.size]? = some (.cells #[.int .i64 s.k, .int .i64 s.tk, .int .i64 s.ta, .int .i64 s.e.k, .int .i64 s.e.n, .int .i64 s.e.ak, .int .i64 s.e.at_, .slice ax s.e.kids.length cx, .slice ay s.th.length cy, .slice az s.el.length cz] 61)) := B1
      have HG1 : Hid (KeepsP n₀ n₁ W u1) := hq3.trans G1
      have HQ1 : Hid (q.map StmtX.proj = preT d (ss.take j)) := hq1
      obtain ⟨x, hxx⟩ : ∃ x : StmtX w0 lo hi, x = ⟨s, ax, cx, ay, cy, az, cz, d, hkx, by omega, by omega, by omega⟩ := ⟨_, rfl⟩
      have HXX : Hid (x.proj = (s, d)) := by rw [hxx]; rfl
      have hxe : x.encs = #[.agg #[.int .i64 s.k, .int .i64 s.tk, .int .i64 s.ta, .int .i64 s.e.k, .int .i64 s.e.n, .int .i64 s.e.ak, .int .i64 s.e.at_, .slice ax s.e.kids.length cx, .slice ay s.th.length cy, .slice az s.el.length cz], .int .i64 d] := by rw [hxx]; rfl
      obtain ⟨fn, tmps, assign, body, hy, hR⟩ := HY.out (n - 1) (pre ++ q) x u1 J1 (by rw [hnl]; omega)
      rw [hxe] at hy
      have HU1 : Hid (wr.alloc (.cells #[.int .i64 s.k, .int .i64 s.tk, .int .i64 s.ta, .int .i64 s.e.k, .int .i64 s.e.n, .int .i64 s.e.ak, .int .i64 s.e.at_, .slice ax s.e.kids.length cx, .slice ay s.th.length cy, .slice az s.el.length cz] 61) = u1) := hu1
      have HKY : Hid (SR w0 lo hi (.slice ay s.th.length cy) s.th ∧ SR w0 lo hi (.slice az s.el.length cz) s.el) := ⟨hky, hkz⟩
      have HN : Hid ((pre ++ q).length + cntS s ≤ N ∧ cntS s = cntL s.th + cntL s.el + 1 ∧ manyL s.e.kids + sizeL s.th + sizeL s.el < sizeL ss) := ⟨by rw [hnl]; omega, hse, hkl⟩
      obtain ⟨d0, d1, d2, d3, d4, d5, d6, d7, d8, d9, _⟩ := id T1
      clear hq1 hq2 hq3 hx hkx hky hkz hkl hnl hts htl G1 J1 hb HR hxx hxe T1 B1 hse hy1 hy2 hz1 hz2 hyl hzl h5
      gi_wp2_with fail
      refine hR.mono ?_
      clear hR hy hu1 c0 c1 c2 c3 c4 c5 c6 c7 c8 c9 d0 d1 d2 d3 d4 d5 d6 d7 d8 d9
      rintro e1 W3 (⟨rfl, hJ3, hk3⟩ | ⟨rfl, hJx3⟩)
      · have S3 := hk3.low.size
        have HB3 : Hid (W3.heap[wr.heap.size]? = some (.cells #[.int .i64 s.k, .int .i64 s.tk, .int .i64 s.ta, .int .i64 s.e.k, .int .i64 s.e.n, .int .i64 s.e.ak, .int .i64 s.e.at_, .slice ax s.e.kids.length cx, .slice ay s.th.length cy, .slice az s.el.length cz] 61)) := hk3.cells _ _ (by omega) HB1.out rfl
        have HG3 : Hid (KeepsP n₀ n₁ W W3) := HG1.out.trans hk3
        have hN := HN.out
        have hC := HH.out (sizeL s.th) (by omega) (n - 1) W3 (.slice ay s.th.length cy) s.th (wrap64 (d + 1)) (pre ++ q ++ [x]) (Nat.le_refl _) (by omega) HKY.out.1 (HBW.out.trans (HG3.out.low.mono h0n)) (by omega) (by omega) hJ3 (by rw [List.length_append, List.length_singleton]; omega)
        clear hk3 hJ3 HB1 HG1
        have c8 := (tenW_of_block HB3.out).c8
        gi_wp2_with fail
        (try refine ⟨hdd _, ?_⟩)
        refine hC.mono ?_
        clear hC c8
        rintro e2 W4 (⟨rfl, q2, hp2, hJ4, hk4⟩ | ⟨rfl, q2, hp2, hJx4⟩)
        · have S4 := hk4.low.size
          have HB4 : Hid (W4.heap[wr.heap.size]? = some (.cells #[.int .i64 s.k, .int .i64 s.tk, .int .i64 s.ta, .int .i64 s.e.k, .int .i64 s.e.n, .int .i64 s.e.ak, .int .i64 s.e.at_, .slice ax s.e.kids.length cx, .slice ay s.th.length cy, .slice az s.el.length cz] 61)) := hk4.cells _ _ (by omega) HB3.out rfl
          have HG4 : Hid (KeepsP n₀ n₁ W W4) := HG3.out.trans hk4
          have hl2 : q2.length = cntL s.th := by have := congrArg List.length hp2; rw [List.length_map, preT_length] at this; exact this
          have hC := HH.out (sizeL s.el) (by omega) (n - 1) W4 (.slice az s.el.length cz) s.el (wrap64 (d + 1)) (pre ++ q ++ [x] ++ q2) (Nat.le_refl _) (by omega) HKY.out.2 (HBW.out.trans (HG4.out.low.mono h0n)) (by omega) (by omega) hJ4 (by simp only [List.length_append, List.length_cons, List.length_nil] at hN ⊢; omega)
          have HP2 : Hid (q2.map StmtX.proj = preT (wrap64 (d + 1)) s.th) := hp2
          clear hk4 hJ4 HB3 HG3 hp2 hl2
          have c9 := (tenW_of_block HB4.out).c9
          gi_wp2_with fail
          (try refine ⟨hdd _, ?_⟩)
          refine hC.mono ?_
          clear hC c9
          rintro e3 W5 (⟨rfl, q3, hp3, hJ5, hk5⟩ | ⟨rfl, q3, hp3, hJx5⟩)
          · have S5 := hk5.low.size
            have HP3 : Hid (q3.map StmtX.proj = preT (wrap64 (d + 1)) s.el) := hp3
            have HJ5 : Hid (J (pre ++ q ++ [x] ++ q2 ++ q3) W5 ∧ KeepsP n₀ n₁ W W5) := ⟨hJ5, HG4.out.trans hk5⟩
            clear hp3 hJ5 hk5 HG4 HB4 hN
            gi_wp2
            go_roundw
            case rel =>
              refine ⟨j + 1, q ++ ([x] ++ (q2 ++ q3)), by omega, by go_num, by omega, ?_, ?_, HJ5.out.2⟩
              · rw [List.map_append, List.map_append, List.map_append, HQ1.out, HP2.out, HP3.out, preT_take_succ HX.out, preS_eq]
                simp [HXX.out]
              · have := HJ5.out.1
                simpa [List.append_assoc] using this
            case measure => simp [intOf]; omega
          · clear HG4 HB4 hN
            gi_wp2
            go_ret
            refine .inr ⟨rfl, q ++ ([x] ++ (q2 ++ q3)), ?_, ?_⟩
            · refine List.IsPrefix.trans ?_ (preT_take_prefix d ss (j + 1))
              rw [List.map_append, List.map_append, List.map_append, HQ1.out, HP2.out, preT_take_succ HX.out, preS_eq]
              refine (List.prefix_append_right_inj _).2 ?_
              rw [List.map_singleton, HXX.out, List.singleton_append]
              exact (List.cons_prefix_cons).2 ⟨rfl, (List.prefix_append_right_inj _).2 hp3⟩
            · have := hJx5
              simpa [List.append_assoc] using this
        · clear HG3 HB3 hN
          gi_wp2
          go_ret
          refine .inr ⟨rfl, q ++ ([x] ++ q2), ?_, ?_⟩
          · refine List.IsPrefix.trans ?_ (preT_take_prefix d ss (j + 1))
            rw [List.map_append, List.map_append, HQ1.out, preT_take_succ HX.out, preS_eq]
            refine (List.prefix_append_right_inj _).2 ?_
            rw [List.map_singleton, HXX.out, List.singleton_append]
            exact (List.cons_prefix_cons).2 ⟨rfl, hp2.trans (List.prefix_append _ _)⟩
          · have := hJx4
            simpa [List.append_assoc] using this
      · clear HG1 HB1
        gi_wp2
        go_ret
        refine .inr ⟨rfl, q ++ [x], ?_, ?_⟩
        · refine List.IsPrefix.trans ?_ (preT_take_prefix d ss (j + 1))
          rw [List.map_append, HQ1.out, preT_take_succ HX.out, preS_eq]
          refine (List.prefix_append_right_inj _).2 ?_
          rw [List.map_singleton, HXX.out]
          exact (List.cons_prefix_cons).2 ⟨rfl, List.nil_prefix⟩
        · rw [← List.append_assoc]; exact hJx3
    · obtain rfl : j = ss.length := by omega
      obtain ⟨hq1, hq2, hq3⟩ := HR.out
      rw [List.take_length] at hq1
      have HQ : Hid (q.map StmtX.proj = preT d ss ∧ J (pre ++ q) wr ∧ KeepsP n₀ n₁ W wr) := ⟨hq1, hq2, hq3⟩
      clear hq1 hq2 hq3 HR
      gi_wp2
      go_ret
      exact .inl ⟨rfl, q, HQ.out.1, HQ.out.2.1, HQ.out.2.2⟩

theorem yieldT (F : Fence) (hd : F.depth = none) (hf : F.fn 62) (hro : F.round = none) (w0 : World) (lo hi : Nat) (hhi : hi ≤ w0.heap.size) (l n₀ n₁ N B : Nat) (h0n : w0.heap.size ≤ n₀) (J Jx : List (StmtX w0 lo hi) → World → Prop)
    (hJ : AbidesFrom B J)
    (hY : ∀ m pre (x : StmtX w0 lo hi) W, J pre W → pre.length < N → YieldAt F m Try.prog l x.encs W fun e W' =>
      (e = .returned (.bool true) ∧ J (pre ++ [x]) W' ∧ KeepsP n₀ n₁ W W') ∨ (e = .returned (.bool false) ∧ Jx (pre ++ [x]) W')) (m : Nat) : YieldT F w0 lo hi l n₀ n₁ N J Jx m := by
  induction m using Nat.strongRecOn with
  | ind m ih => exact yieldT_step F hd hf hro w0 lo hi hhi l n₀ n₁ N B h0n J Jx hJ hY ih

set_option maxHeartbeats 1000000 in
/-- The function literal of stmtsWithin. -/
theorem within1_in (F : Fence) (hd : F.depth = none) (n : Nat) (h5 : F.fn 61) (h6 : F.fn 62) (hro : F.round = none) (w0 : World) (lo hi : Nat) (hhi : hi ≤ w0.heap.size) (l Bt n₀ n₁ B : Nat) (h0n : w0.heap.size ≤ n₀) (ss : List StmtD) (v : Value) (J Jx : List (StmtX w0 lo hi) → World → Prop)
    (hJ : AbidesFrom B J)
    (hY : ∀ pre (x : StmtX w0 lo hi) W, J pre W → pre.length < cntL ss → YieldAt F (n - 1) Try.prog l x.encs W fun e W' =>
      (e = .returned (.bool true) ∧ J (pre ++ [x]) W' ∧ KeepsP n₀ n₁ W W') ∨ (e = .returned (.bool false) ∧ Jx (pre ++ [x]) W'))
    (W : World) (hBt : W.cell? ⟨Bt, 0, none⟩ = some v) (hT : SR w0 lo hi v ss) (hm : sizeL ss ≤ 1048576) (hbW : Below w0.heap.size w0 W) (hn₀ : n₀ ≤ W.heap.size) (hn₁ : n₁ ≤ W.heap.size) (h0 : J [] W) :
    CallsIn F n Try.prog 61 #[.func (.yield l) #[] #[], .pointer (some ⟨Bt, 0, none⟩)] W fun e' W' => (∃ v, e' = .returned v) ∧
      ((∃ ys : List (StmtX w0 lo hi), ys.map StmtX.proj = preT 0 ss ∧ J ys W') ∨ (∃ pre : List (StmtX w0 lo hi), pre.map StmtX.proj <+: preT 0 ss ∧ Jx pre W')) := by
  have hdd : ∀ k : Nat, (F.depth.isSome = true → 1 ≤ k) := fun k h => by rw [hd] at h; cases h
  have hp := yieldT F hd h6 hro w0 lo hi hhi l n₀ n₁ (cntL ss) B h0n J Jx hJ (fun m pre x W hj hl => yieldAt_any hd m (hY pre x W hj hl)) (sizeL ss) (n - 1) W v ss 0 [] (Nat.le_refl _) hm hT hbW hn₀ hn₁ h0 (by simp)
  obtain ⟨ad, cap, rfl, _, _⟩ := hT.shape
  clear hT
  refine callsIn_of_wp Try.func61 rfl h5 ?_ hro
  simp only [Try.ntmps61, List.size_toArray, List.length_cons, List.length_nil, Nat.reduceAdd, Nat.reduceSub, Array.replicate_succ, Array.replicate_zero, List.push_toArray, List.append_toArray, List.nil_append, List.cons_append]
  gi_wp2_with ((try refine ⟨hdd _, ?_⟩); gi_at_call 62; refine hp.mono ?_; clear hp; rintro e1 W1 (⟨rfl, q, hq, hJ1, _⟩ | ⟨rfl, q, hq, hx⟩))
  · go_end0
    exact ⟨⟨_, rfl⟩, .inl ⟨q, hq, by simpa using hJ1⟩⟩
  · go_end0
    exact ⟨⟨_, rfl⟩, .inr ⟨q, hq, by simpa using hx⟩⟩

set_option maxHeartbeats 1000000 in
theorem stmtsWithin_in (F : Fence) (n : Nat) (h4 : F.fn 40) (hro : F.round = none) (ad : Option Go.Addr) (len cap : Nat) (w : World) :
    CallsIn F n Try.prog 40 #[.slice ad len cap] w fun e w' => e = .returned (.func (.func 61) #[] #[.pointer (some ⟨w.heap.size, 0, none⟩)]) ∧ w' = w.alloc (.cells #[.slice ad len cap] 43) := by
  refine callsIn_of_wp Try.func40 rfl h4 ?_ hro
  simp only [Try.ntmps40, List.size_toArray, List.length_cons, List.length_nil, Nat.reduceAdd, Nat.reduceSub, Array.replicate_succ, Array.replicate_zero, List.push_toArray, List.append_toArray, List.nil_append, List.cons_append]
  gi_wp2
  go_ret
  exact ⟨rfl, rfl⟩

/-- What stmtsWithin hands back yields the statements. -/
theorem stmts_stops (F : Fence) (hd : F.depth = none) (n : Nat) (h5 : F.fn 61) (h6 : F.fn 62) (hro : F.round = none) (w0 : World) (lo hi : Nat) (hhi : hi ≤ w0.heap.size) (Bt n₀ n₁ : Nat) (h0n : w0.heap.size ≤ n₀) (ss : List StmtD) (v : Value) (w : World) (hBt : Bt < w.heap.size) (hn₀ : n₀ ≤ w.heap.size) (hn₁ : n₁ ≤ w.heap.size)
    (hb : Below w0.heap.size w0 w) (hc : w.cell? ⟨Bt, 0, none⟩ = some v) (hT : SR w0 lo hi v ss) (hm : sizeL ss ≤ 1048576) :
    SeqStopsK F n Try.prog 61 #[.pointer (some ⟨Bt, 0, none⟩)] (StmtX.encs (w := w0) (lo := lo) (hi := hi)) (KeepsP n₀ n₁) (fun ys => ys.map StmtX.proj = preT 0 ss) (fun pre => pre.map StmtX.proj <+: preT 0 ss) (cntL ss) w := fun l J Jx W hW hJ _ hY h0 =>
  within1_in F hd n h5 h6 hro w0 lo hi hhi l Bt n₀ n₁ W.heap.size h0n ss v J Jx hJ hY W ((hW.cell (p := ⟨Bt, 0, none⟩) hBt).trans hc) hT hm (hb.trans (hW.mono hb.size)) (Nat.le_trans hn₀ hW.size) (Nat.le_trans hn₁ hW.size) h0
end Go.Proofs.Ytkeockippmmneaa
