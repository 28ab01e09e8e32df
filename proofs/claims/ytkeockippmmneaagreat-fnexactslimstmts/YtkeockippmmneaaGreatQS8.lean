import Derived.RangeFuncNested
import Derived.RangeFuncBound
import Derived.RangeFuncCalls
import Derived.RangeFuncLeaves
import Derived.RangeFuncFrom
import Derived.Shelf.Abstract
import Derived.Shelf.RegionOpen
import Derived.WalkKit
import Derived.OwnWalkIn
import Derived.TacticsInMore
import Derived.LoopNIn
import Derived.LoopIn
import Derived.Test.YtkeockippmmneaaGreatQS3
import Derived.Test.YtkeockippmmneaaGreatQS1
import Derived.Test.YtkeockippmmneaaGreatQS5

/-
  The parts of a tree, yielded: exprParts, its function literal, yieldParts.
-/
namespace Go.Proofs.YtkeockippmmneaaGreat
open Go.ChangeShapes Go.WideShapes Go.ChangeAt Go.RowKit Go.Shelf
attribute [local go_sem] Oper.semAt_some
set_option linter.unusedVariables false

theorem room_none {F : Fence} (hd : F.depth = none) (k : Nat) : F.room k := fun d h => by rw [hd] at h; cases h
theorem roundIn_any {F : Fence} (hd : F.depth = none) {m m' : Nat} {P : Program} {l : Nat} {f : FuncId} {tmps : Array Value} {assign body : Code} {w : World} {R : Ending → World → Prop}
    (h : RoundIn F m P l f tmps assign body w R) : RoundIn F m' P l f tmps assign body w R := ⟨h.1, fun c cs _ => h.2 c cs (room_none hd _)⟩
theorem yieldAt_any {F : Fence} (hd : F.depth = none) {m : Nat} (m' : Nat) {P : Program} {l : Nat} {args : Array Value} {W : World} {R : Ending → World → Prop} (h : YieldAt F m P l args W R) : YieldAt F m' P l args W R := by
  obtain ⟨fn, tmps, assign, body, hy, hR⟩ := h
  exact ⟨fn, tmps, assign, body, hy, roundIn_any hd hR⟩

/-- A part as it is yielded: what it is, where its kids lie; how many others are around it. -/
structure PartV where
  e : ExprD
  ad : Option Go.Addr
  cap : Nat
  d : Int

def PartV.val (x : PartV) : Value := .agg #[.int .i64 x.e.k, .int .i64 x.e.n, .int .i64 x.e.ak, .int .i64 x.e.at_, .slice x.ad x.e.kids.length x.cap]
def PartV.proj (x : PartV) : ExprD × Int := (x.e, x.d)
def PartV.encs (x : PartV) : Array Value := #[x.val, .int .i64 x.d]

/-- What lies below n₀, and whatever cells lie from n₁ on, lie as they lay. -/
structure KeepsP (n₀ n₁ : Nat) (W W' : World) : Prop where
  low : Below n₀ W W'
  cells : ∀ (k : Nat) (o : Obj), n₁ ≤ k → W.heap[k]? = some o → o.isCells = true → W'.heap[k]? = some o

theorem KeepsP.refl (n₀ n₁ : Nat) (W : World) : KeepsP n₀ n₁ W W := ⟨Below.refl _ _, fun _ _ _ h _ => h⟩
theorem KeepsP.trans {n₀ n₁ : Nat} {A B C : World} (h : KeepsP n₀ n₁ A B) (k : KeepsP n₀ n₁ B C) : KeepsP n₀ n₁ A C :=
  ⟨h.low.trans k.low, fun i o hi ho hc => k.cells i o hi (h.cells i o hi ho hc) hc⟩
theorem KeepsP.of_below {n₀ n₁ : Nat} {W W' : World} (h : Below W.heap.size W W') (hn : n₀ ≤ W.heap.size) : KeepsP n₀ n₁ W W' :=
  ⟨h.mono hn, fun k o _ ho _ => (h.block k (Array.getElem?_eq_some_iff.1 ho).1).trans ho⟩
theorem KeepsP.alloc {n₀ n₁ : Nat} (W : World) (hn : n₀ ≤ W.heap.size) (o : Obj) : KeepsP n₀ n₁ W (W.alloc o) := .of_below ((Below.refl _ _).alloc (Nat.le_refl _) o) hn
theorem KeepsP.setCell {n₀ n₁ : Nat} (W : World) {b o : Nat} (h0 : n₀ ≤ b) (h1 : b < n₁) (v : Value) : KeepsP n₀ n₁ W (W.setCell ⟨b, o, none⟩ v) :=
  ⟨(Below.refl _ _).setCell (p := ⟨b, o, none⟩) h0 v, fun k _ hk ho _ => (Below.heap_setCell W ⟨b, o, none⟩ v k (by show k ≠ b; omega)).trans ho⟩
theorem keepsP_b {n₀ n₁ : Nat} {w : World} (hn : n₀ ≤ w.heap.size) (W : World) (l : Nat) (o o' : Obj) (hl : w.heap.size ≤ l) (h : W.heap[l]? = some o) (hc : o.isCells = false) (hw : o.isWalk = false) : KeepsP n₀ n₁ W (W.putObj l o') :=
  ⟨belowK_b hn W l o o' hl h hc hw, fun k o2 _ hk hk2 => by
    have hne : k ≠ l := fun e => by subst e; rw [h] at hk; cases hk; rw [hc] at hk2; cases hk2
    exact (World.putObj_heap_other hne).trans hk⟩
theorem KeepsFrom.of_below {B : Nat} {W W' : World} (h : Below W.heap.size W W') : KeepsFrom B W W' :=
  ⟨h.size, fun k o _ ho _ => (h.block k (Array.getElem?_eq_some_iff.1 ho).1).trans ho⟩

theorem five_of_block {u : World} {B : Nat} {v0 v1 v2 v3 v4 : Value} {t : TypeId} (h : u.heap[B]? = some (.cells #[v0, v1, v2, v3, v4] t)) : Five u B v0 v1 v2 v3 v4 :=
  ⟨by simp [World.cell?, h], by simp [World.cell?, h], by simp [World.cell?, h], by simp [World.cell?, h], by simp [World.cell?, h], fun o => by simp [World.frozen?, h]⟩

/-- What one run of yieldParts leaves. -/
def YPost (n₀ n₁ : Nat) (J Jx : List PartV → World → Prop) (pre : List PartV) (l : List (ExprD × Int)) (W : World) (en : Ending) (W' : World) : Prop :=
  (en = .returned (.bool true) ∧ ∃ q, q.map PartV.proj = l ∧ J (pre ++ q) W' ∧ KeepsP n₀ n₁ W W') ∨ (en = .returned (.bool false) ∧ ∃ q, q.map PartV.proj <+: l ∧ Jx (pre ++ q) W')

/-- yieldParts, of a tree with at most m parts below it. -/
def YieldS (F : Fence) (l n₀ n₁ N : Nat) (J Jx : List PartV → World → Prop) (m : Nat) : Prop :=
  ∀ (n : Nat) (W : World) (lo hi : Nat) (s : Value) (e : ExprD) (d : Int) (pre : List PartV), manyL e.kids ≤ m → KR W lo hi s e.kids → hi ≤ n₀ → n₀ ≤ W.heap.size → n₁ ≤ W.heap.size → J pre W → pre.length + manyE e ≤ N →
    CallsIn F n Tryz.prog 74 #[.agg #[.int .i64 e.k, .int .i64 e.n, .int .i64 e.ak, .int .i64 e.at_, s], .int .i64 d, .func (.yield l) #[] #[]] W (YPost n₀ n₁ J Jx pre (preE d e) W)

set_option maxRecDepth 100000 in
set_option maxHeartbeats 4000000 in
theorem yield_step (F : Fence) (hd : F.depth = none) (hf : F.fn 74) (hro : F.round = none) (l n₀ n₁ N B : Nat) (J Jx : List PartV → World → Prop)
    (hJ : AbidesFrom B J)
    (hY : ∀ m pre (x : PartV) W, J pre W → pre.length < N → YieldAt F m Tryz.prog l x.encs W fun e W' =>
      (e = .returned (.bool true) ∧ J (pre ++ [x]) W' ∧ KeepsP n₀ n₁ W W') ∨ (e = .returned (.bool false) ∧ Jx (pre ++ [x]) W'))
    {m : Nat} (H : ∀ m', m' < m → YieldS F l n₀ n₁ N J Jx m') : YieldS F l n₀ n₁ N J Jx m := by
  intro n W lo hi s e d pre hm h hhi hn₀ hn₁ hJ0 hN
  obtain ⟨ad, cap, rfl, hc1, hc2⟩ := h.shape
  have hmx : e.kids.length ≤ 9223372036854775807 := by unfold maxLen at hc2; omega
  have hdd : ∀ k : Nat, (F.depth.isSome = true → 1 ≤ k) := fun k h => by rw [hd] at h; cases h
  have hme := manyE_eq e
  have HK : Hid (KR W lo hi (.slice ad e.kids.length cap) e.kids) := h
  have HP : Hid (preE d e = (e, d) :: preL (wrap64 (d + 1)) e.kids) := preE_eq d e
  have HJ : Hid (∀ pr (w : World) o, J pr w → J pr (w.alloc o)) := fun pr w o hj => hJ pr w _ none hj (World.grownBy_alloc w _ none) (fun r e => by cases e)
  obtain ⟨u0, hu0, G0, B0, S0, J0⟩ : ∃ u0, W.alloc (.cells #[.int .i64 e.k, .int .i64 e.n, .int .i64 e.ak, .int .i64 e.at_, .slice ad e.kids.length cap] 42) = u0 ∧ KeepsP n₀ n₁ W u0 ∧ u0.heap[W.heap.size]? = some (.cells #[.int .i64 e.k, .int .i64 e.n, .int .i64 e.ak, .int .i64 e.at_, .slice ad e.kids.length cap] 42) ∧ u0.heap.size = W.heap.size + 1 ∧ J pre u0 :=
    ⟨_, rfl, .alloc W hn₀ _, World.alloc_heap_new W _, by simp, HJ.out pre W _ hJ0⟩
  have F0 := five_of_block B0
  have HB0 : Hid (u0.heap[W.heap.size]? = some (.cells #[.int .i64 e.k, .int .i64 e.n, .int .i64 e.ak, .int .i64 e.at_, .slice ad e.kids.length cap] 42)) := B0
  clear B0
  obtain ⟨fn, tmps, assign, body, hy, hR⟩ := hY (n - 1) pre ⟨e, ad, cap, d⟩ u0 J0 (by omega)
  simp only [PartV.encs, PartV.val] at hy
  obtain ⟨c0, c1, c2, c3, c4, _⟩ := id F0
  clear h hJ0 hY hJ F0 J0
  refine callsIn_of_wp Tryz.func74 rfl hf ?_ hro
  simp only [Tryz.ntmps74, List.size_toArray, List.length_cons, List.length_nil, Nat.reduceAdd, Nat.reduceSub, Array.replicate_succ, Array.replicate_zero, List.push_toArray, List.append_toArray, List.nil_append, List.cons_append]
  gi_wp2_with fail
  refine hR.mono ?_
  clear hR hy hu0
  rintro e1 W3 (⟨rfl, hJ3, hk3⟩ | ⟨rfl, hJx3⟩)
  · have S3 := hk3.low.size
    have HB3 : Hid (W3.heap[W.heap.size]? = some (.cells #[.int .i64 e.k, .int .i64 e.n, .int .i64 e.ak, .int .i64 e.at_, .slice ad e.kids.length cap] 42)) := hk3.cells _ _ hn₁ HB0.out rfl
    have HG3 : Hid (KeepsP n₀ n₁ W W3) := G0.trans hk3
    have HJ3 : Hid (J (pre ++ [⟨e, ad, cap, d⟩]) W3) := hJ3
    clear HB0 G0 hk3 hJ3 c0 c1 c2 c3 c4
    have c4 := (five_of_block HB3.out).c4
    gi_wp2_with fail
    clear c4
    gi_loopw [17] (fun i wr => ∃ (j : Nat) (q : List PartV), j ≤ e.kids.length ∧ i = .int .i64 j ∧ W.heap.size < wr.heap.size ∧ Hid (q.map PartV.proj = preL (wrap64 (d + 1)) (e.kids.take j) ∧ J (pre ++ [⟨e, ad, cap, d⟩] ++ q) wr ∧ KeepsP n₀ n₁ W wr ∧ wr.heap[W.heap.size]? = some (.cells #[.int .i64 e.k, .int .i64 e.n, .int .i64 e.ak, .int .i64 e.at_, .slice ad e.kids.length cap] 42)))
      (fun i _ => e.kids.length - (intOf i).toNat)
    case atStart => exact ⟨0, [], Nat.zero_le _, rfl, by omega, by rw [List.take_zero, preL]; rfl, by rw [List.append_nil]; exact HJ3.out, HG3.out, HB3.out⟩
    case round =>
      clear HJ3 HG3 HB3 S3
      obtain ⟨j, q, hj, rfl, hs, HR⟩ := hrel
      by_cases hlt : j < e.kids.length
      · obtain ⟨x, hx⟩ : ∃ x, e.kids[j]? = some x := ⟨e.kids[j], List.getElem?_eq_getElem hlt⟩
        obtain ⟨b, off, cap', s, hv, hb1, hb2, h5, hk⟩ := HK.out.at_ hx
        simp only [Value.slice.injEq, true_and] at hv
        obtain ⟨rfl, rfl⟩ := hv
        obtain ⟨hq1, hq2, hq3, hq4⟩ := HR.out
        have HX : Hid (e.kids[j]? = some x) := hx
        have hb := hq3.low
        obtain ⟨c0, c1, c2, c3, c4⟩ := h5
        rw [← hb.cell (p := ⟨b, off + j * 5, none⟩) (by show b < _; omega)] at c0
        rw [← hb.cell (p := ⟨b, off + j * 5 + 1, none⟩) (by show b < _; omega)] at c1
        rw [← hb.cell (p := ⟨b, off + j * 5 + 2, none⟩) (by show b < _; omega)] at c2
        rw [← hb.cell (p := ⟨b, off + j * 5 + 3, none⟩) (by show b < _; omega)] at c3
        rw [← hb.cell (p := ⟨b, off + j * 5 + 4, none⟩) (by show b < _; omega)] at c4
        obtain ⟨ads, cps, rfl, _, _⟩ := hk.shape
        have hkl := kid_lt hx
        have hnl : (pre ++ [⟨e, some ⟨b, off, none⟩, cap, d⟩] ++ q : List PartV).length = pre.length + 1 + manyL (e.kids.take j) := by
          have := congrArg List.length hq1
          rw [List.length_map, preL_length] at this
          simp only [List.length_append, List.length_cons, List.length_nil]
          omega
        have hts := manyL_take_succ hx
        have htl := manyL_take_le e.kids (j + 1)
        obtain ⟨u1, hu1, G1, S1, J1, F1⟩ : ∃ u1, wr.alloc (.cells #[.int .i64 x.k, .int .i64 x.n, .int .i64 x.ak, .int .i64 x.at_, .slice ads x.kids.length cps] 42) = u1 ∧ KeepsP n₀ n₁ wr u1 ∧ u1.heap.size = wr.heap.size + 1 ∧ J (pre ++ [⟨e, some ⟨b, off, none⟩, cap, d⟩] ++ q) u1 ∧ Five u1 wr.heap.size (.int .i64 x.k) (.int .i64 x.n) (.int .i64 x.ak) (.int .i64 x.at_) (.slice ads x.kids.length cps) :=
          ⟨_, rfl, .alloc wr (by omega) _, by simp, HJ.out _ wr _ hq2, five_new wr _ _ _ _ _ _⟩
        have hC := H (manyL x.kids) (by omega) (n - 1) u1 lo hi (.slice ads x.kids.length cps) x (wrap64 (d + 1)) (pre ++ [⟨e, some ⟨b, off, none⟩, cap, d⟩] ++ q) (Nat.le_refl _) (hk.under (hq3.trans G1).low hhi) hhi (by omega) (by omega) J1 (by rw [hnl]; omega)
        have HG1 : Hid (KeepsP n₀ n₁ W u1) := hq3.trans G1
        have HB1 : Hid (u1.heap[W.heap.size]? = some (.cells #[.int .i64 e.k, .int .i64 e.n, .int .i64 e.ak, .int .i64 e.at_, .slice (some ⟨b, off, none⟩) e.kids.length cap] 42)) := G1.cells _ _ (by omega) hq4 rfl
        have HQ1 : Hid (q.map PartV.proj = preL (wrap64 (d + 1)) (e.kids.take j)) := hq1
        clear hq1 hq2 hq3 hq4 hx hk hkl hnl hts htl G1 J1 hb HR H
        obtain ⟨d0, d1, d2, d3, d4, _⟩ := F1
        gi_wp2_with ((try refine ⟨hdd _, ?_⟩); gi_at_call 74; refine hC.mono ?_; clear hC; rintro e2 W2 (⟨rfl, q2, hp2, hJ2, hk2⟩ | ⟨rfl, q2, hp2, hJx2⟩))
        · have hs2 := hk2.low.size
          gi_wp2
          go_roundw
          case rel =>
            refine ⟨j + 1, q ++ q2, by omega, by go_num, by omega, ?_, ?_, HG1.out.trans hk2, hk2.cells _ _ hn₁ HB1.out rfl⟩
            · rw [List.map_append, HQ1.out, hp2, preL_take_succ HX.out]
            · rw [← List.append_assoc]; exact hJ2
          case measure => simp [intOf]; omega
        · gi_wp2
          go_ret
          refine .inr ⟨rfl, [⟨e, some ⟨b, off, none⟩, cap, d⟩] ++ q ++ q2, ?_, ?_⟩
          · rw [List.map_append, List.map_append, HQ1.out, HP.out]
            refine List.IsPrefix.trans ?_ (show (e, d) :: preL (wrap64 (d + 1)) (e.kids.take (j + 1)) <+: _ from (List.cons_prefix_cons).2 ⟨rfl, preL_take_prefix _ _ _⟩)
            rw [preL_take_succ HX.out]
            show [(e, d)] ++ preL (wrap64 (d + 1)) (e.kids.take j) ++ q2.map PartV.proj <+: (e, d) :: (preL (wrap64 (d + 1)) (e.kids.take j) ++ preE (wrap64 (d + 1)) x)
            exact (List.cons_prefix_cons).2 ⟨rfl, (List.prefix_append_right_inj _).2 hp2⟩
          · rw [← List.append_assoc, ← List.append_assoc]; exact hJx2
      · obtain rfl : j = e.kids.length := by omega
        obtain ⟨hq1, hq2, hq3, hq4⟩ := HR.out
        rw [List.take_length] at hq1
        have HQ : Hid (q.map PartV.proj = preL (wrap64 (d + 1)) e.kids ∧ J (pre ++ [⟨e, ad, cap, d⟩] ++ q) wr ∧ KeepsP n₀ n₁ W wr) := ⟨hq1, hq2, hq3⟩
        clear hq1 hq2 hq3 hq4 HR H
        gi_wp2
        go_ret
        refine .inl ⟨rfl, [⟨e, ad, cap, d⟩] ++ q, ?_, ?_, HQ.out.2.2⟩
        · rw [List.map_append, HQ.out.1, HP.out]; rfl
        · rw [← List.append_assoc]; exact HQ.out.2.1
  · gi_wp2
    go_ret
    exact .inr ⟨rfl, [⟨e, ad, cap, d⟩], by rw [HP.out]; exact ⟨_, rfl⟩, hJx3⟩

theorem yieldS (F : Fence) (hd : F.depth = none) (hf : F.fn 74) (hro : F.round = none) (l n₀ n₁ N B : Nat) (J Jx : List PartV → World → Prop)
    (hJ : AbidesFrom B J)
    (hY : ∀ m pre (x : PartV) W, J pre W → pre.length < N → YieldAt F m Tryz.prog l x.encs W fun e W' =>
      (e = .returned (.bool true) ∧ J (pre ++ [x]) W' ∧ KeepsP n₀ n₁ W W') ∨ (e = .returned (.bool false) ∧ Jx (pre ++ [x]) W')) (m : Nat) : YieldS F l n₀ n₁ N J Jx m := by
  induction m using Nat.strongRecOn with
  | ind m ih => exact yield_step F hd hf hro l n₀ n₁ N B J Jx hJ hY ih

set_option maxHeartbeats 1000000 in
/-- The function literal of exprParts. -/
theorem parts1_in (F : Fence) (hd : F.depth = none) (n : Nat) (h5 : F.fn 73) (h6 : F.fn 74) (hro : F.round = none) (l Bt n₀ n₁ lo hi B : Nat) (e : ExprD) (ad : Option Go.Addr) (cap : Nat) (J Jx : List PartV → World → Prop)
    (hJ : AbidesFrom B J)
    (hY : ∀ pre (x : PartV) W, J pre W → pre.length < manyE e → YieldAt F (n - 1) Tryz.prog l x.encs W fun e W' =>
      (e = .returned (.bool true) ∧ J (pre ++ [x]) W' ∧ KeepsP n₀ n₁ W W') ∨ (e = .returned (.bool false) ∧ Jx (pre ++ [x]) W'))
    (W : World) (hBt : Five W Bt (.int .i64 e.k) (.int .i64 e.n) (.int .i64 e.ak) (.int .i64 e.at_) (.slice ad e.kids.length cap)) (hT : KR W lo hi (.slice ad e.kids.length cap) e.kids) (hhi : hi ≤ n₀) (hn₀ : n₀ ≤ W.heap.size) (hn₁ : n₁ ≤ W.heap.size) (h0 : J [] W) :
    CallsIn F n Tryz.prog 73 #[.func (.yield l) #[] #[], .pointer (some ⟨Bt, 0, none⟩)] W fun e' W' => (∃ v, e' = .returned v) ∧
      ((∃ ys : List PartV, ys.map PartV.proj = preE 0 e ∧ J ys W') ∨ (∃ pre : List PartV, pre.map PartV.proj <+: preE 0 e ∧ Jx pre W')) := by
  have hdd : ∀ k : Nat, (F.depth.isSome = true → 1 ≤ k) := fun k h => by rw [hd] at h; cases h
  have hp := yieldS F hd h6 hro l n₀ n₁ (manyE e) B J Jx hJ (fun m pre x W hj hl => yieldAt_any hd m (hY pre x W hj hl)) (manyL e.kids) (n - 1) W lo hi (.slice ad e.kids.length cap) e 0 [] (Nat.le_refl _) hT hhi hn₀ hn₁ h0 (by simp)
  obtain ⟨c0, c1, c2, c3, c4, _⟩ := hBt
  refine callsIn_of_wp Tryz.func73 rfl h5 ?_ hro
  simp only [Tryz.ntmps73, List.size_toArray, List.length_cons, List.length_nil, Nat.reduceAdd, Nat.reduceSub, Array.replicate_succ, Array.replicate_zero, List.push_toArray, List.append_toArray, List.nil_append, List.cons_append]
  gi_wp2_with ((try refine ⟨hdd _, ?_⟩); gi_at_call 74; refine hp.mono ?_; clear hp; rintro e1 W1 (⟨rfl, q, hq, hJ1, _⟩ | ⟨rfl, q, hq, hx⟩))
  · go_end0
    exact ⟨⟨_, rfl⟩, .inl ⟨q, hq, by simpa using hJ1⟩⟩
  · go_end0
    exact ⟨⟨_, rfl⟩, .inr ⟨q, hq, by simpa using hx⟩⟩

set_option maxHeartbeats 1000000 in
theorem exprParts_in (F : Fence) (n : Nat) (h4 : F.fn 60) (hro : F.round = none) (k m a t : Int) (ad : Option Go.Addr) (len cap : Nat) (w : World) :
    CallsIn F n Tryz.prog 60 #[.agg #[.int .i64 k, .int .i64 m, .int .i64 a, .int .i64 t, .slice ad len cap]] w fun e w' => e = .returned (.func (.func 73) #[] #[.pointer (some ⟨w.heap.size, 0, none⟩)]) ∧ w' = w.alloc (.cells #[.int .i64 k, .int .i64 m, .int .i64 a, .int .i64 t, .slice ad len cap] 42) := by
  refine callsIn_of_wp Tryz.func60 rfl h4 ?_ hro
  simp only [Tryz.ntmps60, List.size_toArray, List.length_cons, List.length_nil, Nat.reduceAdd, Nat.reduceSub, Array.replicate_succ, Array.replicate_zero, List.push_toArray, List.append_toArray, List.nil_append, List.cons_append]
  gi_wp2
  go_ret
  exact ⟨rfl, rfl⟩

/-- What exprParts hands back yields the parts. -/
theorem parts_stops (F : Fence) (hd : F.depth = none) (n : Nat) (h5 : F.fn 73) (h6 : F.fn 74) (hro : F.round = none) (Bt n₀ n₁ lo hi : Nat) (e : ExprD) (ad : Option Go.Addr) (cap : Nat) (w : World) (hBt : Bt < w.heap.size) (hhi : hi ≤ n₀) (hn₀ : n₀ ≤ w.heap.size) (hn₁ : n₁ ≤ w.heap.size)
    (hc : Five w Bt (.int .i64 e.k) (.int .i64 e.n) (.int .i64 e.ak) (.int .i64 e.at_) (.slice ad e.kids.length cap)) (hT : KR w lo hi (.slice ad e.kids.length cap) e.kids) :
    SeqStopsK F n Tryz.prog 73 #[.pointer (some ⟨Bt, 0, none⟩)] PartV.encs (KeepsP n₀ n₁) (fun ys => ys.map PartV.proj = preE 0 e) (fun pre => pre.map PartV.proj <+: preE 0 e) (manyE e) w := fun l J Jx W hW hJ _ hY h0 =>
  parts1_in F hd n h5 h6 hro l Bt n₀ n₁ lo hi W.heap.size e ad cap J Jx hJ hY W (hc.under hW hBt) (hT.under hW (by omega)) hhi (Nat.le_trans hn₀ hW.size) (Nat.le_trans hn₁ hW.size) h0
end Go.Proofs.YtkeockippmmneaaGreat

/-
  A part is right by itself, whatever it is.
-/
namespace Go.Proofs.YtkeockippmmneaaGreat
open Go.ChangeShapes Go.WideShapes Go.ChangeAt Go.RowKit
set_option linter.unusedVariables false

theorem calls_num_kids (args : Array Value) (w : World) : (callFunc 114 args).run Tryz.prog w = .ok (.enter 114 args) w := by kernel_rfl
theorem calls_num_fits (args : Array Value) (w : World) : (callFunc 113 args).run Tryz.prog w = .ok (.enter 113 args) w := by kernel_rfl
theorem calls_addr_kids (args : Array Value) (w : World) : (callFunc 120 args).run Tryz.prog w = .ok (.enter 120 args) w := by kernel_rfl
theorem calls_addr_fits (args : Array Value) (w : World) : (callFunc 119 args).run Tryz.prog w = .ok (.enter 119 args) w := by kernel_rfl
theorem calls_two_kids (args : Array Value) (w : World) : (callFunc 129 args).run Tryz.prog w = .ok (.enter 129 args) w := by kernel_rfl
theorem calls_two_fits (args : Array Value) (w : World) : (callFunc 128 args).run Tryz.prog w = .ok (.enter 128 args) w := by kernel_rfl
theorem calls_not_kids (args : Array Value) (w : World) : (callFunc 140 args).run Tryz.prog w = .ok (.enter 140 args) w := by kernel_rfl
theorem calls_not_fits (args : Array Value) (w : World) : (callFunc 139 args).run Tryz.prog w = .ok (.enter 139 args) w := by kernel_rfl

set_option maxRecDepth 100000 in
set_option maxHeartbeats 1000000 in
theorem partOk_nil (w : World) (k n a t : Int) (ad : Option Go.Addr) (len cap : Nat) (hkv : kindV k = .nilIface) :
    Calls Tryz.prog 61 #[.agg #[.int .i64 k, .int .i64 n, .int .i64 a, .int .i64 t, .slice ad len cap]] w fun e w' => e = .returned (.bool false) ∧ Below w.heap.size w w' := by
  have hko := fun W => kindOf_any W k
  rw [hkv] at hko
  have b1 := fun o => (Below.refl w.heap.size w).alloc (Nat.le_refl _) o
  clear hkv
  go_enter Tryz.func61, Tryz.ntmps61
  go_wp2_with fail
  refine (hko _).mono ?_
  rintro e w1 ⟨rfl, rfl⟩
  clear hko
  go_wp2_with fail
  go_quiet (fail)
  go_wp2
  go_ret
  exact ⟨rfl, below_drewN (b1 _) nq⟩

theorem beq_flip (x y : Int) : (x == y) = (y == x) := by rw [Bool.eq_iff_iff]; simp; exact eq_comm

theorem partOk_any (w : World) (e : ExprD) (ad : Option Go.Addr) (cap : Nat) :
    Calls Tryz.prog 61 #[.agg #[.int .i64 e.k, .int .i64 e.n, .int .i64 e.ak, .int .i64 e.at_, .slice ad e.kids.length cap]] w fun en w' => en = .returned (.bool (partB e)) ∧ Below w.heap.size w w' := by
  by_cases h1 : e.k = 1
  · have hp : partB e = (((e.kids.length : Int) == 0) && ((cutZ e.n == e.n) && ((e.ak == 0) && (e.at_ == 0)))) := by
      unfold partB nOk aOk kidsOf
      rw [if_pos h1, if_pos h1, if_neg (by omega), beq_flip, Bool.and_assoc]
    rw [hp]
    refine partOk_gen w e.k e.n e.ak e.at_ ad e.kids.length cap 111 (.agg #[]) 114 113 0 _ ?_ m_kids_num m_fits_num calls_num_kids calls_num_fits kids_num (fun W => fits_num W _ _ _ _ _ _ _)
    unfold kindV; rw [if_pos h1]
  by_cases h2 : e.k = 2
  · have hp : partB e = (((e.kids.length : Int) == 0) && ((e.n == 0) && addrOk ⟨e.ak, e.at_⟩)) := by
      unfold partB nOk aOk kidsOf
      rw [if_neg h1, if_pos h2, if_neg h1, if_pos h2, beq_flip, Bool.and_assoc]
    rw [hp]
    refine partOk_gen w e.k e.n e.ak e.at_ ad e.kids.length cap 112 (.agg #[]) 120 119 0 _ ?_ m_kids_addr m_fits_addr calls_addr_kids calls_addr_fits kids_addr (fun W => fits_addr W _ _ _ _ _ _ _)
    unfold kindV; rw [if_neg h1, if_pos h2]
  by_cases h3 : 3 ≤ e.k ∧ e.k ≤ 9
  · have hp : partB e = (((e.kids.length : Int) == 2) && noneB e.n e.ak e.at_) := by
      unfold partB nOk aOk kidsOf noneB
      rw [if_neg h1, if_neg h2, if_neg (by omega), if_pos h3, if_neg h1, if_neg h2, beq_flip, Bool.and_assoc]
    rw [hp]
    refine partOk_gen w e.k e.n e.ak e.at_ ad e.kids.length cap 113 (.int .i64 e.k) 129 128 2 _ ?_ (m_kids_two _) (m_fits_two _) calls_two_kids calls_two_fits (fun W => kids_two W _) (fun W => fits_two W _ _ _ _ _ _ _ _)
    unfold kindV; rw [if_neg h1, if_neg h2, if_pos h3]
  by_cases h4 : e.k = 10
  · have hp : partB e = (((e.kids.length : Int) == 1) && noneB e.n e.ak e.at_) := by
      unfold partB nOk aOk kidsOf noneB
      rw [if_neg h1, if_neg h2, if_pos h4, if_neg h1, if_neg h2, beq_flip, Bool.and_assoc]
    rw [hp]
    refine partOk_gen w e.k e.n e.ak e.at_ ad e.kids.length cap 114 (.agg #[]) 140 139 1 _ ?_ m_kids_not m_fits_not calls_not_kids calls_not_fits kids_not (fun W => fits_not W _ _ _ _ _ _ _)
    unfold kindV; rw [if_neg h1, if_neg h2, if_neg h3, if_pos h4]
  · have hp : partB e = false := by
      unfold partB kidsOf
      rw [if_neg h1, if_neg h2, if_neg h4, if_neg h3, show ((-1 : Int) == (e.kids.length : Int)) = false by simp, Bool.false_and, Bool.false_and]
    rw [hp]
    refine partOk_nil w _ _ _ _ _ _ _ ?_
    unfold kindV; rw [if_neg h1, if_neg h2, if_neg h3, if_neg h4]
end Go.Proofs.YtkeockippmmneaaGreat

/-
  ExprOk and ExprMany of the program: loops over the parts.
-/
namespace Go.Proofs.YtkeockippmmneaaGreat
open Go.ChangeShapes Go.WideShapes Go.ChangeAt Go.RowKit Go.Shelf
attribute [local go_sem] Oper.semAt_some
set_option linter.unusedVariables false

theorem Five.grownBy {W W' : World} {row : Option Nat} {B : Nat} {v0 v1 v2 v3 v4 : Value} (h : Five W B v0 v1 v2 v3 v4) (hg : W.grownBy W' row) (hr : ∀ r, row = some r → ∃ o : Obj, W.heap[r]? = some o ∧ o.isCells = false) : Five W' B v0 v1 v2 v3 v4 := by
  obtain ⟨o, ho, hc⟩ := cells_of_cell h.c0
  have hb := grownBy_keeps_cells hg hr ho hc
  exact ⟨cell_kept h.c0 hg hr, cell_kept h.c1 hg hr, cell_kept h.c2 hg hr, cell_kept h.c3 hg hr, cell_kept h.c4 hg hr, fun o => by rw [World.frozen?_of_block (w := W) (a := ⟨B, o, none⟩) hb]; exact h.f o⟩

/-- A variable of one cell. -/
def One (W : World) (B : Nat) (v : Value) : Prop := W.cell? ⟨B, 0, none⟩ = some v ∧ W.frozen? ⟨B, 0, none⟩ = false

theorem One.grownBy {W W' : World} {row : Option Nat} {B : Nat} {v : Value} (h : One W B v) (hg : W.grownBy W' row) (hr : ∀ r, row = some r → ∃ o : Obj, W.heap[r]? = some o ∧ o.isCells = false) : One W' B v :=
  ⟨cell_kept h.1 hg hr, (frozen_kept h.1 hg hr).trans h.2⟩
theorem One.below {W W' : World} {B n : Nat} {v : Value} (h : One W B v) (hb : Below n W W') (hB : B < n) : One W' B v :=
  ⟨(hb.cell (p := ⟨B, 0, none⟩) hB).trans h.1, (hb.frozen (p := ⟨B, 0, none⟩) hB).trans h.2⟩
theorem One.set {W : World} {B : Nat} {v : Value} (h : One W B v) (x : Value) : One (W.setCell ⟨B, 0, none⟩ x) B x :=
  ⟨World.cell?_setCell_same' _ _ _ (by rw [h.1]; rfl), by rw [World.frozen?_setCell]; exact h.2⟩
theorem One.other {W : World} {B B' : Nat} {v : Value} (h : One W B v) (x : Value) (hne : B ≠ B') : One (W.setCell ⟨B', 0, none⟩ x) B v :=
  ⟨by rw [cell_set_other W (.inl hne)]; exact h.1, by rw [World.frozen?_setCell]; exact h.2⟩
theorem one_new (W : World) (v : Value) (t : TypeId) : One (W.alloc (.cells #[v] t)) W.heap.size v :=
  ⟨World.cell?_alloc_new _ _ _ _, World.frozen?_alloc_new _ _ _ _⟩

/-- Between two rounds of ExprOk. -/
structure OkI (w : World) (n₁ : Nat) (pre : List PartV) (W : World) : Prop where
  many : One W (w.heap.size + 1 + 1) (.int .i64 (pre.length : Int))
  res : One W (w.heap.size + 1) (.bool false)
  good : ∀ x, x ∈ pre → goodP x.proj
  few : pre.length ≤ 14
  low : Below w.heap.size w W
  size : n₁ ≤ W.heap.size

/-- A round of ExprOk has found one that is not right. -/
structure OkX (w : World) (pre : List PartV) (W : World) : Prop where
  res : One W (w.heap.size + 1) (.bool false)
  bad : 14 < pre.length ∨ ∃ x, x ∈ pre ∧ ¬ goodP x.proj
  low : Below w.heap.size w W

theorem okI_own (w : World) (n₁ B : Nat) (hB : w.heap.size ≤ B) : OwnFrom B (OkI w n₁) := fun s W W' row hs hg hr =>
  ⟨hs.many.grownBy hg fun r e => (hr r e).2, hs.res.grownBy hg fun r e => (hr r e).2, hs.good, hs.few, hs.low.grown hg hs.low.size fun k e => Nat.le_trans hB (hr k e).1, Nat.le_trans hs.size hg.size⟩
theorem okX_own (w : World) (B : Nat) (hB : w.heap.size ≤ B) : OwnFrom B (OkX w) := fun s W W' row hs hg hr =>
  ⟨hs.res.grownBy hg fun r e => (hr r e).2, hs.bad, hs.low.grown hg hs.low.size fun k e => Nat.le_trans hB (hr k e).1⟩

theorem goodP_iff (x : PartV) : goodP x.proj ↔ x.d < 6 ∧ partB x.e = true := Iff.rfl

set_option maxRecDepth 100000 in
set_option maxHeartbeats 4000000 in
theorem iExprOk_any (w : World) (lo hi : Nat) (v : Value) (e : ExprD) (h : ER w lo hi v e) (hhi : hi ≤ w.heap.size) (hm : manyL e.kids ≤ 1048576) :
    Calls Tryz.prog 47 #[v] w fun en w' => en = .returned (.bool (exprOk e)) ∧ Below w.heap.size w w' := by
  obtain ⟨s, rfl, hk⟩ := h
  obtain ⟨ad, cap, rfl, hc1, hc2⟩ := hk.shape
  refine (callsIn_wide (n := 8)).1 ?_
  have hro : Fence.wide.round = none := rfl
  have hd : Fence.wide.depth = none := rfl
  refine callsIn_of_wp_marks Tryz.func47 rfl trivial ?_ hro
  simp only [Tryz.ntmps47, List.size_toArray, List.length_cons, List.length_nil, Nat.reduceAdd, Nat.reduceSub, Array.replicate_succ, Array.replicate_zero, List.push_toArray, List.append_toArray, List.nil_append, List.cons_append]
  gi_wp2_with ((try refine ⟨trivial, ?_⟩); gi_at_call 60; refine (exprParts_in Fence.wide _ trivial hro _ _ _ _ _ _ _ _).mono ?_; rintro e1 w1 ⟨rfl, rfl⟩)
  obtain ⟨W0, hW0, Z0, B0, C1, C2, C3⟩ : ∃ W0, (((w.alloc (.cells #[.int .i64 e.k, .int .i64 e.n, .int .i64 e.ak, .int .i64 e.at_, .slice ad e.kids.length cap] 42)).alloc (.cells #[.bool false] 4)).alloc (.cells #[.int .i64 0] 3)).alloc (.cells #[.int .i64 e.k, .int .i64 e.n, .int .i64 e.ak, .int .i64 e.at_, .slice ad e.kids.length cap] 42) = W0 ∧
      W0.heap.size = w.heap.size + 4 ∧ Below w.heap.size w W0 ∧ One W0 (w.heap.size + 1) (.bool false) ∧ One W0 (w.heap.size + 1 + 1) (.int .i64 0) ∧ Five W0 (w.heap.size + 1 + 1 + 1) (.int .i64 e.k) (.int .i64 e.n) (.int .i64 e.ak) (.int .i64 e.at_) (.slice ad e.kids.length cap) := by
    refine ⟨_, rfl, by simp, ((((Below.refl _ w).alloc (Nat.le_refl _) _).alloc (by simp) _).alloc (by simp; omega) _).alloc (by simp; omega) _, ?_, ?_, ?_⟩
    · have h1 := one_new (w.alloc (.cells #[.int .i64 e.k, .int .i64 e.n, .int .i64 e.ak, .int .i64 e.at_, .slice ad e.kids.length cap] 42)) (.bool false) 4
      rw [World.size_alloc] at h1
      exact h1.below (((Below.refl _ _).alloc (Nat.le_refl _) _).alloc (by simp) _) (by simp)
    · have h1 := one_new ((w.alloc (.cells #[.int .i64 e.k, .int .i64 e.n, .int .i64 e.ak, .int .i64 e.at_, .slice ad e.kids.length cap] 42)).alloc (.cells #[.bool false] 4)) (.int .i64 0) 3
      rw [World.size_alloc, World.size_alloc] at h1
      exact h1.below ((Below.refl _ _).alloc (Nat.le_refl _) _) (by simp)
    · have h1 := five_new (((w.alloc (.cells #[.int .i64 e.k, .int .i64 e.n, .int .i64 e.ak, .int .i64 e.at_, .slice ad e.kids.length cap] 42)).alloc (.cells #[.bool false] 4)).alloc (.cells #[.int .i64 0] 3)) (.int .i64 e.k) (.int .i64 e.n) (.int .i64 e.ak) (.int .i64 e.at_) (.slice ad e.kids.length cap) 42
      simp only [World.size_alloc] at h1
      exact h1
  rw [hW0]
  clear hW0
  have hme := manyE_eq e
  have hexp := exprOk_iff e
  refine wpIn_rangeFunc_ownH hro (by decide) (gf := 73) (lb := #[.pointer (some ⟨w.heap.size + 1 + 1 + 1, 0, none⟩)]) rfl trivial (enters_of Tryz.func73 (by kernel_rfl) rfl)
    (parts_stops Fence.wide hd _ trivial trivial hro (w.heap.size + 1 + 1 + 1) w.heap.size W0.heap.size lo hi e ad cap W0 (by omega) hhi (by omega) (Nat.le_refl _) C3 (hk.under B0 hhi)) KeepsP.trans (keepsP_b (by omega)) (Below.refl _ _) (fun _ => rfl)
    (OkI w W0.heap.size) (fun c pre W => c = .ret ∧ OkX w pre W) (okI_own w _ _ (by omega)) (fun c s W W' row hs hg hr => ⟨hs.1, okX_own w W0.heap.size (by omega) s W W' row hs.2 hg hr⟩)
    ⟨C2, C1, by simp, by simp, B0, Nat.le_refl _⟩
    (fun x a' W => ∃ Bx, W0.heap.size ≤ Bx ∧ Bx < W.heap.size ∧ Five W Bx (.int .i64 x.e.k) (.int .i64 x.e.n) (.int .i64 x.e.ak) (.int .i64 x.e.at_) (.slice x.ad x.e.kids.length x.cap) ∧ a' = { tmps := #[.agg #[.int .i64 e.k, .int .i64 e.n, .int .i64 e.ak, .int .i64 e.at_, .slice ad e.kids.length cap], .pointer (some ⟨w.heap.size, 0, none⟩), .pointer (some ⟨w.heap.size + 1, 0, none⟩), .pointer (some ⟨w.heap.size + 1 + 1, 0, none⟩), .pointer (some ⟨Bx, 0, none⟩), .int .i64 x.d, .agg #[.int .i64 e.k, .int .i64 e.n, .int .i64 e.ak, .int .i64 e.at_, .slice ad e.kids.length cap], .func (.func 73) #[] #[.pointer (some ⟨w.heap.size + 1 + 1 + 1, 0, none⟩)], .agg #[.int .i64 x.e.k, .int .i64 x.e.n, .int .i64 x.e.ak, .int .i64 x.e.at_, .slice x.ad x.e.kids.length x.cap], .int .i64 x.d, undef, undef, undef, undef, undef, undef, undef, undef, undef, undef, undef, undef, undef], defers := [] })
    (fun x a' s W W' row hs hg hr => by
      obtain ⟨Bx, h1, h2, h3, h4⟩ := hs
      exact ⟨Bx, h1, Nat.lt_of_lt_of_le h2 hg.size, h3.grownBy hg fun r e => (hr r e).2, h4⟩)
    ?assign ?body ?done ?stop
  case assign =>
    intro l pre x W K hi hK
    have hsz := hi.size
    have hB := hi.low
    simp only [PartV.encs, PartV.val]
    gi_wp2
    refine hK _ _ ((KeepsOthers.alloc _ _).from _) (.alloc W (by omega) _) (okI_own w W0.heap.size W0.heap.size (by omega) pre W _ none hi (World.grownBy_alloc W _ none) (fun r e => by cases e)) ⟨W.heap.size, hsz, by simp, five_new W _ _ _ _ _ _, rfl⟩
  case body =>
    rintro l pre x a' W hl _ hi ⟨Bx, hBx, hBx2, hF, rfl⟩ hlt
    obtain ⟨⟨hm1, hm2⟩, hres, hgood, hfew, hlow, hsz⟩ := hi
    have hr1 := hres.1
    have hr2 := hres.2
    obtain ⟨c0, c1, c2, c3, c4, _⟩ := id hF
    have HI : Hid (One W (w.heap.size + 1 + 1) (.int .i64 (pre.length : Int)) ∧ One W (w.heap.size + 1) (.bool false) ∧ (∀ x, x ∈ pre → goodP x.proj) ∧ Below w.heap.size w W ∧ Five W Bx (.int .i64 x.e.k) (.int .i64 x.e.n) (.int .i64 x.e.ak) (.int .i64 x.e.at_) (.slice x.ad x.e.kids.length x.cap)) := ⟨⟨hm1, hm2⟩, hres, hgood, hlow, hF⟩
    clear hres hgood hlow hF hexp hme hlt
    have hne1 : ¬ Bx = w.heap.size + 1 + 1 := by omega
    have hne2 : ¬ w.heap.size + 1 = w.heap.size + 1 + 1 := by omega
    by_cases h14 : pre.length = 14
    · have hp1 : (14 : Int) < (pre.length : Int) + 1 := by omega
      gi_wp2
      refine ⟨trivial, ?_⟩
      gi_wp2
      obtain ⟨h1, h2, h3, h4, h5⟩ := HI.out
      exact ⟨((KeepsOthers.setCell _ _ _).from _).trans ((KeepsOthers.setCell _ _ _).from _), rfl, ⟨(h2.other _ (by omega)).set _, .inl (by simp [h14]), (h4.setCell (p := ⟨w.heap.size + 1 + 1, 0, none⟩) (by show w.heap.size ≤ w.heap.size + 1 + 1; omega) _).setCell (p := ⟨w.heap.size + 1, 0, none⟩) (by show w.heap.size ≤ w.heap.size + 1; omega) _⟩⟩
    · have hp1 : ¬ (14 : Int) < (pre.length : Int) + 1 := by omega
      by_cases h6 : x.d < 6
      · have hp2 : ¬ (6 : Int) ≤ x.d := by omega
        cases hpb : partB x.e with
        | true =>
          gi_wp2_with ((try refine ⟨trivial, ?_⟩); gi_at_call 61; refine (CallsIn.inRound l (callsIn_wide.2 (partOk_any _ x.e x.ad x.cap))).mono ?_; rw [hpb]; rintro e2 W2 ⟨rfl, g2⟩)
          obtain ⟨h1, h2, h3, h4, h5⟩ := HI.out
          have hsz1 : (W.setCell ⟨w.heap.size + 1 + 1, 0, none⟩ (.int .i64 ((pre.length : Int) + 1))).heap.size = W.heap.size := by simp
          have hlow1 := h4.setCell (p := ⟨w.heap.size + 1 + 1, 0, none⟩) (by show w.heap.size ≤ w.heap.size + 1 + 1; omega) (.int .i64 ((pre.length : Int) + 1))
          refine ⟨((KeepsOthers.setCell _ _ _).from _).trans (KeepsFrom.of_below g2), (KeepsP.setCell W (by omega) (by omega) _).trans (.of_below g2 (by omega)), ⟨?_, (h2.other _ (by omega)).below g2 (by omega), ?_, ?_, hlow1.trans (g2.mono (by omega)), ?_⟩⟩
          · rw [show ((pre ++ [x]).length : Int) = (pre.length : Int) + 1 by simp]
            exact (h1.set _).below g2 (by omega)
          · intro y hy
            rcases List.mem_append.1 hy with hy | hy
            · exact h3 y hy
            · rw [List.mem_singleton] at hy; subst hy; exact ⟨h6, hpb⟩
          · simp only [List.length_append, List.length_cons, List.length_nil]; omega
          · have := g2.size; omega
        | false =>
          gi_wp2_with ((try refine ⟨trivial, ?_⟩); gi_at_call 61; refine (CallsIn.inRound l (callsIn_wide.2 (partOk_any _ x.e x.ad x.cap))).mono ?_; rw [hpb]; rintro e2 W2 ⟨rfl, g2⟩; have hr3 := (g2.cell (p := ⟨w.heap.size + 1, 0, none⟩) (by show w.heap.size + 1 < _; simp; omega)).trans ((HI.out.2.1.other _ (by omega)).1); have hr4 := (g2.frozen (p := ⟨w.heap.size + 1, 0, none⟩) (by show w.heap.size + 1 < _; simp; omega)).trans ((HI.out.2.1.other _ (by omega)).2))
          obtain ⟨h1, h2, h3, h4, h5⟩ := HI.out
          have hsz1 : (W.setCell ⟨w.heap.size + 1 + 1, 0, none⟩ (.int .i64 ((pre.length : Int) + 1))).heap.size = W.heap.size := by simp
          have hlow1 := h4.setCell (p := ⟨w.heap.size + 1 + 1, 0, none⟩) (by show w.heap.size ≤ w.heap.size + 1 + 1; omega) (.int .i64 ((pre.length : Int) + 1))
          exact ⟨(((KeepsOthers.setCell _ _ _).from _).trans (KeepsFrom.of_below g2)).trans ((KeepsOthers.setCell _ _ _).from _), rfl, ⟨One.set ⟨hr3, hr4⟩ _, .inr ⟨x, by simp, fun hg => by have := hg.2; rw [show partB x.proj.1 = partB x.e from rfl, hpb] at this; cases this⟩, (hlow1.trans (g2.mono (by omega))).setCell (p := ⟨w.heap.size + 1, 0, none⟩) (by show w.heap.size ≤ w.heap.size + 1; omega) _⟩⟩
      · have hp2 : (6 : Int) ≤ x.d := by omega
        gi_wp2
        refine ⟨trivial, ?_⟩
        gi_wp2
        obtain ⟨h1, h2, h3, h4, h5⟩ := HI.out
        exact ⟨((KeepsOthers.setCell _ _ _).from _).trans ((KeepsOthers.setCell _ _ _).from _), rfl, ⟨(h2.other _ (by omega)).set _, .inr ⟨x, by simp, fun hg => by have : x.d < 6 := hg.1; omega⟩, (h4.setCell (p := ⟨w.heap.size + 1 + 1, 0, none⟩) (by show w.heap.size ≤ w.heap.size + 1 + 1; omega) _).setCell (p := ⟨w.heap.size + 1, 0, none⟩) (by show w.heap.size ≤ w.heap.size + 1; omega) _⟩⟩
  case done =>
    intro D ys W hD hS hi hK
    have hr1 := hi.res.1
    have hr2 := hi.res.2
    have hok : exprOk e = true := by
      rw [hexp]
      refine ⟨fun x hx => ?_, ?_⟩
      · rw [← hS] at hx
        obtain ⟨y, hy, rfl⟩ := List.mem_map.1 hx
        exact hi.good y hy
      · have := congrArg List.length hS
        rw [List.length_map, preE_length] at this
        have := hi.few
        omega
    have HB : Hid (Below w.heap.size w W ∧ One W (w.heap.size + 1) (.bool false)) := ⟨hi.low, hi.res⟩
    clear hi
    gi_wp2
    have hK' := (KeepsOthers.setCell W ⟨w.heap.size + 1, 0, none⟩ (.bool true)).same D _ hK rfl
    refine ⟨by simp, .inl ⟨_, _, rfl, run_takeDeferred hK', ?_⟩⟩
    have hc5 := cell_kept (HB.out.2.set (.bool true)).1 (grownBy_putObj' _ D (.deferred none)) (fun r e => by cases e; exact ⟨_, hK', rfl⟩)
    refine ⟨.bool true, ?_, by rw [hok], (HB.out.1.setCell (p := ⟨w.heap.size + 1, 0, none⟩) (by show w.heap.size ≤ w.heap.size + 1; omega) _).trans (belowK_b (w := w) (Nat.le_refl _) _ D _ _ (by omega) hK' rfl rfl)⟩
    simp [results, Tryz.f47, go_sem, hc5]
  case stop =>
    rintro D c pre W hD hSp ⟨rfl, hx⟩ hK
    have hok : exprOk e = false := by
      rw [Bool.eq_false_iff]
      intro h
      obtain ⟨h1, h2⟩ := hexp.1 h
      rcases hx.bad with hb | ⟨x, hxm, hxb⟩
      · have := hSp.length_le
        rw [List.length_map, preE_length] at this
        omega
      · exact hxb (h1 _ (hSp.subset (List.mem_map.2 ⟨x, hxm, rfl⟩)))
    have HB : Hid (Below w.heap.size w W ∧ One W (w.heap.size + 1) (.bool false)) := ⟨hx.low, hx.res⟩
    clear hx
    gi_wp2
    refine ⟨by simp, .inl ⟨_, _, rfl, run_takeDeferred hK, ?_⟩⟩
    have hc5 := cell_kept HB.out.2.1 (grownBy_putObj' _ D (.deferred none)) (fun r e => by cases e; exact ⟨_, hK, rfl⟩)
    refine ⟨.bool false, ?_, by rw [hok], HB.out.1.trans (belowK_b (w := w) (Nat.le_refl _) _ D _ _ (by omega) hK rfl rfl)⟩
    simp [results, Tryz.f47, go_sem, hc5]
end Go.Proofs.YtkeockippmmneaaGreat
