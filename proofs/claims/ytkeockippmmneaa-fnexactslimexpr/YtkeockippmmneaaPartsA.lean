/-
  The parts of a tree, yielded: exprParts, its function literal, yieldParts.
-/
import Derived.RangeFuncNested
import Derived.RangeFuncBound
import Derived.RangeFuncCalls
import Derived.RangeFuncLeaves
import Derived.RangeFuncFrom
import Derived.Shelf.Abstract
import Derived.Shelf.RegionOpen
import Derived.WalkKit
import Derived.OwnWalkIn
import Derived.TacticsInMore
import Derived.LoopNIn
import Derived.LoopIn
import Derived.Test.YtkeockippmmneaaExprPre
import Derived.Test.YtkeockippmmneaaExprTo
namespace Go.Proofs.Ytkeockippmmneaa
open Go.ChangeShapes Go.WideShapes Go.ChangeAt Go.RowKit Go.Shelf
attribute [local go_sem] Oper.semAt_some
set_option linter.unusedVariables false

theorem room_none {F : Fence} (hd : F.depth = none) (k : Nat) : F.room k := fun d h => by rw [hd] at h; cases h
theorem roundIn_any {F : Fence} (hd : F.depth = none) {m m' : Nat} {P : Program} {l : Nat} {f : FuncId} {tmps : Array Value} {assign body : Code} {w : World} {R : Ending → World → Prop}
    (h : RoundIn F m P l f tmps assign body w R) : RoundIn F m' P l f tmps assign body w R := ⟨h.1, fun c cs _ => h.2 c cs (room_none hd _)⟩
theorem yieldAt_any {F : Fence} (hd : F.depth = none) {m : Nat} (m' : Nat) {P : Program} {l : Nat} {args : Array Value} {W : World} {R : Ending → World → Prop} (h : YieldAt F m P l args W R) : YieldAt F m' P l args W R := by
  obtain ⟨fn, tmps, assign, body, hy, hR⟩ := h
  exact ⟨fn, tmps, assign, body, hy, roundIn_any hd hR⟩

/-- A part as it is yielded: what it is, where its kids lie; how many others are around it. -/
structure PartV where
  e : ExprD
  ad : Option Go.Addr
  cap : Nat
  d : Int

def PartV.val (x : PartV) : Value := .agg #[.int .i64 x.e.k, .int .i64 x.e.n, .int .i64 x.e.ak, .int .i64 x.e.at_, .slice x.ad x.e.kids.length x.cap]
def PartV.proj (x : PartV) : ExprD × Int := (x.e, x.d)
def PartV.encs (x : PartV) : Array Value := #[x.val, .int .i64 x.d]

/-- What lies below n₀, and whatever cells lie from n₁ on, lie as they lay. -/
structure KeepsP (n₀ n₁ : Nat) (W W' : World) : Prop where
  low : Below n₀ W W'
  cells : ∀ (k : Nat) (o : Obj), n₁ ≤ k → W.heap[k]? = some o → o.isCells = true → W'.heap[k]? = some o

theorem KeepsP.refl (n₀ n₁ : Nat) (W : World) : KeepsP n₀ n₁ W W := ⟨Below.refl _ _, fun _ _ _ h _ => h⟩
theorem KeepsP.trans {n₀ n₁ : Nat} {A B C : World} (h : KeepsP n₀ n₁ A B) (k : KeepsP n₀ n₁ B C) : KeepsP n₀ n₁ A C :=
  ⟨h.low.trans k.low, fun i o hi ho hc => k.cells i o hi (h.cells i o hi ho hc) hc⟩
theorem KeepsP.of_below {n₀ n₁ : Nat} {W W' : World} (h : Below W.heap.size W W') (hn : n₀ ≤ W.heap.size) : KeepsP n₀ n₁ W W' :=
  ⟨h.mono hn, fun k o _ ho _ => (h.block k (Array.getElem?_eq_some_iff.1 ho).1).trans ho⟩
theorem KeepsP.alloc {n₀ n₁ : Nat} (W : World) (hn : n₀ ≤ W.heap.size) (o : Obj) : KeepsP n₀ n₁ W (W.alloc o) := .of_below ((Below.refl _ _).alloc (Nat.le_refl _) o) hn
theorem KeepsP.setCell {n₀ n₁ : Nat} (W : World) {b o : Nat} (h0 : n₀ ≤ b) (h1 : b < n₁) (v : Value) : KeepsP n₀ n₁ W (W.setCell ⟨b, o, none⟩ v) :=
  ⟨(Below.refl _ _).setCell (p := ⟨b, o, none⟩) h0 v, fun k _ hk ho _ => (Below.heap_setCell W ⟨b, o, none⟩ v k (by show k ≠ b; omega)).trans ho⟩
theorem keepsP_b {n₀ n₁ : Nat} {w : World} (hn : n₀ ≤ w.heap.size) (W : World) (l : Nat) (o o' : Obj) (hl : w.heap.size ≤ l) (h : W.heap[l]? = some o) (hc : o.isCells = false) (hw : o.isWalk = false) : KeepsP n₀ n₁ W (W.putObj l o') :=
  ⟨belowK_b hn W l o o' hl h hc hw, fun k o2 _ hk hk2 => by
    have hne : k ≠ l := fun e => by subst e; rw [h] at hk; cases hk; rw [hc] at hk2; cases hk2
    exact (World.putObj_heap_other hne).trans hk⟩
theorem KeepsFrom.of_below {B : Nat} {W W' : World} (h : Below W.heap.size W W') : KeepsFrom B W W' :=
  ⟨h.size, fun k o _ ho _ => (h.block k (Array.getElem?_eq_some_iff.1 ho).1).trans ho⟩

theorem five_of_block {u : World} {B : Nat} {v0 v1 v2 v3 v4 : Value} {t : TypeId} (h : u.heap[B]? = some (.cells #[v0, v1, v2, v3, v4] t)) : Five u B v0 v1 v2 v3 v4 :=
  ⟨by simp [World.cell?, h], by simp [World.cell?, h], by simp [World.cell?, h], by simp [World.cell?, h], by simp [World.cell?, h], fun o => by simp [World.frozen?, h]⟩

/-- What one run of yieldParts leaves. -/
def YPost (n₀ n₁ : Nat) (J Jx : List PartV → World → Prop) (pre : List PartV) (l : List (ExprD × Int)) (W : World) (en : Ending) (W' : World) : Prop :=
  (en = .returned (.bool true) ∧ ∃ q, q.map PartV.proj = l ∧ J (pre ++ q) W' ∧ KeepsP n₀ n₁ W W') ∨ (en = .returned (.bool false) ∧ ∃ q, q.map PartV.proj <+: l ∧ Jx (pre ++ q) W')

/-- yieldParts, of a tree with at most m parts below it. -/
def YieldS (F : Fence) (l n₀ n₁ N : Nat) (J Jx : List PartV → World → Prop) (m : Nat) : Prop :=
  ∀ (n : Nat) (W : World) (lo hi : Nat) (s : Value) (e : ExprD) (d : Int) (pre : List PartV), manyL e.kids ≤ m → KR W lo hi s e.kids → hi ≤ n₀ → n₀ ≤ W.heap.size → n₁ ≤ W.heap.size → J pre W → pre.length + manyE e ≤ N →
    CallsIn F n Try.prog 57 #[.agg #[.int .i64 e.k, .int .i64 e.n, .int .i64 e.ak, .int .i64 e.at_, s], .int .i64 d, .func (.yield l) #[] #[]] W (YPost n₀ n₁ J Jx pre (preE d e) W)

set_option maxRecDepth 100000 in
set_option maxHeartbeats 4000000 in
theorem yield_step (F : Fence) (hd : F.depth = none) (hf : F.fn 57) (hro : F.round = none) (l n₀ n₁ N B : Nat) (J Jx : List PartV → World → Prop)
    (hJ : AbidesFrom B J)
    (hY : ∀ m pre (x : PartV) W, J pre W → pre.length < N → YieldAt F m Try.prog l x.encs W fun e W' =>
      (e = .returned (.bool true) ∧ J (pre ++ [x]) W' ∧ KeepsP n₀ n₁ W W') ∨ (e = .returned (.bool false) ∧ Jx (pre ++ [x]) W'))
    {m : Nat} (H : ∀ m', m' < m → YieldS F l n₀ n₁ N J Jx m') : YieldS F l n₀ n₁ N J Jx m := by
  intro n W lo hi s e d pre hm h hhi hn₀ hn₁ hJ0 hN
  obtain ⟨ad, cap, rfl, hc1, hc2⟩ := h.shape
  have hmx : e.kids.length ≤ 9223372036854775807 := by unfold maxLen at hc2; omega
  have hdd : ∀ k : Nat, (F.depth.isSome = true → 1 ≤ k) := fun k h => by rw [hd] at h; cases h
  have hme := manyE_eq e
  have HK : Hid (KR W lo hi (.slice ad e.kids.length cap) e.kids) := h
  have HP : Hid (preE d e = (e, d) :: preL (wrap64 (d + 1)) e.kids) := preE_eq d e
  have HJ : Hid (∀ pr (w : World) o, J pr w → J pr (w.alloc o)) := fun pr w o hj => hJ pr w _ none hj (World.grownBy_alloc w _ none) (fun r e => by cases e)
  obtain ⟨u0, hu0, G0, B0, S0, J0⟩ : ∃ u0, W.alloc (.cells #[.int .i64 e.k, .int .i64 e.n, .int .i64 e.ak, .int .i64 e.at_, .slice ad e.kids.length cap] 31) = u0 ∧ KeepsP n₀ n₁ W u0 ∧ u0.heap[W.heap.size]? = some (.cells #[.int .i64 e.k, .int .i64 e.n, .int .i64 e.ak, .int .i64 e.at_, .slice ad e.kids.length cap] 31) ∧ u0.heap.size = W.heap.size + 1 ∧ J pre u0 :=
    ⟨_, rfl, .alloc W hn₀ _, World.alloc_heap_new W _, by simp, HJ.out pre W _ hJ0⟩
  have F0 := five_of_block B0
  have HB0 : Hid (u0.heap[W.heap.size]? = some (.cells #[.int .i64 e.k, .int .i64 e.n, .int .i64 e.ak, .int .i64 e.at_, .slice ad e.kids.length cap] 31)) := B0
  clear B0
  obtain ⟨fn, tmps, assign, body, hy, hR⟩ := hY (n - 1) pre ⟨e, ad, cap, d⟩ u0 J0 (by omega)
  simp only [PartV.encs, PartV.val] at hy
  obtain ⟨c0, c1, c2, c3, c4, _⟩ := id F0
  clear h hJ0 hY hJ F0 J0
  refine callsIn_of_wp Try.func57 rfl hf ?_ hro
  simp only [Try.ntmps57, List.size_toArray, List.length_cons, List.length_nil, Nat.reduceAdd, Nat.reduceSub, Array.replicate_succ, Array.replicate_zero, List.push_toArray, List.append_toArray, List.nil_append, List.cons_append]
  gi_wp2_with fail
  refine hR.mono ?_
  clear hR hy hu0
  rintro e1 W3 (⟨rfl, hJ3, hk3⟩ | ⟨rfl, hJx3⟩)
  · have S3 := hk3.low.size
    have HB3 : Hid (W3.heap[W.heap.size]? = some (.cells #[.int .i64 e.k, .int .i64 e.n, .int .i64 e.ak, .int .i64 e.at_, .slice ad e.kids.length cap] 31)) := hk3.cells _ _ hn₁ HB0.out rfl
    have HG3 : Hid (KeepsP n₀ n₁ W W3) := G0.trans hk3
    have HJ3 : Hid (J (pre ++ [⟨e, ad, cap, d⟩]) W3) := hJ3
    clear HB0 G0 hk3 hJ3 c0 c1 c2 c3 c4
    have c4 := (five_of_block HB3.out).c4
    gi_wp2_with fail
    clear c4
    gi_loopw [17] (fun i wr => ∃ (j : Nat) (q : List PartV), j ≤ e.kids.length ∧ i = .int .i64 j ∧ W.heap.size < wr.heap.size ∧ Hid (q.map PartV.proj = preL (wrap64 (d + 1)) (e.kids.take j) ∧ J (pre ++ [⟨e, ad, cap, d⟩] ++ q) wr ∧ KeepsP n₀ n₁ W wr ∧ wr.heap[W.heap.size]? = some (.cells #[.int .i64 e.k, .int .i64 e.n, .int .i64 e.ak, .int .i64 e.at_, .slice ad e.kids.length cap] 31)))
      (fun i _ => e.kids.length - (intOf i).toNat)
    case atStart => exact ⟨0, [], Nat.zero_le _, rfl, by omega, by rw [List.take_zero, preL]; rfl, by rw [List.append_nil]; exact HJ3.out, HG3.out, HB3.out⟩
    case round =>
      clear HJ3 HG3 HB3 S3
      obtain ⟨j, q, hj, rfl, hs, HR⟩ := hrel
      by_cases hlt : j < e.kids.length
      · obtain ⟨x, hx⟩ : ∃ x, e.kids[j]? = some x := ⟨e.kids[j], List.getElem?_eq_getElem hlt⟩
        obtain ⟨b, off, cap', s, hv, hb1, hb2, h5, hk⟩ := HK.out.at_ hx
        simp only [Value.slice.injEq, true_and] at hv
        obtain ⟨rfl, rfl⟩ := hv
        obtain ⟨hq1, hq2, hq3, hq4⟩ := HR.out
        have HX : Hid (e.kids[j]? = some x) := hx
        have hb := hq3.low
        obtain ⟨c0, c1, c2, c3, c4⟩ := h5
        rw [← hb.cell (p := ⟨b, off + j * 5, none⟩) (by show b < _; omega)] at c0
        rw [← hb.cell (p := ⟨b, off + j * 5 + 1, none⟩) (by show b < _; omega)] at c1
        rw [← hb.cell (p := ⟨b, off + j * 5 + 2, none⟩) (by show b < _; omega)] at c2
        rw [← hb.cell (p := ⟨b, off + j * 5 + 3, none⟩) (by show b < _; omega)] at c3
        rw [← hb.cell (p := ⟨b, off + j * 5 + 4, none⟩) (by show b < _; omega)] at c4
        obtain ⟨ads, cps, rfl, _, _⟩ := hk.shape
        have hkl := kid_lt hx
        have hnl : (pre ++ [⟨e, some ⟨b, off, none⟩, cap, d⟩] ++ q : List PartV).length = pre.length + 1 + manyL (e.kids.take j) := by
          have := congrArg List.length hq1
          rw [List.length_map, preL_length] at this
          simp only [List.length_append, List.length_cons, List.length_nil]
          omega
        have hts := manyL_take_succ hx
        have htl := manyL_take_le e.kids (j + 1)
        obtain ⟨u1, hu1, G1, S1, J1, F1⟩ : ∃ u1, wr.alloc (.cells #[.int .i64 x.k, .int .i64 x.n, .int .i64 x.ak, .int .i64 x.at_, .slice ads x.kids.length cps] 31) = u1 ∧ KeepsP n₀ n₁ wr u1 ∧ u1.heap.size = wr.heap.size + 1 ∧ J (pre ++ [⟨e, some ⟨b, off, none⟩, cap, d⟩] ++ q) u1 ∧ Five u1 wr.heap.size (.int .i64 x.k) (.int .i64 x.n) (.int .i64 x.ak) (.int .i64 x.at_) (.slice ads x.kids.length cps) :=
          ⟨_, rfl, .alloc wr (by omega) _, by simp, HJ.out _ wr _ hq2, five_new wr _ _ _ _ _ _⟩
        have hC := H (manyL x.kids) (by omega) (n - 1) u1 lo hi (.slice ads x.kids.length cps) x (wrap64 (d + 1)) (pre ++ [⟨e, some ⟨b, off, none⟩, cap, d⟩] ++ q) (Nat.le_refl _) (hk.under (hq3.trans G1).low hhi) hhi (by omega) (by omega) J1 (by rw [hnl]; omega)
        have HG1 : Hid (KeepsP n₀ n₁ W u1) := hq3.trans G1
        have HB1 : Hid (u1.heap[W.heap.size]? = some (.cells #[.int .i64 e.k, .int .i64 e.n, .int .i64 e.ak, .int .i64 e.at_, .slice (some ⟨b, off, none⟩) e.kids.length cap] 31)) := G1.cells _ _ (by omega) hq4 rfl
        have HQ1 : Hid (q.map PartV.proj = preL (wrap64 (d + 1)) (e.kids.take j)) := hq1
        clear hq1 hq2 hq3 hq4 hx hk hkl hnl hts htl G1 J1 hb HR H
        obtain ⟨d0, d1, d2, d3, d4, _⟩ := F1
        gi_wp2_with ((try refine ⟨hdd _, ?_⟩); gi_at_call 57; refine hC.mono ?_; clear hC; rintro e2 W2 (⟨rfl, q2, hp2, hJ2, hk2⟩ | ⟨rfl, q2, hp2, hJx2⟩))
        · have hs2 := hk2.low.size
          gi_wp2
          go_roundw
          case rel =>
            refine ⟨j + 1, q ++ q2, by omega, by go_num, by omega, ?_, ?_, HG1.out.trans hk2, hk2.cells _ _ hn₁ HB1.out rfl⟩
            · rw [List.map_append, HQ1.out, hp2, preL_take_succ HX.out]
            · rw [← List.append_assoc]; exact hJ2
          case measure => simp [intOf]; omega
        · gi_wp2
          go_ret
          refine .inr ⟨rfl, [⟨e, some ⟨b, off, none⟩, cap, d⟩] ++ q ++ q2, ?_, ?_⟩
          · rw [List.map_append, List.map_append, HQ1.out, HP.out]
            refine List.IsPrefix.trans ?_ (show (e, d) :: preL (wrap64 (d + 1)) (e.kids.take (j + 1)) <+: _ from (List.cons_prefix_cons).2 ⟨rfl, preL_take_prefix _ _ _⟩)
            rw [preL_take_succ HX.out]
            show [(e, d)] ++ preL (wrap64 (d + 1)) (e.kids.take j) ++ q2.map PartV.proj <+: (e, d) :: (preL (wrap64 (d + 1)) (e.kids.take j) ++ preE (wrap64 (d + 1)) x)
            exact (List.cons_prefix_cons).2 ⟨rfl, (List.prefix_append_right_inj _).2 hp2⟩
          · rw [← List.append_assoc, ← List.append_assoc]; exact hJx2
      · obtain rfl : j = e.kids.length := by omega
        obtain ⟨hq1, hq2, hq3, hq4⟩ := HR.out
        rw [List.take_length] at hq1
        have HQ : Hid (q.map PartV.proj = preL (wrap64 (d + 1)) e.kids ∧ J (pre ++ [⟨e, ad, cap, d⟩] ++ q) wr ∧ KeepsP n₀ n₁ W wr) := ⟨hq1, hq2, hq3⟩
        clear hq1 hq2 hq3 hq4 HR H
        gi_wp2
        go_ret
        refine .inl ⟨rfl, [⟨e, ad, cap, d⟩] ++ q, ?_, ?_, HQ.out.2.2⟩
        · rw [List.map_append, HQ.out.1, HP.out]; rfl
        · rw [← List.append_assoc]; exact HQ.out.2.1
  · gi_wp2
    go_ret
    exact .inr ⟨rfl, [⟨e, ad, cap, d⟩], by rw [HP.out]; exact ⟨_, rfl⟩, hJx3⟩

theorem yieldS (F : Fence) (hd : F.depth = none) (hf : F.fn 57) (hro : F.round = none) (l n₀ n₁ N B : Nat) (J Jx : List PartV → World → Prop)
    (hJ : AbidesFrom B J)
    (hY : ∀ m pre (x : PartV) W, J pre W → pre.length < N → YieldAt F m Try.prog l x.encs W fun e W' =>
      (e = .returned (.bool true) ∧ J (pre ++ [x]) W' ∧ KeepsP n₀ n₁ W W') ∨ (e = .returned (.bool false) ∧ Jx (pre ++ [x]) W')) (m : Nat) : YieldS F l n₀ n₁ N J Jx m := by
  induction m using Nat.strongRecOn with
  | ind m ih => exact yield_step F hd hf hro l n₀ n₁ N B J Jx hJ hY ih

set_option maxHeartbeats 1000000 in
/-- The function literal of exprParts. -/
theorem parts1_in (F : Fence) (hd : F.depth = none) (n : Nat) (h5 : F.fn 56) (h6 : F.fn 57) (hro : F.round = none) (l Bt n₀ n₁ lo hi B : Nat) (e : ExprD) (ad : Option Go.Addr) (cap : Nat) (J Jx : List PartV → World → Prop)
    (hJ : AbidesFrom B J)
    (hY : ∀ pre (x : PartV) W, J pre W → pre.length < manyE e → YieldAt F (n - 1) Try.prog l x.encs W fun e W' =>
      (e = .returned (.bool true) ∧ J (pre ++ [x]) W' ∧ KeepsP n₀ n₁ W W') ∨ (e = .returned (.bool false) ∧ Jx (pre ++ [x]) W'))
    (W : World) (hBt : Five W Bt (.int .i64 e.k) (.int .i64 e.n) (.int .i64 e.ak) (.int .i64 e.at_) (.slice ad e.kids.length cap)) (hT : KR W lo hi (.slice ad e.kids.length cap) e.kids) (hhi : hi ≤ n₀) (hn₀ : n₀ ≤ W.heap.size) (hn₁ : n₁ ≤ W.heap.size) (h0 : J [] W) :
    CallsIn F n Try.prog 56 #[.func (.yield l) #[] #[], .pointer (some ⟨Bt, 0, none⟩)] W fun e' W' => (∃ v, e' = .returned v) ∧
      ((∃ ys : List PartV, ys.map PartV.proj = preE 0 e ∧ J ys W') ∨ (∃ pre : List PartV, pre.map PartV.proj <+: preE 0 e ∧ Jx pre W')) := by
  have hdd : ∀ k : Nat, (F.depth.isSome = true → 1 ≤ k) := fun k h => by rw [hd] at h; cases h
  have hp := yieldS F hd h6 hro l n₀ n₁ (manyE e) B J Jx hJ (fun m pre x W hj hl => yieldAt_any hd m (hY pre x W hj hl)) (manyL e.kids) (n - 1) W lo hi (.slice ad e.kids.length cap) e 0 [] (Nat.le_refl _) hT hhi hn₀ hn₁ h0 (by simp)
  obtain ⟨c0, c1, c2, c3, c4, _⟩ := hBt
  refine callsIn_of_wp Try.func56 rfl h5 ?_ hro
  simp only [Try.ntmps56, List.size_toArray, List.length_cons, List.length_nil, Nat.reduceAdd, Nat.reduceSub, Array.replicate_succ, Array.replicate_zero, List.push_toArray, List.append_toArray, List.nil_append, List.cons_append]
  gi_wp2_with ((try refine ⟨hdd _, ?_⟩); gi_at_call 57; refine hp.mono ?_; clear hp; rintro e1 W1 (⟨rfl, q, hq, hJ1, _⟩ | ⟨rfl, q, hq, hx⟩))
  · go_end0
    exact ⟨⟨_, rfl⟩, .inl ⟨q, hq, by simpa using hJ1⟩⟩
  · go_end0
    exact ⟨⟨_, rfl⟩, .inr ⟨q, hq, by simpa using hx⟩⟩

set_option maxHeartbeats 1000000 in
theorem exprParts_in (F : Fence) (n : Nat) (h4 : F.fn 33) (hro : F.round = none) (k m a t : Int) (ad : Option Go.Addr) (len cap : Nat) (w : World) :
    CallsIn F n Try.prog 33 #[.agg #[.int .i64 k, .int .i64 m, .int .i64 a, .int .i64 t, .slice ad len cap]] w fun e w' => e = .returned (.func (.func 56) #[] #[.pointer (some ⟨w.heap.size, 0, none⟩)]) ∧ w' = w.alloc (.cells #[.int .i64 k, .int .i64 m, .int .i64 a, .int .i64 t, .slice ad len cap] 31) := by
  refine callsIn_of_wp Try.func33 rfl h4 ?_ hro
  simp only [Try.ntmps33, List.size_toArray, List.length_cons, List.length_nil, Nat.reduceAdd, Nat.reduceSub, Array.replicate_succ, Array.replicate_zero, List.push_toArray, List.append_toArray, List.nil_append, List.cons_append]
  gi_wp2
  go_ret
  exact ⟨rfl, rfl⟩

/-- What exprParts hands back yields the parts. -/
theorem parts_stops (F : Fence) (hd : F.depth = none) (n : Nat) (h5 : F.fn 56) (h6 : F.fn 57) (hro : F.round = none) (Bt n₀ n₁ lo hi : Nat) (e : ExprD) (ad : Option Go.Addr) (cap : Nat) (w : World) (hBt : Bt < w.heap.size) (hhi : hi ≤ n₀) (hn₀ : n₀ ≤ w.heap.size) (hn₁ : n₁ ≤ w.heap.size)
    (hc : Five w Bt (.int .i64 e.k) (.int .i64 e.n) (.int .i64 e.ak) (.int .i64 e.at_) (.slice ad e.kids.length cap)) (hT : KR w lo hi (.slice ad e.kids.length cap) e.kids) :
    SeqStopsK F n Try.prog 56 #[.pointer (some ⟨Bt, 0, none⟩)] PartV.encs (KeepsP n₀ n₁) (fun ys => ys.map PartV.proj = preE 0 e) (fun pre => pre.map PartV.proj <+: preE 0 e) (manyE e) w := fun l J Jx W hW hJ _ hY h0 =>
  parts1_in F hd n h5 h6 hro l Bt n₀ n₁ lo hi W.heap.size e ad cap J Jx hJ hY W (hc.under hW hBt) (hT.under hW (by omega)) hhi (Nat.le_trans hn₀ hW.size) (Nat.le_trans hn₁ hW.size) h0
end Go.Proofs.Ytkeockippmmneaa
