/-
  What chapter 3's models (package spec) answer: how many parts there are; ExprOk, ExprMany.
-/
import Derived.Test.YtkeockippmmneaaExprSpec
namespace Go.Proofs.Ytkeockippmmneaa
open Go.ChangeShapes Go.WideShapes Go.ChangeAt Go.RowKit
set_option linter.unusedVariables false

theorem manyD_le : ∀ (d : Nat) (e : ExprD), manyD d e ≤ manyE e ∧ ∀ es : List ExprD, (es.map (manyD d)).sum ≤ manyL es
  | 0, e => ⟨by rw [manyD, manyE_eq]; omega, fun es => by
      induction es with
      | nil => simp
      | cons x xs ih => rw [List.map_cons, List.sum_cons, manyL, manyD, manyE_eq]; omega⟩
  | d + 1, e => by
    have h1 : ∀ x : ExprD, manyD (d + 1) x ≤ manyE x := fun x => by
      have := (manyD_le d x).2 x.kids
      rw [manyD, manyE_eq]
      omega
    refine ⟨h1 e, fun es => ?_⟩
    induction es with
    | nil => simp
    | cons x xs ih => rw [List.map_cons, List.sum_cons, manyL]; have := h1 x; omega

theorem sum_take_succ {es : List ExprD} {j : Nat} {e : ExprD} (d : Nat) (h : es[j]? = some e) : ((es.take (j + 1)).map (manyD d)).sum = ((es.take j).map (manyD d)).sum + manyD d e := by
  rw [List.take_add_one, h]; simp

theorem formS : ∀ d, d ≤ 100 → FormS d
  | 0, _ => form_zero
  | d + 1, h => form_step (by omega) (formS d (by omega))

/-- What l3Many answers, up to d. -/
def ManyS (d : Nat) : Prop := ∀ (w : World) (lo hi : Nat) (s : Value) (e : ExprD), KR w lo hi s e.kids → hi ≤ w.heap.size → manyL e.kids ≤ 1048576 →
  Calls Try.prog 43 #[.agg #[.int .i64 e.k, .int .i64 e.n, .int .i64 e.ak, .int .i64 e.at_, s], .int .i64 d] w fun en w' => en = .returned (.int .i64 (manyD d e)) ∧ Below w.heap.size w w'

set_option maxHeartbeats 1000000 in
theorem many_zero : ManyS 0 := by
  intro w lo hi s e h hhi hm
  obtain ⟨ad, cap, rfl, hc1, hc2⟩ := h.shape
  have hmx : e.kids.length ≤ 9223372036854775807 := by unfold maxLen at hc2; omega
  have b1 := fun o => (Below.refl w.heap.size w).alloc (Nat.le_refl _) o
  have HF : Hid (manyD 0 e = 1) := by show manyD 0 e = 1; rw [manyD]
  rw [HF.out]
  clear h
  by_cases hl : (0 : Int) < e.kids.length
  · go_enter Try.func43, Try.ntmps43
    go_wp2_with fail
    obtain ⟨u0, hu0, G0, F0⟩ : ∃ u0, w.alloc (.cells #[.int .i64 e.k, .int .i64 e.n, .int .i64 e.ak, .int .i64 e.at_, .slice ad e.kids.length cap] 31) = u0 ∧ Below w.heap.size w u0 ∧ u0.cell? ⟨w.heap.size, 4, none⟩ = some (.slice ad e.kids.length cap) := ⟨_, rfl, b1 _, World.cell?_alloc_new _ _ _ _⟩
    rw [hu0]
    clear hu0
    go_loopw [5, 6] (fun q i wr => q = .int .i64 1 ∧ i = .int .i64 0 ∧ wr = u0) (fun _ _ _ => 0)
    case atStart => exact ⟨rfl, rfl, rfl⟩
    case round =>
      obtain ⟨rfl, rfl, rfl⟩ := hrel
      go_wp2
      go_ret
      exact ⟨rfl, G0⟩
  · go_enter Try.func43, Try.ntmps43
    go_wp2_with fail
    obtain ⟨u0, hu0, G0, F0⟩ : ∃ u0, w.alloc (.cells #[.int .i64 e.k, .int .i64 e.n, .int .i64 e.ak, .int .i64 e.at_, .slice ad e.kids.length cap] 31) = u0 ∧ Below w.heap.size w u0 ∧ u0.cell? ⟨w.heap.size, 4, none⟩ = some (.slice ad e.kids.length cap) := ⟨_, rfl, b1 _, World.cell?_alloc_new _ _ _ _⟩
    rw [hu0]
    clear hu0
    go_loopw [5, 6] (fun q i wr => q = .int .i64 1 ∧ i = .int .i64 0 ∧ wr = u0) (fun _ _ _ => 0)
    case atStart => exact ⟨rfl, rfl, rfl⟩
    case round =>
      obtain ⟨rfl, rfl, rfl⟩ := hrel
      go_wp2
      go_ret
      exact ⟨rfl, G0⟩

set_option maxHeartbeats 2000000 in
theorem many_step {d : Nat} (hd : d ≤ 100) (H : ManyS d) : ManyS (d + 1) := by
  intro w lo hi s e h hhi hm
  obtain ⟨ad, cap, rfl, hc1, hc2⟩ := h.shape
  have hmx : e.kids.length ≤ 9223372036854775807 := by unfold maxLen at hc2; omega
  have b1 := fun o => (Below.refl w.heap.size w).alloc (Nat.le_refl _) o
  have HF : Hid (manyD (d + 1) e = 1 + (e.kids.map (manyD d)).sum) := by show manyD (d + 1) e = _; rw [manyD]
  rw [HF.out]
  have HK : Hid (KR w lo hi (.slice ad e.kids.length cap) e.kids) := h
  have HM : Hid (manyL e.kids ≤ 1048576) := hm
  clear h hm HF hc1 hc2
  have hdd : ((d + 1 : Nat) : Int) = (d : Int) + 1 := by omega
  rw [hdd]
  clear hdd
  have hpos : (0 : Int) < (d : Int) + 1 := by omega
  go_enter Try.func43, Try.ntmps43
  go_wp2_with fail
  obtain ⟨u0, hu0, G0, F0, S0⟩ : ∃ u0, w.alloc (.cells #[.int .i64 e.k, .int .i64 e.n, .int .i64 e.ak, .int .i64 e.at_, .slice ad e.kids.length cap] 31) = u0 ∧ Below w.heap.size w u0 ∧ u0.cell? ⟨w.heap.size, 4, none⟩ = some (.slice ad e.kids.length cap) ∧ w.heap.size < u0.heap.size := ⟨_, rfl, b1 _, World.cell?_alloc_new _ _ _ _, by simp⟩
  rw [hu0]
  clear hu0
  go_loopw [5, 6] (fun q i wr => ∃ j : Nat, j ≤ e.kids.length ∧ q = .int .i64 ((1 + ((e.kids.take j).map (manyD d)).sum : Nat) : Int) ∧ i = .int .i64 j ∧ Below w.heap.size w wr ∧ wr.cell? ⟨w.heap.size, 4, none⟩ = some (.slice ad e.kids.length cap) ∧ w.heap.size < wr.heap.size) (fun _ i _ => e.kids.length - (intOf i).toNat)
  case atStart => exact ⟨0, Nat.zero_le _, by simp, rfl, G0, F0, S0⟩
  case round =>
    clear G0 F0 S0
    obtain ⟨j, hj, rfl, rfl, hb, F, hs⟩ := hrel
    have hle : ((e.kids.take j).map (manyD d)).sum ≤ 1048576 := by
      have h1 := (manyD_le d e).2 (e.kids.take j)
      have h2 := manyL_take_le e.kids j
      have h3 := HM.out
      omega
    obtain ⟨q, hq⟩ : ∃ q : Nat, ((e.kids.take j).map (manyD d)).sum = q := ⟨_, rfl⟩
    rw [hq] at hle ⊢
    have hcast : ((1 + q : Nat) : Int) = 1 + (q : Int) := by omega
    rw [hcast]
    have HQ : Hid (((e.kids.take j).map (manyD d)).sum = q) := hq
    clear hq hcast
    by_cases hlt : j < e.kids.length
    · obtain ⟨x, hx⟩ : ∃ x, e.kids[j]? = some x := ⟨e.kids[j], List.getElem?_eq_getElem hlt⟩
      obtain ⟨b, off, cap', s, hv, hb1, hb2, h5, hk⟩ := HK.out.at_ hx
      simp only [Value.slice.injEq, true_and] at hv
      obtain ⟨rfl, rfl⟩ := hv
      have hkl := kid_lt hx
      have hmm := HM.out
      have hxm : manyD d x ≤ 1048577 := by have := (manyD_le d x).1; rw [manyE_eq] at this; omega
      have HN : Hid (((e.kids.take (j + 1)).map (manyD d)).sum = q + manyD d x) := by show _ = _; rw [sum_take_succ d hx, HQ.out]
      obtain ⟨c0, c1, c2, c3, c4⟩ := h5
      rw [← hb.cell (p := ⟨b, off + j * 5, none⟩) (by show b < _; omega)] at c0
      rw [← hb.cell (p := ⟨b, off + j * 5 + 1, none⟩) (by show b < _; omega)] at c1
      rw [← hb.cell (p := ⟨b, off + j * 5 + 2, none⟩) (by show b < _; omega)] at c2
      rw [← hb.cell (p := ⟨b, off + j * 5 + 3, none⟩) (by show b < _; omega)] at c3
      rw [← hb.cell (p := ⟨b, off + j * 5 + 4, none⟩) (by show b < _; omega)] at c4
      have hH := H wr lo hi s x (hk.under hb hhi) (Nat.le_trans hhi hb.size) (by omega)
      obtain ⟨ads, cps, rfl, _, _⟩ := hk.shape
      clear hx hk hkl hmm
      generalize manyD d x = y at *
      go_wp2_with fail
      refine hH.mono ?_
      rintro e1 w1 ⟨rfl, g1⟩
      have G1 := hb.trans (g1.mono hb.size)
      have S1 : w.heap.size < w1.heap.size := by have := g1.size; omega
      rw [← g1.cell (p := ⟨w.heap.size, 4, none⟩) hs] at F
      clear g1 c0 c1 c2 c3 c4 hH hb
      go_wp2
      go_roundw
      case rel => exact ⟨j + 1, by omega, by rw [HN.out]; congr 1; omega, by go_num, G1, F, S1⟩
      case measure => simp [intOf]; omega
    · obtain rfl : j = e.kids.length := by omega
      have HR : Hid ((e.kids.map (manyD d)).sum = q) := by have := HQ.out; rwa [List.take_length] at this
      go_wp2
      go_ret
      exact ⟨ret_int (by rw [HR.out]; omega), hb⟩

theorem manyS : ∀ d, d ≤ 100 → ManyS d
  | 0, _ => many_zero
  | d + 1, h => many_step (by omega) (manyS d (by omega))

set_option maxHeartbeats 1000000 in
theorem sExprOk_any (w : World) (lo hi : Nat) (v : Value) (e : ExprD) (h : ER w lo hi v e) (hhi : hi ≤ w.heap.size) (hm : manyL e.kids ≤ 1048576) :
    Calls Try.prog 22 #[v] w fun en w' => en = .returned (.bool (exprOk e)) ∧ Below w.heap.size w w' := by
  obtain ⟨s, rfl, hk⟩ := h
  have b1 := fun o => (Below.refl w.heap.size w).alloc (Nat.le_refl _) o
  unfold exprOk
  have hF := fun W hW => formS 6 (by omega) W lo hi s e hW
  have hM := fun W hW hh => manyS 6 (by omega) W lo hi s e hW hh hm
  have hmb : manyD 6 e ≤ 1048577 := by have := (manyD_le 6 e).1; rw [manyE_eq] at this; omega
  obtain ⟨ad, cap, rfl, _, _⟩ := hk.shape
  have HK : Hid (KR w lo hi (.slice ad e.kids.length cap) e.kids) := hk
  clear hk hm
  generalize formE 6 e = fr at *
  generalize manyD 6 e = md at *
  go_enter Try.func22, Try.ntmps22
  go_wp2_with fail
  obtain ⟨u0, hu0, G0, F0, S0⟩ : ∃ u0, w.alloc (.cells #[.int .i64 e.k, .int .i64 e.n, .int .i64 e.ak, .int .i64 e.at_, .slice ad e.kids.length cap] 31) = u0 ∧ Below w.heap.size w u0 ∧ Five u0 w.heap.size (.int .i64 e.k) (.int .i64 e.n) (.int .i64 e.ak) (.int .i64 e.at_) (.slice ad e.kids.length cap) ∧ w.heap.size < u0.heap.size := ⟨_, rfl, b1 _, five_new _ _ _ _ _ _ _, by simp⟩
  rw [hu0]
  clear hu0
  refine (hF _ (HK.out.under G0 hhi) (by omega)).mono ?_
  rintro e1 u1 ⟨rfl, g1⟩
  have S1 := g1.size
  have G1 := G0.trans (g1.mono (by omega))
  obtain ⟨c0, c1, c2, c3, c4, _⟩ := F0.under g1 S0
  clear F0 g1 G0
  cases fr with
  | false =>
    go_wp2
    go_ret
    exact ⟨rfl, G1⟩
  | true =>
    go_wp2_with fail
    refine (hM _ (HK.out.under G1 hhi) (by omega)).mono ?_
    rintro e2 u2 ⟨rfl, g2⟩
    have G2 := G1.trans (g2.mono (by omega))
    clear g2 c0 c1 c2 c3 c4 hF hM
    by_cases hle : md ≤ 14
    · have h14 : (md : Int) ≤ 14 := by omega
      go_wp2
      go_ret
      exact ⟨ret_bool (by simp; omega), G2⟩
    · have h14 : ¬ ((md : Int) ≤ 14) := by omega
      go_wp2
      go_ret
      exact ⟨ret_bool (by simp; omega), G2⟩

def exprMany (e : ExprD) : Nat := if exprOk e then manyD 6 e else 0

end Go.Proofs.Ytkeockippmmneaa
