/-
  szExpr, szExprS: the laws' helpers that count parts.
-/
import Derived.Test.YtkeockippmmneaaExprData
namespace Go.Proofs.Ytkeockippmmneaa
open Go.ChangeShapes Go.WideShapes Go.ChangeAt Go.RowKit
set_option linter.unusedVariables false

theorem many_rest (es : List ExprD) (j : Nat) (hj : j ≤ es.length) : manyL (es.take j) + (es.length - j) ≤ manyL es := by
  have h := manyL_append (es.take j) (es.drop j)
  rw [List.take_append_drop] at h
  have h2 := length_le_manyL (es.drop j)
  rw [List.length_drop] at h2
  omega

theorem take_le_many (es : List ExprD) (j : Nat) (hj : j ≤ es.length) : j ≤ manyL (es.take j) := by
  have h2 := length_le_manyL (es.take j)
  rw [List.length_take] at h2
  omega

/-- What szExprS answers of lists of at most n parts. -/
def SzS (n : Nat) : Prop := ∀ (w : World) (lo hi : Nat) (v : Value) (es : List ExprD) (left : Int), manyL es ≤ n → KR w lo hi v es → hi ≤ w.heap.size → 0 ≤ left → left ≤ 1048576 →
  Calls Try.prog 21 #[v, .int .i64 left] w fun e w' => e = .returned (.int .i64 (if left < manyL es then -1 else left - manyL es)) ∧ Below w.heap.size w w'

theorem szExpr_of {n : Nat} (H : SzS n) (w : World) (lo hi : Nat) (k m a t : Int) (s : Value) (es : List ExprD) (left : Int) (hn : manyL es ≤ n) (h : KR w lo hi s es) (hhi : hi ≤ w.heap.size) (h1 : 0 ≤ left) (h2 : left ≤ 1048576) :
    Calls Try.prog 6 #[.agg #[.int .i64 k, .int .i64 m, .int .i64 a, .int .i64 t, s], .int .i64 left] w fun e w' => e = .returned (.int .i64 (if left < manyL es then -1 else left - manyL es)) ∧ Below w.heap.size w w' := by
  have b1 := fun o => (Below.refl w.heap.size w).alloc (Nat.le_refl _) o
  by_cases hl : left < manyL es
  · rw [if_pos hl]
    go_enter Try.func6, Try.ntmps6
    go_wp2_with fail
    refine (H _ lo hi s es left hn (h.under (b1 _) hhi) (by simp; omega) h1 h2).mono ?_
    rw [if_pos hl]
    rintro e w1 ⟨rfl, g1⟩
    have G1 := below_two (b1 _) g1
    clear g1 h
    go_wp2
    go_ret
    exact ⟨rfl, G1⟩
  · rw [if_neg hl]
    go_enter Try.func6, Try.ntmps6
    go_wp2_with fail
    refine (H _ lo hi s es left hn (h.under (b1 _) hhi) (by simp; omega) h1 h2).mono ?_
    rw [if_neg (by omega)]
    rintro e w1 ⟨rfl, g1⟩
    have G1 := below_two (b1 _) g1
    have hp : ¬ (left - (manyL es : Int) < 0) := by omega
    clear g1 h
    go_wp2
    go_ret
    exact ⟨rfl, G1⟩

set_option maxHeartbeats 1000000 in
theorem szExprS_step {n : Nat} (H : ∀ m, m < n → SzS m) : SzS n := by
  intro w lo hi v es left hn h hhi h1 h2
  obtain ⟨ad, cap, rfl, hc1, hc2⟩ := h.shape
  have hmx : es.length ≤ 9223372036854775807 := by unfold maxLen at hc2; omega
  have hlm := length_le_manyL es
  obtain ⟨r, hr0⟩ : ∃ r : Int, (if left < (manyL es : Int) then -1 else left - (manyL es : Int)) = r := ⟨_, rfl⟩
  rw [hr0]
  have HA : Hid ((if left < (manyL es : Int) then -1 else left - (manyL es : Int)) = r) := hr0
  clear hr0
  by_cases hl : left - es.length < 0
  · obtain rfl : r = -1 := by have := HA.out; rw [if_pos (by omega)] at this; exact this.symm
    clear HA
    have HK : Hid (KR w lo hi (.slice ad es.length cap) es) := h
    clear h
    go_enter Try.func21, Try.ntmps21
    go_wp2
    go_ret
    exact ⟨rfl, Below.refl _ _⟩
  · have HK : Hid (KR w lo hi (.slice ad es.length cap) es) := h
    have HM : Hid (es.length ≤ manyL es) := hlm
    clear h hlm
    go_enter Try.func21, Try.ntmps21
    go_wp2_with fail
    go_loopw [1, 5] (fun l i wr => ∃ j : Nat, j ≤ es.length ∧ l = .int .i64 (left - es.length - (manyL (es.take j) - j)) ∧ 0 ≤ left - es.length - ((manyL (es.take j) : Int) - j) ∧ i = .int .i64 j ∧ Below w.heap.size w wr) (fun _ i _ => es.length - (intOf i).toNat)
    case atStart => exact ⟨0, Nat.zero_le _, by simp [manyL], by simp [manyL]; omega, rfl, Below.refl _ _⟩
    case round =>
      obtain ⟨j, hj, rfl, hnn, rfl, hb⟩ := hrel
      by_cases hlt : j < es.length
      · obtain ⟨e, he⟩ : ∃ e, es[j]? = some e := ⟨es[j], List.getElem?_eq_getElem hlt⟩
        obtain ⟨b, off, cap', s, hv, hb1, hb2, h5, hk⟩ := HK.out.at_ he
        simp only [Value.slice.injEq, true_and] at hv
        obtain ⟨rfl, rfl⟩ := hv
        obtain ⟨c0, c1, c2, c3, c4⟩ := h5
        have hkl := kid_lt he
        have hsuc := manyL_take_succ he
        have hrest := many_rest es (j + 1) hlt
        have hE := manyE_eq e
        have htk := take_le_many es j hj
        obtain ⟨q, hq⟩ : ∃ q : Int, left - es.length - ((manyL (es.take j) : Int) - j) = q := ⟨_, rfl⟩
        rw [hq] at hnn ⊢
        have hz := szExpr_of (n := manyL e.kids) (H _ (by omega)) wr lo hi e.k e.n e.ak e.at_ s e.kids q (Nat.le_refl _) (hk.under hb hhi) (Nat.le_trans hhi hb.size) hnn (by omega)
        rw [← hb.cell (p := ⟨b, off + j * 5, none⟩) (by show b < _; omega)] at c0
        rw [← hb.cell (p := ⟨b, off + j * 5 + 1, none⟩) (by show b < _; omega)] at c1
        rw [← hb.cell (p := ⟨b, off + j * 5 + 2, none⟩) (by show b < _; omega)] at c2
        rw [← hb.cell (p := ⟨b, off + j * 5 + 3, none⟩) (by show b < _; omega)] at c3
        rw [← hb.cell (p := ⟨b, off + j * 5 + 4, none⟩) (by show b < _; omega)] at c4
        clear hk
        by_cases hr : q < manyL e.kids
        · rw [if_pos hr] at hz
          have HR : Hid (left < manyL es) := by show left < (manyL es : Int); omega
          clear hsuc hrest hE htk hkl hq
          go_wp2_with fail
          refine hz.mono ?_
          rintro e1 w1 ⟨rfl, g1⟩
          have G1 := hb.trans (g1.mono hb.size)
          clear g1 c0 c1 c2 c3 c4
          go_wp2
          go_ret
          exact ⟨ret_int (by have := HA.out; rw [if_pos HR.out] at this; exact this), G1⟩
        · rw [if_neg hr] at hz
          have HQ : Hid (q - manyL e.kids = left - es.length - ((manyL (es.take (j + 1)) : Int) - ((j + 1 : Nat) : Int))) := by show q - (manyL e.kids : Int) = _; omega
          have hr' : ¬ (q - (manyL e.kids : Int) < 0) := by omega
          clear hsuc hrest hE htk hkl hq
          go_wp2_with fail
          refine hz.mono ?_
          rintro e1 w1 ⟨rfl, g1⟩
          have G1 := hb.trans (g1.mono hb.size)
          clear g1 c0 c1 c2 c3 c4
          go_wp2
          go_roundw
          case rel => exact ⟨j + 1, by omega, by rw [HQ.out], by rw [← HQ.out]; omega, by go_num, G1⟩
          case measure => simp [intOf]; omega
      · obtain rfl : j = es.length := by omega
        rw [List.take_length] at hnn ⊢
        have HR : Hid (left - es.length - ((manyL es : Int) - es.length) = r) := by show _ = _; rw [← HA.out, if_neg (by omega)]; omega
        obtain ⟨q, hq⟩ : ∃ q : Int, left - es.length - ((manyL es : Int) - es.length) = q := ⟨_, rfl⟩
        rw [hq] at HR hnn ⊢
        clear hq
        go_wp2
        go_ret
        exact ⟨ret_int HR.out, hb⟩

theorem szS (n : Nat) : SzS n := by
  induction n using Nat.strongRecOn with
  | ind n ih => exact szExprS_step ih

theorem szExpr_any (w : World) (lo hi : Nat) (v : Value) (e : ExprD) (left : Int) (h : ER w lo hi v e) (hhi : hi ≤ w.heap.size) (h1 : 0 ≤ left) (h2 : left ≤ 1048576) :
    Calls Try.prog 6 #[v, .int .i64 left] w fun en w' => en = .returned (.int .i64 (if left < manyL e.kids then -1 else left - manyL e.kids)) ∧ Below w.heap.size w w' := by
  obtain ⟨s, rfl, hk⟩ := h
  exact szExpr_of (szS _) w lo hi _ _ _ _ s e.kids left (Nat.le_refl _) hk hhi h1 h2
end Go.Proofs.Ytkeockippmmneaa
