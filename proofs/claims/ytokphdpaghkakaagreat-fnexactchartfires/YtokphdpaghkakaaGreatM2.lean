import Derived.Test.YtokphdpaghkakaaGreatM1

/-
  szExpr, szExprS: the laws' helpers that count parts.
-/
namespace Go.Proofs.YtokphdpaghkakaaGreat
open Go.ChangeShapes Go.WideShapes Go.ChangeAt Go.RowKit
set_option linter.unusedVariables false

theorem many_rest (es : List ExprD) (j : Nat) (hj : j ≤ es.length) : manyL (es.take j) + (es.length - j) ≤ manyL es := by
  have h := manyL_append (es.take j) (es.drop j)
  rw [List.take_append_drop] at h
  have h2 := length_le_manyL (es.drop j)
  rw [List.length_drop] at h2
  omega

theorem take_le_many (es : List ExprD) (j : Nat) (hj : j ≤ es.length) : j ≤ manyL (es.take j) := by
  have h2 := length_le_manyL (es.take j)
  rw [List.length_take] at h2
  omega

/-- What szExprS answers of lists of at most n parts. -/
def SzS (n : Nat) : Prop := ∀ (w : World) (lo hi : Nat) (v : Value) (es : List ExprD) (left : Int), manyL es ≤ n → KR w lo hi v es → hi ≤ w.heap.size → 0 ≤ left → left ≤ 1048576 →
  Calls Tryz.prog 134 #[v, .int .i64 left] w fun e w' => e = .returned (.int .i64 (if left < manyL es then -1 else left - manyL es)) ∧ Below w.heap.size w w'

theorem szExpr_of {n : Nat} (H : SzS n) (w : World) (lo hi : Nat) (k m a t : Int) (s : Value) (es : List ExprD) (left : Int) (hn : manyL es ≤ n) (h : KR w lo hi s es) (hhi : hi ≤ w.heap.size) (h1 : 0 ≤ left) (h2 : left ≤ 1048576) :
    Calls Tryz.prog 110 #[.agg #[.int .i64 k, .int .i64 m, .int .i64 a, .int .i64 t, s], .int .i64 left] w fun e w' => e = .returned (.int .i64 (if left < manyL es then -1 else left - manyL es)) ∧ Below w.heap.size w w' := by
  have b1 := fun o => (Below.refl w.heap.size w).alloc (Nat.le_refl _) o
  by_cases hl : left < manyL es
  · rw [if_pos hl]
    go_enter Tryz.func110, Tryz.ntmps110
    go_wp2_with fail
    refine (H _ lo hi s es left hn (h.under (b1 _) hhi) (by simp; omega) h1 h2).mono ?_
    rw [if_pos hl]
    rintro e w1 ⟨rfl, g1⟩
    have G1 := below_two (b1 _) g1
    clear g1 h
    go_wp2
    go_ret
    exact ⟨rfl, G1⟩
  · rw [if_neg hl]
    go_enter Tryz.func110, Tryz.ntmps110
    go_wp2_with fail
    refine (H _ lo hi s es left hn (h.under (b1 _) hhi) (by simp; omega) h1 h2).mono ?_
    rw [if_neg (by omega)]
    rintro e w1 ⟨rfl, g1⟩
    have G1 := below_two (b1 _) g1
    have hp : ¬ (left - (manyL es : Int) < 0) := by omega
    clear g1 h
    go_wp2
    go_ret
    exact ⟨rfl, G1⟩

set_option maxHeartbeats 1000000 in
theorem szExprS_step {n : Nat} (H : ∀ m, m < n → SzS m) : SzS n := by
  intro w lo hi v es left hn h hhi h1 h2
  obtain ⟨ad, cap, rfl, hc1, hc2⟩ := h.shape
  have hmx : es.length ≤ 9223372036854775807 := by unfold maxLen at hc2; omega
  have hlm := length_le_manyL es
  obtain ⟨r, hr0⟩ : ∃ r : Int, (if left < (manyL es : Int) then -1 else left - (manyL es : Int)) = r := ⟨_, rfl⟩
  rw [hr0]
  have HA : Hid ((if left < (manyL es : Int) then -1 else left - (manyL es : Int)) = r) := hr0
  clear hr0
  by_cases hl : left - es.length < 0
  · obtain rfl : r = -1 := by have := HA.out; rw [if_pos (by omega)] at this; exact this.symm
    clear HA
    have HK : Hid (KR w lo hi (.slice ad es.length cap) es) := h
    clear h
    go_enter Tryz.func134, Tryz.ntmps134
    go_wp2
    go_ret
    exact ⟨rfl, Below.refl _ _⟩
  · have HK : Hid (KR w lo hi (.slice ad es.length cap) es) := h
    have HM : Hid (es.length ≤ manyL es) := hlm
    clear h hlm
    go_enter Tryz.func134, Tryz.ntmps134
    go_wp2_with fail
    go_loopw [1, 5] (fun l i wr => ∃ j : Nat, j ≤ es.length ∧ l = .int .i64 (left - es.length - (manyL (es.take j) - j)) ∧ 0 ≤ left - es.length - ((manyL (es.take j) : Int) - j) ∧ i = .int .i64 j ∧ Below w.heap.size w wr) (fun _ i _ => es.length - (intOf i).toNat)
    case atStart => exact ⟨0, Nat.zero_le _, by simp [manyL], by simp [manyL]; omega, rfl, Below.refl _ _⟩
    case round =>
      obtain ⟨j, hj, rfl, hnn, rfl, hb⟩ := hrel
      by_cases hlt : j < es.length
      · obtain ⟨e, he⟩ : ∃ e, es[j]? = some e := ⟨es[j], List.getElem?_eq_getElem hlt⟩
        obtain ⟨b, off, cap', s, hv, hb1, hb2, h5, hk⟩ := HK.out.at_ he
        simp only [Value.slice.injEq, true_and] at hv
        obtain ⟨rfl, rfl⟩ := hv
        obtain ⟨c0, c1, c2, c3, c4⟩ := h5
        have hkl := kid_lt he
        have hsuc := manyL_take_succ he
        have hrest := many_rest es (j + 1) hlt
        have hE := manyE_eq e
        have htk := take_le_many es j hj
        obtain ⟨q, hq⟩ : ∃ q : Int, left - es.length - ((manyL (es.take j) : Int) - j) = q := ⟨_, rfl⟩
        rw [hq] at hnn ⊢
        have hz := szExpr_of (n := manyL e.kids) (H _ (by omega)) wr lo hi e.k e.n e.ak e.at_ s e.kids q (Nat.le_refl _) (hk.under hb hhi) (Nat.le_trans hhi hb.size) hnn (by omega)
        rw [← hb.cell (p := ⟨b, off + j * 5, none⟩) (by show b < _; omega)] at c0
        rw [← hb.cell (p := ⟨b, off + j * 5 + 1, none⟩) (by show b < _; omega)] at c1
        rw [← hb.cell (p := ⟨b, off + j * 5 + 2, none⟩) (by show b < _; omega)] at c2
        rw [← hb.cell (p := ⟨b, off + j * 5 + 3, none⟩) (by show b < _; omega)] at c3
        rw [← hb.cell (p := ⟨b, off + j * 5 + 4, none⟩) (by show b < _; omega)] at c4
        clear hk
        by_cases hr : q < manyL e.kids
        · rw [if_pos hr] at hz
          have HR : Hid (left < manyL es) := by show left < (manyL es : Int); omega
          clear hsuc hrest hE htk hkl hq
          go_wp2_with fail
          refine hz.mono ?_
          rintro e1 w1 ⟨rfl, g1⟩
          have G1 := hb.trans (g1.mono hb.size)
          clear g1 c0 c1 c2 c3 c4
          go_wp2
          go_ret
          exact ⟨ret_int (by have := HA.out; rw [if_pos HR.out] at this; exact this), G1⟩
        · rw [if_neg hr] at hz
          have HQ : Hid (q - manyL e.kids = left - es.length - ((manyL (es.take (j + 1)) : Int) - ((j + 1 : Nat) : Int))) := by show q - (manyL e.kids : Int) = _; omega
          have hr' : ¬ (q - (manyL e.kids : Int) < 0) := by omega
          clear hsuc hrest hE htk hkl hq
          go_wp2_with fail
          refine hz.mono ?_
          rintro e1 w1 ⟨rfl, g1⟩
          have G1 := hb.trans (g1.mono hb.size)
          clear g1 c0 c1 c2 c3 c4
          go_wp2
          go_roundw
          case rel => exact ⟨j + 1, by omega, by rw [HQ.out], by rw [← HQ.out]; omega, by go_num, G1⟩
          case measure => simp [intOf]; omega
      · obtain rfl : j = es.length := by omega
        rw [List.take_length] at hnn ⊢
        have HR : Hid (left - es.length - ((manyL es : Int) - es.length) = r) := by show _ = _; rw [← HA.out, if_neg (by omega)]; omega
        obtain ⟨q, hq⟩ : ∃ q : Int, left - es.length - ((manyL es : Int) - es.length) = q := ⟨_, rfl⟩
        rw [hq] at HR hnn ⊢
        clear hq
        go_wp2
        go_ret
        exact ⟨ret_int HR.out, hb⟩

theorem szS (n : Nat) : SzS n := by
  induction n using Nat.strongRecOn with
  | ind n ih => exact szExprS_step ih

theorem szExpr_any (w : World) (lo hi : Nat) (v : Value) (e : ExprD) (left : Int) (h : ER w lo hi v e) (hhi : hi ≤ w.heap.size) (h1 : 0 ≤ left) (h2 : left ≤ 1048576) :
    Calls Tryz.prog 110 #[v, .int .i64 left] w fun en w' => en = .returned (.int .i64 (if left < manyL e.kids then -1 else left - manyL e.kids)) ∧ Below w.heap.size w w' := by
  obtain ⟨s, rfl, hk⟩ := h
  exact szExpr_of (szS _) w lo hi _ _ _ _ s e.kids left (Nat.le_refl _) hk hhi h1 h2
end Go.Proofs.YtokphdpaghkakaaGreat

/-
  szTrans, szTransS, szActS, szChart: the laws' helpers that count.
-/
namespace Go.Proofs.YtokphdpaghkakaaGreat
open Go.ChangeShapes Go.WideShapes Go.ChangeAt Go.RowKit
set_option linter.unusedVariables false
set_option linter.unusedSimpArgs false
set_option maxRecDepth 100000

set_option maxHeartbeats 4000000 in
theorem szTrans_any (w : World) (lo hi : Nat) (x y s : Value) (t : TransD) (left : Int) (h : WayR w lo hi x y s t) (hhi : hi ≤ w.heap.size) (hl : 0 ≤ left) (hl' : left ≤ 1048576) :
    Calls Tryz.prog 72 #[.agg (transC x y t.e s).toArray, .int .i64 left] w fun e w' => e = .returned (.int .i64 (if left < t.many then -1 else left - t.many)) ∧ Below w.heap.size w w' := by
  obtain ⟨r, hr⟩ : ∃ r : Int, (if left < (t.many : Int) then -1 else left - (t.many : Int)) = r := ⟨_, rfl⟩
  rw [hr]
  have HM : t.many = t.fr.length + t.to.length + manyL t.e.kids := rfl
  rw [HM] at hr
  have HR : Hid ((if left < ((t.fr.length + t.to.length + manyL t.e.kids : Nat) : Int) then -1 else left - ((t.fr.length + t.to.length + manyL t.e.kids : Nat) : Int)) = r) := hr
  clear hr HM
  obtain ⟨ax, cx, ay, cy, az, cz, rfl, rfl, rfl⟩ := h.shape
  have HW : Hid (WayR w lo hi (.slice ax t.fr.length cx) (.slice ay t.to.length cy) (.slice az t.e.kids.length cz) t) := h
  clear h
  go_enter Tryz.func72, Tryz.ntmps72
  go_wp2_with (refine wpList_boxG (vs := transC (.slice ax t.fr.length cx) (.slice ay t.to.length cy) t.e (.slice az t.e.kids.length cz)) rfl _ rfl rfl ?_)
  intro u1 g1 p1 s1
  have c0 : u1.cell? ⟨w.heap.size, 0, none⟩ = some (.slice ax t.fr.length cx) := p1.c 0 _ rfl
  go_wp2_with fail
  clear c0
  refine (szIntS_any _ lo hi _ t.fr left (HW.out.fr.below g1 hhi) hl hl').mono ?_
  by_cases q1 : left < (t.fr.length : Int)
  · rw [if_pos q1]
    rintro e2 u2 ⟨rfl, rfl⟩
    have HF : Hid (r = -1) := by show r = -1; rw [← HR.out, if_pos (by omega)]
    clear HR p1
    go_wp2
    go_ret
    exact ⟨ret_int HF.out.symm, g1⟩
  rw [if_neg q1]
  rintro e2 u2 ⟨rfl, rfl⟩
  obtain ⟨l1, hl1⟩ : ∃ l1 : Int, left - (t.fr.length : Int) = l1 := ⟨_, rfl⟩
  rw [hl1]
  have n1 : ¬ (l1 < 0) := by omega
  have c1 : u2.cell? ⟨w.heap.size, 1, none⟩ = some (.slice ay t.to.length cy) := p1.c 1 _ rfl
  go_wp2_with fail
  clear c1
  refine (szIntS_any _ lo hi _ t.to l1 (HW.out.to.below g1 hhi) (by omega) (by omega)).mono ?_
  by_cases q2 : l1 < (t.to.length : Int)
  · rw [if_pos q2]
    rintro e3 u3 ⟨rfl, rfl⟩
    have HF : Hid (r = -1) := by show r = -1; rw [← HR.out, if_pos (by omega)]
    clear HR p1
    go_wp2
    go_ret
    exact ⟨ret_int HF.out.symm, g1⟩
  rw [if_neg q2]
  rintro e3 u3 ⟨rfl, rfl⟩
  obtain ⟨l2, hl2⟩ : ∃ l2 : Int, l1 - (t.to.length : Int) = l2 := ⟨_, rfl⟩
  rw [hl2]
  have n2 : ¬ (l2 < 0) := by omega
  have hc : CV u3 w.heap.size 2 (exprC t.e (.slice az t.e.kids.length cz)) := p1.c.part 2 5
  go_wp2_with (refine wpList_loadG Tryz.isAgg119 Tryz.sizeOf119 _ rfl rfl rfl rfl hc ?_)
  clear hc
  refine (szExpr_any _ lo hi _ t.e l2 ⟨_, rfl, HW.out.e.under g1 hhi⟩ (by omega) (by omega) (by omega)).mono ?_
  by_cases q3 : l2 < (manyL t.e.kids : Int)
  · rw [if_pos q3]
    rintro e4 u4 ⟨rfl, g4⟩
    have G4 := g1.trans (g4.mono (by omega))
    have HF : Hid (r = -1) := by show r = -1; rw [← HR.out, if_pos (by omega)]
    clear HR p1 g4 g1
    go_wp2
    go_ret
    exact ⟨ret_int HF.out.symm, G4⟩
  rw [if_neg q3]
  rintro e4 u4 ⟨rfl, g4⟩
  have G4 := g1.trans (g4.mono (by omega))
  have HF : Hid (l2 - (manyL t.e.kids : Int) = r) := by show _ = r; rw [← HR.out, if_neg (by omega)]; omega
  have n3 : ¬ (l2 - (manyL t.e.kids : Int) < 0) := by omega
  obtain ⟨l3, hl3⟩ : ∃ l3 : Int, l2 - (manyL t.e.kids : Int) = l3 := ⟨_, rfl⟩
  rw [hl3] at HF n3 ⊢
  clear HR p1 g4 g1 hl3
  go_wp2
  go_ret
  exact ⟨ret_int HF.out, G4⟩

set_option maxHeartbeats 4000000 in
theorem szTransS_any (w : World) (lo hi : Nat) (v : Value) (ts : List TransD) (left : Int) (h : TR w lo hi v ts) (hhi : hi ≤ w.heap.size) (h1 : 0 ≤ left) (h2 : left ≤ 1048576) :
    Calls Tryz.prog 33 #[v, .int .i64 left] w fun e w' => e = .returned (.int .i64 (if left < manyT ts then -1 else left - manyT ts)) ∧ Below w.heap.size w w' := by
  obtain ⟨ad, cap, rfl, hc1, hc2⟩ := h.shape
  have hmx : ts.length ≤ 9223372036854775807 := by unfold maxLen at hc2; omega
  have hlm := length_le_manyT ts
  obtain ⟨r, hr0⟩ : ∃ r : Int, (if left < (manyT ts : Int) then -1 else left - (manyT ts : Int)) = r := ⟨_, rfl⟩
  rw [hr0]
  have HA : Hid ((if left < (manyT ts : Int) then -1 else left - (manyT ts : Int)) = r) := hr0
  clear hr0
  have HK : Hid (TR w lo hi (.slice ad ts.length cap) ts) := h
  clear h
  by_cases hl : left - ts.length < 0
  · obtain rfl : r = -1 := by have := HA.out; rw [if_pos (by omega)] at this; exact this.symm
    clear HA
    go_enter Tryz.func33, Tryz.ntmps33
    go_wp2
    go_ret
    exact ⟨rfl, Below.refl _ _⟩
  · have HM : Hid (ts.length ≤ manyT ts) := hlm
    clear hlm
    go_enter Tryz.func33, Tryz.ntmps33
    go_wp2_with fail
    go_loopw [1, 5] (fun l i wr => ∃ j : Nat, j ≤ ts.length ∧ l = .int .i64 (left - ts.length - (manyT (ts.take j) - j)) ∧ 0 ≤ left - ts.length - ((manyT (ts.take j) : Int) - j) ∧ i = .int .i64 j ∧ Below w.heap.size w wr) (fun _ i _ => ts.length - (intOf i).toNat)
    case atStart => exact ⟨0, Nat.zero_le _, by simp [manyT], by simp [manyT]; omega, rfl, Below.refl _ _⟩
    case round =>
      obtain ⟨j, hj, rfl, hnn, rfl, hb⟩ := hrel
      by_cases hlt : j < ts.length
      · obtain ⟨t, he⟩ : ∃ t, ts[j]? = some t := ⟨ts[j], List.getElem?_eq_getElem hlt⟩
        obtain ⟨b, off, cap', x, y, s, hv, hb1, hb2, h5, hk⟩ := HK.out.at_ he
        simp only [Value.slice.injEq, true_and] at hv
        obtain ⟨rfl, rfl⟩ := hv
        have hsuc := manyT_take_succ he
        have hrest := manyT_rest ts (j + 1) hlt
        have htk := take_le_manyT ts j hj
        obtain ⟨q, hq⟩ : ∃ q : Int, left - ts.length - ((manyT (ts.take j) : Int) - j) = q := ⟨_, rfl⟩
        rw [hq] at hnn ⊢
        have hz := szTrans_any wr lo hi x y s t q (hk.under hb hhi) (Nat.le_trans hhi hb.size) hnn (by omega)
        have hc : CV wr b (off + j * 7) (transC x y t.e s) := h5.kept (hb.block b (by omega))
        clear hk h5
        by_cases hr : q < (t.many : Int)
        · rw [if_pos hr] at hz
          have HR : Hid (left < (manyT ts : Int)) := by show left < (manyT ts : Int); omega
          clear hsuc hrest htk hq
          go_wp2_with (refine wpList_loadG Tryz.isAgg121 Tryz.sizeOf121 _ rfl rfl rfl rfl hc ?_)
          refine hz.mono ?_
          rintro e1 w1 ⟨rfl, g1⟩
          have G1 := hb.trans (g1.mono hb.size)
          clear g1 hc
          go_wp2
          go_ret
          exact ⟨ret_int (by have := HA.out; rw [if_pos HR.out] at this; exact this), G1⟩
        · rw [if_neg hr] at hz
          have HQ : Hid (q - t.many = left - ts.length - ((manyT (ts.take (j + 1)) : Int) - ((j + 1 : Nat) : Int))) := by show q - (t.many : Int) = _; omega
          have hr' : ¬ (q - (t.many : Int) < 0) := by omega
          clear hsuc hrest htk hq
          go_wp2_with (refine wpList_loadG Tryz.isAgg121 Tryz.sizeOf121 _ rfl rfl rfl rfl hc ?_)
          refine hz.mono ?_
          rintro e1 w1 ⟨rfl, g1⟩
          have G1 := hb.trans (g1.mono hb.size)
          clear g1 hc
          go_wp2
          go_roundw
          case rel => exact ⟨j + 1, by omega, by rw [HQ.out], by rw [← HQ.out]; omega, by go_num, G1⟩
          case measure => simp [intOf]; omega
      · obtain rfl : j = ts.length := by omega
        rw [List.take_length] at hnn ⊢
        have HR : Hid (left - ts.length - ((manyT ts : Int) - ts.length) = r) := by show _ = _; rw [← HA.out, if_neg (by omega)]; omega
        obtain ⟨q, hq⟩ : ∃ q : Int, left - ts.length - ((manyT ts : Int) - ts.length) = q := ⟨_, rfl⟩
        rw [hq] at HR hnn ⊢
        clear hq
        go_wp2
        go_ret
        exact ⟨ret_int HR.out, hb⟩

theorem szActS_any (w : World) (lo hi : Nat) (v : Value) (ps : List ActD) (left : Int) (h : GR actE w lo hi v ps) (hl : 0 ≤ left) (hl' : left ≤ 1048576) :
    Calls Tryz.prog 34 #[v, .int .i64 left] w fun e w' => e = .returned (.int .i64 (if left < ps.length then -1 else left - ps.length)) ∧ w' = w := by
  obtain ⟨a, cap, rfl, h1, h2⟩ := h.shape
  clear h
  unfold maxLen at h2
  by_cases h : left < ps.length
  · rw [if_pos h]
    go_enter Tryz.func34, Tryz.ntmps34
    go_wp2
    go_ret
    exact ⟨rfl, rfl⟩
  · rw [if_neg h]
    go_enter Tryz.func34, Tryz.ntmps34
    go_wp2
    go_ret
    exact ⟨rfl, rfl⟩

set_option maxHeartbeats 4000000 in
theorem szChart_any (w : World) (lo hi : Nat) (v : Value) (c : ChartD) (left : Int) (h : HIc w lo hi v c) (hhi : hi ≤ w.heap.size) (hl : 0 ≤ left) (hl' : left ≤ 1048576) :
    Calls Tryz.prog 7 #[v, .int .i64 left] w fun e w' => e = .returned (.int .i64 (if left < c.many then -1 else left - c.many)) ∧ Below w.heap.size w w' := by
  obtain ⟨r, hr⟩ : ∃ r : Int, (if left < (c.many : Int) then -1 else left - (c.many : Int)) = r := ⟨_, rfl⟩
  rw [hr]
  have HM : c.many = manyT c.ts + c.acts.length := rfl
  rw [HM] at hr
  have HR : Hid ((if left < ((manyT c.ts + c.acts.length : Nat) : Int) then -1 else left - ((manyT c.ts + c.acts.length : Nat) : Int)) = r) := hr
  clear hr HM
  obtain ⟨va, vb, rfl, hA, hB⟩ := h
  obtain ⟨ad, cap, rfl, _, _⟩ := hA.shape
  obtain ⟨ad', cap', rfl, _, _⟩ := hB.shape
  have HW : Hid (TR w lo hi (.slice ad c.ts.length cap) c.ts ∧ GR actE w lo hi (.slice ad' c.acts.length cap') c.acts) := ⟨hA, hB⟩
  clear hA hB
  go_enter Tryz.func7, Tryz.ntmps7
  go_wp2_with (refine wpList_boxG (vs := [.int .i64 c.steps, .slice ad c.ts.length cap, .slice ad' c.acts.length cap']) rfl _ rfl rfl ?_)
  intro u1 g1 p1 s1
  have c0 : u1.cell? ⟨w.heap.size, 1, none⟩ = some (.slice ad c.ts.length cap) := p1.c 1 _ rfl
  go_wp2_with fail
  clear c0
  refine (szTransS_any _ lo hi _ c.ts left (HW.out.1.under g1 hhi) (by omega) hl hl').mono ?_
  by_cases q1 : left < (manyT c.ts : Int)
  · rw [if_pos q1]
    rintro e2 u2 ⟨rfl, g2⟩
    have G2 := g1.trans (g2.mono (by omega))
    have HF : Hid (r = -1) := by show r = -1; rw [← HR.out, if_pos (by omega)]
    clear HR p1 g1 g2
    go_wp2
    go_ret
    exact ⟨ret_int HF.out.symm, G2⟩
  rw [if_neg q1]
  rintro e2 u2 ⟨rfl, g2⟩
  have G2 := g1.trans (g2.mono (by omega))
  have p2 := p1.below g2 (by omega)
  clear p1 g1 g2
  obtain ⟨l1, hl1⟩ : ∃ l1 : Int, left - (manyT c.ts : Int) = l1 := ⟨_, rfl⟩
  rw [hl1]
  have n1 : ¬ (l1 < 0) := by omega
  have c1 : u2.cell? ⟨w.heap.size, 2, none⟩ = some (.slice ad' c.acts.length cap') := p2.c 2 _ rfl
  go_wp2_with fail
  clear c1
  refine (szActS_any _ lo hi _ c.acts l1 (HW.out.2.under G2 hhi) (by omega) (by omega)).mono ?_
  by_cases q2 : l1 < (c.acts.length : Int)
  · rw [if_pos q2]
    rintro e3 u3 ⟨rfl, rfl⟩
    have HF : Hid (r = -1) := by show r = -1; rw [← HR.out, if_pos (by omega)]
    clear HR p2
    go_wp2
    go_ret
    exact ⟨ret_int HF.out.symm, G2⟩
  rw [if_neg q2]
  rintro e3 u3 ⟨rfl, rfl⟩
  have HF : Hid (l1 - (c.acts.length : Int) = r) := by show _ = r; rw [← HR.out, if_neg (by omega)]; omega
  have n2 : ¬ (l1 - (c.acts.length : Int) < 0) := by omega
  obtain ⟨l2, hl2⟩ : ∃ l2 : Int, l1 - (c.acts.length : Int) = l2 := ⟨_, rfl⟩
  rw [hl2] at HF n2 ⊢
  clear HR p2 hl2
  go_wp2
  go_ret
  exact ⟨ret_int HF.out, G2⟩
end Go.Proofs.YtokphdpaghkakaaGreat

/-
  toExpr, toExprS: the laws' helpers that copy into new memory.
-/
namespace Go.Proofs.YtokphdpaghkakaaGreat
open Go.ChangeShapes Go.WideShapes Go.ChangeAt Go.RowKit
set_option linter.unusedVariables false

/-- A variable of five cells that may be written. -/
structure Five (u : World) (B : Nat) (v0 v1 v2 v3 v4 : Value) : Prop where
  c0 : u.cell? ⟨B, 0, none⟩ = some v0
  c1 : u.cell? ⟨B, 1, none⟩ = some v1
  c2 : u.cell? ⟨B, 2, none⟩ = some v2
  c3 : u.cell? ⟨B, 3, none⟩ = some v3
  c4 : u.cell? ⟨B, 4, none⟩ = some v4
  f : ∀ o, u.frozen? ⟨B, o, none⟩ = false

theorem five_new (u : World) (v0 v1 v2 v3 v4 : Value) (t : TypeId) : Five (u.alloc (.cells #[v0, v1, v2, v3, v4] t)) u.heap.size v0 v1 v2 v3 v4 :=
  ⟨World.cell?_alloc_new _ _ _ _, World.cell?_alloc_new _ _ _ _, World.cell?_alloc_new _ _ _ _, World.cell?_alloc_new _ _ _ _, World.cell?_alloc_new _ _ _ _, fun o => World.frozen?_alloc_new _ _ _ _⟩

theorem Five.under {u u' : World} {B n : Nat} {v0 v1 v2 v3 v4 : Value} (h : Five u B v0 v1 v2 v3 v4) (hb : Below n u u') (hB : B < n) : Five u' B v0 v1 v2 v3 v4 :=
  ⟨by rw [hb.cell (p := ⟨B, 0, none⟩) hB]; exact h.c0, by rw [hb.cell (p := ⟨B, 1, none⟩) hB]; exact h.c1, by rw [hb.cell (p := ⟨B, 2, none⟩) hB]; exact h.c2, by rw [hb.cell (p := ⟨B, 3, none⟩) hB]; exact h.c3, by rw [hb.cell (p := ⟨B, 4, none⟩) hB]; exact h.c4, fun o => by rw [hb.frozen (p := ⟨B, o, none⟩) hB]; exact h.f o⟩

theorem Five.set0 {u : World} {B : Nat} {v0 v1 v2 v3 v4 : Value} (h : Five u B v0 v1 v2 v3 v4) (x : Value) : Five (u.setCell ⟨B, 0, none⟩ x) B x v1 v2 v3 v4 :=
  ⟨World.cell?_setCell_same _ _ _ h.c0, by rw [cell_set_other _ (.inr (by omega))]; exact h.c1, by rw [cell_set_other _ (.inr (by omega))]; exact h.c2, by rw [cell_set_other _ (.inr (by omega))]; exact h.c3, by rw [cell_set_other _ (.inr (by omega))]; exact h.c4, fun o => by rw [World.frozen?_setCell]; exact h.f o⟩
theorem Five.set1 {u : World} {B : Nat} {v0 v1 v2 v3 v4 : Value} (h : Five u B v0 v1 v2 v3 v4) (x : Value) : Five (u.setCell ⟨B, 1, none⟩ x) B v0 x v2 v3 v4 :=
  ⟨by rw [cell_set_other _ (.inr (by omega))]; exact h.c0, World.cell?_setCell_same _ _ _ h.c1, by rw [cell_set_other _ (.inr (by omega))]; exact h.c2, by rw [cell_set_other _ (.inr (by omega))]; exact h.c3, by rw [cell_set_other _ (.inr (by omega))]; exact h.c4, fun o => by rw [World.frozen?_setCell]; exact h.f o⟩
theorem Five.set2 {u : World} {B : Nat} {v0 v1 v2 v3 v4 : Value} (h : Five u B v0 v1 v2 v3 v4) (x : Value) : Five (u.setCell ⟨B, 2, none⟩ x) B v0 v1 x v3 v4 :=
  ⟨by rw [cell_set_other _ (.inr (by omega))]; exact h.c0, by rw [cell_set_other _ (.inr (by omega))]; exact h.c1, World.cell?_setCell_same _ _ _ h.c2, by rw [cell_set_other _ (.inr (by omega))]; exact h.c3, by rw [cell_set_other _ (.inr (by omega))]; exact h.c4, fun o => by rw [World.frozen?_setCell]; exact h.f o⟩
theorem Five.set3 {u : World} {B : Nat} {v0 v1 v2 v3 v4 : Value} (h : Five u B v0 v1 v2 v3 v4) (x : Value) : Five (u.setCell ⟨B, 3, none⟩ x) B v0 v1 v2 x v4 :=
  ⟨by rw [cell_set_other _ (.inr (by omega))]; exact h.c0, by rw [cell_set_other _ (.inr (by omega))]; exact h.c1, by rw [cell_set_other _ (.inr (by omega))]; exact h.c2, World.cell?_setCell_same _ _ _ h.c3, by rw [cell_set_other _ (.inr (by omega))]; exact h.c4, fun o => by rw [World.frozen?_setCell]; exact h.f o⟩
theorem Five.set4 {u : World} {B : Nat} {v0 v1 v2 v3 v4 : Value} (h : Five u B v0 v1 v2 v3 v4) (x : Value) : Five (u.setCell ⟨B, 4, none⟩ x) B v0 v1 v2 v3 x :=
  ⟨by rw [cell_set_other _ (.inr (by omega))]; exact h.c0, by rw [cell_set_other _ (.inr (by omega))]; exact h.c1, by rw [cell_set_other _ (.inr (by omega))]; exact h.c2, by rw [cell_set_other _ (.inr (by omega))]; exact h.c3, World.cell?_setCell_same _ _ _ h.c4, fun o => by rw [World.frozen?_setCell]; exact h.f o⟩

theorem Five.other {u : World} {B B' o : Nat} {v0 v1 v2 v3 v4 : Value} (h : Five u B v0 v1 v2 v3 v4) (x : Value) (hne : B ≠ B') : Five (u.setCell ⟨B', o, none⟩ x) B v0 v1 v2 v3 v4 :=
  ⟨by rw [cell_set_other _ (.inl hne)]; exact h.c0, by rw [cell_set_other _ (.inl hne)]; exact h.c1, by rw [cell_set_other _ (.inl hne)]; exact h.c2, by rw [cell_set_other _ (.inl hne)]; exact h.c3, by rw [cell_set_other _ (.inl hne)]; exact h.c4, fun o => by rw [World.frozen?_setCell]; exact h.f o⟩

/-- What toExprS answers of lists of at most n parts. -/
def ToS (n : Nat) : Prop := ∀ (w : World) (lo hi : Nat) (v : Value) (es : List ExprD), manyL es ≤ n → manyL es ≤ 1048576 → KR w lo hi v es → hi ≤ w.heap.size →
  Calls Tryz.prog 138 #[v] w fun e w' => ∃ v', e = .returned v' ∧ KO w' w.heap.size w'.heap.size v' es ∧ Below w.heap.size w w'

set_option maxHeartbeats 1000000 in
theorem toExpr_of {n : Nat} (H : ToS n) (w : World) (lo hi : Nat) (k m a t : Int) (s : Value) (es : List ExprD) (hn : manyL es ≤ n) (hm : manyL es ≤ 1048576) (h : KR w lo hi s es) (hhi : hi ≤ w.heap.size) :
    Calls Tryz.prog 113 #[.agg #[.int .i64 k, .int .i64 m, .int .i64 a, .int .i64 t, s]] w fun e w' => ∃ s', e = .returned (.agg #[.int .i64 k, .int .i64 m, .int .i64 a, .int .i64 t, s']) ∧ KO w' w.heap.size w'.heap.size s' es ∧ Below w.heap.size w w' := by
  obtain ⟨ad, cap, rfl, hc1, hc2⟩ := h.shape
  have HK : Hid (KR w lo hi (.slice ad es.length cap) es) := h
  clear h
  go_enter Tryz.func113, Tryz.ntmps113
  go_wp2_with fail
  obtain ⟨u0, hu0, G0, X0, R0, O0, S0⟩ : ∃ u0, ((w.alloc (.cells #[.int .i64 k, .int .i64 m, .int .i64 a, .int .i64 t, .slice ad es.length cap] 119)).alloc (.cells #[.int .i64 0, .int .i64 0, .int .i64 0, .int .i64 0, .slice none 0 0] 65)).alloc (.cells #[.int .i64 k, .int .i64 m, .int .i64 0, .int .i64 0, .slice none 0 0] 65) = u0 ∧ Below w.heap.size w u0 ∧
      u0.cell? ⟨w.heap.size, 4, none⟩ = some (.slice ad es.length cap) ∧ Five u0 (w.heap.size + 1) (.int .i64 0) (.int .i64 0) (.int .i64 0) (.int .i64 0) (.slice none 0 0) ∧ Five u0 (w.heap.size + 2) (.int .i64 k) (.int .i64 m) (.int .i64 0) (.int .i64 0) (.slice none 0 0) ∧ u0.heap.size = w.heap.size + 3 := by
    have n1 := five_new w (.int .i64 k) (.int .i64 m) (.int .i64 a) (.int .i64 t) (.slice ad es.length cap) 119
    obtain ⟨w1, e1⟩ : ∃ w1, w.alloc (.cells #[.int .i64 k, .int .i64 m, .int .i64 a, .int .i64 t, .slice ad es.length cap] 119) = w1 := ⟨_, rfl⟩
    have s1 : w1.heap.size = w.heap.size + 1 := by rw [← e1]; simp
    have g1 : Below w.heap.size w w1 := by rw [← e1]; exact (Below.refl _ _).alloc (Nat.le_refl _) _
    rw [e1] at n1 ⊢
    have n2 := five_new w1 (.int .i64 0) (.int .i64 0) (.int .i64 0) (.int .i64 0) (.slice none 0 0) 65
    obtain ⟨w2, e2⟩ : ∃ w2, w1.alloc (.cells #[.int .i64 0, .int .i64 0, .int .i64 0, .int .i64 0, .slice none 0 0] 65) = w2 := ⟨_, rfl⟩
    have s2 : w2.heap.size = w1.heap.size + 1 := by rw [← e2]; simp
    have g2 : Below w1.heap.size w1 w2 := by rw [← e2]; exact (Below.refl _ _).alloc (Nat.le_refl _) _
    rw [e2] at n2 ⊢
    have n3 := five_new w2 (.int .i64 k) (.int .i64 m) (.int .i64 0) (.int .i64 0) (.slice none 0 0) 65
    have g3 : Below w2.heap.size w2 (w2.alloc (.cells #[.int .i64 k, .int .i64 m, .int .i64 0, .int .i64 0, .slice none 0 0] 65)) := (Below.refl _ _).alloc (Nat.le_refl _) _
    refine ⟨_, rfl, below_two (below_two g1 g2) g3, ((n1.under g2 (by omega)).under g3 (by omega)).c4, ?_, ?_, by rw [World.size_alloc]; omega⟩
    · have := n2.under g3 (by omega); rwa [s1] at this
    · have := n3; rwa [s2, s1] at this
  rw [hu0]
  clear hu0
  refine (toAddr_any _ ⟨a, t⟩).mono ?_
  rintro e1 u1 ⟨rfl, g1⟩
  have S1 := g1.size
  have G1 := G0.trans (g1.mono (by omega))
  have X1 : u1.cell? ⟨w.heap.size, 4, none⟩ = some (.slice ad es.length cap) := by rw [g1.cell (p := ⟨w.heap.size, 4, none⟩) (by show w.heap.size < u0.heap.size; omega)]; exact X0
  have R1 := R0.under g1 (by omega)
  have O1 := O0.under g1 (by omega)
  have ev : AddrD.val ⟨a, t⟩ = .agg #[.int .i64 a, .int .i64 t] := rfl
  rw [ev]
  clear ev
  obtain ⟨o0, o1, o2, o3, o4, of⟩ := O1
  have of2 := of 2
  have of3 := of 3
  have HF : Hid (∀ o, u1.frozen? ⟨w.heap.size + 2, o, none⟩ = false) := of
  clear g1 X0 R0 O0 G0 of
  go_wp2_with fail
  have O1 : Five u1 (w.heap.size + 2) (.int .i64 k) (.int .i64 m) (.int .i64 0) (.int .i64 0) (.slice none 0 0) := ⟨o0, o1, o2, o3, o4, HF.out⟩
  obtain ⟨u2, hu2, G2, X2, R2, O2, S2⟩ : ∃ u2, (u1.setCell ⟨w.heap.size + 2, 2, none⟩ (.int .i64 a)).setCell ⟨w.heap.size + 2, 3, none⟩ (.int .i64 t) = u2 ∧ Below w.heap.size w u2 ∧ u2.cell? ⟨w.heap.size, 4, none⟩ = some (.slice ad es.length cap) ∧ Five u2 (w.heap.size + 1) (.int .i64 0) (.int .i64 0) (.int .i64 0) (.int .i64 0) (.slice none 0 0) ∧ Five u2 (w.heap.size + 2) (.int .i64 k) (.int .i64 m) (.int .i64 a) (.int .i64 t) (.slice none 0 0) ∧ u2.heap.size = u1.heap.size :=
    ⟨_, rfl, (G1.setCell (by show w.heap.size ≤ w.heap.size + 2; omega) _).setCell (by show w.heap.size ≤ w.heap.size + 2; omega) _, by rw [cell_set_other _ (.inl (by omega)), cell_set_other _ (.inl (by omega))]; exact X1, (R1.other _ (by omega)).other _ (by omega), (O1.set2 _).set3 _, by simp [World.setCell]⟩
  rw [show w.heap.size + 1 + 1 = w.heap.size + 2 from rfl, hu2]
  clear hu2 G1 X1 R1 O1 o0 o1 o2 o3 o4 of2 of3
  refine (H _ lo hi _ es hn hm (HK.out.under G2 hhi) (by omega)).mono ?_
  rintro e2 u3 ⟨s', rfl, K3, g3⟩
  have S3 := g3.size
  have G3 := G2.trans (g3.mono (by omega))
  have R3 := R2.under g3 (by omega)
  have O3 := O2.under g3 (by omega)
  obtain ⟨ad', cap', rfl, hd1, hd2⟩ := K3.kr.shape
  obtain ⟨u4, hu4, O4, R4, G4, K4, S4⟩ : ∃ u4, u3.setCell ⟨w.heap.size + 2, 4, none⟩ (.slice ad' es.length cap') = u4 ∧ Five u4 (w.heap.size + 2) (.int .i64 k) (.int .i64 m) (.int .i64 a) (.int .i64 t) (.slice ad' es.length cap') ∧ Five u4 (w.heap.size + 1) (.int .i64 0) (.int .i64 0) (.int .i64 0) (.int .i64 0) (.slice none 0 0) ∧ Below w.heap.size w u4 ∧ KO u4 u2.heap.size u3.heap.size (.slice ad' es.length cap') es ∧ u4.heap.size = u3.heap.size :=
    ⟨_, rfl, O3.set4 _, R3.other _ (by omega), G3.setCell (by show w.heap.size ≤ w.heap.size + 2; omega) _, K3.kept fun q h1 h2 => Below.heap_setCell _ _ _ _ (by show q ≠ w.heap.size + 2; omega), by simp [World.setCell]⟩
  obtain ⟨u5, hu5, R5, G5, K5, S5⟩ : ∃ u5, ((((u4.setCell ⟨w.heap.size + 1, 0, none⟩ (.int .i64 k)).setCell ⟨w.heap.size + 1, 1, none⟩ (.int .i64 m)).setCell ⟨w.heap.size + 1, 2, none⟩ (.int .i64 a)).setCell ⟨w.heap.size + 1, 3, none⟩ (.int .i64 t)).setCell ⟨w.heap.size + 1, 4, none⟩ (.slice ad' es.length cap') = u5 ∧ Five u5 (w.heap.size + 1) (.int .i64 k) (.int .i64 m) (.int .i64 a) (.int .i64 t) (.slice ad' es.length cap') ∧ Below w.heap.size w u5 ∧ KO u5 u2.heap.size u3.heap.size (.slice ad' es.length cap') es ∧ u5.heap.size = u4.heap.size :=
    ⟨_, rfl, ((((R4.set0 _).set1 _).set2 _).set3 _).set4 _, ((((G4.setCell (by show w.heap.size ≤ w.heap.size + 1; omega) _).setCell (by show w.heap.size ≤ w.heap.size + 1; omega) _).setCell (by show w.heap.size ≤ w.heap.size + 1; omega) _).setCell (by show w.heap.size ≤ w.heap.size + 1; omega) _).setCell (by show w.heap.size ≤ w.heap.size + 1; omega) _,
      K4.kept fun q h1 h2 => by
        rw [Below.heap_setCell _ _ _ _ (by show q ≠ w.heap.size + 1; omega), Below.heap_setCell _ _ _ _ (by show q ≠ w.heap.size + 1; omega), Below.heap_setCell _ _ _ _ (by show q ≠ w.heap.size + 1; omega), Below.heap_setCell _ _ _ _ (by show q ≠ w.heap.size + 1; omega), Below.heap_setCell _ _ _ _ (by show q ≠ w.heap.size + 1; omega)], by simp [World.setCell]⟩
  have HU4 : Hid (u3.setCell ⟨w.heap.size + 2, 4, none⟩ (.slice ad' es.length cap') = u4) := hu4
  have HU5 : Hid (((((u4.setCell ⟨w.heap.size + 1, 0, none⟩ (.int .i64 k)).setCell ⟨w.heap.size + 1, 1, none⟩ (.int .i64 m)).setCell ⟨w.heap.size + 1, 2, none⟩ (.int .i64 a)).setCell ⟨w.heap.size + 1, 3, none⟩ (.int .i64 t)).setCell ⟨w.heap.size + 1, 4, none⟩ (.slice ad' es.length cap') = u5) := hu5
  have HKK : Hid (KO u5 w.heap.size u5.heap.size (.slice ad' es.length cap') es) := K5.wide (by omega) (by omega)
  have c4 := O3.c4
  have c4f := O3.f 4
  have HO4 : Hid (Five u4 (w.heap.size + 2) (.int .i64 k) (.int .i64 m) (.int .i64 a) (.int .i64 t) (.slice ad' es.length cap')) := O4
  have HR4 : Hid (Five u4 (w.heap.size + 1) (.int .i64 0) (.int .i64 0) (.int .i64 0) (.int .i64 0) (.slice none 0 0)) := R4
  have HR5 : Hid (Five u5 (w.heap.size + 1) (.int .i64 k) (.int .i64 m) (.int .i64 a) (.int .i64 t) (.slice ad' es.length cap')) := R5
  have o0 := O3.c0
  have o1 := O3.c1
  have o2 := O3.c2
  have o3 := O3.c3
  have p0 := R3.c0
  have p1 := R3.c1
  have p2 := R3.c2
  have p3 := R3.c3
  have p4 := R3.c4
  have q0 := R3.f 0
  have q1 := R3.f 1
  have q2 := R3.f 2
  have q3 := R3.f 3
  have q4 := R3.f 4
  clear hu4 hu5 K5 K4 K3 O4 R4 R5 O3 R3 g3 G3 G2 G4 X2 R2 O2 HK
  go_wp2
  rw [HU4.out, HU5.out]
  obtain ⟨r0, r1, r2, r3, r4, _⟩ := HR5.out
  exact bodyPost_ret (v := .agg #[.int .i64 k, .int .i64 m, .int .i64 a, .int .i64 t, .slice ad' es.length cap']) (by simp [results, Tryz.results113, go_sem, r0, r1, r2, r3, r4]) rfl ⟨_, rfl, HKK.out, G5⟩

theorem info_expr : (Tryz.prog.info? 65).map (fun i => (i.zero, i.size, i.bytes)) = some (some (.agg #[.int .i64 0, .int .i64 0, .int .i64 0, .int .i64 0, .slice none 0 0]), 5, 56) := by kernel_rfl

/-- Five cells stored one behind another. -/
theorem store5 {u : World} {B o : Nat} (hs : ∀ x, o ≤ x → x < o + 5 → (u.cell? ⟨B, x, none⟩).isSome = true) (v0 v1 v2 v3 v4 : Value) :
    ∃ u1, ((((u.setCell ⟨B, o, none⟩ v0).setCell ⟨B, o + 1, none⟩ v1).setCell ⟨B, o + 2, none⟩ v2).setCell ⟨B, o + 3, none⟩ v3).setCell ⟨B, o + 4, none⟩ v4 = u1 ∧
      (u1.cell? ⟨B, o, none⟩ = some v0 ∧ u1.cell? ⟨B, o + 1, none⟩ = some v1 ∧ u1.cell? ⟨B, o + 2, none⟩ = some v2 ∧ u1.cell? ⟨B, o + 3, none⟩ = some v3 ∧ u1.cell? ⟨B, o + 4, none⟩ = some v4) ∧
      (∀ b x, b ≠ B ∨ x < o ∨ o + 5 ≤ x → u1.cell? ⟨b, x, none⟩ = u.cell? ⟨b, x, none⟩) ∧ (∀ b x, u1.frozen? ⟨b, x, none⟩ = u.frozen? ⟨b, x, none⟩) ∧ (∀ k, k ≠ B → u1.heap[k]? = u.heap[k]?) ∧ u1.heap.size = u.heap.size ∧ ∀ n w, n ≤ B → Below n w u → Below n w u1 := by
  obtain ⟨x0, h0⟩ := Option.isSome_iff_exists.mp (hs o (by omega) (by omega))
  obtain ⟨x1, h1⟩ := Option.isSome_iff_exists.mp (hs (o + 1) (by omega) (by omega))
  obtain ⟨x2, h2⟩ := Option.isSome_iff_exists.mp (hs (o + 2) (by omega) (by omega))
  obtain ⟨x3, h3⟩ := Option.isSome_iff_exists.mp (hs (o + 3) (by omega) (by omega))
  obtain ⟨x4, h4⟩ := Option.isSome_iff_exists.mp (hs (o + 4) (by omega) (by omega))
  refine ⟨_, rfl, ⟨?_, ?_, ?_, ?_, ?_⟩, ?_, ?_, ?_, ?_, ?_⟩
  · rw [cell_set_other _ (.inr (by omega)), cell_set_other _ (.inr (by omega)), cell_set_other _ (.inr (by omega)), cell_set_other _ (.inr (by omega))]
    exact World.cell?_setCell_same _ _ _ h0
  · rw [cell_set_other _ (.inr (by omega)), cell_set_other _ (.inr (by omega)), cell_set_other _ (.inr (by omega))]
    exact World.cell?_setCell_same _ _ _ (by rw [cell_set_other _ (.inr (by omega))]; exact h1)
  · rw [cell_set_other _ (.inr (by omega)), cell_set_other _ (.inr (by omega))]
    exact World.cell?_setCell_same _ _ _ (by rw [cell_set_other _ (.inr (by omega)), cell_set_other _ (.inr (by omega))]; exact h2)
  · rw [cell_set_other _ (.inr (by omega))]
    exact World.cell?_setCell_same _ _ _ (by rw [cell_set_other _ (.inr (by omega)), cell_set_other _ (.inr (by omega)), cell_set_other _ (.inr (by omega))]; exact h3)
  · exact World.cell?_setCell_same _ _ _ (by rw [cell_set_other _ (.inr (by omega)), cell_set_other _ (.inr (by omega)), cell_set_other _ (.inr (by omega)), cell_set_other _ (.inr (by omega))]; exact h4)
  · intro b x hx
    rw [cell_set_other _ (by omega), cell_set_other _ (by omega), cell_set_other _ (by omega), cell_set_other _ (by omega), cell_set_other _ (by omega)]
  · intro b x
    rw [World.frozen?_setCell, World.frozen?_setCell, World.frozen?_setCell, World.frozen?_setCell, World.frozen?_setCell]
  · intro k hk
    rw [Below.heap_setCell _ _ _ _ hk, Below.heap_setCell _ _ _ _ hk, Below.heap_setCell _ _ _ _ hk, Below.heap_setCell _ _ _ _ hk, Below.heap_setCell _ _ _ _ hk]
  · simp [World.setCell]
  · intro n w hn hb
    exact ((((hb.setCell hn _).setCell hn _).setCell hn _).setCell hn _).setCell hn _

/-- What holds as toExprS has copied j of the parts. -/
structure ToI (w : World) (es : List ExprD) (j : Nat) (wr : World) : Prop where
  below : Below w.heap.size w wr
  size : w.heap.size < wr.heap.size
  some_ : ∀ x, x < es.length * 5 → (wr.cell? ⟨w.heap.size, x, none⟩).isSome = true
  frozen : ∀ x, wr.frozen? ⟨w.heap.size, x, none⟩ = false
  done : ∃ (ss : Nat → Value) (l h : Nat → Nat), (∀ i e, i < j → es[i]? = some e → Cell5 wr w.heap.size (i * 5) e (ss i) ∧ KO wr (l i) (h i) (ss i) e.kids) ∧ (∀ i, i < j → w.heap.size < l i ∧ h i ≤ wr.heap.size) ∧ ∀ i i', i < i' → i' < j → h i ≤ l i'

theorem ToI.ko {w wr : World} {es : List ExprD} (h : ToI w es es.length wr) (hm : es.length ≤ maxLen) : KO wr w.heap.size wr.heap.size (.slice (some ⟨w.heap.size, 0, none⟩) es.length es.length) es := by
  obtain ⟨hb, hs, hsm, hf, ss, l, h', h1, h2, h3⟩ := h
  by_cases he : es = []
  · subst he; exact .nil _ _ _ _ hm
  · refine .cons _ _ w.heap.size 0 es.length es ss l h' he (Nat.le_refl _) hm (Nat.le_refl _) hs (fun o => by rw [Nat.zero_add]; exact hf o) (fun i e hie => ?_) (fun i hi => ?_) (fun i i' hlt hi' => .inl (h3 i i' hlt hi')) fun i e hie => ?_
    · have hil : i < es.length := (List.getElem?_eq_some_iff.mp hie).1
      rw [Nat.zero_add]; exact (h1 i e hil hie).1
    · have := h2 i hi; omega
    · exact (h1 i e (List.getElem?_eq_some_iff.mp hie).1 hie).2

theorem ToI.next {w wr w1 u : World} {es : List ExprD} {j : Nat} {e : ExprD} {s : Value} (h : ToI w es j wr) (he : es[j]? = some e) (hb : Below wr.heap.size wr w1) (hk : KO w1 wr.heap.size w1.heap.size s e.kids)
    (hc : u.cell? ⟨w.heap.size, j * 5, none⟩ = some (.int .i64 e.k) ∧ u.cell? ⟨w.heap.size, j * 5 + 1, none⟩ = some (.int .i64 e.n) ∧ u.cell? ⟨w.heap.size, j * 5 + 2, none⟩ = some (.int .i64 e.ak) ∧ u.cell? ⟨w.heap.size, j * 5 + 3, none⟩ = some (.int .i64 e.at_) ∧ u.cell? ⟨w.heap.size, j * 5 + 4, none⟩ = some s)
    (ho : ∀ b x, b ≠ w.heap.size ∨ x < j * 5 ∨ j * 5 + 5 ≤ x → u.cell? ⟨b, x, none⟩ = w1.cell? ⟨b, x, none⟩) (hf : ∀ b x, u.frozen? ⟨b, x, none⟩ = w1.frozen? ⟨b, x, none⟩) (hh : ∀ k, k ≠ w.heap.size → u.heap[k]? = w1.heap[k]?) (hz : u.heap.size = w1.heap.size)
    (hbl : ∀ n w', n ≤ w.heap.size → Below n w' w1 → Below n w' u) : ToI w es (j + 1) u := by
  obtain ⟨hb0, hs, hsm, hfr, ss, l, h', h1, h2, h3⟩ := h
  have hs1 := hb.size
  have hcell : ∀ x, w1.cell? ⟨w.heap.size, x, none⟩ = wr.cell? ⟨w.heap.size, x, none⟩ := fun x => hb.cell (p := ⟨w.heap.size, x, none⟩) hs
  refine ⟨hbl _ _ (Nat.le_refl _) (hb0.trans (hb.mono (by omega))), by omega, fun x hx => ?_, fun x => ?_, fun i => if i = j then s else ss i, fun i => if i = j then wr.heap.size else l i, fun i => if i = j then w1.heap.size else h' i, fun i e' hi hie => ?_, fun i hi => ?_, fun i i' hlt hi' => ?_⟩
  · by_cases hin : j * 5 ≤ x ∧ x < j * 5 + 5
    · obtain ⟨c0, c1, c2, c3, c4⟩ := hc
      obtain rfl | rfl | rfl | rfl | rfl : x = j * 5 ∨ x = j * 5 + 1 ∨ x = j * 5 + 2 ∨ x = j * 5 + 3 ∨ x = j * 5 + 4 := by omega
      · rw [c0]; rfl
      · rw [c1]; rfl
      · rw [c2]; rfl
      · rw [c3]; rfl
      · rw [c4]; rfl
    · rw [ho _ _ (by omega), hcell]; exact hsm x hx
  · rw [hf, hb.frozen (p := ⟨w.heap.size, x, none⟩) hs]; exact hfr x
  · by_cases ej : i = j
    · subst ej
      rw [he] at hie
      cases hie
      simp only [if_true]
      exact ⟨⟨hc.1, hc.2.1, hc.2.2.1, hc.2.2.2.1, hc.2.2.2.2⟩, hk.kept fun q q1 q2 => hh q (by omega)⟩
    · simp only [if_neg ej]
      have hij : i < j := by omega
      obtain ⟨d, dk⟩ := h1 i e' hij hie
      have hli := h2 i hij
      refine ⟨⟨?_, ?_, ?_, ?_, ?_⟩, dk.kept fun q q1 q2 => ?_⟩
      · rw [ho _ _ (by omega), hcell]; exact d.c0
      · rw [ho _ _ (by omega), hcell]; exact d.c1
      · rw [ho _ _ (by omega), hcell]; exact d.c2
      · rw [ho _ _ (by omega), hcell]; exact d.c3
      · rw [ho _ _ (by omega), hcell]; exact d.c4
      · rw [hh q (by omega)]; exact hb.block q (by omega)
  · by_cases ej : i = j
    · simp only [if_pos ej]; omega
    · simp only [if_neg ej]
      have := h2 i (by omega)
      omega
  · by_cases ej : i' = j
    · have hne : i ≠ j := by omega
      simp only [if_pos ej, if_neg hne]
      have := h2 i (by omega)
      omega
    · have hne : i ≠ j := by omega
      simp only [if_neg ej, if_neg hne]
      exact h3 i i' hlt (by omega)

set_option maxHeartbeats 2000000 in
theorem toExprS_step {n : Nat} (H : ∀ m, m < n → ToS m) : ToS n := by
  intro w lo hi v es hn hm h hhi
  obtain ⟨ad, cap, rfl, hc1, hc2⟩ := h.shape
  have hlm := length_le_manyL es
  have hmx : es.length ≤ 1048576 := by omega
  obtain ⟨i0, hi0, hz0, hz1, hz2⟩ := info_parts info_expr
  have HK : Hid (KR w lo hi (.slice ad es.length cap) es) := h
  have HM : Hid (manyL es ≤ 1048576 ∧ manyL es ≤ n) := ⟨hm, hn⟩
  clear h hlm hm hn hc1 hc2
  go_enter Tryz.func138, Tryz.ntmps138
  go_wp2_with (at_make; refine wpList_make_full _ rfl _ _ 63 rfl w.heap.size 65 i0 (.agg #[.int .i64 0, .int .i64 0, .int .i64 0, .int .i64 0, .slice none 0 0]) 5 Tryz.underlying63 hi0 hz0 hz1 .i64 .i64 _ _ es.length rfl rfl rfl rfl (by rw [hz2]; omega) (by unfold maxLen; omega) (Nat.le_refl _) ?_; intro w1 hown hgrow)
  have hI : ToI w es 0 w1 := by
    have hb1 : Below w.heap.size w w1 := (Below.refl _ _).grown hgrow (Nat.le_refl _) (fun k h => by cases h)
    refine ⟨hb1, hown.2.elim (fun h => by simp at h) fun ⟨g, cap, cur, hv, hg, hh, _⟩ => ?_, fun x hx => ?_, fun x => hown.frozenAt x, fun _ => .slice none 0 0, fun _ => 0, fun _ => 0, fun i e hi => by omega, fun i hi => by omega, fun i i' h1 h2 => by omega⟩
    · simp only [Value.slice.injEq, Option.some.injEq, Addr.mk.injEq, and_true, true_and] at hv
      obtain ⟨rfl, _⟩ := hv
      exact (Array.getElem?_eq_some_iff.mp hh).1
    · rw [hown.cellAt x hx]
      have hl := hown.1
      rw [List.getElem?_eq_getElem (by omega)]
      rfl
  clear hown hgrow hz0 hz1 hz2 hi0
  go_loopw [4] (fun i wr => ∃ j : Nat, j ≤ es.length ∧ i = .int .i64 j ∧ ToI w es j wr) (fun i _ => es.length - (intOf i).toNat)
  case atStart => exact ⟨0, Nat.zero_le _, rfl, hI⟩
  case round =>
    clear hI
    obtain ⟨j, hj, rfl, hI⟩ := hrel
    by_cases hlt : j < es.length
    · obtain ⟨e, he⟩ : ∃ e, es[j]? = some e := ⟨es[j], List.getElem?_eq_getElem hlt⟩
      obtain ⟨b, off, cap', s, hv, hb1, hb2, h5, hk⟩ := HK.out.at_ he
      simp only [Value.slice.injEq, true_and] at hv
      obtain ⟨rfl, rfl⟩ := hv
      obtain ⟨c0, c1, c2, c3, c4⟩ := h5
      have hkl := kid_lt he
      have hmm := HM.out
      have hb := hI.below
      have hz := toExpr_of (n := manyL e.kids) (H _ (by omega)) wr lo hi e.k e.n e.ak e.at_ s e.kids (Nat.le_refl _) (by omega) (hk.under hb hhi) (Nat.le_trans hhi hb.size)
      rw [← hb.cell (p := ⟨b, off + j * 5, none⟩) (by show b < _; omega)] at c0
      rw [← hb.cell (p := ⟨b, off + j * 5 + 1, none⟩) (by show b < _; omega)] at c1
      rw [← hb.cell (p := ⟨b, off + j * 5 + 2, none⟩) (by show b < _; omega)] at c2
      rw [← hb.cell (p := ⟨b, off + j * 5 + 3, none⟩) (by show b < _; omega)] at c3
      rw [← hb.cell (p := ⟨b, off + j * 5 + 4, none⟩) (by show b < _; omega)] at c4
      have HI : Hid (ToI w es j wr) := hI
      have HE : Hid (es[j]? = some e) := he
      obtain ⟨ads, cps, rfl, _, _⟩ := hk.shape
      clear hk hI hb hkl hmm he
      go_wp2_with fail
      refine hz.mono ?_
      rintro e1 w2 ⟨s', rfl, K2, g2⟩
      obtain ⟨ad', cap', rfl, _, _⟩ := K2.kr.shape
      have hI := HI.out
      have hsm : ∀ x, j * 5 ≤ x → x < j * 5 + 5 → (w2.cell? ⟨w.heap.size, x, none⟩).isSome = true := fun x h1 h2 => by
        rw [g2.cell (p := ⟨w.heap.size, x, none⟩) hI.size]; exact hI.some_ x (by omega)
      have hfz : ∀ x, w2.frozen? ⟨w.heap.size, x, none⟩ = false := fun x => by
        rw [g2.frozen (p := ⟨w.heap.size, x, none⟩) hI.size]; exact hI.frozen x
      obtain ⟨u, hu, hc, ho, hff, hh, hzz, hbl⟩ := store5 hsm (.int .i64 e.k) (.int .i64 e.n) (.int .i64 e.ak) (.int .i64 e.at_) (.slice ad' e.kids.length cap')
      have HN : Hid (ToI w es (j + 1) u) := hI.next HE.out g2 K2 hc ho hff hh hzz hbl
      have HU : Hid (((((w2.setCell ⟨w.heap.size, j * 5, none⟩ (.int .i64 e.k)).setCell ⟨w.heap.size, j * 5 + 1, none⟩ (.int .i64 e.n)).setCell ⟨w.heap.size, j * 5 + 2, none⟩ (.int .i64 e.ak)).setCell ⟨w.heap.size, j * 5 + 3, none⟩ (.int .i64 e.at_)).setCell ⟨w.heap.size, j * 5 + 4, none⟩ (.slice ad' e.kids.length cap') = u) := hu
      obtain ⟨y0, x0⟩ := Option.isSome_iff_exists.mp (hsm (j * 5) (by omega) (by omega))
      obtain ⟨y1, x1⟩ := Option.isSome_iff_exists.mp (hsm (j * 5 + 1) (by omega) (by omega))
      obtain ⟨y2, x2⟩ := Option.isSome_iff_exists.mp (hsm (j * 5 + 2) (by omega) (by omega))
      obtain ⟨y3, x3⟩ := Option.isSome_iff_exists.mp (hsm (j * 5 + 3) (by omega) (by omega))
      obtain ⟨y4, x4⟩ := Option.isSome_iff_exists.mp (hsm (j * 5 + 4) (by omega) (by omega))
      have f0 := hfz (j * 5)
      have f1 := hfz (j * 5 + 1)
      have f2 := hfz (j * 5 + 2)
      have f3 := hfz (j * 5 + 3)
      have f4 := hfz (j * 5 + 4)
      clear hu hc ho hff hh hzz hbl hsm hfz hI K2 g2 c0 c1 c2 c3 c4
      go_wp2
      rw [HU.out]
      go_roundw
      case rel => exact ⟨j + 1, by omega, by go_num, HN.out⟩
      case measure => simp [intOf]; omega
    · obtain rfl : j = es.length := by omega
      have HI : Hid (ToI w es es.length wr) := hI
      clear hI
      go_wp2
      go_ret
      exact ⟨_, rfl, HI.out.ko (by unfold maxLen; omega), HI.out.below⟩

theorem toS (n : Nat) : ToS n := by
  induction n using Nat.strongRecOn with
  | ind n ih => exact toExprS_step ih

theorem toExpr_any (w : World) (lo hi : Nat) (v : Value) (e : ExprD) (h : ER w lo hi v e) (hhi : hi ≤ w.heap.size) (hm : manyL e.kids ≤ 1048576) :
    Calls Tryz.prog 113 #[v] w fun en w' => ∃ v', en = .returned v' ∧ EO w' w.heap.size w'.heap.size v' e ∧ Below w.heap.size w w' := by
  obtain ⟨s, rfl, hk⟩ := h
  refine (toExpr_of (toS _) w lo hi _ _ _ _ s e.kids (Nat.le_refl _) hm hk hhi).mono ?_
  rintro en w' ⟨s', rfl, hk', hb⟩
  exact ⟨_, rfl, ⟨s', rfl, hk'⟩, hb⟩
end Go.Proofs.YtokphdpaghkakaaGreat

/-
  toTrans, toTransS, toAct, toActS, toChart: the laws' helpers that copy charts into new memory.
-/
namespace Go.Proofs.YtokphdpaghkakaaGreat
open Go.ChangeShapes Go.WideShapes Go.ChangeAt Go.RowKit
set_option linter.unusedVariables false
set_option linter.unusedSimpArgs false
set_option maxRecDepth 100000

theorem OI.shape {w : World} {lo hi : Nat} {v : Value} {xs : List Int} (h : OI w lo hi v xs) : ∃ a cap, v = .slice a xs.length cap := by
  obtain ⟨a, cap, hv, _⟩ := h.si; exact ⟨a, cap, hv⟩

def noExpr : ExprD := .mk 0 0 0 0 []
def zSl : Value := .slice none 0 0

theorem zero_trans : (Tryz.prog.info? 67).map (fun i => (i.zero, i.size)) = some (some (.agg (transC zSl zSl noExpr zSl).toArray), 7) := by kernel_rfl
theorem info_trans : (Tryz.prog.info? 67).map (fun i => (i.zero, i.size, i.bytes)) = some (some (.agg (transC zSl zSl noExpr zSl).toArray), 7, 104) := by kernel_rfl

set_option maxHeartbeats 8000000 in
theorem toTrans_any (w : World) (lo hi : Nat) (x y s : Value) (t : TransD) (h : WayR w lo hi x y s t) (hhi : hi ≤ w.heap.size) (hm : t.many ≤ 1048576) :
    Calls Tryz.prog 76 #[.agg (transC x y t.e s).toArray] w fun e w' => ∃ x' y' s' m n, e = .returned (.agg (transC x' y' t.e s').toArray) ∧ WayO w' w.heap.size m n w'.heap.size x' y' s' t ∧ Below w.heap.size w w' := by
  have hZ := (zero_of_info (P := Tryz.prog) zero_trans).1
  unfold TransD.many at hm
  have hm1 : t.fr.length ≤ 1048576 := by omega
  have hm2 : t.to.length ≤ 1048576 := by omega
  have hm3 : manyL t.e.kids ≤ 1048576 := by omega
  clear hm
  obtain ⟨ax, cx, ay, cy, az, cz, rfl, rfl, rfl⟩ := h.shape
  have HW : Hid (WayR w lo hi (.slice ax t.fr.length cx) (.slice ay t.to.length cy) (.slice az t.e.kids.length cz) t) := h
  clear h
  go_enter Tryz.func76, Tryz.ntmps76
  go_wp2_with (refine wpList_boxG (vs := transC (.slice ax t.fr.length cx) (.slice ay t.to.length cy) t.e (.slice az t.e.kids.length cz)) rfl _ rfl rfl ?_)
  intro u1 g1 p1 s1
  go_wp2_with (refine wpList_allocG hZ rfl rfl ?_)
  intro u2 g2 q2 s2
  replace p1 := p1.below g2 (by omega)
  have G2 := g1.trans (g2.mono (by omega))
  clear g1 g2
  go_wp2_with (refine wpList_allocG hZ rfl rfl ?_)
  intro u3 g3 r3 s3
  have p3 := p1.below g3 (by omega)
  have q3 := q2.below g3 (by omega)
  have G3 := G2.trans (g3.mono (by omega))
  clear g3 G2 p1 q2
  have c0 : u3.cell? ⟨w.heap.size, 0, none⟩ = some (.slice ax t.fr.length cx) := p3.c 0 _ rfl
  go_wp2_with fail
  clear c0
  refine (toIntS_any _ lo hi _ t.fr (HW.out.fr.below G3 hhi) (by omega) hm1).mono ?_
  rintro e4 u4 ⟨v4, rfl, O4, g4⟩
  have s4 := g4.size
  obtain ⟨a4, c4, rfl⟩ := O4.shape
  have p4 := p3.below g4 (by omega)
  have q4 := q3.below g4 (by omega)
  have r4 := r3.below g4 (by omega)
  have G4 := G3.trans (g4.mono (by omega))
  clear g4 p3 q3 r3 G3
  go_wp2_with (refine wpList_store1G Tryz.sizeOf29 _ _ rfl rfl rfl rfl rfl rfl (r4.one (show 0 < 7 by decide)) (r4.f _) ?_)
  intro u5 L
  have s5 := L.size
  have r5 := r4.laid L (ws := transC (.slice a4 t.fr.length c4) zSl noExpr zSl) rfl (show 0 + 1 ≤ 7 by decide)
  have p5 := L.other p4 (by omega)
  have q5 := L.other q4 (by omega)
  have O5 := O4.kept fun k h1 h2 => L.block k (by omega)
  have G5 := L.below _ _ (by omega) G4
  clear L r4 p4 q4 G4 O4
  have c1 : u5.cell? ⟨w.heap.size, 1, none⟩ = some (.slice ay t.to.length cy) := p5.c 1 _ rfl
  go_wp2_with fail
  clear c1
  refine (toIntS_any _ lo hi _ t.to (HW.out.to.below G5 hhi) (by omega) hm2).mono ?_
  rintro e6 u6 ⟨v6, rfl, O6, g6⟩
  have s6 := g6.size
  obtain ⟨a6, c6, rfl⟩ := O6.shape
  have p6 := p5.below g6 (by omega)
  have q6 := q5.below g6 (by omega)
  have r6 := r5.below g6 (by omega)
  replace O5 := O5.below g6 (by omega)
  have G6 := G5.trans (g6.mono (by omega))
  clear g6 p5 q5 r5 G5
  go_wp2_with (refine wpList_store1G Tryz.sizeOf29 _ _ rfl rfl rfl rfl rfl rfl (r6.one (show 1 < 7 by decide)) (r6.f _) ?_)
  intro u7 L
  have s7 := L.size
  have r7 := r6.laid L (ws := transC (.slice a4 t.fr.length c4) (.slice a6 t.to.length c6) noExpr zSl) rfl (show 1 + 1 ≤ 7 by decide)
  have p7 := L.other p6 (by omega)
  have q7 := L.other q6 (by omega)
  have O7 := O5.kept fun k h1 h2 => L.block k (by omega)
  have O7' := O6.kept fun k h1 h2 => L.block k (by omega)
  have G7 := L.below _ _ (by omega) G6
  clear L r6 p6 q6 G6 O5 O6
  have hc : CV u7 w.heap.size 2 (exprC t.e (.slice az t.e.kids.length cz)) := p7.c.part 2 5
  go_wp2_with (refine wpList_loadG Tryz.isAgg119 Tryz.sizeOf119 _ rfl rfl rfl rfl hc ?_)
  clear hc
  refine (toExpr_any _ lo hi _ t.e ⟨_, rfl, HW.out.e.under G7 hhi⟩ (by omega) hm3).mono ?_
  rintro e8 u8 ⟨v8, rfl, ⟨z8, rfl, O8⟩, g8⟩
  have s8 := g8.size
  obtain ⟨a8, c8, rfl, _, _⟩ := O8.kr.shape
  have q8 := q7.below g8 (by omega)
  have r8 := r7.below g8 (by omega)
  replace O7 := O7.below g8 (by omega)
  replace O7' := O7'.below g8 (by omega)
  have G8 := G7.trans (g8.mono (by omega))
  clear g8 p7 q7 r7 G7
  have hr := r8.run 2 5 (show 2 + 5 ≤ 7 by decide)
  go_wp2_with (refine wpList_storeG Tryz.sizeOf65 _ _ rfl rfl rfl (vs := exprC t.e (.slice a8 t.e.kids.length c8)) rfl rfl (exprC_one t.e rfl) hr.1 hr.2 ?_)
  intro u9 L
  have s9 := L.size
  have r9 := r8.laid L (ws := transC (.slice a4 t.fr.length c4) (.slice a6 t.to.length c6) t.e (.slice a8 t.e.kids.length c8)) rfl (show 2 + 5 ≤ 7 by decide)
  have q9 := L.other q8 (by omega)
  have A9 := O7.kept fun k h1 h2 => L.block k (by omega)
  have B9 := O7'.kept fun k h1 h2 => L.block k (by omega)
  have D9 := O8.kept fun k h1 h2 => L.block k (by omega)
  have G9 := L.below _ _ (by omega) G8
  clear L r8 q8 G8 O7 O7' O8 hr
  have hr := q9.run 0 7 (show 0 + 7 ≤ 7 by decide)
  go_wp2_with (first
    | refine wpList_loadG Tryz.isAgg67 Tryz.sizeOf67 _ rfl rfl rfl rfl r9.c ?_
    | refine wpList_storeG Tryz.sizeOf67 _ _ rfl rfl rfl rfl rfl (transC_one t.e rfl rfl rfl) hr.1 hr.2 ?_)
  intro u10 L
  have s10 := L.size
  have q10 := L.var q9
  have A10 := A9.kept fun k h1 h2 => L.block k (by omega)
  have B10 := B9.kept fun k h1 h2 => L.block k (by omega)
  have D10 := D9.kept fun k h1 h2 => L.block k (by omega)
  have G10 := L.below _ _ (by omega) G9
  clear L r9 q9 G9 A9 B9 D9 hr
  go_wp2
  refine bodyPost_ret (v := .agg (transC (.slice a4 t.fr.length c4) (.slice a6 t.to.length c6) t.e (.slice a8 t.e.kids.length c8)).toArray) ?_ rfl ⟨_, _, _, u5.heap.size, u7.heap.size, rfl, ⟨A10.wide (by omega) (by omega), B10.wide (by omega) (by omega), D10.wide (by omega) (by omega), by omega⟩, G10⟩
  simp [results, Tryz.results76]
  exact run_loadVarG (P := Tryz.prog) Tryz.isAgg67 Tryz.sizeOf67 rfl q10.c

/-- What holds as a copy has put j of the ways into the block g. -/
structure ToT (w : World) (g : Nat) (ts : List TransD) (j : Nat) (wr : World) : Prop where
  below : Below g w wr
  size : g < wr.heap.size
  some_ : ∀ x, x < ts.length * 7 → (wr.cell? ⟨g, x, none⟩).isSome = true
  frozen : ∀ x, wr.frozen? ⟨g, x, none⟩ = false
  done : ∃ (xs ys ss : Nat → Value) (l m n h : Nat → Nat), (∀ (i : Nat) (t : TransD), i < j → ts[i]? = some t → CV wr g (i * 7) (transC (xs i) (ys i) t.e (ss i)) ∧ WayO wr (l i) (m i) (n i) (h i) (xs i) (ys i) (ss i) t) ∧
    (∀ i, i < j → g < l i ∧ h i ≤ wr.heap.size) ∧ ∀ (i i' : Nat), i < i' → i' < j → h i ≤ l i'

theorem toT_start {w w1 : World} {T : TypeId} {ts : List TransD} {z : List Value} (hown : w1.ownsRow w.heap.size T 7 (.slice (some ⟨w.heap.size, 0, none⟩) ts.length ts.length) ts.length z) (hgrow : w.grownBy w1 none) : ToT w w.heap.size ts 0 w1 := by
  refine ⟨(Below.refl _ _).grown hgrow (Nat.le_refl _) (fun k h => by cases h), hown.2.elim (fun h => by simp at h) fun ⟨g, cap, cur, hv, hg, hh, _⟩ => ?_, fun x hx => ?_, fun x => hown.frozenAt x, fun _ => zSl, fun _ => zSl, fun _ => zSl, fun _ => 0, fun _ => 0, fun _ => 0, fun _ => 0, fun i p hi => by omega, fun i hi => by omega, fun i i' h1 h2 => by omega⟩
  · simp only [Value.slice.injEq, Option.some.injEq, Addr.mk.injEq, and_true, true_and] at hv
    obtain ⟨rfl, _⟩ := hv
    exact (Array.getElem?_eq_some_iff.mp hh).1
  · rw [hown.cellAt x hx]
    have hl := hown.1
    rw [List.getElem?_eq_getElem (by omega)]
    rfl

theorem ToT.stores {w wr w2 : World} {g : Nat} {ts : List TransD} {j : Nat} (h : ToT w g ts j wr) (hb : Below wr.heap.size wr w2) (hj : j < ts.length) : (∀ y, j * 7 ≤ y → y < j * 7 + 7 → (w2.cell? ⟨g, y, none⟩).isSome = true) ∧ ∀ y, j * 7 ≤ y → y < j * 7 + 7 → w2.frozen? ⟨g, y, none⟩ = false :=
  ⟨fun y h1 h2 => by rw [hb.cell (p := ⟨g, y, none⟩) h.size]; exact h.some_ y (by omega), fun y h1 h2 => by rw [hb.frozen (p := ⟨g, y, none⟩) h.size]; exact h.frozen y⟩

theorem ToT.next {w wr w2 u : World} {g : Nat} {ts : List TransD} {j : Nat} {t : TransD} {x y s : Value} {m0 n0 : Nat} (h : ToT w g ts j wr) (he : ts[j]? = some t) (hb : Below wr.heap.size wr w2) (ho : WayO w2 wr.heap.size m0 n0 w2.heap.size x y s t) (hL : LaidG w2 u g (j * 7) (transC x y t.e s)) : ToT w g ts (j + 1) u := by
  obtain ⟨hb0, hs, hsm, hfr, xs, ys, ss, l, m, n, hh, h1, h2, h3⟩ := h
  have hs1 := hb.size
  have hz := hL.size
  have hlen : (transC x y t.e s).length = 7 := rfl
  have hcell : ∀ q, w2.cell? ⟨g, q, none⟩ = wr.cell? ⟨g, q, none⟩ := fun q => hb.cell (p := ⟨g, q, none⟩) hs
  refine ⟨hL.below _ _ (Nat.le_refl _) (hb0.trans (hb.mono (by omega))), by omega, fun q hq => ?_, fun q => ?_,
    fun i => if i = j then x else xs i, fun i => if i = j then y else ys i, fun i => if i = j then s else ss i, fun i => if i = j then wr.heap.size else l i, fun i => if i = j then m0 else m i, fun i => if i = j then n0 else n i, fun i => if i = j then w2.heap.size else hh i, fun i e' hi hie => ?_, fun i hi => ?_, fun i i' hi hi' => ?_⟩
  · by_cases hin : j * 7 ≤ q ∧ q < j * 7 + 7
    · exact hL.cv.some_ hin.1 (by omega)
    · rw [hL.cell _ _ (by omega), hcell]; exact hsm q hq
  · rw [hL.frozen, hb.frozen (p := ⟨g, q, none⟩) hs]; exact hfr q
  · by_cases ej : i = j
    · subst ej
      rw [he] at hie
      cases hie
      simp only [if_pos]
      exact ⟨hL.cv, ho.kept fun k q1 q2 => hL.block k (by omega)⟩
    · obtain ⟨hc, hw⟩ := h1 i e' (by omega) hie
      have hi2 := h2 i (by omega)
      simp only [if_neg ej]
      refine ⟨?_, hw.kept fun k q1 q2 => by rw [hL.block k (by omega)]; exact hb.block k (by omega)⟩
      intro q v hq
      have hql : q < 7 := (List.getElem?_eq_some_iff.mp hq).1
      rw [hL.cell _ _ (by omega), hcell]
      exact hc q v hq
  · by_cases ej : i = j
    · simp only [if_pos ej]; exact ⟨by omega, by omega⟩
    · have := h2 i (by omega)
      simp only [if_neg ej]; omega
  · by_cases ej : i' = j
    · have := h2 i (by omega)
      show (if i = j then w2.heap.size else hh i) ≤ (if i' = j then wr.heap.size else l i')
      rw [if_neg (by omega), if_pos ej]; omega
    · show (if i = j then w2.heap.size else hh i) ≤ (if i' = j then wr.heap.size else l i')
      rw [if_neg (by omega), if_neg ej]; exact h3 i i' hi (by omega)

theorem ToT.to {w wr : World} {g : Nat} {ts : List TransD} (h : ToT w g ts ts.length wr) (hm : ts.length ≤ maxLen) : TO wr g wr.heap.size (.slice (some ⟨g, 0, none⟩) ts.length ts.length) ts := by
  obtain ⟨hb0, hs, hsm, hfr, xs, ys, ss, l, m, n, hh, h1, h2, h3⟩ := h
  refine .inr ⟨_, 0, _, xs, ys, ss, l, m, n, hh, rfl, Nat.le_refl _, hm, Nat.le_refl _, hs, fun i t ht => ?_, fun i hi => h2 i hi, fun i i' hi hi' => h3 i i' hi hi', fun o => by rw [Nat.zero_add]; exact hfr o⟩
  rw [Nat.zero_add]
  exact h1 i t (List.getElem?_eq_some_iff.mp ht).1 ht

set_option maxHeartbeats 4000000 in
theorem toTransS_any (w : World) (lo hi : Nat) (v : Value) (ps : List TransD) (h : TR w lo hi v ps) (hhi : hi ≤ w.heap.size) (hm : manyT ps ≤ 1048576) :
    Calls Tryz.prog 39 #[v] w fun e w' => ∃ v', e = .returned v' ∧ TO w' w.heap.size w'.heap.size v' ps ∧ Below w.heap.size w w' := by
  obtain ⟨ad, cap, rfl, hc1, hc2⟩ := h.shape
  obtain ⟨i0, hi0, hz0, hz1, hz2⟩ := info_parts info_trans
  have hlm := length_le_manyT ps
  have hm' : ps.length ≤ 1048576 := by omega
  have HM : Hid (manyT ps ≤ 1048576) := hm
  have HK : Hid (TR w lo hi (.slice ad ps.length cap) ps) := h
  clear h hc1 hc2 hlm hm
  go_enter Tryz.func39, Tryz.ntmps39
  go_wp2_with (at_make; refine wpList_make_full _ rfl _ _ 36 rfl w.heap.size 67 i0 (.agg (transC zSl zSl noExpr zSl).toArray) 7 Tryz.underlying36 hi0 hz0 hz1 .i64 .i64 _ _ ps.length rfl rfl rfl rfl (by rw [hz2]; omega) (by unfold maxLen; omega) (Nat.le_refl _) ?_; intro w1 hown hgrow)
  have hI : ToT w w.heap.size ps 0 w1 := toT_start hown hgrow
  clear hown hgrow hz0 hz1 hz2 hi0
  go_loopw [4] (fun i wr => ∃ j : Nat, j ≤ ps.length ∧ i = .int .i64 j ∧ ToT w w.heap.size ps j wr) (fun i _ => ps.length - (intOf i).toNat)
  case atStart => exact ⟨0, Nat.zero_le _, rfl, hI⟩
  case round =>
    clear hI
    obtain ⟨j, hj, rfl, hI⟩ := hrel
    by_cases hlt : j < ps.length
    · obtain ⟨t, he⟩ : ∃ p, ps[j]? = some p := ⟨ps[j], List.getElem?_eq_getElem hlt⟩
      obtain ⟨b, off, cap', x, y, s, hv, hb1, hb2, h5, hk⟩ := HK.out.at_ he
      simp only [Value.slice.injEq, true_and] at hv
      obtain ⟨rfl, rfl⟩ := hv
      have hb := hI.below
      have hc : CV wr b (off + j * 7) (transC x y t.e s) := h5.kept (hb.block b (by omega))
      have hz := toTrans_any wr lo hi x y s t (hk.under hb hhi) (by have := hb.size; omega) (by have := many_le_manyT he; have := HM.out; omega)
      have HIc : Hid (ToT w w.heap.size ps j wr) := hI
      have HE : Hid (ps[j]? = some t) := he
      clear hI hb he h5 hk
      go_wp2_with (refine wpList_loadG Tryz.isAgg121 Tryz.sizeOf121 _ rfl rfl rfl rfl hc ?_)
      refine hz.mono ?_
      rintro e1 w2 ⟨x', y', s', m0, n0, rfl, ho, g2⟩
      obtain ⟨hs, hf⟩ := HIc.out.stores g2 hlt
      obtain ⟨ax, cx, ay, cy, az, cz, rfl, rfl, rfl⟩ := ho.r.shape
      have HOc : Hid (WayO w2 wr.heap.size m0 n0 w2.heap.size (.slice ax t.fr.length cx) (.slice ay t.to.length cy) (.slice az t.e.kids.length cz) t) := ho
      clear hc hz ho
      go_wp2_with (refine wpList_storeG Tryz.sizeOf67 _ _ rfl rfl rfl rfl rfl (transC_one t.e rfl rfl rfl) hs hf ?_)
      intro u L
      have HN : Hid (ToT w w.heap.size ps (j + 1) u) := HIc.out.next HE.out g2 HOc.out L
      clear hs hf L g2
      go_wp2
      go_roundw
      case rel => exact ⟨j + 1, by omega, by go_num, HN.out⟩
      case measure => simp [intOf]; omega
    · obtain rfl : j = ps.length := by omega
      have HIc : Hid (ToT w w.heap.size ps ps.length wr) := hI
      clear hI
      go_wp2
      go_ret
      exact ⟨_, rfl, HIc.out.to (by unfold maxLen; omega), HIc.out.below⟩

theorem info_act : (Tryz.prog.info? 96).map (fun i => (i.zero, i.size, i.bytes)) = some (some (.agg (actC ⟨0, 0, 0, 0⟩).toArray), 4, 32) := by kernel_rfl
set_option maxHeartbeats 4000000 in
theorem toAct_any (w : World) (s : ActD) :
    Calls Tryz.prog 77 #[.agg (actC s).toArray] w fun e w' => e = .returned (.agg (actC s).toArray) ∧ Below w.heap.size w w' := by
  obtain ⟨k, st, ak, aat⟩ := s
  unfold actC
  go_enter Tryz.func77, Tryz.ntmps77
  go_wp2
  refine bodyPost_ret (v := .agg #[.int .i64 ak, .int .i64 aat]) (by simp [results, Tryz.results114, go_sem]) rfl ?_
  go_wp2
  refine bodyPost_ret (v := .agg #[.int .i64 k, .int .i64 st, .int .i64 ak, .int .i64 aat]) (by simp [results, Tryz.results77, go_sem]) rfl ⟨rfl, ?_⟩
  repeat' first
    | exact Below.refl _ _
    | refine Below.alloc ?_ ?_ _
    | refine Below.setCell ?_ ?_ _
  all_goals simp
  all_goals omega

set_option maxHeartbeats 2000000 in
theorem toActS_any (w : World) (lo hi : Nat) (v : Value) (ps : List ActD) (h : GR actE w lo hi v ps) (hhi : hi ≤ w.heap.size) (hm : ps.length ≤ 1048576) :
    Calls Tryz.prog 40 #[v] w fun e w' => ∃ v', e = .returned v' ∧ GO actE w' w.heap.size w'.heap.size v' ps ∧ Below w.heap.size w w' := by
  obtain ⟨ad, cap, rfl, hc1, hc2⟩ := h.shape
  obtain ⟨i0, hi0, hz0, hz1, hz2⟩ := info_parts info_act
  have HK : Hid (GR actE w lo hi (.slice ad ps.length cap) ps) := h
  clear h hc1 hc2
  go_enter Tryz.func40, Tryz.ntmps40
  go_wp2_with (at_make; refine wpList_make_full _ rfl _ _ 37 rfl w.heap.size 96 i0 (.agg (actC ⟨0, 0, 0, 0⟩).toArray) 4 Tryz.underlying37 hi0 hz0 hz1 .i64 .i64 _ _ ps.length rfl rfl rfl rfl (by rw [hz2]; omega) (by unfold maxLen; omega) (Nat.le_refl _) ?_; intro w1 hown hgrow)
  have hI : ToG actE w w.heap.size ps 0 w1 := toG_start (E := actE) hown hgrow
  clear hown hgrow hz0 hz1 hz2 hi0
  go_loopw [4] (fun i wr => ∃ j : Nat, j ≤ ps.length ∧ i = .int .i64 j ∧ ToG actE w w.heap.size ps j wr) (fun i _ => ps.length - (intOf i).toNat)
  case atStart => exact ⟨0, Nat.zero_le _, rfl, hI⟩
  case round =>
    clear hI
    obtain ⟨j, hj, rfl, hI⟩ := hrel
    by_cases hlt : j < ps.length
    · obtain ⟨p, he⟩ : ∃ p, ps[j]? = some p := ⟨ps[j], List.getElem?_eq_getElem hlt⟩
      obtain ⟨b, off, cap', hv, hb1, hb2, h5⟩ := HK.out.at_ he
      simp only [Value.slice.injEq, true_and] at hv
      obtain ⟨rfl, rfl⟩ := hv
      have hb := hI.below
      have hc : CV wr b (off + j * 4) (actC p) := h5.kept (hb.block b (by omega))
      have hz := toAct_any wr p
      have HIc : Hid (ToG actE w w.heap.size ps j wr) := hI
      have HE : Hid (ps[j]? = some p) := he
      clear hI hb he h5
      go_wp2_with (refine wpList_loadG Tryz.isAgg126 Tryz.sizeOf126 _ rfl rfl rfl rfl hc ?_)
      refine hz.mono ?_
      rintro e1 w2 ⟨rfl, g2⟩
      obtain ⟨hs, hf⟩ := HIc.out.stores g2 hlt p
      have hs : ∀ y, j * 4 ≤ y → y < j * 4 + (actC p).length → (w2.cell? ⟨w.heap.size, y, none⟩).isSome = true := hs
      have hf : ∀ y, j * 4 ≤ y → y < j * 4 + (actC p).length → w2.frozen? ⟨w.heap.size, y, none⟩ = false := hf
      clear hc hz
      go_wp2_with (refine wpList_storeG Tryz.sizeOf96 _ _ rfl rfl rfl rfl rfl (actC_one p) hs hf ?_)
      intro u L
      have HN : Hid (ToG actE w w.heap.size ps (j + 1) u) := HIc.out.next HE.out g2 L
      clear hs hf L g2
      go_wp2
      go_roundw
      case rel => exact ⟨j + 1, by omega, by go_num, HN.out⟩
      case measure => simp [intOf]; omega
    · obtain rfl : j = ps.length := by omega
      have HIc : Hid (ToG actE w w.heap.size ps ps.length wr) := hI
      clear hI
      go_wp2
      go_ret
      exact ⟨_, rfl, HIc.out.go (by unfold maxLen; omega), HIc.out.below⟩

def chartC (k : Int) (x y : Value) : List Value := [.int .i64 k, x, y]
theorem chartC_one (k : Int) {x y : Value} (hx : x.oneCell' = true) (hy : y.oneCell' = true) : ∀ v ∈ chartC k x y, v.oneCell' = true := by
  intro v hv; simp only [chartC, List.mem_cons, List.not_mem_nil, or_false] at hv
  rcases hv with rfl | rfl | rfl <;> first | rfl | exact hx | exact hy
theorem zero_chart : (Tryz.prog.info? 39).map (fun i => (i.zero, i.size)) = some (some (.agg (chartC 0 zSl zSl).toArray), 3) := by kernel_rfl

set_option maxHeartbeats 8000000 in
theorem toChart_any (w : World) (lo hi : Nat) (v : Value) (c : ChartD) (h : HIc w lo hi v c) (hhi : hi ≤ w.heap.size) (hm : c.many ≤ 1048576) :
    Calls Tryz.prog 11 #[v] w fun e w' => ∃ v', e = .returned v' ∧ HOc w' w.heap.size w'.heap.size v' c ∧ Below w.heap.size w w' := by
  have hZ := (zero_of_info (P := Tryz.prog) zero_chart).1
  obtain ⟨va, vb, rfl, hA, hB⟩ := h
  obtain ⟨ad, cap, rfl, _, _⟩ := hA.shape
  obtain ⟨ad', cap', rfl, _, _⟩ := hB.shape
  have HA : Hid (TR w lo hi (.slice ad c.ts.length cap) c.ts ∧ GR actE w lo hi (.slice ad' c.acts.length cap') c.acts) := ⟨hA, hB⟩
  clear hA hB
  unfold ChartD.many at hm
  have hm1 : manyT c.ts ≤ 1048576 := by omega
  have hm2 : c.acts.length ≤ 1048576 := by omega
  clear hm
  go_enter Tryz.func11, Tryz.ntmps11
  go_wp2_with (refine wpList_boxG (vs := chartC c.steps (.slice ad c.ts.length cap) (.slice ad' c.acts.length cap')) rfl _ rfl rfl ?_)
  intro u1 g1 p1 s1
  go_wp2_with (refine wpList_allocG hZ rfl rfl ?_)
  intro u2 g2 q2 s2
  replace p1 := p1.below g2 (by omega)
  have G2 := g1.trans (g2.mono (by omega))
  clear g1 g2
  go_wp2_with (refine wpList_allocG hZ rfl rfl ?_)
  intro u3 g3 r3 s3
  have p3 := p1.below g3 (by omega)
  have q3 := q2.below g3 (by omega)
  have G3 := G2.trans (g3.mono (by omega))
  clear g3 G2 p1 q2
  have c0 : u3.cell? ⟨w.heap.size, 0, none⟩ = some (.int .i64 c.steps) := p3.c 0 _ rfl
  go_wp2_with (refine wpList_store1G Tryz.sizeOf3 _ _ rfl rfl rfl rfl rfl rfl (r3.one (show 0 < 3 by decide)) (r3.f _) ?_)
  intro u3b L
  have s3b := L.size
  have r3b := r3.laid L (ws := chartC c.steps zSl zSl) rfl (show 0 + 1 ≤ 3 by decide)
  have p3b := L.other p3 (by omega)
  have q3b := L.other q3 (by omega)
  have G3b := L.below _ _ (by omega) G3
  clear L r3 p3 q3 G3 c0
  have c1 : u3b.cell? ⟨w.heap.size, 1, none⟩ = some (.slice ad c.ts.length cap) := p3b.c 1 _ rfl
  go_wp2_with fail
  clear c1
  refine (toTransS_any _ lo hi _ c.ts (HA.out.1.under G3b hhi) (by omega) hm1).mono ?_
  rintro e4 u4 ⟨v4, rfl, O4, g4⟩
  have s4 := g4.size
  obtain ⟨ad4, cap4, rfl, _, _⟩ := O4.tr.shape
  have p4 := p3b.below g4 (by omega)
  have q4 := q3b.below g4 (by omega)
  have r4 := r3b.below g4 (by omega)
  have G4 := G3b.trans (g4.mono (by omega))
  clear g4 p3b q3b r3b G3b
  go_wp2_with (refine wpList_store1G Tryz.sizeOf36 _ _ rfl rfl rfl rfl rfl rfl (r4.one (show 1 < 3 by decide)) (r4.f _) ?_)
  intro u5 L
  have s5 := L.size
  have r5 := r4.laid L (ws := chartC c.steps (.slice ad4 c.ts.length cap4) zSl) rfl (show 1 + 1 ≤ 3 by decide)
  have p5 := L.other p4 (by omega)
  have q5 := L.other q4 (by omega)
  have O5 := O4.kept fun k h1 h2 => L.block k (by omega)
  have G5 := L.below _ _ (by omega) G4
  clear L r4 p4 q4 G4 O4
  have c2 : u5.cell? ⟨w.heap.size, 2, none⟩ = some (.slice ad' c.acts.length cap') := p5.c 2 _ rfl
  go_wp2_with fail
  clear c2
  refine (toActS_any _ lo hi _ c.acts (HA.out.2.under G5 hhi) (by omega) hm2).mono ?_
  rintro e6 u6 ⟨v6, rfl, O6, g6⟩
  have s6 := g6.size
  obtain ⟨ad6, cap6, rfl, _, _⟩ := O6.gr.shape
  have q6 := q5.below g6 (by omega)
  have r6 := r5.below g6 (by omega)
  replace O5 := O5.under g6 (by omega)
  have G6 := G5.trans (g6.mono (by omega))
  clear g6 p5 q5 r5 G5
  go_wp2_with (refine wpList_store1G Tryz.sizeOf37 _ _ rfl rfl rfl rfl rfl rfl (r6.one (show 2 < 3 by decide)) (r6.f _) ?_)
  intro u7 L
  have s7 := L.size
  have r7 := r6.laid L (ws := chartC c.steps (.slice ad4 c.ts.length cap4) (.slice ad6 c.acts.length cap6)) rfl (show 2 + 1 ≤ 3 by decide)
  have q7 := L.other q6 (by omega)
  have O7 := O5.kept fun k h1 h2 => L.block k (by omega)
  have O7' := O6.kept fun k h1 h2 => L.block k (by omega)
  have G7 := L.below _ _ (by omega) G6
  clear L r6 q6 G6 O5 O6
  have hr := q7.run 0 3 (show 0 + 3 ≤ 3 by decide)
  go_wp2_with (first
    | refine wpList_loadG Tryz.isAgg39 Tryz.sizeOf39 _ rfl rfl rfl rfl r7.c ?_
    | refine wpList_storeG Tryz.sizeOf39 _ _ rfl rfl rfl rfl rfl (chartC_one _ rfl rfl) hr.1 hr.2 ?_)
  intro u8 L
  have s8 := L.size
  have q8 := L.var q7
  have O8 := O7.kept fun k h1 h2 => L.block k (by omega)
  have O8' := O7'.kept fun k h1 h2 => L.block k (by omega)
  have G8 := L.below _ _ (by omega) G7
  clear L r7 q7 G7 O7 O7' hr
  go_wp2
  refine bodyPost_ret (v := .agg (chartC c.steps (.slice ad4 c.ts.length cap4) (.slice ad6 c.acts.length cap6)).toArray) ?_ rfl ⟨_, rfl, ⟨_, _, u4.heap.size, rfl, O8.wide (by omega) (by omega), O8'.wide (by omega) (by omega), by omega, by omega⟩, G8⟩
  simp [results, Tryz.results11]
  exact run_loadVarG (P := Tryz.prog) Tryz.isAgg39 Tryz.sizeOf39 rfl q8.c
end Go.Proofs.YtokphdpaghkakaaGreat
