/-
  szStmt, szStmtS: the laws' helpers that count what there is.
-/
import Derived.Test.YtkeockippmmneaaGreatStmtData
import Derived.Test.YtkeockippmmneaaGreatQS6
namespace Go.Proofs.YtkeockippmmneaaGreat
open Go.ChangeShapes Go.WideShapes Go.ChangeAt Go.RowKit
set_option linter.unusedVariables false

/-- What szStmtS answers of lists of at most n. -/
def SzT (n : Nat) : Prop := ∀ (w : World) (lo hi : Nat) (v : Value) (ss : List StmtD) (left : Int), sizeL ss ≤ n → SR w lo hi v ss → hi ≤ w.heap.size → 0 ≤ left → left ≤ 1048576 →
  Calls Tryz.prog 4 #[v, .int .i64 left] w fun e w' => e = .returned (.int .i64 (if left < sizeL ss then -1 else left - sizeL ss)) ∧ Below w.heap.size w w'

set_option maxHeartbeats 1000000 in
theorem szStmt_of {n : Nat} (H : ∀ m, m < n → SzT m) (w : World) (lo hi : Nat) (s : StmtD) (x y z : Value) (left : Int) (hn : sizeL s.th < n ∧ sizeL s.el < n) (hx : KR w lo hi x s.e.kids) (hy : SR w lo hi y s.th) (hz : SR w lo hi z s.el) (hhi : hi ≤ w.heap.size) (h1 : 0 ≤ left) (h2 : left ≤ 1048576) :
    Calls Tryz.prog 11 #[stmtV s x y z, .int .i64 left] w fun e w' => e = .returned (.int .i64 (if left < (manyL s.e.kids + sizeL s.th + sizeL s.el : Nat) then -1 else left - (manyL s.e.kids + sizeL s.th + sizeL s.el : Nat))) ∧ Below w.heap.size w w' := by
  obtain ⟨r, hr⟩ : ∃ r : Int, (if left < ((manyL s.e.kids + sizeL s.th + sizeL s.el : Nat) : Int) then -1 else left - ((manyL s.e.kids + sizeL s.th + sizeL s.el : Nat) : Int)) = r := ⟨_, rfl⟩
  rw [hr]
  have HR : Hid ((if left < ((manyL s.e.kids + sizeL s.th + sizeL s.el : Nat) : Int) then -1 else left - ((manyL s.e.kids + sizeL s.th + sizeL s.el : Nat) : Int)) = r) := hr
  clear hr
  have HX : Hid (KR w lo hi x s.e.kids ∧ SR w lo hi y s.th ∧ SR w lo hi z s.el) := ⟨hx, hy, hz⟩
  obtain ⟨ax, cx, rfl, _, _⟩ := hx.shape
  obtain ⟨ay, cy, rfl, _, _⟩ := hy.shape
  obtain ⟨az, cz, rfl, _, _⟩ := hz.shape
  clear hx hy hz
  unfold stmtV
  go_enter Tryz.func11, Tryz.ntmps11
  go_wp2_with fail
  obtain ⟨u0, hu0, G0, T0, S0⟩ : ∃ u0, w.alloc (.cells #[.int .i64 s.k, .int .i64 s.tk, .int .i64 s.ta, .int .i64 s.e.k, .int .i64 s.e.n, .int .i64 s.e.ak, .int .i64 s.e.at_, .slice ax s.e.kids.length cx, .slice ay s.th.length cy, .slice az s.el.length cz] 37) = u0 ∧ Below w.heap.size w u0 ∧ TenW u0 w.heap.size (.int .i64 s.k) (.int .i64 s.tk) (.int .i64 s.ta) (.int .i64 s.e.k) (.int .i64 s.e.n) (.int .i64 s.e.ak) (.int .i64 s.e.at_) (.slice ax s.e.kids.length cx) (.slice ay s.th.length cy) (.slice az s.el.length cz) ∧ u0.heap.size = w.heap.size + 1 :=
    ⟨_, rfl, (Below.refl w.heap.size w).alloc (Nat.le_refl _) _, tenW_new _ _ _ _ _ _ _ _ _ _ _ _, by simp⟩
  rw [hu0]
  clear hu0
  refine (szExpr_any _ lo hi _ s.e left ⟨_, rfl, HX.out.1.under G0 hhi⟩ (by omega) h1 h2).mono ?_
  by_cases q1 : left < (manyL s.e.kids : Int)
  · rw [if_pos q1]
    rintro e1 u1 ⟨rfl, g1⟩
    have G1 := G0.trans (g1.mono (by omega))
    have HF : Hid (r = -1) := by show r = -1; rw [← HR.out, if_pos (by omega)]
    clear g1 T0 HR
    go_wp2
    go_ret
    exact ⟨ret_int HF.out.symm, G1⟩
  rw [if_neg q1]
  rintro e1 u1 ⟨rfl, g1⟩
  have S1 := g1.size
  have G1 := G0.trans (g1.mono (by omega))
  have T1 := T0.under g1 (by omega)
  obtain ⟨l1, hl1⟩ : ∃ l1 : Int, left - (manyL s.e.kids : Int) = l1 := ⟨_, rfl⟩
  rw [hl1]
  have p1 : ¬ (l1 < 0) := by omega
  have c8 := T1.c8
  clear g1 T0 G0
  go_wp2_with fail
  refine (H _ hn.1 _ lo hi _ s.th l1 (Nat.le_refl _) (HX.out.2.1.under G1 hhi) (by omega) (by omega) (by omega)).mono ?_
  by_cases q2 : l1 < (sizeL s.th : Int)
  · rw [if_pos q2]
    rintro e2 u2 ⟨rfl, g2⟩
    have G2 := G1.trans (g2.mono (by omega))
    have HF : Hid (r = -1) := by show r = -1; rw [← HR.out, if_pos (by omega)]
    clear g2 T1 HR c8
    go_wp2
    go_ret
    exact ⟨ret_int HF.out.symm, G2⟩
  rw [if_neg q2]
  rintro e2 u2 ⟨rfl, g2⟩
  have S2 := g2.size
  have G2 := G1.trans (g2.mono (by omega))
  have T2 := T1.under g2 (by omega)
  obtain ⟨l2, hl2⟩ : ∃ l2 : Int, l1 - (sizeL s.th : Int) = l2 := ⟨_, rfl⟩
  rw [hl2]
  have p2 : ¬ (l2 < 0) := by omega
  have c9 := T2.c9
  clear g2 T1 G1 c8
  go_wp2_with fail
  refine (H _ hn.2 _ lo hi _ s.el l2 (Nat.le_refl _) (HX.out.2.2.under G2 hhi) (by omega) (by omega) (by omega)).mono ?_
  by_cases q3 : l2 < (sizeL s.el : Int)
  · rw [if_pos q3]
    rintro e3 u3 ⟨rfl, g3⟩
    have G3 := G2.trans (g3.mono (by omega))
    have HF : Hid (r = -1) := by show r = -1; rw [← HR.out, if_pos (by omega)]
    clear g3 T2 HR c9
    go_wp2
    go_ret
    exact ⟨ret_int HF.out.symm, G3⟩
  rw [if_neg q3]
  rintro e3 u3 ⟨rfl, g3⟩
  have G3 := G2.trans (g3.mono (by omega))
  have HF : Hid (l2 - (sizeL s.el : Int) = r) := by show _ = r; rw [← HR.out, if_neg (by omega)]; omega
  have p3 : ¬ (l2 - (sizeL s.el : Int) < 0) := by omega
  obtain ⟨l3, hl3⟩ : ∃ l3 : Int, l2 - (sizeL s.el : Int) = l3 := ⟨_, rfl⟩
  rw [hl3] at HF p3 ⊢
  clear g3 T2 HR c9 hl3
  go_wp2
  go_ret
  exact ⟨ret_int HF.out, G3⟩

set_option maxHeartbeats 1000000 in
theorem szStmtS_step {n : Nat} (H : ∀ m, m < n → SzT m) : SzT n := by
  intro w lo hi v ss left hn h hhi h1 h2
  obtain ⟨ad, cap, rfl, hc1, hc2⟩ := h.shape
  have hmx : ss.length ≤ 9223372036854775807 := by unfold maxLen at hc2; omega
  have hlm := length_le_sizeL ss
  obtain ⟨r, hr0⟩ : ∃ r : Int, (if left < (sizeL ss : Int) then -1 else left - (sizeL ss : Int)) = r := ⟨_, rfl⟩
  rw [hr0]
  have HA : Hid ((if left < (sizeL ss : Int) then -1 else left - (sizeL ss : Int)) = r) := hr0
  clear hr0
  have HK : Hid (SR w lo hi (.slice ad ss.length cap) ss) := h
  clear h
  by_cases hl : left - ss.length < 0
  · obtain rfl : r = -1 := by have := HA.out; rw [if_pos (by omega)] at this; exact this.symm
    clear HA
    go_enter Tryz.func4, Tryz.ntmps4
    go_wp2
    go_ret
    exact ⟨rfl, Below.refl _ _⟩
  · have HM : Hid (ss.length ≤ sizeL ss) := hlm
    clear hlm
    go_enter Tryz.func4, Tryz.ntmps4
    go_wp2_with fail
    go_loopw [1, 5] (fun l i wr => ∃ j : Nat, j ≤ ss.length ∧ l = .int .i64 (left - ss.length - (sizeL (ss.take j) - j)) ∧ 0 ≤ left - ss.length - ((sizeL (ss.take j) : Int) - j) ∧ i = .int .i64 j ∧ Below w.heap.size w wr) (fun _ i _ => ss.length - (intOf i).toNat)
    case atStart => exact ⟨0, Nat.zero_le _, by simp [sizeL], by simp [sizeL]; omega, rfl, Below.refl _ _⟩
    case round =>
      obtain ⟨j, hj, rfl, hnn, rfl, hb⟩ := hrel
      by_cases hlt : j < ss.length
      · obtain ⟨s, hs⟩ : ∃ s, ss[j]? = some s := ⟨ss[j], List.getElem?_eq_getElem hlt⟩
        obtain ⟨b, off, cap', x, y, z, hv, hb1, hb2, h5, hkx, hky, hkz⟩ := HK.out.at_ hs
        simp only [Value.slice.injEq, true_and] at hv
        obtain ⟨rfl, rfl⟩ := hv
        obtain ⟨c0, c1, c2, c3, c4, c5, c6, c7, c8, c9⟩ := h5.kept (hb.block b (by omega))
        have hkl := stmt_lt hs
        have hsuc := sizeL_take_succ hs
        have hrest := size_rest ss (j + 1) hlt
        have hE := sizeS_eq s
        have htk := take_le_size ss j hj
        obtain ⟨q, hq⟩ : ∃ q : Int, left - ss.length - ((sizeL (ss.take j) : Int) - j) = q := ⟨_, rfl⟩
        rw [hq] at hnn ⊢
        have hz := szStmt_of (n := n) H wr lo hi s x y z q (by omega) (hkx.under hb hhi) (hky.under hb hhi) (hkz.under hb hhi) (Nat.le_trans hhi hb.size) hnn (by omega)
        obtain ⟨M, hM⟩ : ∃ M, manyL s.e.kids + sizeL s.th + sizeL s.el = M := ⟨_, rfl⟩
        rw [hM] at hz hkl hE
        unfold stmtV at hz
        clear hkx hky hkz hM
        by_cases hr : q < (M : Int)
        · rw [if_pos hr] at hz
          have HR : Hid (left < sizeL ss) := by show left < (sizeL ss : Int); omega
          clear hsuc hrest hE htk hkl hq
          go_wp2_with fail
          refine hz.mono ?_
          rintro e1 w1 ⟨rfl, g1⟩
          have G1 := hb.trans (g1.mono hb.size)
          clear g1 c0 c1 c2 c3 c4 c5 c6 c7 c8 c9
          go_wp2
          go_ret
          exact ⟨ret_int (by have := HA.out; rw [if_pos HR.out] at this; exact this), G1⟩
        · rw [if_neg hr] at hz
          have HQ : Hid (q - M = left - ss.length - ((sizeL (ss.take (j + 1)) : Int) - ((j + 1 : Nat) : Int))) := by show q - (M : Int) = _; omega
          have hr' : ¬ (q - (M : Int) < 0) := by omega
          clear hsuc hrest hE htk hkl hq
          go_wp2_with fail
          refine hz.mono ?_
          rintro e1 w1 ⟨rfl, g1⟩
          have G1 := hb.trans (g1.mono hb.size)
          clear g1 c0 c1 c2 c3 c4 c5 c6 c7 c8 c9
          go_wp2
          go_roundw
          case rel => exact ⟨j + 1, by omega, by rw [HQ.out], by rw [← HQ.out]; omega, by go_num, G1⟩
          case measure => simp [intOf]; omega
      · obtain rfl : j = ss.length := by omega
        rw [List.take_length] at hnn ⊢
        have HR : Hid (left - ss.length - ((sizeL ss : Int) - ss.length) = r) := by show _ = _; rw [← HA.out, if_neg (by omega)]; omega
        obtain ⟨q, hq⟩ : ∃ q : Int, left - ss.length - ((sizeL ss : Int) - ss.length) = q := ⟨_, rfl⟩
        rw [hq] at HR hnn ⊢
        clear hq
        go_wp2
        go_ret
        exact ⟨ret_int HR.out, hb⟩

theorem szT (n : Nat) : SzT n := by
  induction n using Nat.strongRecOn with
  | ind n ih => exact szStmtS_step ih

theorem szStmtS_any (w : World) (lo hi : Nat) (v : Value) (ss : List StmtD) (left : Int) (h : SR w lo hi v ss) (hhi : hi ≤ w.heap.size) (h1 : 0 ≤ left) (h2 : left ≤ 1048576) :
    Calls Tryz.prog 4 #[v, .int .i64 left] w fun e w' => e = .returned (.int .i64 (if left < sizeL ss then -1 else left - sizeL ss)) ∧ Below w.heap.size w w' :=
  szT _ w lo hi v ss left (Nat.le_refl _) h hhi h1 h2
end Go.Proofs.YtkeockippmmneaaGreat
