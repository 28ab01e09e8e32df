/-
 The model's l5Expr: the code of what is reckoned. (Written by our generator gen_codespec.py.)
-/
import Derived.Test.YtaoiookfmgpmkaaGreatDoorQM14
import Derived.Test.YtaoiookfmgpmkaaGreatDoorQM12
namespace Go.Proofs.YtaoiookfmgpmkaaGreatDoor
open Go.ChangeShapes Go.WideShapes Go.ChangeAt Go.RowKit
set_option linter.unusedVariables false
set_option maxRecDepth 100000

theorem codeE_one {e : ExprD} (h : e.kids = []) : codeE e = [lastE e] := by rw [codeE_eq, h, codeK, List.nil_append]
theorem codeE_not {e x : ExprD} (h : e.kids = [x]) : codeE e = codeE x ++ [lastE e] := by rw [codeE_eq, h, codeK, codeK, List.append_nil]
theorem codeE_two {e x y : ExprD} (h : e.kids = [x, y]) : codeE e = codeE x ++ codeE y ++ [lastE e] := by rw [codeE_eq, h, codeK, codeK, codeK, List.append_nil]

theorem lastE_num {e : ExprD} (h : e.k = 1) : lastE e = ⟨1, e.n, 0, 0⟩ := by unfold lastE; rw [if_pos h]
theorem lastE_addr {e : ExprD} (h : e.k = 2) : lastE e = ⟨2, 0, e.ak, e.at_⟩ := by unfold lastE; rw [if_neg (by omega), if_pos h]
theorem lastE_not {e : ExprD} (h : e.k = 10) : lastE e = ⟨5, 0, 0, 0⟩ := by unfold lastE; rw [if_neg (by omega), if_neg (by omega), if_pos h]
theorem lastE_two {e : ExprD} (h1 : e.k ≠ 1) (h2 : e.k ≠ 2) (h3 : e.k ≠ 10) : lastE e = ⟨4, e.k, 0, 0⟩ := by unfold lastE; rw [if_neg h1, if_neg h2, if_neg h3]

theorem formE_kids5 {d : Nat} {e : ExprD} (h : formE (d + 1) e = true) : kidsOf e.k = e.kids.length ∧ ∀ (i : Nat) (x : ExprD), e.kids[i]? = some x → formE d x = true := by
 rw [formE] at h
 simp only [Bool.and_eq_true, beq_iff_eq] at h
 exact ⟨h.1.1.1, fun i x hx => List.all_eq_true.mp h.2 x (List.mem_of_getElem? hx)⟩

theorem kidsE0 {e : ExprD} (h : kidsOf e.k = e.kids.length) (hk : e.k = 1 ∨ e.k = 2) : e.kids = [] := by
 have h2 : kidsOf e.k = 0 := by rcases hk with h | h <;> rw [h] <;> rfl
 exact List.eq_nil_of_length_eq_zero (by omega)

theorem kidsE1 {e : ExprD} (h : kidsOf e.k = e.kids.length) (hk : e.k = 10) : ∃ x, e.kids = [x] := by
 have h2 : kidsOf e.k = 1 := by rw [hk]; rfl
 exact List.length_eq_one_iff.mp (by omega)

theorem kidsE2 {e : ExprD} (h : kidsOf e.k = e.kids.length) (h1 : e.k ≠ 1) (h2 : e.k ≠ 2) (h3 : e.k ≠ 10) : ∃ x y, e.kids = [x, y] := by
 have h4 : kidsOf e.k = 2 := by
  unfold kidsOf at h ⊢
  rw [if_neg h1, if_neg h2, if_neg h3] at h ⊢
  split
  ·rfl
  ·rename_i h5; rw [if_neg h5] at h; omega
 have hl : e.kids.length = 2 := by omega
 revert hl
 cases e.kids with
 | nil => intro h; simp at h
 | cons x l =>
  cases l with
  | nil => intro h; simp at h
  | cons y l =>
   cases l with
   | nil => intro _; exact ⟨x, y, rfl⟩
   | cons z l => intro h; simp at h

structure TwoJ (B0 : Nat) (c0 c1 : List InsD) (q : InsD) (L : Array Bool) (a : Act) (u : World) : Prop where
 j4 : L.getD 4 true = true → L.getD 10 true = false → RowI u B0 (a.tmps.getD 31 undef) c0
 j9 : L.getD 9 true = true → L.getD 10 true = false → RowI u B0 (a.tmps.getD 36 undef) c1
 j14 : L.getD 14 true = true → L.getD 15 true = false → RowI u B0 (a.tmps.getD 41 undef) [q]
 ap : L.getD 4 true = true → L.getD 10 true = false → L.getD 14 true = true → (a.tmps.getD 31 undef).ownBlock ≠ (a.tmps.getD 41 undef).ownBlock ∨ (a.tmps.getD 31 undef).ownBlock = none
 j10 : L.getD 10 true = true → L.getD 15 true = false → RowI u B0 (a.tmps.getD 37 undef) (c0 ++ c1)
 j15 : L.getD 15 true = true → RowI u B0 (a.tmps.getD 42 undef) (c0 ++ c1 ++ [q])

theorem TwoJ.start (B0 : Nat) (c0 c1 : List InsD) (q : InsD) (a : Act) (u : World) : TwoJ B0 c0 c1 q (Array.replicate 17 false) a u := by
 refine ⟨?_, ?_, ?_, ?_, ?_, ?_⟩
 all_goals intro h
 all_goals simp at h

theorem TwoJ.other {B0 : Nat} {c0 c1 : List InsD} {q : InsD} {L : Array Bool} {a : Act} {u : World} (h : TwoJ B0 c0 c1 q L a u) {i : Nat} {d : Tmp} {v : Value} (hi : i ≠ 4 ∧ i ≠ 9 ∧ i ≠ 10 ∧ i ≠ 14 ∧ i ≠ 15) (hd : d ≠ 31 ∧ d ≠ 36 ∧ d ≠ 37 ∧ d ≠ 41 ∧ d ≠ 42) :
  TwoJ B0 c0 c1 q (L.setIfInBounds i true) (a.put (some d) v) u := by
 obtain ⟨h1, h2, h3, h4, h5⟩ := hi
 obtain ⟨d1, d2, d3, d4, d5⟩ := hd
 refine ⟨?_, ?_, ?_, ?_, ?_, ?_⟩
 all_goals simp only [getD_set_ne true h1, getD_set_ne true h2, getD_set_ne true h3, getD_set_ne true h4, getD_set_ne true h5, getD_put_ne a d 31 v d1, getD_put_ne a d 36 v d2, getD_put_ne a d 37 v d3, getD_put_ne a d 41 v d4, getD_put_ne a d 42 v d5]
 ·exact h.j4
 ·exact h.j9
 ·exact h.j14
 ·exact h.ap
 ·exact h.j10
 ·exact h.j15

theorem own_ge {w : World} {B : Nat} {v : Value} {ps : List InsD} (h : RowI w B v ps) {x : Value} {B0 : Nat} {w0 : World} {qs : List InsD} (hx : RowI w0 B0 x qs) (hle : w0.heap.size ≤ B) : v.ownBlock ≠ x.ownBlock ∨ v.ownBlock = none := by
 cases hv : v.ownBlock with
 | none => exact .inr rfl
 | some g =>
  refine .inl fun e => ?_
  have h1 := (h.lt g hv).1
  have h2 := (hx.lt g e.symm).2
  omega

theorem TwoJ.call4 {B0 : Nat} {c0 c1 : List InsD} {q : InsD} {L : Array Bool} {a : Act} {u u' : World} (h : TwoJ B0 c0 c1 q L a u) {v : Value} (hL : L.size = 17) (h9 : L.getD 9 true = false) (h10 : L.getD 10 true = false) (h15 : L.getD 15 true = false) (ha : 31 < a.tmps.size) (hB : B0 ≤ u.heap.size)
  (hb : Below u.heap.size u u') (hr : RowI u' u.heap.size v c0) : TwoJ B0 c0 c1 q (L.setIfInBounds 4 true) (a.put (some 31) v) u' := by
 refine ⟨?_, ?_, ?_, ?_, ?_, ?_⟩
 all_goals simp only [getD_set_self' (show 4 < L.size by omega), getD_set_ne true (show (4 : Nat) ≠ 9 by decide), getD_set_ne true (show (4 : Nat) ≠ 10 by decide), getD_set_ne true (show (4 : Nat) ≠ 14 by decide), getD_set_ne true (show (4 : Nat) ≠ 15 by decide), getD_put_self a 31 v ha, getD_put_ne a 31 36 v (by decide), getD_put_ne a 31 37 v (by decide), getD_put_ne a 31 41 v (by decide), getD_put_ne a 31 42 v (by decide)]
 ·exact fun _ _ => hr.mono hB
 ·intro e; rw [h9] at e; cases e
 ·exact fun e1 e2 => (h.j14 e1 e2).below hb (Nat.le_refl _)
 ·exact fun _ e2 e3 => own_ge hr (h.j14 e3 h15) (Nat.le_refl _)
 ·intro e; rw [h10] at e; cases e
 ·intro e; rw [h15] at e; cases e

theorem TwoJ.call9 {B0 : Nat} {c0 c1 : List InsD} {q : InsD} {L : Array Bool} {a : Act} {u u' : World} (h : TwoJ B0 c0 c1 q L a u) {v : Value} (hL : L.size = 17) (h10 : L.getD 10 true = false) (h15 : L.getD 15 true = false) (ha : 36 < a.tmps.size) (hB : B0 ≤ u.heap.size)
  (hb : Below u.heap.size u u') (hr : RowI u' u.heap.size v c1) : TwoJ B0 c0 c1 q (L.setIfInBounds 9 true) (a.put (some 36) v) u' := by
 refine ⟨?_, ?_, ?_, ?_, ?_, ?_⟩
 all_goals simp only [getD_set_self' (show 9 < L.size by omega), getD_set_ne true (show (9 : Nat) ≠ 4 by decide), getD_set_ne true (show (9 : Nat) ≠ 10 by decide), getD_set_ne true (show (9 : Nat) ≠ 14 by decide), getD_set_ne true (show (9 : Nat) ≠ 15 by decide), getD_put_self a 36 v ha, getD_put_ne a 36 31 v (by decide), getD_put_ne a 36 37 v (by decide), getD_put_ne a 36 41 v (by decide), getD_put_ne a 36 42 v (by decide)]
 ·exact fun e1 e2 => (h.j4 e1 e2).below hb (Nat.le_refl _)
 ·exact fun _ _ => hr.mono hB
 ·exact fun e1 e2 => (h.j14 e1 e2).below hb (Nat.le_refl _)
 ·exact h.ap
 ·intro e; rw [h10] at e; cases e
 ·intro e; rw [h15] at e; cases e

theorem TwoJ.app10 {B0 : Nat} {c0 c1 : List InsD} {q : InsD} {L : Array Bool} {a : Act} {u u' : World} (h : TwoJ B0 c0 c1 q L a u) {v : Value} (hL : L.size = 17) (h4 : L.getD 4 true = true) (h10 : L.getD 10 true = false) (h15 : L.getD 15 true = false) (ha : 37 < a.tmps.size)
  (hr : AppI u B0 (a.tmps.getD 31 undef) (c0 ++ c1) v u') : TwoJ B0 c0 c1 q (L.setIfInBounds 10 true) (a.put (some 37) v) u' := by
 refine ⟨?_, ?_, ?_, ?_, ?_, ?_⟩
 all_goals simp only [getD_set_self' (show 10 < L.size by omega), getD_set_ne true (show (10 : Nat) ≠ 4 by decide), getD_set_ne true (show (10 : Nat) ≠ 9 by decide), getD_set_ne true (show (10 : Nat) ≠ 14 by decide), getD_set_ne true (show (10 : Nat) ≠ 15 by decide), getD_put_self a 37 v ha, getD_put_ne a 37 31 v (by decide), getD_put_ne a 37 36 v (by decide), getD_put_ne a 37 41 v (by decide), getD_put_ne a 37 42 v (by decide)]
 ·intro _ e; cases e
 ·intro _ e; cases e
 ·intro e1 e2
  have hq := h.j14 e1 e2
  refine hq.at_ fun g hg => hr.grown.block g (hq.lt g hg).2 fun e => ?_
  rcases h.ap h4 h10 e1 with k | k
  ·exact k (by rw [hg, e])
  ·rw [k] at e; cases e
 ·intro _ e; cases e
 ·exact fun _ _ => hr.row
 ·intro e; rw [h15] at e; cases e

theorem TwoJ.new14 {B0 : Nat} {c0 c1 : List InsD} {q : InsD} {L : Array Bool} {a : Act} {u u' : World} (h : TwoJ B0 c0 c1 q L a u) {v : Value} (hL : L.size = 17) (h15 : L.getD 15 true = false) (ha : 41 < a.tmps.size) (hB : B0 ≤ u.heap.size)
  (hb : Below u.heap.size u u') (hr : RowI u' u.heap.size v [q]) : TwoJ B0 c0 c1 q (L.setIfInBounds 14 true) (a.put (some 41) v) u' := by
 refine ⟨?_, ?_, ?_, ?_, ?_, ?_⟩
 all_goals simp only [getD_set_self' (show 14 < L.size by omega), getD_set_ne true (show (14 : Nat) ≠ 4 by decide), getD_set_ne true (show (14 : Nat) ≠ 9 by decide), getD_set_ne true (show (14 : Nat) ≠ 10 by decide), getD_set_ne true (show (14 : Nat) ≠ 15 by decide), getD_put_self a 41 v ha, getD_put_ne a 41 31 v (by decide), getD_put_ne a 41 36 v (by decide), getD_put_ne a 41 37 v (by decide), getD_put_ne a 41 42 v (by decide)]
 ·exact fun e1 e2 => (h.j4 e1 e2).below hb (Nat.le_refl _)
 ·exact fun e1 e2 => (h.j9 e1 e2).below hb (Nat.le_refl _)
 ·exact fun _ _ => hr.mono hB
 ·intro e1 e2 _
  rcases own_ge hr (h.j4 e1 e2) (Nat.le_refl _) with k | k
  ·exact .inl fun e => k e.symm
  ·cases hv : (a.tmps.getD 31 undef).ownBlock with
   | none => exact .inr rfl
   | some g => exact .inl (by rw [k]; intro e; cases e)
 ·exact fun e1 e2 => (h.j10 e1 e2).below hb (Nat.le_refl _)
 ·intro e; rw [h15] at e; cases e

theorem TwoJ.app15 {B0 : Nat} {c0 c1 : List InsD} {q : InsD} {L : Array Bool} {a : Act} {u u' : World} (h : TwoJ B0 c0 c1 q L a u) {v : Value} (hL : L.size = 17) (h10 : L.getD 10 true = true) (ha : 42 < a.tmps.size)
  (hr : RowI u' B0 v (c0 ++ c1 ++ [q])) : TwoJ B0 c0 c1 q (L.setIfInBounds 15 true) (a.put (some 42) v) u' := by
 refine ⟨?_, ?_, ?_, ?_, ?_, ?_⟩
 all_goals simp only [getD_set_self' (show 15 < L.size by omega), getD_set_ne true (show (15 : Nat) ≠ 4 by decide), getD_set_ne true (show (15 : Nat) ≠ 9 by decide), getD_set_ne true (show (15 : Nat) ≠ 10 by decide), getD_set_ne true (show (15 : Nat) ≠ 14 by decide), getD_put_self a 42 v ha, getD_put_ne a 42 31 v (by decide), getD_put_ne a 42 36 v (by decide), getD_put_ne a 42 37 v (by decide), getD_put_ne a 42 41 v (by decide)]
 ·intro _ e; rw [h10] at e; cases e
 ·intro _ e; rw [h10] at e; cases e
 ·intro _ e; cases e
 ·intro _ e; rw [h10] at e; cases e
 ·intro _ e; cases e
 ·exact fun _ => hr

def LE (d : Nat) : Prop := ∀ (w : World) (lo hi : Nat) (s : Value) (e : ExprD), KR w lo hi s e.kids → hi ≤ w.heap.size → formE d e = true → manyL e.kids ≤ 1048576 →
 Calls Tryz.prog 288 #[.agg #[.int .i64 e.k, .int .i64 e.n, .int .i64 e.ak, .int .i64 e.at_, s]] w fun en w' => ∃ v', en = .returned v' ∧ RowI w' w.heap.size v' (codeE e) ∧ Below w.heap.size w w'

set_option maxHeartbeats 8000000 in
theorem le_step {d : Nat} (H : LE d) : LE (d + 1) := by
 intro w lo hi s e h hhi hf hm
 obtain ⟨hk, hkf⟩ := formE_kids5 hf
 obtain ⟨ad, cap, rfl, hc1, hc2⟩ := h.shape
 have HK : Hid (KR w lo hi (.slice ad e.kids.length cap) e.kids) := h
 have b1 := fun o => (Below.refl w.heap.size w).alloc (Nat.le_refl _) o
 have HF : Hid (kidsOf e.k = e.kids.length ∧ ∀ (i : Nat) (x : ExprD), e.kids[i]? = some x → formE d x = true) := ⟨hk, hkf⟩
 obtain ⟨R, hR⟩ : ∃ R, codeE e = R := ⟨_, rfl⟩
 rw [hR]
 have HR : Hid (codeE e = R) := hR
 clear h hf hk hkf hc1 hc2 hR
 obtain ⟨u0, hu0, G0, A0, S0⟩ : ∃ u0, w.alloc (.cells #[.int .i64 e.k, .int .i64 e.n, .int .i64 e.ak, .int .i64 e.at_, .slice ad e.kids.length cap] 121) = u0 ∧ Below w.heap.size w u0 ∧ Five u0 w.heap.size (.int .i64 e.k) (.int .i64 e.n) (.int .i64 e.ak) (.int .i64 e.at_) (.slice ad e.kids.length cap) ∧ u0.heap.size = w.heap.size + 1 :=
  ⟨_, rfl, b1 _, five_new w _ _ _ _ _ _, by simp⟩
 have HU : Hid (_ = u0) := hu0
 have HA : Hid (Five u0 w.heap.size (.int .i64 e.k) (.int .i64 e.n) (.int .i64 e.ak) (.int .i64 e.at_) (.slice ad e.kids.length cap)) := A0
 clear hu0 A0
 by_cases k1 : e.k = 1
 ·have hRR : R = [⟨1, e.n, 0, 0⟩] := by rw [← HR.out, codeE_one (kidsE0 HF.out.1 (.inl k1)), lastE_num k1]
  have k1' : (e.k == 1) = true := by simp [k1]
  have hrow := rowI_lit u0 ⟨1, e.n, 0, 0⟩ w.heap.size (by omega)
  have gb : Below w.heap.size w (u0.alloc (.cells #[.int .i64 1, .int .i64 e.n, .int .i64 0, .int .i64 0] 182)) := G0.alloc (by omega) _
  have HO : Hid (RowI (u0.alloc (.cells #[.int .i64 1, .int .i64 e.n, .int .i64 0, .int .i64 0] 182)) w.heap.size (.slice (some ⟨u0.heap.size, 0, none⟩) 1 1) [⟨1, e.n, 0, 0⟩] ∧ Below w.heap.size w (u0.alloc (.cells #[.int .i64 1, .int .i64 e.n, .int .i64 0, .int .i64 0] 182))) := ⟨hrow, gb⟩
  rw [S0] at HO
  clear k1 hrow gb HA
  subst hRR
  go_enter Tryz.func288, Tryz.ntmps288
  go_wp2
  rw [HU.out]
  go_ret
  exact ⟨_, rfl, HO.out.1, HO.out.2⟩
 have k1' : (e.k == 1) = false := by simp [k1]
 by_cases k2 : e.k = 2
 ·have hRR : R = [⟨2, 0, e.ak, e.at_⟩] := by rw [← HR.out, codeE_one (kidsE0 HF.out.1 (.inr k2)), lastE_addr k2]
  have k2' : (e.k == 2) = true := by simp [k2]
  have hrow := rowI_lit u0 ⟨2, 0, e.ak, e.at_⟩ w.heap.size (by omega)
  have gb : Below w.heap.size w (u0.alloc (.cells #[.int .i64 2, .int .i64 0, .int .i64 e.ak, .int .i64 e.at_] 182)) := G0.alloc (by omega) _
  have HO : Hid (RowI (u0.alloc (.cells #[.int .i64 2, .int .i64 0, .int .i64 e.ak, .int .i64 e.at_] 182)) w.heap.size (.slice (some ⟨u0.heap.size, 0, none⟩) 1 1) [⟨2, 0, e.ak, e.at_⟩] ∧ Below w.heap.size w (u0.alloc (.cells #[.int .i64 2, .int .i64 0, .int .i64 e.ak, .int .i64 e.at_] 182))) := ⟨hrow, gb⟩
  rw [S0] at HO
  clear k1 k2 hrow gb HA
  subst hRR
  go_enter Tryz.func288, Tryz.ntmps288
  go_wp2
  rw [HU.out]
  go_ret
  exact ⟨_, rfl, HO.out.1, HO.out.2⟩
 have k2' : (e.k == 2) = false := by simp [k2]
 by_cases k10 : e.k = 10
 ·obtain ⟨x, hx⟩ := kidsE1 HF.out.1 k10
  have hRR : R = codeE x ++ [⟨5, 0, 0, 0⟩] := by rw [← HR.out, codeE_not hx, lastE_not k10]
  have k10' : (e.k == 10) = true := by simp [k10]
  have hx0 : e.kids[0]? = some x := by rw [hx]; rfl
  have hfx := HF.out.2 0 x hx0
  have hmx : manyL x.kids ≤ 1048576 ∧ (codeE x).length ≤ 1048577 := by
   have := kid_lt hx0
   rw [codeE_len, manyE_eq]
   omega
  have hl0 : 0 < e.kids.length := by rw [hx]; simp
  obtain ⟨b, off, cap1, s, hv, hb1, hb2, h5, hkx⟩ := HK.out.at_ hx0
  simp only [Value.slice.injEq, true_and] at hv
  obtain ⟨rfl, rfl⟩ := hv
  simp only [Nat.zero_mul, Nat.add_zero] at h5
  obtain ⟨ads, cps, rfl, _, _⟩ := hkx.shape
  have hC := H u0 lo hi _ x (hkx.under G0 hhi) (by omega) hfx hmx.1
  have d0 : u0.cell? ⟨w.heap.size, 4, none⟩ = some (.slice (some ⟨b, off, none⟩) e.kids.length cap) := HA.out.c4
  have d1 := HA.out.c0
  obtain ⟨c0, c1, c2, c3, c4⟩ := h5.kept (G0.block b (by omega))
  rw [← HU.out] at c0 c1 c2 c3 c4
  subst hRR
  clear k1 k2 k10 hx hx0 h5 hfx hkx
  go_enter Tryz.func288, Tryz.ntmps288
  go_wp2_with fail
  rw [HU.out]
  refine hC.mono ?_
  rintro e1 u1 ⟨v1, rfl, R1, g1⟩
  clear hC c0 c1 c2 c3 c4 d0 d1
  have s1 := g1.size
  have G1 : Below w.heap.size w u1 := G0.trans (g1.mono (by omega))
  have R1' := R1.mono (base' := w.heap.size) (by omega)
  obtain ⟨av, cv, rfl, _, _⟩ := R1.shape
  obtain ⟨u2, hu2, g2, n2, s2⟩ : ∃ u2, u1.alloc (.cells #[.int .i64 5, .int .i64 0, .int .i64 0, .int .i64 0] 182) = u2 ∧ Below u1.heap.size u1 u2 ∧ RowI u2 w.heap.size (.slice (some ⟨u1.heap.size, 0, none⟩) 1 1) [⟨5, 0, 0, 0⟩] ∧ u2.heap.size = u1.heap.size + 1 :=
   ⟨_, rfl, (Below.refl _ _).alloc (Nat.le_refl _) _, rowI_lit u1 ⟨5, 0, 0, 0⟩ w.heap.size (by omega), by simp⟩
  have HU2 : Hid (_ = u2) := hu2
  have R2 : RowI (u1.alloc (.cells #[.int .i64 5, .int .i64 0, .int .i64 0, .int .i64 0] 182)) w.heap.size (.slice av (codeE x).length cv) (codeE x) := by rw [hu2]; exact R1'.below g2 (Nat.le_refl _)
  have N2 : NR (u1.alloc (.cells #[.int .i64 5, .int .i64 0, .int .i64 0, .int .i64 0] 182)) w.heap.size u2.heap.size (.slice (some ⟨u1.heap.size, 0, none⟩) 1 1) [⟨5, 0, 0, 0⟩] := by rw [hu2]; exact n2.no.nr
  have HX : Hid (RowI u2 w.heap.size (.slice av (codeE x).length cv) (codeE x)) := by show RowI u2 _ _ _; rw [← hu2]; exact R2
  have hsz : w.heap.size ≤ (u1.alloc (.cells #[.int .i64 5, .int .i64 0, .int .i64 0, .int .i64 0] 182)).heap.size := by rw [hu2]; omega
  clear hu2 R1 R1' n2
  go_wp2_with (refine wpList_appI rfl _ _ rfl w.heap.size _ _ rfl rfl R2 N2 hsz (by simp; omega) ?_)
  intro v3 u3 h3
  rw [HU2.out] at h3
  have HE : Hid (RowI u3 w.heap.size v3 (codeE x ++ [⟨5, 0, 0, 0⟩]) ∧ Below w.heap.size w u3) := ⟨h3.row, (G1.trans (g2.mono (by omega))).trans (h3.below HX.out (Nat.le_refl _) (by omega))⟩
  obtain ⟨a3, c3, rfl, _, _⟩ := h3.row.shape
  clear h3 R2 N2 HX HU2 g2 g1 hsz
  go_wp2
  go_ret
  exact ⟨_, rfl, HE.out.1, HE.out.2⟩
 have k10' : (e.k == 10) = false := by simp [k10]
 obtain ⟨x, y, hxy⟩ := kidsE2 HF.out.1 k1 k2 k10
 have HRR : Hid (codeE x ++ codeE y ++ [⟨4, e.k, 0, 0⟩] = R) := by show _ = R; rw [← HR.out, codeE_two hxy, lastE_two k1 k2 k10]
 have hx0 : e.kids[0]? = some x := by rw [hxy]; rfl
 have hy0 : e.kids[1]? = some y := by rw [hxy]; rfl
 have hfx := HF.out.2 0 x hx0
 have hfy := HF.out.2 1 y hy0
 have hmx : manyL x.kids ≤ 1048576 ∧ (codeE x).length ≤ 1048577 := by
  have := kid_lt hx0
  rw [codeE_len, manyE_eq]
  omega
 have hmy : manyL y.kids ≤ 1048576 ∧ (codeE y).length ≤ 1048577 := by
  have := kid_lt hy0
  rw [codeE_len, manyE_eq]
  omega
 have hl0 : 0 < e.kids.length := by rw [hxy]; simp
 have hl1 : (1 : Int) < (e.kids.length : Int) := by rw [hxy]; simp
 obtain ⟨b, off, cap1, s, hv, hb1, hb2, h5, hkx⟩ := HK.out.at_ hx0
 obtain ⟨b', off', cap2, s', hv', hb1', hb2', h5', hky⟩ := HK.out.at_ hy0
 simp only [Value.slice.injEq, true_and] at hv hv'
 obtain ⟨rfl, rfl⟩ := hv
 simp only [Option.some.injEq, Addr.mk.injEq, and_true] at hv'
 obtain ⟨⟨rfl, rfl⟩, rfl⟩ := hv'
 simp only [Nat.zero_mul, Nat.add_zero] at h5
 simp only [Nat.one_mul] at h5'
 obtain ⟨ads, cps, rfl, _, _⟩ := hkx.shape
 obtain ⟨adt, cpt, rfl, _, _⟩ := hky.shape
 have HH : Hid (KR w lo hi (.slice ads x.kids.length cps) x.kids ∧ KR w lo hi (.slice adt y.kids.length cpt) y.kids ∧ Cell5 w b off x (.slice ads x.kids.length cps) ∧ Cell5 w b (off + 5) y (.slice adt y.kids.length cpt)) := ⟨hkx, hky, h5, h5'⟩
 clear hx0 hy0 hxy hkx hky h5 h5' k1 k2 k10
 go_enter Tryz.func288, Tryz.ntmps288
 go_wp2_with fail
 rw [HU.out]
 refine wp_region_dagC (R := Below u0.heap.size) (Φ := fun i v u => match i with
   | 0 => v = .pointer (some ⟨w.heap.size, 4, none⟩)
   | 1 => v = .slice (some ⟨b, off, none⟩) e.kids.length cap
   | 2 => v = .pointer (some ⟨b, off, none⟩)
   | 3 => v = .agg #[.int .i64 x.k, .int .i64 x.n, .int .i64 x.ak, .int .i64 x.at_, .slice ads x.kids.length cps]
   | 4 => True
   | 5 => v = .pointer (some ⟨w.heap.size, 4, none⟩)
   | 6 => v = .slice (some ⟨b, off, none⟩) e.kids.length cap
   | 7 => v = .pointer (some ⟨b, off + 5, none⟩)
   | 8 => v = .agg #[.int .i64 y.k, .int .i64 y.n, .int .i64 y.ak, .int .i64 y.at_, .slice adt y.kids.length cpt]
   | 9 => True
   | 10 => True
   | 11 => v = .pointer (some ⟨w.heap.size, 0, none⟩)
   | 12 => v = .int .i64 e.k
   | 13 => v = .agg #[.int .i64 4, .int .i64 e.k, .int .i64 0, .int .i64 0]
   | 14 => True
   | 15 => True
   | 16 => True
   | _ => True)
  (J := fun L ac u => TwoJ u0.heap.size (codeE x) (codeE y) ⟨4, e.k, 0, 0⟩ L ac u ∧ (L.getD 16 true = true → ac.tmps.getD 2 undef = ac.tmps.getD 42 undef)) (by kernel_rfl) (by kernel_rfl) (by kernel_rfl) (Below.refl _ _) (fun _ _ _ h k => h.trans k) ?_ ⟨TwoJ.start _ _ _ _ _ _, fun h => by cases h⟩ ?_ ?_
 ·intro i v u u' hr
  match i with
  | 0 | 1 | 2 | 3 | 4 | 5 | 6 | 7 | 8 | 9 | 10 | 11 | 12 | 13 | 14 | 15 | 16 | _ + 17 => exact fun h => h
 ·intro i o ho L ac u hf hR0 hLs hLi hcl hp he hJ' K' hK'
  have hR : Below u0.heap.size u0 u := (Below.drew (Below.refl _ _)).trans hR0
  have hRw : Below w.heap.size w u := G0.trans (hR.mono (by omega))
  have hsz' : ac.tmps.size = 43 := hf.size
  have hus := hR.size
  have hJ := hJ'.1
  rcases i with _ | _ | _ | _ | _ | _ | _ | _ | _ | _ | _ | _ | _ | _ | _ | _ | _ | i
  ·obtain rfl := si ho
   have h16 : L.getD 16 true = false := hcl.not (i := 16) (j := 0) (by kernel_rfl) hLi
   have hK := fun v w' h1 h2 (h3 : TwoJ u0.heap.size (codeE x) (codeE y) ⟨4, e.k, 0, 0⟩ (L.setIfInBounds 0 true) (ac.put (some 27) v) w') => hK' v w' h1 h2 ⟨h3, fun h => by rw [getD_set_ne true (by decide), h16] at h; cases h⟩
   clear hK'
   have q1 : ac.tmps.getD 1 undef = .pointer (some ⟨w.heap.size, 0, none⟩) := hf.at_ 1 (by kernel_rfl)
   clear hp he
   go_simp
   exact hK _ _ (Below.refl _ _) (getD_put_self ac 27 _ (by show _ < ac.tmps.size; omega)) (hJ.other (by decide) (by decide))
  ·obtain rfl := si ho
   have h16 : L.getD 16 true = false := hcl.not (i := 16) (j := 1) (by kernel_rfl) hLi
   have hK := fun v w' h1 h2 (h3 : TwoJ u0.heap.size (codeE x) (codeE y) ⟨4, e.k, 0, 0⟩ (L.setIfInBounds 1 true) (ac.put (some 28) v) w') => hK' v w' h1 h2 ⟨h3, fun h => by rw [getD_set_ne true (by decide), h16] at h; cases h⟩
   clear hK'
   have q27 : ac.tmps.getD 27 undef = .pointer (some ⟨w.heap.size, 4, none⟩) := hp 0 _ rfl (he _ (am (i := 0) rfl) (by kernel_rfl))
   clear hp he
   have c4 := (HA.out.under hR (by omega)).c4
   go_simp
   exact hK _ _ (Below.refl _ _) (getD_put_self ac 28 _ (by show _ < ac.tmps.size; omega)) (hJ.other (by decide) (by decide))
  ·obtain rfl := si ho
   have h16 : L.getD 16 true = false := hcl.not (i := 16) (j := 2) (by kernel_rfl) hLi
   have hK := fun v w' h1 h2 (h3 : TwoJ u0.heap.size (codeE x) (codeE y) ⟨4, e.k, 0, 0⟩ (L.setIfInBounds 2 true) (ac.put (some 29) v) w') => hK' v w' h1 h2 ⟨h3, fun h => by rw [getD_set_ne true (by decide), h16] at h; cases h⟩
   clear hK'
   have q28 : ac.tmps.getD 28 undef = .slice (some ⟨b, off, none⟩) e.kids.length cap := hp 1 _ rfl (he _ (am (i := 0) rfl) (by kernel_rfl))
   clear hp he
   go_simp
   exact hK _ _ (Below.refl _ _) (getD_put_self ac 29 _ (by show _ < ac.tmps.size; omega)) (hJ.other (by decide) (by decide))
  ·obtain rfl := si ho
   have h16 : L.getD 16 true = false := hcl.not (i := 16) (j := 3) (by kernel_rfl) hLi
   have hK := fun v w' h1 h2 (h3 : TwoJ u0.heap.size (codeE x) (codeE y) ⟨4, e.k, 0, 0⟩ (L.setIfInBounds 3 true) (ac.put (some 30) v) w') => hK' v w' h1 h2 ⟨h3, fun h => by rw [getD_set_ne true (by decide), h16] at h; cases h⟩
   clear hK'
   have q29 : ac.tmps.getD 29 undef = .pointer (some ⟨b, off, none⟩) := hp 2 _ rfl (he _ (am (i := 0) rfl) (by kernel_rfl))
   clear hp he
   obtain ⟨c0, c1, c2, c3, c4⟩ := HH.out.2.2.1.kept (hRw.block b (by omega))
   go_simp
   exact hK _ _ (Below.refl _ _) (getD_put_self ac 30 _ (by show _ < ac.tmps.size; omega)) (hJ.other (by decide) (by decide))
  ·obtain rfl := si ho
   have h16 : L.getD 16 true = false := hcl.not (i := 16) (j := 4) (by kernel_rfl) hLi
   have hK := fun v w' h1 h2 (h3 : TwoJ u0.heap.size (codeE x) (codeE y) ⟨4, e.k, 0, 0⟩ (L.setIfInBounds 4 true) (ac.put (some 31) v) w') => hK' v w' h1 h2 ⟨h3, fun h => by rw [getD_set_ne true (by decide), h16] at h; cases h⟩
   clear hK'
   have q30 : ac.tmps.getD 30 undef = .agg #[.int .i64 x.k, .int .i64 x.n, .int .i64 x.ak, .int .i64 x.at_, .slice ads x.kids.length cps] := hp 3 _ rfl (he _ (am (i := 0) rfl) (by kernel_rfl))
   have h9 : L.getD 9 true = false := hcl.not (i := 9) (j := 4) (by kernel_rfl) hLi
   have h10 : L.getD 10 true = false := hcl.not (i := 10) (j := 4) (by kernel_rfl) hLi
   have h15 : L.getD 15 true = false := hcl.not (i := 15) (j := 10) (by kernel_rfl) h10
   clear hp he
   have hC := H u lo hi _ x (HH.out.1.under hRw hhi) (by omega) hfx hmx.1
   go_simp
   refine hC.mono ?_
   rintro e1 u' ⟨v', rfl, hrow, hbu⟩
   exact hK _ _ (hbu.mono (by omega)) trivial (hJ.call4 hLs h9 h10 h15 (by show _ < ac.tmps.size; omega) (by omega) hbu hrow)
  ·obtain rfl := si ho
   have h16 : L.getD 16 true = false := hcl.not (i := 16) (j := 5) (by kernel_rfl) hLi
   have hK := fun v w' h1 h2 (h3 : TwoJ u0.heap.size (codeE x) (codeE y) ⟨4, e.k, 0, 0⟩ (L.setIfInBounds 5 true) (ac.put (some 32) v) w') => hK' v w' h1 h2 ⟨h3, fun h => by rw [getD_set_ne true (by decide), h16] at h; cases h⟩
   clear hK'
   have q1 : ac.tmps.getD 1 undef = .pointer (some ⟨w.heap.size, 0, none⟩) := hf.at_ 1 (by kernel_rfl)
   clear hp he
   go_simp
   exact hK _ _ (Below.refl _ _) (getD_put_self ac 32 _ (by show _ < ac.tmps.size; omega)) (hJ.other (by decide) (by decide))
  ·obtain rfl := si ho
   have h16 : L.getD 16 true = false := hcl.not (i := 16) (j := 6) (by kernel_rfl) hLi
   have hK := fun v w' h1 h2 (h3 : TwoJ u0.heap.size (codeE x) (codeE y) ⟨4, e.k, 0, 0⟩ (L.setIfInBounds 6 true) (ac.put (some 33) v) w') => hK' v w' h1 h2 ⟨h3, fun h => by rw [getD_set_ne true (by decide), h16] at h; cases h⟩
   clear hK'
   have q32 : ac.tmps.getD 32 undef = .pointer (some ⟨w.heap.size, 4, none⟩) := hp 5 _ rfl (he _ (am (i := 0) rfl) (by kernel_rfl))
   clear hp he
   have c4 := (HA.out.under hR (by omega)).c4
   go_simp
   exact hK _ _ (Below.refl _ _) (getD_put_self ac 33 _ (by show _ < ac.tmps.size; omega)) (hJ.other (by decide) (by decide))
  ·obtain rfl := si ho
   have h16 : L.getD 16 true = false := hcl.not (i := 16) (j := 7) (by kernel_rfl) hLi
   have hK := fun v w' h1 h2 (h3 : TwoJ u0.heap.size (codeE x) (codeE y) ⟨4, e.k, 0, 0⟩ (L.setIfInBounds 7 true) (ac.put (some 34) v) w') => hK' v w' h1 h2 ⟨h3, fun h => by rw [getD_set_ne true (by decide), h16] at h; cases h⟩
   clear hK'
   have q33 : ac.tmps.getD 33 undef = .slice (some ⟨b, off, none⟩) e.kids.length cap := hp 6 _ rfl (he _ (am (i := 0) rfl) (by kernel_rfl))
   clear hp he
   go_simp
   exact hK _ _ (Below.refl _ _) (getD_put_self ac 34 _ (by show _ < ac.tmps.size; omega)) (hJ.other (by decide) (by decide))
  ·obtain rfl := si ho
   have h16 : L.getD 16 true = false := hcl.not (i := 16) (j := 8) (by kernel_rfl) hLi
   have hK := fun v w' h1 h2 (h3 : TwoJ u0.heap.size (codeE x) (codeE y) ⟨4, e.k, 0, 0⟩ (L.setIfInBounds 8 true) (ac.put (some 35) v) w') => hK' v w' h1 h2 ⟨h3, fun h => by rw [getD_set_ne true (by decide), h16] at h; cases h⟩
   clear hK'
   have q34 : ac.tmps.getD 34 undef = .pointer (some ⟨b, off + 5, none⟩) := hp 7 _ rfl (he _ (am (i := 0) rfl) (by kernel_rfl))
   clear hp he
   obtain ⟨c0, c1, c2, c3, c4⟩ := HH.out.2.2.2.kept (hRw.block b (by omega))
   go_simp
   exact hK _ _ (Below.refl _ _) (getD_put_self ac 35 _ (by show _ < ac.tmps.size; omega)) (hJ.other (by decide) (by decide))
  ·obtain rfl := si ho
   have h16 : L.getD 16 true = false := hcl.not (i := 16) (j := 9) (by kernel_rfl) hLi
   have hK := fun v w' h1 h2 (h3 : TwoJ u0.heap.size (codeE x) (codeE y) ⟨4, e.k, 0, 0⟩ (L.setIfInBounds 9 true) (ac.put (some 36) v) w') => hK' v w' h1 h2 ⟨h3, fun h => by rw [getD_set_ne true (by decide), h16] at h; cases h⟩
   clear hK'
   have q35 : ac.tmps.getD 35 undef = .agg #[.int .i64 y.k, .int .i64 y.n, .int .i64 y.ak, .int .i64 y.at_, .slice adt y.kids.length cpt] := hp 8 _ rfl (he _ (am (i := 0) rfl) (by kernel_rfl))
   have h10 : L.getD 10 true = false := hcl.not (i := 10) (j := 9) (by kernel_rfl) hLi
   have h15 : L.getD 15 true = false := hcl.not (i := 15) (j := 10) (by kernel_rfl) h10
   clear hp he
   have hC := H u lo hi _ y (HH.out.2.1.under hRw hhi) (by omega) hfy hmy.1
   go_simp
   refine hC.mono ?_
   rintro e1 u' ⟨v', rfl, hrow, hbu⟩
   exact hK _ _ (hbu.mono (by omega)) trivial (hJ.call9 hLs h10 h15 (by show _ < ac.tmps.size; omega) (by omega) hbu hrow)
  ·obtain rfl := si ho
   have h16 : L.getD 16 true = false := hcl.not (i := 16) (j := 10) (by kernel_rfl) hLi
   have hK := fun v w' h1 h2 (h3 : TwoJ u0.heap.size (codeE x) (codeE y) ⟨4, e.k, 0, 0⟩ (L.setIfInBounds 10 true) (ac.put (some 37) v) w') => hK' v w' h1 h2 ⟨h3, fun h => by rw [getD_set_ne true (by decide), h16] at h; cases h⟩
   clear hK'
   have e4 : L.getD 4 true = true := he _ (am (i := 0) rfl) (by kernel_rfl)
   have e9 : L.getD 9 true = true := he _ (am (i := 1) rfl) (by kernel_rfl)
   have h15 : L.getD 15 true = false := hcl.not (i := 15) (j := 10) (by kernel_rfl) hLi
   have r0 := hJ.j4 e4 hLi
   have r1 := hJ.j9 e9 hLi
   clear hp he
   refine step_appI rfl (.tmp 31) (.tmp 36) rfl u0.heap.size _ _ (v := ac.tmps.getD 31 undef) (xv := ac.tmps.getD 36 undef) rfl rfl r0 r1.no.nr (by omega) (by omega) ?_
   intro v' u' h3
   exact hK _ _ (h3.below r0 (Nat.le_refl _) (by omega)) trivial (hJ.app10 hLs e4 hLi h15 (by show _ < ac.tmps.size; omega) h3)
  ·obtain rfl := si ho
   have h16 : L.getD 16 true = false := hcl.not (i := 16) (j := 11) (by kernel_rfl) hLi
   have hK := fun v w' h1 h2 (h3 : TwoJ u0.heap.size (codeE x) (codeE y) ⟨4, e.k, 0, 0⟩ (L.setIfInBounds 11 true) (ac.put (some 38) v) w') => hK' v w' h1 h2 ⟨h3, fun h => by rw [getD_set_ne true (by decide), h16] at h; cases h⟩
   clear hK'
   have q1 : ac.tmps.getD 1 undef = .pointer (some ⟨w.heap.size, 0, none⟩) := hf.at_ 1 (by kernel_rfl)
   clear hp he
   go_simp
   exact hK _ _ (Below.refl _ _) (getD_put_self ac 38 _ (by show _ < ac.tmps.size; omega)) (hJ.other (by decide) (by decide))
  ·obtain rfl := si ho
   have h16 : L.getD 16 true = false := hcl.not (i := 16) (j := 12) (by kernel_rfl) hLi
   have hK := fun v w' h1 h2 (h3 : TwoJ u0.heap.size (codeE x) (codeE y) ⟨4, e.k, 0, 0⟩ (L.setIfInBounds 12 true) (ac.put (some 39) v) w') => hK' v w' h1 h2 ⟨h3, fun h => by rw [getD_set_ne true (by decide), h16] at h; cases h⟩
   clear hK'
   have q38 : ac.tmps.getD 38 undef = .pointer (some ⟨w.heap.size, 0, none⟩) := hp 11 _ rfl (he _ (am (i := 0) rfl) (by kernel_rfl))
   clear hp he
   have c0 := (HA.out.under hR (by omega)).c0
   go_simp
   exact hK _ _ (Below.refl _ _) (getD_put_self ac 39 _ (by show _ < ac.tmps.size; omega)) (hJ.other (by decide) (by decide))
  ·obtain rfl := si ho
   have h16 : L.getD 16 true = false := hcl.not (i := 16) (j := 13) (by kernel_rfl) hLi
   have hK := fun v w' h1 h2 (h3 : TwoJ u0.heap.size (codeE x) (codeE y) ⟨4, e.k, 0, 0⟩ (L.setIfInBounds 13 true) (ac.put (some 40) v) w') => hK' v w' h1 h2 ⟨h3, fun h => by rw [getD_set_ne true (by decide), h16] at h; cases h⟩
   clear hK'
   have q39 : ac.tmps.getD 39 undef = .int .i64 e.k := hp 12 _ rfl (he _ (am (i := 0) rfl) (by kernel_rfl))
   clear hp he
   have q39' : ac.tmps[39]?.getD undef = .int .i64 e.k := by rw [← Array.getD_eq_getD_getElem?]; exact q39
   have HZ : Hid (ac.tmps.size = 43) := hsz'
   clear q39 hsz'
   go_simp
   have hsz' := HZ.out
   exact hK _ _ (Below.refl _ _) (getD_put_self ac 40 _ (by show _ < ac.tmps.size; omega)) (hJ.other (by decide) (by decide))
  ·obtain rfl := si ho
   have h16 : L.getD 16 true = false := hcl.not (i := 16) (j := 14) (by kernel_rfl) hLi
   have hK := fun v w' h1 h2 (h3 : TwoJ u0.heap.size (codeE x) (codeE y) ⟨4, e.k, 0, 0⟩ (L.setIfInBounds 14 true) (ac.put (some 41) v) w') => hK' v w' h1 h2 ⟨h3, fun h => by rw [getD_set_ne true (by decide), h16] at h; cases h⟩
   clear hK'
   have q40 : ac.tmps.getD 40 undef = .agg #[.int .i64 4, .int .i64 e.k, .int .i64 0, .int .i64 0] := hp 13 _ rfl (he _ (am (i := 0) rfl) (by kernel_rfl))
   have h15 : L.getD 15 true = false := hcl.not (i := 15) (j := 14) (by kernel_rfl) hLi
   clear hp he
   have q40' : ac.tmps[40]?.getD undef = .agg #[.int .i64 4, .int .i64 e.k, .int .i64 0, .int .i64 0] := by rw [← Array.getD_eq_getD_getElem?]; exact q40
   have HZ : Hid (ac.tmps.size = 43) := hsz'
   clear q40 hsz'
   go_simp
   have hsz' := HZ.out
   exact hK _ _ ((Below.refl _ _).alloc (by omega) _) trivial (hJ.new14 hLs h15 (by show _ < ac.tmps.size; omega) (by omega) ((Below.refl _ _).alloc (Nat.le_refl _) _) (rowI_lit u ⟨4, e.k, 0, 0⟩ u.heap.size (Nat.le_refl _)))
  ·obtain rfl := si ho
   have h16 : L.getD 16 true = false := hcl.not (i := 16) (j := 15) (by kernel_rfl) hLi
   have hK := fun v w' h1 h2 (h3 : TwoJ u0.heap.size (codeE x) (codeE y) ⟨4, e.k, 0, 0⟩ (L.setIfInBounds 15 true) (ac.put (some 42) v) w') => hK' v w' h1 h2 ⟨h3, fun h => by rw [getD_set_ne true (by decide), h16] at h; cases h⟩
   clear hK'
   have e10 : L.getD 10 true = true := he _ (am (i := 0) rfl) (by kernel_rfl)
   have e14 : L.getD 14 true = true := he _ (am (i := 1) rfl) (by kernel_rfl)
   have r0 := hJ.j10 e10 hLi
   have r1 := hJ.j14 e14 hLi
   clear hp he
   refine step_appI rfl (.tmp 37) (.tmp 41) rfl u0.heap.size _ _ (v := ac.tmps.getD 37 undef) (xv := ac.tmps.getD 41 undef) rfl rfl r0 r1.no.nr (by omega) (by simp; omega) ?_
   intro v' u' h3
   exact hK _ _ (h3.below r0 (Nat.le_refl _) (by omega)) trivial (hJ.app15 hLs e10 (by show _ < ac.tmps.size; omega) h3.row)
  ·obtain rfl := si ho
   have e15 : L.getD 15 true = true := he _ (am (i := 0) rfl) (by kernel_rfl)
   have r0 := hJ.j15 e15
   obtain ⟨a2, c2, q42, _, _⟩ := r0.shape
   obtain ⟨nn, hnn⟩ : ∃ nn, (codeE x ++ codeE y ++ ([⟨4, e.k, 0, 0⟩] : List InsD)).length = nn := ⟨_, rfl⟩
   rw [hnn] at q42
   clear hnn
   have hKK := hK' (ac.tmps.getD 42 undef) u (Below.refl _ _) trivial ⟨hJ.other (by decide) (by decide), fun _ => by show (ac.put (some 2) (ac.tmps.getD 42 undef)).tmps.getD 2 undef = (ac.put (some 2) (ac.tmps.getD 42 undef)).tmps.getD 42 undef; rw [getD_put_self ac 2 _ (by show _ < ac.tmps.size; omega), getD_put_ne ac 2 42 _ (by decide)]⟩
   rw [q42] at hKK
   have HKK : Hid _ := hKK
   clear hp he hK' hKK hJ hJ' r0
   go_simp
   exact HKK.out
  ·exact absurd ho (by simp)
 ·intro L ac u hf hR0 hp hJ
  have hR : Below u0.heap.size u0 u := (Below.drew (Below.refl _ _)).trans hR0
  have hRw : Below w.heap.size w u := G0.trans (hR.mono (by omega))
  have r0 := hJ.1.j15 (hp 15 _ rfl).1
  have m2 := hJ.2 (hp 16 _ rfl).1
  obtain ⟨a2, c2, q42, _, _⟩ := r0.shape
  obtain ⟨nn, hnn⟩ : ∃ nn, (codeE x ++ codeE y ++ ([⟨4, e.k, 0, 0⟩] : List InsD)).length = nn := ⟨_, rfl⟩
  rw [hnn] at q42
  rw [q42] at r0 m2
  have HE : Hid (RowI u w.heap.size (.slice a2 nn c2) R ∧ Below w.heap.size w u) := ⟨by have := r0.mono (base' := w.heap.size) (by omega); rw [HRR.out] at this; exact this, hRw⟩
  clear hp hJ hR0 hR r0 q42 hnn
  obtain ⟨fq, ea, hfv⟩ := act_lit ac 43 hf.size
  have md : ac.defers = [] := hf.defers
  rw [md] at ea
  have m0 := hf.at_ 0 (by kernel_rfl)
  have m1 := hf.at_ 1 (by kernel_rfl)
  have m3 := hf.at_ 3 (by kernel_rfl)
  have m4 := hf.at_ 4 (by kernel_rfl)
  have m5 := hf.at_ 5 (by kernel_rfl)
  have m6 := hf.at_ 6 (by kernel_rfl)
  have m7 := hf.at_ 7 (by kernel_rfl)
  have m8 := hf.at_ 8 (by kernel_rfl)
  have m9 := hf.at_ 9 (by kernel_rfl)
  have m10 := hf.at_ 10 (by kernel_rfl)
  have m11 := hf.at_ 11 (by kernel_rfl)
  have m12 := hf.at_ 12 (by kernel_rfl)
  have m13 := hf.at_ 13 (by kernel_rfl)
  have m14 := hf.at_ 14 (by kernel_rfl)
  have m15 := hf.at_ 15 (by kernel_rfl)
  have m16 := hf.at_ 16 (by kernel_rfl)
  have m17 := hf.at_ 17 (by kernel_rfl)
  have m18 := hf.at_ 18 (by kernel_rfl)
  have m19 := hf.at_ 19 (by kernel_rfl)
  have m20 := hf.at_ 20 (by kernel_rfl)
  have m21 := hf.at_ 21 (by kernel_rfl)
  have m22 := hf.at_ 22 (by kernel_rfl)
  have m23 := hf.at_ 23 (by kernel_rfl)
  have m24 := hf.at_ 24 (by kernel_rfl)
  have m25 := hf.at_ 25 (by kernel_rfl)
  have m26 := hf.at_ 26 (by kernel_rfl)
  rw [← hfv] at m0 m1 m3 m4 m5 m6 m7 m8 m9 m10 m11 m12 m13 m14 m15 m16 m17 m18 m19 m20 m21 m22 m23 m24 m25 m26 m2
  simp only [Array.getD_eq_getD_getElem?, List.getElem?_toArray, List.getElem?_cons_succ, List.getElem?_cons_zero, Option.getD_some] at m0 m1 m3 m4 m5 m6 m7 m8 m9 m10 m11 m12 m13 m14 m15 m16 m17 m18 m19 m20 m21 m22 m23 m24 m25 m26
  simp only [List.range, List.range.loop, List.map_cons, List.map_nil, m0, m1, m3, m4, m5, m6, m7, m8, m9, m10, m11, m12, m13, m14, m15, m16, m17, m18, m19, m20, m21, m22, m23, m24, m25, m26, m2] at ea
  subst ea
  clear m0 m1 m3 m4 m5 m6 m7 m8 m9 m10 m11 m12 m13 m14 m15 m16 m17 m18 m19 m20 m21 m22 m23 m24 m25 m26 m2 hfv md hf
  go_wp2
  go_ret
  exact ⟨_, rfl, HE.out.1, HE.out.2⟩

theorem leS : ∀ d, LE d
 | 0 => fun w lo hi s e _ _ hf _ => by rw [formE] at hf; cases hf
 | d + 1 => le_step (leS d)
end Go.Proofs.YtaoiookfmgpmkaaGreatDoor
