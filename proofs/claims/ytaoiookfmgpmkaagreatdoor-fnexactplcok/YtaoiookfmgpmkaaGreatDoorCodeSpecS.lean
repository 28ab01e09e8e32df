/-
 The model's l5One, l5Of and CodeOf. (Written by our generator gen_codespec.py.)
-/
import Derived.Test.YtaoiookfmgpmkaaGreatDoorCodeSpecE
import Derived.Test.YtaoiookfmgpmkaaGreatDoorStmtSpec
namespace Go.Proofs.YtaoiookfmgpmkaaGreatDoor
open Go.ChangeShapes Go.WideShapes Go.ChangeAt Go.RowKit
set_option linter.unusedVariables false
set_option maxRecDepth 100000

def ApartI (x v : Value) : Prop := x.ownBlock ≠ v.ownBlock ∨ x.ownBlock = none

theorem AppI.other {w w' : World} {base base' : Nat} {v v' x : Value} {ps qs : List InsD} (h : AppI w base v ps v' w') (hx : RowI w base' x qs) (hne : ApartI x v) : RowI w' base' x qs ∧ ApartI x v' := by
 refine ⟨hx.at_ fun g hg => h.grown.block g (hx.lt g hg).2 fun e => ?_, ?_⟩
 ·rcases hne with k | k
  ·exact k (by rw [hg, e])
  ·rw [k] at hg; cases hg
 ·rcases hne with k | k
  ·rcases h.at_ with h1 | h1
   ·exact .inl (by rw [h1]; exact k)
   ·cases hg : x.ownBlock with
    | none => exact .inr hg
    | some g =>
     refine .inl ?_
     rw [hg, h1]
     intro e
     have := (hx.lt g hg).2
     simp only [Option.some.injEq] at e
     omega
  ·exact .inr k

theorem apart_new {w w0 : World} {base base0 : Nat} {v x : Value} {ps qs : List InsD} (hx : RowI w base x ps) (hv : RowI w0 base0 v qs) (hle : w0.heap.size ≤ base) : ApartI x v := own_ge hx hv hle

theorem RowI.shapeN {w : World} {base : Nat} {v : Value} {ps : List InsD} (h : RowI w base v ps) : ∃ ad n cap, v = .slice ad n cap ∧ n = ps.length := by
 obtain ⟨ad, cap, hv, _, _⟩ := h.shape
 exact ⟨ad, _, cap, hv, rfl⟩

def LO (n : Nat) : Prop := ∀ (d : Nat) (w : World) (lo hi : Nat) (v : Value) (ss : List StmtD) (i : Nat), sizeL ss ≤ n → formT d ss = true → SR w lo hi v ss → hi ≤ w.heap.size → sizeL ss ≤ 1048576 → i + 3 * sizeL ss ≤ 100000000 →
 Calls Tryz.prog 208 #[v, .int .i64 i] w fun en w' => ∃ v', en = .returned v' ∧ RowI w' w.heap.size v' (codeL ss i) ∧ Below w.heap.size w w'

theorem formT_parts {d : Nat} {ss : List StmtD} {j : Nat} {s : StmtD} (h : formT d ss = true) (hs : ss[j]? = some s) : ∃ d', fitB s = true ∧ exprOk s.e = true ∧ formT d' s.th = true ∧ formT d' s.el = true := by
 cases d with
 | zero =>
  rw [formT] at h
  cases ss with
  | nil => simp at hs
  | cons x l => simp at h
 | succ d =>
  rw [formT, List.all_eq_true] at h
  have := h s (List.mem_of_getElem? hs)
  simp only [Bool.and_eq_true] at this
  exact ⟨d, this.1.1.1, this.1.1.2, this.1.2, this.2⟩

theorem exprOk_form6 {e : ExprD} (h : exprOk e = true) : formE 6 e = true := by
 unfold exprOk at h
 rw [Bool.and_eq_true] at h
 exact h.1

set_option maxHeartbeats 8000000 in
theorem lone_of {n : Nat} (H : ∀ m, m < n → LO m) (d : Nat) (w : World) (lo hi : Nat) (s : StmtD) (x y z : Value) (i : Nat) (hn : sizeL s.th < n ∧ sizeL s.el < n) (hsz : manyL s.e.kids + sizeL s.th + sizeL s.el ≤ 1048576)
  (hx : KR w lo hi x s.e.kids) (hy : SR w lo hi y s.th) (hz : SR w lo hi z s.el) (hhi : hi ≤ w.heap.size) (he : exprOk s.e = true) (ht : formT d s.th = true) (hl : formT d s.el = true) (hi' : i + 3 * (manyL s.e.kids + sizeL s.th + sizeL s.el + 1) ≤ 100000000) :
  Calls Tryz.prog 261 #[stmtV s x y z, .int .i64 i] w fun en w' => ∃ v', en = .returned v' ∧ RowI w' w.heap.size v' (codeS s i) ∧ Below w.heap.size w w' := by
 have HX : Hid (KR w lo hi x s.e.kids ∧ SR w lo hi y s.th ∧ SR w lo hi z s.el) := ⟨hx, hy, hz⟩
 obtain ⟨ax, cx, rfl, _, _⟩ := hx.shape
 obtain ⟨ay, cy, rfl, _, _⟩ := hy.shape
 obtain ⟨az, cz, rfl, _, _⟩ := hz.shape
 obtain ⟨R, hR⟩ : ∃ R, codeS s i = R := ⟨_, rfl⟩
 rw [hR]
 have HR : Hid (codeS s i = R) := hR
 clear hx hy hz hR
 unfold stmtV
 obtain ⟨u0, hu0, G0, T0, S0⟩ : ∃ u0, w.alloc (.cells #[.int .i64 s.k, .int .i64 s.tk, .int .i64 s.ta, .int .i64 s.e.k, .int .i64 s.e.n, .int .i64 s.e.ak, .int .i64 s.e.at_, .slice ax s.e.kids.length cx, .slice ay s.th.length cy, .slice az s.el.length cz] 123) = u0 ∧ Below w.heap.size w u0 ∧ TenW u0 w.heap.size (.int .i64 s.k) (.int .i64 s.tk) (.int .i64 s.ta) (.int .i64 s.e.k) (.int .i64 s.e.n) (.int .i64 s.e.ak) (.int .i64 s.e.at_) (.slice ax s.e.kids.length cx) (.slice ay s.th.length cy) (.slice az s.el.length cz) ∧ u0.heap.size = w.heap.size + 1 :=
  ⟨_, rfl, (Below.refl w.heap.size w).alloc (Nat.le_refl _) _, tenW_new _ _ _ _ _ _ _ _ _ _ _ _, by simp⟩
 have HU : Hid (_ = u0) := hu0
 clear hu0
 have hC := leS 6 u0 lo hi _ s.e (HX.out.1.under G0 hhi) (by omega) (exprOk_form6 he) (by omega)
 obtain ⟨a, ha⟩ : ∃ a, codeE s.e = a := ⟨_, rfl⟩
 have hal : a.length = manyL s.e.kids + 1 := by rw [← ha, codeE_len, manyE_eq]
 have HA : Hid (codeE s.e = a ∧ a.length = manyL s.e.kids + 1) := ⟨ha, hal⟩
 rw [ha] at hC
 have hab : a.length ≤ 1048577 := by omega
 have hai : i + a.length + 1 + 3 * sizeL s.th ≤ 100000000 ∧ i + a.length + 1 + 3 * sizeL s.th + 1 + 3 * sizeL s.el ≤ 100000000 := by omega
 clear hal ha
 go_enter Tryz.func261, Tryz.ntmps261
 go_wp2_with fail
 rw [HU.out]
 refine hC.mono ?_
 rintro e1 u1 ⟨v1, rfl, R1, g1⟩
 clear hC
 have s1 := g1.size
 have G1 : Below w.heap.size w u1 := G0.trans (g1.mono (by omega))
 have T1 := T0.under g1 (by omega)
 replace R1 := R1.mono (base' := w.heap.size) (by omega)
 obtain ⟨a1, k1, rfl, _, _⟩ := R1.shape
 clear g1 T0
 obtain ⟨c0, c1, c2, c3, c4, c5, c6, c7, c8, c9, _⟩ := id T1
 by_cases h1 : s.k = 1
 ·have HRR : Hid (a ++ [⟨3, 0, s.tk, s.ta⟩] = R) := by show _ = R; rw [← HR.out, codeS_set h1, HA.out.1]
  have h1' : (s.k == 1) = true := by simp [h1]
  have gA : Below u1.heap.size u1 (u1.alloc (.cells #[.int .i64 3, .int .i64 0, .int .i64 s.tk, .int .i64 s.ta] 182)) := (Below.refl _ _).alloc (Nat.le_refl _) _
  have RA := R1.below gA (Nat.le_refl _)
  have NA := (rowI_lit u1 ⟨3, 0, s.tk, s.ta⟩ w.heap.size (by omega)).no.nr
  have zA : w.heap.size ≤ (u1.alloc (.cells #[.int .i64 3, .int .i64 0, .int .i64 s.tk, .int .i64 s.ta] 182)).heap.size := by rw [World.size_alloc]; omega
  clear h1
  go_wp2_with (refine wpList_appI rfl _ _ rfl w.heap.size _ _ rfl rfl RA NA zA (by simp; omega) ?_)
  intro v2 u2 h2
  have HE : Hid (RowI u2 w.heap.size v2 R ∧ Below w.heap.size w u2) := ⟨by rw [← HRR.out]; exact h2.row, (G1.trans (gA.mono (by omega))).trans (h2.below RA (Nat.le_refl _) zA)⟩
  obtain ⟨a2, k2, rfl, _, _⟩ := h2.row.shape
  clear h2 RA NA gA zA T1 c0 c1 c2 c3 c4 c5 c6 c7 c8 c9 R1
  go_wp2
  go_ret
  exact ⟨_, rfl, HE.out.1, HE.out.2⟩
 have h1' : (s.k == 1) = false := by simp [h1]
 by_cases h3 : s.k = 3
 ·have h3' : (s.k == 3) = true := by simp [h3]
  have hC := H _ hn.1 d u1 lo hi _ s.th (i + a.length + 1) (Nat.le_refl _) ht (HX.out.2.1.under G1 hhi) (by omega) (by omega) (by omega)
  have HRR : Hid (a ++ (⟨6, ((i + a.length + 1 + (codeL s.th (i + a.length + 1)).length + 1 : Nat) : Int), 0, 0⟩ :: (codeL s.th (i + a.length + 1) ++ [⟨8, (i : Int), 0, 0⟩])) = R) := by show _ = R; rw [← HR.out, codeS_while h3 HA.out.1 rfl]
  have hbl := codeL_len s.th (i + a.length + 1)
  generalize codeL s.th (i + a.length + 1) = b at *
  have hbb : b.length ≤ 3145728 := by omega
  clear h1 h3
  rw [show ((i + a.length + 1 : Nat) : Int) = (i : Int) + ((a.length : Int) + 1) by omega] at hC
  go_wp2_with fail
  refine hC.mono ?_
  rintro e2 u2 ⟨v2, rfl, X2, g2⟩
  clear hC T1 c0 c1 c2 c3 c4 c5 c6 c7 c8 c9
  have s2 := g2.size
  have G2 : Below w.heap.size w u2 := G1.trans (g2.mono (by omega))
  have P2 : ApartI v2 (.slice a1 a.length k1) := apart_new X2 R1 (Nat.le_refl _)
  have R2 := R1.below g2 (Nat.le_refl _)
  replace X2 := X2.mono (base' := w.heap.size) (by omega)
  obtain ⟨a2, k2, rfl, _, _⟩ := X2.shape
  clear g2 G1 R1
  have gA : Below u2.heap.size u2 (u2.alloc (.cells #[.int .i64 6, .int .i64 ((i : Int) + ((a.length : Int) + 1) + (b.length : Int) + 1), .int .i64 0, .int .i64 0] 182)) := (Below.refl _ _).alloc (Nat.le_refl _) _
  have RA := R2.below gA (Nat.le_refl _)
  have NA := (rowI_lit u2 ⟨6, ((i : Int) + ((a.length : Int) + 1) + (b.length : Int) + 1), 0, 0⟩ w.heap.size (by omega)).no.nr
  have zA : w.heap.size ≤ (u2.alloc (.cells #[.int .i64 6, .int .i64 ((i : Int) + ((a.length : Int) + 1) + (b.length : Int) + 1), .int .i64 0, .int .i64 0] 182)).heap.size := by rw [World.size_alloc]; omega
  have X2A := X2.below gA (Nat.le_refl _)
  go_wp2_with (refine wpList_appI rfl _ _ rfl w.heap.size _ _ rfl rfl RA NA zA (by simp; omega) ?_)
  intro v3 u3 h3
  have s3 : u2.heap.size ≤ u3.heap.size := Nat.le_trans gA.size h3.grown.size
  have G3 : Below w.heap.size w u3 := (G2.trans (gA.mono (by omega))).trans (h3.below RA (Nat.le_refl _) zA)
  have R3 := h3.row
  have X2o := h3.other X2A P2
  clear X2 P2 X2A
  obtain ⟨X2, P2⟩ := X2o
  obtain ⟨a3, n3, k3, rfl, hn3⟩ := R3.shapeN
  clear hn3
  clear gA RA NA zA h3 R2 G2
  have zA : w.heap.size ≤ u3.heap.size := by omega
  have NA := X2.no.nr
  go_wp2_with (refine wpList_appI rfl _ _ rfl w.heap.size _ _ rfl rfl R3 NA zA (by simp; omega) ?_)
  intro v4 u4 h4
  have s4 : u3.heap.size ≤ u4.heap.size := h4.grown.size
  have G4 : Below w.heap.size w u4 := G3.trans (h4.below R3 (Nat.le_refl _) zA)
  have R4 := h4.row
  obtain ⟨a4, n4, k4, rfl, hn4⟩ := R4.shapeN
  clear hn4
  clear zA NA h4 R3 G3 X2 P2
  have gA : Below u4.heap.size u4 (u4.alloc (.cells #[.int .i64 8, .int .i64 (i : Int), .int .i64 0, .int .i64 0] 182)) := (Below.refl _ _).alloc (Nat.le_refl _) _
  have RA := R4.below gA (Nat.le_refl _)
  have NA := (rowI_lit u4 ⟨8, (i : Int), 0, 0⟩ w.heap.size (by omega)).no.nr
  have zA : w.heap.size ≤ (u4.alloc (.cells #[.int .i64 8, .int .i64 (i : Int), .int .i64 0, .int .i64 0] 182)).heap.size := by rw [World.size_alloc]; omega
  go_wp2_with (refine wpList_appI rfl _ _ rfl w.heap.size _ _ rfl rfl RA NA zA (by simp; omega) ?_)
  intro v5 u5 h5
  have s5 : u4.heap.size ≤ u5.heap.size := Nat.le_trans gA.size h5.grown.size
  have G5 : Below w.heap.size w u5 := (G4.trans (gA.mono (by omega))).trans (h5.below RA (Nat.le_refl _) zA)
  have R5 := h5.row
  obtain ⟨a5, n5, k5, rfl, hn5⟩ := R5.shapeN
  clear hn5
  clear gA RA NA zA h5 R4 G4
  have hE : a ++ [⟨6, ((i : Int) + ((a.length : Int) + 1) + (b.length : Int) + 1), 0, 0⟩] ++ b ++ [⟨8, (i : Int), 0, 0⟩] = R := by rw [← HRR.out, show ((i + a.length + 1 + b.length + 1 : Nat) : Int) = ((i : Int) + ((a.length : Int) + 1) + (b.length : Int) + 1) by omega]; simp
  have HE : Hid (RowI u5 w.heap.size (.slice a5 n5 k5) R ∧ Below w.heap.size w u5) := ⟨by rw [← hE]; simpa using R5, G5⟩
  clear R5 G5 hE
  go_wp2
  go_ret
  exact ⟨_, rfl, HE.out.1, HE.out.2⟩
 ·have h3' : (s.k == 3) = false := by simp [h3]
  have hC := H _ hn.1 d u1 lo hi _ s.th (i + a.length + 1) (Nat.le_refl _) ht (HX.out.2.1.under G1 hhi) (by omega) (by omega) (by omega)
  have hbl := codeL_len s.th (i + a.length + 1)
  obtain ⟨b, hb⟩ : ∃ b, codeL s.th (i + a.length + 1) = b := ⟨_, rfl⟩
  rw [hb] at hC hbl
  have hcl := codeL_len s.el (i + a.length + 1 + b.length + 1)
  obtain ⟨c, hc⟩ : ∃ c, codeL s.el (i + a.length + 1 + b.length + 1) = c := ⟨_, rfl⟩
  rw [hc] at hcl
  have HC : Hid (codeL s.el (i + a.length + 1 + b.length + 1) = c) := hc
  have HRR : Hid (a ++ (⟨6, ((i + a.length + 1 + b.length + 1 : Nat) : Int), 0, 0⟩ :: (b ++ (⟨7, ((i + a.length + 1 + b.length + 1 + c.length : Nat) : Int), 0, 0⟩ :: c))) = R) := by show _ = R; rw [← HR.out, codeS_if h1 h3 HA.out.1 hb hc]
  have hbb : b.length ≤ 3145728 := by omega
  have hcb : c.length ≤ 3145728 := by omega
  clear h1 h3 hb hc hcl
  rw [show ((i + a.length + 1 : Nat) : Int) = (i : Int) + ((a.length : Int) + 1) by omega] at hC
  go_wp2_with fail
  refine hC.mono ?_
  rintro e2 u2 ⟨v2, rfl, X2, g2⟩
  clear hC c0 c1 c2 c3 c4 c5 c6 c7 c8 c9
  have s2 := g2.size
  have G2 : Below w.heap.size w u2 := G1.trans (g2.mono (by omega))
  have T2 := T1.under g2 (by omega)
  have P2 : ApartI v2 (.slice a1 a.length k1) := apart_new X2 R1 (Nat.le_refl _)
  have R2 := R1.below g2 (Nat.le_refl _)
  replace X2 := X2.mono (base' := w.heap.size) (by omega)
  obtain ⟨a2, k2, rfl, _, _⟩ := X2.shape
  clear g2 G1 R1 T1
  have hC := H _ hn.2 d u2 lo hi _ s.el (i + a.length + 1 + b.length + 1) (Nat.le_refl _) hl (HX.out.2.2.under G2 hhi) (by omega) (by omega) (by omega)
  rw [show ((i + a.length + 1 + b.length + 1 : Nat) : Int) = (i : Int) + ((a.length : Int) + 1) + (b.length : Int) + 1 by omega, HC.out] at hC
  have c9 := T2.c9
  go_wp2_with fail
  refine hC.mono ?_
  rintro e3 u3 ⟨v3, rfl, Y3, g3⟩
  clear hC c9 T2
  have s3 := g3.size
  have G3 : Below w.heap.size w u3 := G2.trans (g3.mono (by omega))
  have Q3 : ApartI v3 (.slice a1 a.length k1) := apart_new Y3 R2 (Nat.le_refl _)
  have R3 := R2.below g3 (Nat.le_refl _)
  replace X2 := X2.below g3 (Nat.le_refl _)
  replace Y3 := Y3.mono (base' := w.heap.size) (by omega)
  obtain ⟨a3, k3, rfl, _, _⟩ := Y3.shape
  clear g3 G2 R2
  have gA : Below u3.heap.size u3 (u3.alloc (.cells #[.int .i64 6, .int .i64 ((i : Int) + ((a.length : Int) + 1) + (b.length : Int) + 1), .int .i64 0, .int .i64 0] 182)) := (Below.refl _ _).alloc (Nat.le_refl _) _
  have RA := R3.below gA (Nat.le_refl _)
  have NA := (rowI_lit u3 ⟨6, ((i : Int) + ((a.length : Int) + 1) + (b.length : Int) + 1), 0, 0⟩ w.heap.size (by omega)).no.nr
  have zA : w.heap.size ≤ (u3.alloc (.cells #[.int .i64 6, .int .i64 ((i : Int) + ((a.length : Int) + 1) + (b.length : Int) + 1), .int .i64 0, .int .i64 0] 182)).heap.size := by rw [World.size_alloc]; omega
  have X2A := X2.below gA (Nat.le_refl _)
  have Y3A := Y3.below gA (Nat.le_refl _)
  go_wp2_with (refine wpList_appI rfl _ _ rfl w.heap.size _ _ rfl rfl RA NA zA (by simp; omega) ?_)
  intro v4 u4 h4
  have s4 : u3.heap.size ≤ u4.heap.size := Nat.le_trans gA.size h4.grown.size
  have G4 : Below w.heap.size w u4 := (G3.trans (gA.mono (by omega))).trans (h4.below RA (Nat.le_refl _) zA)
  have R4 := h4.row
  have X2o := h4.other X2A P2
  clear X2 P2 X2A
  obtain ⟨X2, P2⟩ := X2o
  have Y3o := h4.other Y3A Q3
  clear Y3 Q3 Y3A
  obtain ⟨Y3, Q3⟩ := Y3o
  obtain ⟨a4, n4, k4, rfl, hn4⟩ := R4.shapeN
  clear hn4
  clear gA RA NA zA h4 R3 G3
  have zA : w.heap.size ≤ u4.heap.size := by omega
  have NA := X2.no.nr
  go_wp2_with (refine wpList_appI rfl _ _ rfl w.heap.size _ _ rfl rfl R4 NA zA (by simp; omega) ?_)
  intro v5 u5 h5
  have s5 : u4.heap.size ≤ u5.heap.size := h5.grown.size
  have G5 : Below w.heap.size w u5 := G4.trans (h5.below R4 (Nat.le_refl _) zA)
  have R5 := h5.row
  have Y3o := h5.other Y3 Q3
  clear Y3 Q3
  obtain ⟨Y3, Q3⟩ := Y3o
  obtain ⟨a5, n5, k5, rfl, hn5⟩ := R5.shapeN
  clear hn5
  clear zA NA h5 R4 G4 X2 P2
  have gA : Below u5.heap.size u5 (u5.alloc (.cells #[.int .i64 7, .int .i64 ((i : Int) + ((a.length : Int) + 1) + (b.length : Int) + 1 + (c.length : Int)), .int .i64 0, .int .i64 0] 182)) := (Below.refl _ _).alloc (Nat.le_refl _) _
  have RA := R5.below gA (Nat.le_refl _)
  have NA := (rowI_lit u5 ⟨7, ((i : Int) + ((a.length : Int) + 1) + (b.length : Int) + 1 + (c.length : Int)), 0, 0⟩ w.heap.size (by omega)).no.nr
  have zA : w.heap.size ≤ (u5.alloc (.cells #[.int .i64 7, .int .i64 ((i : Int) + ((a.length : Int) + 1) + (b.length : Int) + 1 + (c.length : Int)), .int .i64 0, .int .i64 0] 182)).heap.size := by rw [World.size_alloc]; omega
  have Y3A := Y3.below gA (Nat.le_refl _)
  go_wp2_with (refine wpList_appI rfl _ _ rfl w.heap.size _ _ rfl rfl RA NA zA (by simp; omega) ?_)
  intro v6 u6 h6
  have s6 : u5.heap.size ≤ u6.heap.size := Nat.le_trans gA.size h6.grown.size
  have G6 : Below w.heap.size w u6 := (G5.trans (gA.mono (by omega))).trans (h6.below RA (Nat.le_refl _) zA)
  have R6 := h6.row
  have Y3o := h6.other Y3A Q3
  clear Y3 Q3 Y3A
  obtain ⟨Y3, Q3⟩ := Y3o
  obtain ⟨a6, n6, k6, rfl, hn6⟩ := R6.shapeN
  clear hn6
  clear gA RA NA zA h6 R5 G5
  have zA : w.heap.size ≤ u6.heap.size := by omega
  have NA := Y3.no.nr
  go_wp2_with (refine wpList_appI rfl _ _ rfl w.heap.size _ _ rfl rfl R6 NA zA (by simp; omega) ?_)
  intro v7 u7 h7
  have s7 : u6.heap.size ≤ u7.heap.size := h7.grown.size
  have G7 : Below w.heap.size w u7 := G6.trans (h7.below R6 (Nat.le_refl _) zA)
  have R7 := h7.row
  obtain ⟨a7, n7, k7, rfl, hn7⟩ := R7.shapeN
  clear hn7
  clear zA NA h7 R6 G6 Y3 Q3
  have hE : a ++ [⟨6, ((i : Int) + ((a.length : Int) + 1) + (b.length : Int) + 1), 0, 0⟩] ++ b ++ [⟨7, ((i : Int) + ((a.length : Int) + 1) + (b.length : Int) + 1 + (c.length : Int)), 0, 0⟩] ++ c = R := by rw [← HRR.out, show ((i + a.length + 1 + b.length + 1 : Nat) : Int) = ((i : Int) + ((a.length : Int) + 1) + (b.length : Int) + 1) by omega, show ((i + a.length + 1 + b.length + 1 + c.length : Nat) : Int) = ((i : Int) + ((a.length : Int) + 1) + (b.length : Int) + 1 + (c.length : Int)) by omega]; simp
  have HE : Hid (RowI u7 w.heap.size (.slice a7 n7 k7) R ∧ Below w.heap.size w u7) := ⟨by rw [← hE]; simpa using R7, G7⟩
  clear R7 G7 hE
  go_wp2
  go_ret
  exact ⟨_, rfl, HE.out.1, HE.out.2⟩
set_option maxHeartbeats 8000000 in
theorem lof_step {n : Nat} (H : ∀ m, m < n → LO m) : LO n := by
 intro d w lo hi v ss i hn hf h hhi hm hi'
 obtain ⟨ad, cap, rfl, hc1, hc2⟩ := h.shape
 have hmx : ss.length ≤ 1048576 := Nat.le_trans (length_le_sizeL ss) hm
 have HK : Hid (SR w lo hi (.slice ad ss.length cap) ss ∧ formT d ss = true ∧ sizeL ss ≤ n ∧ sizeL ss ≤ 1048576) := ⟨h, hf, hn, hm⟩
 clear h hf hc1 hc2 hn
 have gN : Below w.heap.size w (w.alloc (.cells #[] 182)) := (Below.refl _ _).alloc (Nat.le_refl _) _
 have rN := rowI_none w w.heap.size (Nat.le_refl _)
 go_enter Tryz.func208, Tryz.ntmps208
 go_wp2_with fail
 go_loopw [5, 6] (fun o q wr => ∃ j : Nat, j ≤ ss.length ∧ q = .int .i64 j ∧ RowI wr w.heap.size o (codeL (ss.take j) i) ∧ Below w.heap.size w wr) (fun _ q _ => ss.length - (intOf q).toNat)
 case atStart => exact ⟨0, Nat.zero_le _, rfl, by rw [List.take_zero, codeL_nil]; exact rN, gN⟩
 case round =>
  clear gN rN
  obtain ⟨j, hj, rfl, hrow, hb⟩ := hrel
  obtain ⟨a0, n0, k0, rfl, hn0⟩ := hrow.shapeN
  have hcl := codeL_len ss i
  have hct := codeL_take_len ss j i
  have hsz := HK.out.2.2.2
  have hbs := hb.size
  by_cases hlt : j < ss.length
  ·obtain ⟨s, hs⟩ : ∃ s, ss[j]? = some s := ⟨ss[j], List.getElem?_eq_getElem hlt⟩
   obtain ⟨b, off, cap', x, y, z, hv, hb1, hb2, h5, hkx, hky, hkz⟩ := HK.out.1.at_ hs
   simp only [Value.slice.injEq, true_and] at hv
   obtain ⟨rfl, rfl⟩ := hv
   obtain ⟨c0, c1, c2, c3, c4, c5, c6, c7, c8, c9⟩ := h5.kept (hb.block b (by omega))
   obtain ⟨d', hfit, hex, hth, hel⟩ := formT_parts HK.out.2.1 hs
   have hkl := stmt_lt hs
   have hn := HK.out.2.2.1
   have hq1 := codeL_len (ss.take j) i
   have hq2 := sizeL_take_succ hs
   have hq3 := sizeL_take_le ss (j + 1)
   have hq4 := sizeS_eq s
   rw [← hn0] at hq1
   have hC := lone_of (n := n) H d' wr lo hi s x y z (i + n0) (by omega) (by omega) (hkx.under hb hhi) (hky.under hb hhi) (hkz.under hb hhi) (by omega) hex hth hel (by omega)
   unfold stmtV at hC
   rw [show ((i + n0 : Nat) : Int) = (i : Int) + (n0 : Int) by omega] at hC
   have hsuc := codeL_take_succ hs i
   rw [← hn0] at hsuc
   have hct2 := codeL_take_len ss (j + 1) i
   rw [hsuc, List.length_append, ← hn0] at hct2
   have HS : Hid (codeL (ss.take (j + 1)) i = codeL (ss.take j) i ++ codeS s (i + n0)) := hsuc
   have HB : Hid ((codeL (ss.take j) i).length + (codeS s (i + n0)).length ≤ 16777216) := by show _ ≤ _; rw [← hn0]; omega
   have hn0b : n0 ≤ 3145728 := by omega
   clear hsuc hct2 hct hcl hfit hex hth hel hkx hky hkz hs h5 hkl hn hsz hn0 hq1 hq2 hq3 hq4
   go_wp2_with fail
   refine hC.mono ?_
   rintro e1 u1 ⟨v1, rfl, X1, g1⟩
   clear hC c0 c1 c2 c3 c4 c5 c6 c7 c8 c9
   have s1 := g1.size
   have G1 := hb.trans (g1.mono hbs)
   have R1 := hrow.below g1 (Nat.le_refl _)
   obtain ⟨a1, n1, k1, rfl, hn1⟩ := X1.shapeN
   have NA := X1.no.nr
   have zA : w.heap.size ≤ u1.heap.size := by omega
   clear hrow hn1
   go_wp2_with (refine wpList_appI rfl _ _ rfl w.heap.size _ _ rfl rfl R1 NA zA HB.out ?_)
   intro v2 u2 h2
   have HN : Hid (RowI u2 w.heap.size v2 (codeL (ss.take (j + 1)) i) ∧ Below w.heap.size w u2) := ⟨by rw [HS.out]; exact h2.row, G1.trans (h2.below R1 (Nat.le_refl _) zA)⟩
   obtain ⟨a2, n2, k2, rfl, hn2⟩ := h2.row.shapeN
   clear h2 R1 NA X1 g1 G1 hn2 zA
   go_wp2
   go_roundw
   case rel => exact ⟨j + 1, by omega, by go_num, HN.out.1, HN.out.2⟩
   case measure => simp [intOf]; omega
  ·obtain rfl : j = ss.length := by omega
   rw [List.take_length] at hrow
   have HN : Hid (RowI wr w.heap.size (.slice a0 n0 k0) (codeL ss i)) := hrow
   clear hrow hct hn0 hcl
   go_wp2
   go_ret
   exact ⟨_, rfl, HN.out, hb⟩

theorem loS (n : Nat) : LO n := by
 induction n using Nat.strongRecOn with
 | ind n ih => exact lof_step ih

set_option maxHeartbeats 2000000 in
theorem sCodeOf_any (w : World) (lo hi : Nat) (v : Value) (ss : List StmtD) (h : SR w lo hi v ss) (hhi : hi ≤ w.heap.size) (hm : sizeL ss ≤ 1048576) :
  Calls Tryz.prog 136 #[v] w fun en w' => ∃ v', en = .returned v' ∧ RowI w' w.heap.size v' (codeOf ss) ∧ Below w.heap.size w w' := by
 have hO := sStmtsOk_any w lo hi v ss h hhi hm
 obtain ⟨ad, cap, rfl, _, _⟩ := h.shape
 have HK : Hid (SR w lo hi (.slice ad ss.length cap) ss) := h
 clear h
 unfold codeOf
 cases hk : stmtsOk ss with
 | false =>
  rw [hk] at hO
  go_enter Tryz.func136, Tryz.ntmps136
  go_wp2_with fail
  refine hO.mono ?_
  rintro e1 u1 ⟨rfl, g1⟩
  clear hO
  have HN : Hid (RowI (u1.alloc (.cells #[] 182)) w.heap.size (.slice (some ⟨u1.heap.size, 0, none⟩) 0 0) [] ∧ Below w.heap.size w (u1.alloc (.cells #[] 182))) := ⟨rowI_none u1 w.heap.size g1.size, g1.alloc g1.size _⟩
  go_wp2
  go_ret
  exact ⟨_, rfl, HN.out.1, HN.out.2⟩
 | true =>
  rw [hk] at hO
  have hf : formT 4 ss = true := by unfold stmtsOk at hk; rw [Bool.and_eq_true] at hk; exact hk.2
  go_enter Tryz.func136, Tryz.ntmps136
  go_wp2_with fail
  refine hO.mono ?_
  rintro e1 u1 ⟨rfl, g1⟩
  clear hO
  have hC := loS _ 4 u1 lo hi _ ss 0 (Nat.le_refl _) hf (HK.out.under g1 hhi) (Nat.le_trans hhi g1.size) hm (by omega)
  go_wp2_with fail
  refine hC.mono ?_
  rintro e2 u2 ⟨v2, rfl, R2, g2⟩
  have HN : Hid (RowI u2 w.heap.size v2 (codeL ss 0) ∧ Below w.heap.size w u2) := ⟨R2.mono g1.size, g1.trans (g2.mono g1.size)⟩
  obtain ⟨a2, n2, k2, rfl, hn2⟩ := R2.shapeN
  clear hC R2 g2 hn2
  go_wp2
  go_ret
  exact ⟨_, rfl, HN.out.1, HN.out.2⟩
end Go.Proofs.YtaoiookfmgpmkaaGreatDoor
