import Derived.Test.YtaoiookfmgpmkaaGreatDoorQM19
import Derived.Test.YtaoiookfmgpmkaaGreatDoorQM12
import Derived.Test.YtaoiookfmgpmkaaGreatDoorQM20

/-
 The program's coder: what is reckoned, statements, lists; CodeOf. (Written by our generator gen_coder.py.)
-/
namespace Go.Proofs.YtaoiookfmgpmkaaGreatDoor
open Go.ChangeShapes Go.WideShapes Go.ChangeAt Go.RowKit
set_option linter.unusedVariables false
set_option maxRecDepth 100000

theorem CodT.five {B A : Nat} {v v' : Value} {w w' : World} {ps : List InsD} (h : CodT B v v' w w') (hc : Cod w B A v ps) {V : Nat} {x0 x1 x2 x3 x4 : Value} (hf : Five w V x0 x1 x2 x3 x4) (hV : V < w.heap.size) (hB : V ≠ B) (hv : v.ownBlock ≠ some V) : Five w' V x0 x1 x2 x3 x4 := by
 have hk := h.keep.block V ⟨hV, hB, fun e => hv e.symm⟩
 exact ⟨by rw [World.cell?_of_block (w := w) hk]; exact hf.c0, by rw [World.cell?_of_block (w := w) hk]; exact hf.c1, by rw [World.cell?_of_block (w := w) hk]; exact hf.c2, by rw [World.cell?_of_block (w := w) hk]; exact hf.c3, by rw [World.cell?_of_block (w := w) hk]; exact hf.c4, fun o => by rw [World.frozen?_of_block (w := w) hk]; exact hf.f o⟩

def CE (n : Nat) : Prop := ∀ (w : World) (B A : Nat) (v : Value) (ps : List InsD) (lo hi : Nat) (s : Value) (e : ExprD), manyL e.kids ≤ n → Cod w B A v ps → A ≤ B → KR w lo hi s e.kids → hi ≤ A → ps.length + manyL e.kids + 1 ≤ 8000000 →
 Calls Tryz.prog 292 #[.pointer (some ⟨B, 0, none⟩), .agg #[.int .i64 e.k, .int .i64 e.n, .int .i64 e.ak, .int .i64 e.at_, s]] w fun en w' => ∃ v', en = .returned (.tuple #[]) ∧ Cod w' B A v' (ps ++ codeE e) ∧ CodT B v v' w w'

structure KidL (w u0 : World) (B A : Nat) (v : Value) (ps : List InsD) (e : ExprD) (j : Nat) (v' : Value) (wr : World) : Prop where
 cod : Cod wr B A v' (ps ++ codeK (e.kids.take j))
 turn : CodT B v v' u0 wr

set_option maxHeartbeats 8000000 in
theorem ce_step {n : Nat} (H : ∀ m, m < n → CE m) : CE n := by
 intro w B A v ps lo hi s e hn hc hAB h hhi hl
 obtain ⟨ad, cap, rfl, hc1, hc2⟩ := h.shape
 have hBw := hc.lt
 have hmx : e.kids.length ≤ 8000000 := by have := length_le_manyL e.kids; omega
 obtain ⟨u0, hu0, G0, F0, S0⟩ : ∃ u0, w.alloc (.cells #[.int .i64 e.k, .int .i64 e.n, .int .i64 e.ak, .int .i64 e.at_, .slice ad e.kids.length cap] 121) = u0 ∧ Below w.heap.size w u0 ∧ Five u0 w.heap.size (.int .i64 e.k) (.int .i64 e.n) (.int .i64 e.ak) (.int .i64 e.at_) (.slice ad e.kids.length cap) ∧ u0.heap.size = w.heap.size + 1 :=
  ⟨_, rfl, (Below.refl _ _).alloc (Nat.le_refl _) _, five_new w _ _ _ _ _ _, by simp⟩
 have HU : Hid (_ = u0) := hu0
 have hV : v.ownBlock ≠ some w.heap.size := fun e => by have := (hc.row.lt _ e).2; omega
 have HC : Hid (Cod w B A v ps ∧ Cod u0 B A v ps ∧ KR w lo hi (.slice ad e.kids.length cap) e.kids ∧ Five u0 w.heap.size (.int .i64 e.k) (.int .i64 e.n) (.int .i64 e.ak) (.int .i64 e.at_) (.slice ad e.kids.length cap) ∧ v.ownBlock ≠ some w.heap.size ∧ manyL e.kids ≤ n) := ⟨hc, hc.below G0 (Nat.le_refl _), h, F0, hV, hn⟩
 have hL0 : KidL w u0 B A v ps e 0 v u0 := ⟨by rw [List.take_zero, codeK, List.append_nil]; exact HC.out.2.1, CodT.refl _ _ _⟩
 clear hu0 h hc F0 hc1 hc2 hV hn
 go_enter Tryz.func292, Tryz.ntmps292
 go_wp2_with fail
 rw [HU.out]
 go_loopw [9] (fun i wr => ∃ (j : Nat) (v' : Value), j ≤ e.kids.length ∧ i = .int .i64 j ∧ KidL w u0 B A v ps e j v' wr) (fun i _ => e.kids.length - (intOf i).toNat)
 case atStart => exact ⟨0, v, Nat.zero_le _, rfl, hL0⟩
 case round =>
  clear hL0
  obtain ⟨j, v1, hj, rfl, hL⟩ := hrel
  have HL : Hid (KidL w u0 B A v ps e j v1 wr) := hL
  have hBl : Below A u0 wr := hL.turn.below HC.out.2.1 hAB (by omega)
  have hwr := hL.turn.keep.size
  have hF := hL.turn.five HC.out.2.1 HC.out.2.2.2.1 (by omega) (by omega) HC.out.2.2.2.2.1
  have hBA : Below A w wr := (G0.mono (by omega)).trans hBl
  clear hL
  by_cases hlt : j < e.kids.length
  ·obtain ⟨x, hx⟩ : ∃ x, e.kids[j]? = some x := ⟨e.kids[j], List.getElem?_eq_getElem hlt⟩
   obtain ⟨b, off, cap', s', hv, hb1, hb2, h5, hk⟩ := HC.out.2.2.1.at_ hx
   simp only [Value.slice.injEq, true_and] at hv
   obtain ⟨rfl, rfl⟩ := hv
   obtain ⟨c0, c1, c2, c3, c4⟩ := h5.kept (hBA.block b (by omega))
   obtain ⟨ads, cps, rfl, _, _⟩ := hk.shape
   have hkl := kid_lt hx
   have hkt := manyL_take_le e.kids (j + 1)
   have hks := manyL_take_succ hx
   have hme := manyE_eq x
   have hsuc := codeK_take_succ hx
   have hcl := codeK_len (e.kids.take j)
   have gA : Below wr.heap.size wr (wr.alloc (.cells #[.int .i64 x.k, .int .i64 x.n, .int .i64 x.ak, .int .i64 x.at_, .slice ads x.kids.length cps] 121)) := (Below.refl _ _).alloc (Nat.le_refl _) _
   have hC := H (manyL x.kids) (by have := HC.out.2.2.2.2.2; omega) (wr.alloc (.cells #[.int .i64 x.k, .int .i64 x.n, .int .i64 x.ak, .int .i64 x.at_, .slice ads x.kids.length cps] 121)) B A v1 (ps ++ codeK (e.kids.take j)) lo hi _ x (Nat.le_refl _) (HL.out.cod.below gA (Nat.le_refl _)) hAB ((hk.under hBA hhi).under gA (by omega)) hhi (by rw [List.length_append, hcl]; omega)
   have HS : Hid (codeK (e.kids.take (j + 1)) = codeK (e.kids.take j) ++ codeE x) := hsuc
   clear hx h5 hk hkl hkt hks hme hsuc hcl hF hBl hBA
   go_wp2_with fail
   refine hC.mono ?_
   rintro e1 u1 ⟨v2, rfl, C2, T2⟩
   have HN : Hid (KidL w u0 B A v ps e (j + 1) v2 u1) := ⟨by rw [HS.out, ← List.append_assoc]; exact C2, HL.out.turn.trans ((codT_below gA (Nat.le_refl _)).trans T2)⟩
   clear hC gA C2 T2 c0 c1 c2 c3 c4
   go_wp2
   go_roundw
   case rel => exact ⟨j + 1, v2, by omega, by go_num, HN.out⟩
   case measure => simp [intOf]; omega
  ·obtain rfl : j = e.kids.length := by omega
   have hcod := HL.out.cod
   rw [List.take_length] at hcod
   have hcl := codeK_len e.kids
   have hall : (ps ++ codeK e.kids).length ≤ 8000000 := by rw [List.length_append, hcl]; omega
   have hAw : A ≤ wr.heap.size := by omega
   have HE : Hid (codeE e = codeK e.kids ++ [lastE e]) := codeE_eq e
   have hadd := fun p => add_any wr B A v1 (ps ++ codeK e.kids) p hcod hAw hall
   unfold InsD.val at hadd
   have HT : Hid (CodT B v v1 w wr) := (codT_below G0 (Nat.le_refl _)).trans HL.out.turn
   obtain ⟨c0, c1, c2, c3, c4, _⟩ := hF
   clear hcod hcl hall hBl hBA HL
   by_cases k1 : e.k = 1
   ·have hla : lastE e = ⟨1, e.n, 0, 0⟩ := by unfold lastE; rw [if_pos k1]
    have k1' : (e.k == 1) = true := by simp [k1]
    have hC := hadd ⟨1, e.n, 0, 0⟩
    clear hadd
    go_wp2_with fail
    refine hC.mono ?_
    rintro e1 u1 ⟨v2, rfl, C2, T2⟩
    have HF : Hid (Cod u1 B A v2 (ps ++ codeE e) ∧ CodT B v v2 w u1) := ⟨by rw [HE.out, ← List.append_assoc, hla]; exact C2, HT.out.trans T2⟩
    clear hC C2 T2 c0 c1 c2 c3 c4 hla
    go_wp2
    go_end0
    exact ⟨v2, rfl, HF.out.1, HF.out.2⟩
   have k1' : (e.k == 1) = false := by simp [k1]
   by_cases k2 : e.k = 2
   ·have hla : lastE e = ⟨2, 0, e.ak, e.at_⟩ := by unfold lastE; rw [if_neg k1, if_pos k2]
    have k2' : (e.k == 2) = true := by simp [k2]
    clear k1 k2
    have hC := hadd ⟨2, 0, e.ak, e.at_⟩
    clear hadd
    go_wp2_with fail
    refine hC.mono ?_
    rintro e1 u1 ⟨v2, rfl, C2, T2⟩
    have HF : Hid (Cod u1 B A v2 (ps ++ codeE e) ∧ CodT B v v2 w u1) := ⟨by rw [HE.out, ← List.append_assoc, hla]; exact C2, HT.out.trans T2⟩
    clear hC C2 T2 c0 c1 c2 c3 c4 hla
    go_wp2
    go_end0
    exact ⟨v2, rfl, HF.out.1, HF.out.2⟩
   have k2' : (e.k == 2) = false := by simp [k2]
   by_cases k3 : e.k = 10
   ·have hla : lastE e = ⟨5, 0, 0, 0⟩ := by unfold lastE; rw [if_neg k1, if_neg k2, if_pos k3]
    have k3' : (e.k == 10) = true := by simp [k3]
    clear k1 k2 k3
    have hC := hadd ⟨5, 0, 0, 0⟩
    clear hadd
    go_wp2_with fail
    refine hC.mono ?_
    rintro e1 u1 ⟨v2, rfl, C2, T2⟩
    have HF : Hid (Cod u1 B A v2 (ps ++ codeE e) ∧ CodT B v v2 w u1) := ⟨by rw [HE.out, ← List.append_assoc, hla]; exact C2, HT.out.trans T2⟩
    clear hC C2 T2 c0 c1 c2 c3 c4 hla
    go_wp2
    go_end0
    exact ⟨v2, rfl, HF.out.1, HF.out.2⟩
   have k3' : (e.k == 10) = false := by simp [k3]
   have hla : lastE e = ⟨4, e.k, 0, 0⟩ := by unfold lastE; rw [if_neg k1, if_neg k2, if_neg k3]
   clear k1 k2 k3
   have hC := hadd ⟨4, e.k, 0, 0⟩
   clear hadd
   go_wp2_with fail
   refine hC.mono ?_
   rintro e1 u1 ⟨v2, rfl, C2, T2⟩
   have HF : Hid (Cod u1 B A v2 (ps ++ codeE e) ∧ CodT B v v2 w u1) := ⟨by rw [HE.out, ← List.append_assoc, hla]; exact C2, HT.out.trans T2⟩
   clear hC C2 T2 c0 c1 c2 c3 c4 hla
   go_wp2
   go_end0
   exact ⟨v2, rfl, HF.out.1, HF.out.2⟩

theorem ceS (n : Nat) : CE n := by
 induction n using Nat.strongRecOn with
 | ind n ih => exact ce_step ih
end Go.Proofs.YtaoiookfmgpmkaaGreatDoor

/-
 The program's coder: statements, lists; CodeOf. (Written by our generator gen_coder.py.)
-/
namespace Go.Proofs.YtaoiookfmgpmkaaGreatDoor
open Go.ChangeShapes Go.WideShapes Go.ChangeAt Go.RowKit
set_option linter.unusedVariables false
set_option maxRecDepth 100000

theorem CodT.ten {B A : Nat} {v v' : Value} {w w' : World} {ps : List InsD} (h : CodT B v v' w w') (hc : Cod w B A v ps) {V : Nat} {x0 x1 x2 x3 x4 x5 x6 x7 x8 x9 : Value} (hf : TenW w V x0 x1 x2 x3 x4 x5 x6 x7 x8 x9) (hV : V < w.heap.size) (hB : V ≠ B) (hv : v.ownBlock ≠ some V) : TenW w' V x0 x1 x2 x3 x4 x5 x6 x7 x8 x9 :=
 hf.at_ (h.keep.block V ⟨hV, hB, fun e => hv e.symm⟩)

theorem setN_mid (xs : List InsD) (y : InsD) (zs : List InsD) (n : Int) : setN (xs ++ y :: zs) xs.length n = xs ++ ⟨y.op, n, y.ak, y.at_⟩ :: zs := by
 induction xs with
 | nil => rfl
 | cons x xs ih =>
  have h1 : setN (x :: (xs ++ y :: zs)) (xs.length + 1) n = x :: setN (xs ++ y :: zs) xs.length n := rfl
  rw [List.cons_append, List.length_cons, h1, ih]
  rfl

theorem code_while (ps a b : List InsD) (x y : InsD) : setN (ps ++ a ++ [x] ++ b ++ [y]) (ps ++ a).length (((ps ++ a ++ [x] ++ b ++ [y]).length : Nat) : Int) =
  ps ++ (a ++ (⟨x.op, ((ps.length + a.length + 1 + b.length + 1 : Nat) : Int), x.ak, x.at_⟩ :: (b ++ [y]))) := by
 have h := setN_mid (ps ++ a) x (b ++ [y]) ((ps.length + a.length + 1 + b.length + 1 : Nat) : Int)
 have e1 : ps ++ a ++ [x] ++ b ++ [y] = (ps ++ a) ++ x :: (b ++ [y]) := by simp
 have e2 : (ps ++ a ++ [x] ++ b ++ [y]).length = ps.length + a.length + 1 + b.length + 1 := by simp only [List.length_append, List.length_cons, List.length_nil]
 rw [e2, e1, h, List.append_assoc]

theorem code_if (ps a b c : List InsD) (x y : InsD) (p5 : List InsD) (h5 : setN (ps ++ a ++ [x] ++ b ++ [y]) (ps ++ a).length (((ps ++ a ++ [x] ++ b ++ [y]).length : Nat) : Int) = p5) :
  setN (p5 ++ c) (ps ++ a ++ [x] ++ b).length (((p5 ++ c).length : Nat) : Int) =
  ps ++ (a ++ (⟨x.op, ((ps.length + a.length + 1 + b.length + 1 : Nat) : Int), x.ak, x.at_⟩ :: (b ++ (⟨y.op, ((ps.length + a.length + 1 + b.length + 1 + c.length : Nat) : Int), y.ak, y.at_⟩ :: c)))) := by
 rw [code_while] at h5
 subst h5
 obtain ⟨x', hx'⟩ : ∃ x', (⟨x.op, ((ps.length + a.length + 1 + b.length + 1 : Nat) : Int), x.ak, x.at_⟩ : InsD) = x' := ⟨_, rfl⟩
 rw [hx']
 have h2 := setN_mid (ps ++ a ++ x' :: b) y c ((ps.length + a.length + 1 + b.length + 1 + c.length : Nat) : Int)
 have e3 : (ps ++ a ++ [x] ++ b).length = (ps ++ a ++ x' :: b).length := by simp only [List.length_append, List.length_cons, List.length_nil]; omega
 have e4 : ps ++ (a ++ (x' :: (b ++ [y]))) ++ c = ps ++ a ++ x' :: b ++ y :: c := by simp
 have e5 : (ps ++ a ++ x' :: b ++ y :: c).length = ps.length + a.length + 1 + b.length + 1 + c.length := by simp only [List.length_append, List.length_cons]; omega
 rw [e4, e5, e3, h2]
 simp

def CA (n : Nat) : Prop := ∀ (d : Nat) (w : World) (B A : Nat) (v : Value) (ps : List InsD) (lo hi : Nat) (sv : Value) (ss : List StmtD), sizeL ss ≤ n → formT d ss = true → Cod w B A v ps → A ≤ B → SR w lo hi sv ss → hi ≤ A → ps.length + 3 * sizeL ss ≤ 8000000 →
 Calls Tryz.prog 218 #[.pointer (some ⟨B, 0, none⟩), sv] w fun en w' => ∃ v', en = .returned (.tuple #[]) ∧ Cod w' B A v' (ps ++ codeL ss ps.length) ∧ CodT B v v' w w'

theorem formT_parts' {d : Nat} {ss : List StmtD} {j : Nat} {s : StmtD} (h : formT d ss = true) (hs : ss[j]? = some s) : ∃ d', fitB s = true ∧ exprOk s.e = true ∧ formT d' s.th = true ∧ formT d' s.el = true := by
 cases d with
 | zero =>
  rw [formT] at h
  cases ss with
  | nil => simp at hs
  | cons x l => simp at h
 | succ d =>
  rw [formT, List.all_eq_true] at h
  have := h s (List.mem_of_getElem? hs)
  simp only [Bool.and_eq_true] at this
  exact ⟨d, this.1.1.1, this.1.1.2, this.1.2, this.2⟩

theorem fit_kind {s : StmtD} (h : fitB s = true) : s.k = 1 ∨ s.k = 2 ∨ s.k = 3 := by
 unfold fitB at h
 split at h
 ·exact .inl (by assumption)
 ·split at h
  ·exact .inr (.inl (by assumption))
  ·split at h
   ·exact .inr (.inr (by assumption))
   ·cases h

set_option maxHeartbeats 8000000 in
theorem stmt_of {n : Nat} (H : ∀ m, m < n → CA m) (d : Nat) (w : World) (B A : Nat) (v : Value) (ps : List InsD) (lo hi : Nat) (s : StmtD) (x y z : Value) (hn : sizeL s.th < n ∧ sizeL s.el < n) (hc : Cod w B A v ps) (hAB : A ≤ B)
  (hx : KR w lo hi x s.e.kids) (hy : SR w lo hi y s.th) (hz : SR w lo hi z s.el) (hhi : hi ≤ A) (hfit : fitB s = true) (ht : formT d s.th = true) (hel : formT d s.el = true) (hl : ps.length + 3 * (manyL s.e.kids + sizeL s.th + sizeL s.el + 1) ≤ 8000000) :
  Calls Tryz.prog 271 #[.pointer (some ⟨B, 0, none⟩), stmtV s x y z] w fun en w' => ∃ v', en = .returned (.tuple #[]) ∧ Cod w' B A v' (ps ++ codeS s ps.length) ∧ CodT B v v' w w' := by
 have hBw := hc.lt
 obtain ⟨ax, cx, rfl, _, _⟩ := hx.shape
 obtain ⟨ay, cy, rfl, _, _⟩ := hy.shape
 obtain ⟨az, cz, rfl, _, _⟩ := hz.shape
 obtain ⟨av, nv, cv, rfl, hnv⟩ : ∃ ad n cap, v = .slice ad n cap ∧ n = ps.length := by obtain ⟨ad, cap, hv, _, _⟩ := hc.row.shape; exact ⟨ad, _, cap, hv, rfl⟩
 subst hnv
 unfold stmtV
 obtain ⟨u0, hu0, G0, T0, S0⟩ : ∃ u0, w.alloc (.cells #[.int .i64 s.k, .int .i64 s.tk, .int .i64 s.ta, .int .i64 s.e.k, .int .i64 s.e.n, .int .i64 s.e.ak, .int .i64 s.e.at_, .slice ax s.e.kids.length cx, .slice ay s.th.length cy, .slice az s.el.length cz] 123) = u0 ∧ Below w.heap.size w u0 ∧ TenW u0 w.heap.size (.int .i64 s.k) (.int .i64 s.tk) (.int .i64 s.ta) (.int .i64 s.e.k) (.int .i64 s.e.n) (.int .i64 s.e.ak) (.int .i64 s.e.at_) (.slice ax s.e.kids.length cx) (.slice ay s.th.length cy) (.slice az s.el.length cz) ∧ u0.heap.size = w.heap.size + 1 :=
  ⟨_, rfl, (Below.refl w.heap.size w).alloc (Nat.le_refl _) _, tenW_new _ _ _ _ _ _ _ _ _ _ _ _, by simp⟩
 have HU : Hid (_ = u0) := hu0
 have hV : (Value.slice av ps.length cv).ownBlock ≠ some w.heap.size := fun e => by have := (hc.row.lt _ e).2; omega
 have C0 := hc.below G0 (Nat.le_refl _)
 have HC : Hid (Cod u0 B A (.slice av ps.length cv) ps ∧ KR w lo hi (.slice ax s.e.kids.length cx) s.e.kids ∧ SR w lo hi (.slice ay s.th.length cy) s.th ∧ SR w lo hi (.slice az s.el.length cz) s.el ∧ TenW u0 w.heap.size (.int .i64 s.k) (.int .i64 s.tk) (.int .i64 s.ta) (.int .i64 s.e.k) (.int .i64 s.e.n) (.int .i64 s.e.ak) (.int .i64 s.e.at_) (.slice ax s.e.kids.length cx) (.slice ay s.th.length cy) (.slice az s.el.length cz) ∧ (Value.slice av ps.length cv).ownBlock ≠ some w.heap.size) := ⟨C0, hx, hy, hz, T0, hV⟩
 have hC := ceS _ u0 B A _ ps lo hi _ s.e (Nat.le_refl _) C0 hAB (hx.under (G0.mono (by omega : A ≤ w.heap.size)) hhi) hhi (by omega)
 have HT0 : Hid (CodT B (.slice av ps.length cv) (.slice av ps.length cv) w u0) := codT_below G0 (Nat.le_refl _)
 have cB : (w.alloc (.cells #[.int .i64 s.k, .int .i64 s.tk, .int .i64 s.ta, .int .i64 s.e.k, .int .i64 s.e.n, .int .i64 s.e.ak, .int .i64 s.e.at_, .slice ax s.e.kids.length cx, .slice ay s.th.length cy, .slice az s.el.length cz] 123)).cell? ⟨B, 0, none⟩ = some (.slice av ps.length cv) := by rw [hu0]; exact C0.c
 obtain ⟨a, ha⟩ : ∃ a, codeE s.e = a := ⟨_, rfl⟩
 have hal : a.length = manyL s.e.kids + 1 := by rw [← ha, codeE_len, manyE_eq]
 have HA : Hid (codeE s.e = a) := ha
 obtain ⟨R, hR⟩ : ∃ R, codeS s ps.length = R := ⟨_, rfl⟩
 have HR : Hid (codeS s ps.length = R) := hR
 rw [hR]
 rw [ha] at hC
 obtain ⟨p1, hp1⟩ : ∃ p, ps ++ a = p := ⟨_, rfl⟩
 have hl1 : p1.length = ps.length + a.length := by rw [← hp1, List.length_append]
 rw [hp1] at hC
 have HP1 : Hid (ps ++ a = p1 ∧ p1.length = ps.length + a.length ∧ a.length = manyL s.e.kids + 1) := ⟨hp1, hl1, hal⟩
 have hkind := fit_kind hfit
 clear hu0 hc C0 hx hy hz T0 hV ha hR hp1 hl1 hal hfit
 go_enter Tryz.func271, Tryz.ntmps271
 go_wp2_with fail
 clear cB
 rw [HU.out]
 refine hC.mono ?_
 rintro e1 u1 ⟨v1, rfl, C1, T1⟩
 clear hC
 have s1 := T1.keep.size
 obtain ⟨c0, c1, c2, _⟩ := T1.ten HC.out.1 HC.out.2.2.2.2.1 (by omega) (by omega) HC.out.2.2.2.2.2
 by_cases h1 : s.k = 1
 ·have h1' : (s.k == 1) = true := by simp [h1]
  have HRR : Hid (p1 ++ [⟨3, 0, s.tk, s.ta⟩] = ps ++ R) := by show _ = _; rw [← HR.out, codeS_set h1, HA.out, ← HP1.out.1, List.append_assoc]
  have hC := add_any u1 B A v1 p1 ⟨3, 0, s.tk, s.ta⟩ C1 (by omega) (by have := HP1.out.2; omega)
  unfold InsD.val at hC
  clear h1 hkind
  go_wp2_with fail
  refine hC.mono ?_
  rintro e2 u2 ⟨v2, rfl, C2, T2⟩
  have HF : Hid (Cod u2 B A v2 (ps ++ R) ∧ CodT B (.slice av ps.length cv) v2 w u2) := ⟨by rw [← HRR.out]; exact C2, (HT0.out.trans T1).trans T2⟩
  clear hC C2 T2 C1 T1 c0 c1 c2
  go_wp2
  go_end0
  exact ⟨v2, rfl, HF.out.1, HF.out.2⟩
 have h1' : (s.k == 1) = false := by simp [h1]
 clear c1 c2
 have hadd := add_any u1 B A v1 p1 ⟨6, 0, 0, 0⟩ C1 (by omega) (by have := HP1.out.2; omega)
 unfold InsD.val at hadd
 by_cases h2 : s.k = 2
 ·have h2' : (s.k == 2) = true := by simp [h2]
  go_wp2_with fail
  refine hadd.mono ?_
  rintro e2 u2 ⟨v2, rfl, C2, T2⟩
  clear hadd c0
  replace T2 := T1.trans T2
  have s2 := T2.keep.size
  clear C1 T1
  obtain ⟨p2, hp2⟩ : ∃ p, p1 ++ [⟨6, 0, 0, 0⟩] = p := ⟨_, rfl⟩
  have hl2 : p2.length = p1.length + 1 := by rw [← hp2, List.length_append]; rfl
  rw [hp2] at C2
  have HP2 : Hid (p1 ++ [⟨6, 0, 0, 0⟩] = p2 ∧ p2.length = p1.length + 1) := ⟨hp2, hl2⟩
  clear hp2 hl2
  have hb2 : Below A w u2 := (G0.mono (by omega)).trans (T2.below HC.out.1 hAB (by omega))
  have hC := H _ hn.1 d u2 B A v2 p2 lo hi _ s.th (Nat.le_refl _) ht C2 hAB (HC.out.2.2.1.under hb2 hhi) hhi (by have := HP2.out.2; have := HP1.out.2; omega)
  have hbl := codeL_len s.th p2.length
  obtain ⟨b, hb⟩ : ∃ b, codeL s.th p2.length = b := ⟨_, rfl⟩
  rw [hb] at hC hbl
  have HB : Hid (codeL s.th p2.length = b ∧ b.length ≤ 3 * sizeL s.th) := ⟨hb, hbl⟩
  obtain ⟨p3, hp3⟩ : ∃ p, p2 ++ b = p := ⟨_, rfl⟩
  have hl3 : p3.length = p2.length + b.length := by rw [← hp3, List.length_append]
  rw [hp3] at hC
  have HP3 : Hid (p2 ++ b = p3 ∧ p3.length = p2.length + b.length) := ⟨hp3, hl3⟩
  clear hp3 hl3 hb hbl
  have c8 := (T2.ten HC.out.1 HC.out.2.2.2.2.1 (by omega) (by omega) HC.out.2.2.2.2.2).c8
  go_wp2_with fail
  refine hC.mono ?_
  rintro e3 u3 ⟨v3, rfl, C3, T3⟩
  clear hC c8 C2 hb2
  replace T3 := T2.trans T3
  have s3 := T3.keep.size
  clear T2
  have hC := add_any u3 B A v3 p3 ⟨7, 0, 0, 0⟩ C3 (by omega) (by have := HP3.out.2; have := HP2.out.2; have := HP1.out.2; have := HB.out.2; omega)
  unfold InsD.val at hC
  obtain ⟨p4, hp4⟩ : ∃ p, p3 ++ [⟨7, 0, 0, 0⟩] = p := ⟨_, rfl⟩
  have hl4 : p4.length = p3.length + 1 := by rw [← hp4, List.length_append]; rfl
  rw [hp4] at hC
  have HP4 : Hid (p3 ++ [⟨7, 0, 0, 0⟩] = p4 ∧ p4.length = p3.length + 1) := ⟨hp4, hl4⟩
  clear hp4 hl4
  go_wp2_with fail
  refine hC.mono ?_
  rintro e4 u4 ⟨v4, rfl, C4, T4⟩
  clear hC C3
  replace T4 := T3.trans T4
  have s4 := T4.keep.size
  clear T3
  have hC := toHere_any u4 B A v4 p4 p1.length C4 (by have := HP4.out.2; have := HP3.out.2; have := HP2.out.2; omega) (by have := HP4.out.2; have := HP3.out.2; have := HP2.out.2; have := HP1.out.2; have := HB.out.2; omega)
  obtain ⟨p5, hp5⟩ : ∃ p, setN p4 p1.length p4.length = p := ⟨_, rfl⟩
  have hl5 : p5.length = p4.length := by rw [← hp5, setN_len]
  rw [hp5] at hC
  have HP5 : Hid (setN p4 p1.length p4.length = p5 ∧ p5.length = p4.length) := ⟨hp5, hl5⟩
  clear hp5 hl5
  go_wp2_with fail
  refine hC.mono ?_
  rintro e5 u5 ⟨rfl, C5, T5⟩
  clear hC C4
  replace T5 := T4.trans T5
  have s5 := T5.keep.size
  clear T4
  have hb5 : Below A w u5 := (G0.mono (by omega)).trans (T5.below HC.out.1 hAB (by omega))
  have hC := H _ hn.2 d u5 B A v4 p5 lo hi _ s.el (Nat.le_refl _) hel C5 hAB (HC.out.2.2.2.1.under hb5 hhi) hhi (by have := HP5.out.2; have := HP4.out.2; have := HP3.out.2; have := HP2.out.2; have := HP1.out.2; have := HB.out.2; omega)
  have hcl := codeL_len s.el p5.length
  obtain ⟨c, hc⟩ : ∃ c, codeL s.el p5.length = c := ⟨_, rfl⟩
  rw [hc] at hC hcl
  have HCC : Hid (codeL s.el p5.length = c ∧ c.length ≤ 3 * sizeL s.el) := ⟨hc, hcl⟩
  obtain ⟨p6, hp6⟩ : ∃ p, p5 ++ c = p := ⟨_, rfl⟩
  have hl6 : p6.length = p5.length + c.length := by rw [← hp6, List.length_append]
  rw [hp6] at hC
  have HP6 : Hid (p5 ++ c = p6 ∧ p6.length = p5.length + c.length) := ⟨hp6, hl6⟩
  clear hp6 hl6 hc hcl
  have c9 := (T5.ten HC.out.1 HC.out.2.2.2.2.1 (by omega) (by omega) HC.out.2.2.2.2.2).c9
  go_wp2_with fail
  refine hC.mono ?_
  rintro e6 u6 ⟨v6, rfl, C6, T6⟩
  clear hC c9 C5 hb5
  replace T6 := T5.trans T6
  have s6 := T6.keep.size
  clear T5
  have hC := toHere_any u6 B A v6 p6 p3.length C6 (by have := HP6.out.2; have := HP5.out.2; have := HP4.out.2; omega) (by have := HP6.out.2; have := HP5.out.2; have := HP4.out.2; have := HP3.out.2; have := HP2.out.2; have := HP1.out.2; have := HB.out.2; have := HCC.out.2; omega)
  have HRR : Hid (setN p6 p3.length p6.length = ps ++ R) := by
   show _ = _
   have q2 : p2.length = ps.length + a.length + 1 := by have := HP2.out.2; have := HP1.out.2; omega
   have q5 : p5.length = ps.length + a.length + 1 + b.length + 1 := by have := HP5.out.2; have := HP4.out.2; have := HP3.out.2; omega
   have hbb := HB.out.1
   have hcc := HCC.out.1
   rw [q2] at hbb
   rw [q5] at hcc
   have hw := code_if ps a b c ⟨6, 0, 0, 0⟩ ⟨7, 0, 0, 0⟩ p5 (by rw [HP1.out.1, HP2.out.1, HP3.out.1, HP4.out.1]; exact HP5.out.1)
   rw [HP1.out.1, HP2.out.1, HP3.out.1, HP6.out.1] at hw
   rw [← HR.out, codeS_if h1 (by omega) HA.out hbb hcc]
   exact hw
  clear h1 h2 hkind
  go_wp2_with fail
  refine hC.mono ?_
  rintro e7 u7 ⟨rfl, C7, T7⟩
  have HF : Hid (Cod u7 B A v6 (ps ++ R) ∧ CodT B (.slice av ps.length cv) v6 w u7) := ⟨by rw [← HRR.out]; exact C7, HT0.out.trans (T6.trans T7)⟩
  clear hC C6 T6 C7 T7
  go_wp2
  go_end0
  exact ⟨v6, rfl, HF.out.1, HF.out.2⟩
 have h2' : (s.k == 2) = false := by simp [h2]
 have h3 : s.k = 3 := by omega
 clear h2
 have h3' : (s.k == 3) = true := by simp [h3]
 go_wp2_with fail
 refine hadd.mono ?_
 rintro e2 u2 ⟨v2, rfl, C2, T2⟩
 clear hadd c0
 replace T2 := T1.trans T2
 have s2 := T2.keep.size
 clear C1 T1
 obtain ⟨p2, hp2⟩ : ∃ p, p1 ++ [⟨6, 0, 0, 0⟩] = p := ⟨_, rfl⟩
 have hl2 : p2.length = p1.length + 1 := by rw [← hp2, List.length_append]; rfl
 rw [hp2] at C2
 have HP2 : Hid (p1 ++ [⟨6, 0, 0, 0⟩] = p2 ∧ p2.length = p1.length + 1) := ⟨hp2, hl2⟩
 clear hp2 hl2
 have hb2 : Below A w u2 := (G0.mono (by omega)).trans (T2.below HC.out.1 hAB (by omega))
 have hC := H _ hn.1 d u2 B A v2 p2 lo hi _ s.th (Nat.le_refl _) ht C2 hAB (HC.out.2.2.1.under hb2 hhi) hhi (by have := HP2.out.2; have := HP1.out.2; omega)
 have hbl := codeL_len s.th p2.length
 obtain ⟨b, hb⟩ : ∃ b, codeL s.th p2.length = b := ⟨_, rfl⟩
 rw [hb] at hC hbl
 have HB : Hid (codeL s.th p2.length = b ∧ b.length ≤ 3 * sizeL s.th) := ⟨hb, hbl⟩
 obtain ⟨p3, hp3⟩ : ∃ p, p2 ++ b = p := ⟨_, rfl⟩
 have hl3 : p3.length = p2.length + b.length := by rw [← hp3, List.length_append]
 rw [hp3] at hC
 have HP3 : Hid (p2 ++ b = p3 ∧ p3.length = p2.length + b.length) := ⟨hp3, hl3⟩
 clear hp3 hl3 hb hbl
 have c8 := (T2.ten HC.out.1 HC.out.2.2.2.2.1 (by omega) (by omega) HC.out.2.2.2.2.2).c8
 go_wp2_with fail
 refine hC.mono ?_
 rintro e3 u3 ⟨v3, rfl, C3, T3⟩
 clear hC c8 C2 hb2
 replace T3 := T2.trans T3
 have s3 := T3.keep.size
 clear T2
 have hC := add_any u3 B A v3 p3 ⟨8, (ps.length : Int), 0, 0⟩ C3 (by omega) (by have := HP3.out.2; have := HP2.out.2; have := HP1.out.2; have := HB.out.2; omega)
 unfold InsD.val at hC
 obtain ⟨p4, hp4⟩ : ∃ p, p3 ++ [⟨8, (ps.length : Int), 0, 0⟩] = p := ⟨_, rfl⟩
 have hl4 : p4.length = p3.length + 1 := by rw [← hp4, List.length_append]; rfl
 rw [hp4] at hC
 have HP4 : Hid (p3 ++ [⟨8, (ps.length : Int), 0, 0⟩] = p4 ∧ p4.length = p3.length + 1) := ⟨hp4, hl4⟩
 clear hp4 hl4
 go_wp2_with fail
 refine hC.mono ?_
 rintro e4 u4 ⟨v4, rfl, C4, T4⟩
 clear hC C3
 replace T4 := T3.trans T4
 have s4 := T4.keep.size
 clear T3
 have hC := toHere_any u4 B A v4 p4 p1.length C4 (by have := HP4.out.2; have := HP3.out.2; have := HP2.out.2; omega) (by have := HP4.out.2; have := HP3.out.2; have := HP2.out.2; have := HP1.out.2; have := HB.out.2; omega)
 have HRR : Hid (setN p4 p1.length p4.length = ps ++ R) := by
  show _ = _
  have q2 : p2.length = ps.length + a.length + 1 := by have := HP2.out.2; have := HP1.out.2; omega
  have hbb := HB.out.1
  rw [q2] at hbb
  have hw := code_while ps a b ⟨6, 0, 0, 0⟩ ⟨8, (ps.length : Int), 0, 0⟩
  rw [HP1.out.1, HP2.out.1, HP3.out.1, HP4.out.1] at hw
  rw [← HR.out, codeS_while h3 HA.out hbb]
  exact hw
 clear h1 h3 hkind
 go_wp2_with fail
 refine hC.mono ?_
 rintro e5 u5 ⟨rfl, C5, T5⟩
 have HF : Hid (Cod u5 B A v4 (ps ++ R) ∧ CodT B (.slice av ps.length cv) v4 w u5) := ⟨by rw [← HRR.out]; exact C5, HT0.out.trans (T4.trans T5)⟩
 clear hC C4 T4 C5 T5
 go_wp2
 go_end0
 exact ⟨v4, rfl, HF.out.1, HF.out.2⟩

set_option maxHeartbeats 8000000 in
theorem ca_step {n : Nat} (H : ∀ m, m < n → CA m) : CA n := by
 intro d w B A v ps lo hi sv ss hn hf hc hAB h hhi hl
 obtain ⟨ad, cap, rfl, hc1, hc2⟩ := h.shape
 have hBw := hc.lt
 have hmx : ss.length ≤ 8000000 := by have := length_le_sizeL ss; omega
 have HC : Hid (Cod w B A v ps ∧ SR w lo hi (.slice ad ss.length cap) ss ∧ formT d ss = true ∧ sizeL ss ≤ n) := ⟨hc, h, hf, hn⟩
 have hL0 : Cod w B A v (ps ++ codeL (ss.take 0) ps.length) ∧ CodT B v v w w := ⟨by rw [List.take_zero, codeL_nil, List.append_nil]; exact hc, CodT.refl _ _ _⟩
 clear h hc hc1 hc2 hn hf
 go_enter Tryz.func218, Tryz.ntmps218
 go_wp2_with fail
 go_loopw [8] (fun i wr => ∃ (j : Nat) (v' : Value), j ≤ ss.length ∧ i = .int .i64 j ∧ Cod wr B A v' (ps ++ codeL (ss.take j) ps.length) ∧ CodT B v v' w wr) (fun i _ => ss.length - (intOf i).toNat)
 case atStart => exact ⟨0, v, Nat.zero_le _, rfl, hL0.1, hL0.2⟩
 case round =>
  clear hL0
  obtain ⟨j, v1, hj, rfl, hcod, htn⟩ := hrel
  have HL : Hid (Cod wr B A v1 (ps ++ codeL (ss.take j) ps.length) ∧ CodT B v v1 w wr) := ⟨hcod, htn⟩
  have hBA : Below A w wr := htn.below HC.out.1 hAB (by omega)
  have hwr := htn.keep.size
  clear hcod htn
  by_cases hlt : j < ss.length
  ·obtain ⟨s, hs⟩ : ∃ s, ss[j]? = some s := ⟨ss[j], List.getElem?_eq_getElem hlt⟩
   obtain ⟨b, off, cap', x, y, z, hv, hb1, hb2, h5, hkx, hky, hkz⟩ := HC.out.2.1.at_ hs
   simp only [Value.slice.injEq, true_and] at hv
   obtain ⟨rfl, rfl⟩ := hv
   obtain ⟨c0, c1, c2, c3, c4, c5, c6, c7, c8, c9⟩ := h5.kept (hBA.block b (by omega))
   obtain ⟨ax, cx, rfl, _, _⟩ := hkx.shape
   obtain ⟨ay, cy, rfl, _, _⟩ := hky.shape
   obtain ⟨az, cz, rfl, _, _⟩ := hkz.shape
   obtain ⟨d', hfit, hex, hth, hel⟩ := formT_parts' HC.out.2.2.1 hs
   have hq1 := codeL_len (ss.take j) ps.length
   have hq2 := sizeL_take_succ hs
   have hq3 := sizeL_take_le ss (j + 1)
   have hq4 := sizeS_eq s
   have hkl := stmt_lt hs
   have hsuc := codeL_take_succ hs ps.length
   have gA : Below wr.heap.size wr (wr.alloc (.cells #[.int .i64 s.k, .int .i64 s.tk, .int .i64 s.ta, .int .i64 s.e.k, .int .i64 s.e.n, .int .i64 s.e.ak, .int .i64 s.e.at_, .slice ax s.e.kids.length cx, .slice ay s.th.length cy, .slice az s.el.length cz] 123)) := (Below.refl _ _).alloc (Nat.le_refl _) _
   have hC := stmt_of (n := n) H d' (wr.alloc (.cells #[.int .i64 s.k, .int .i64 s.tk, .int .i64 s.ta, .int .i64 s.e.k, .int .i64 s.e.n, .int .i64 s.e.ak, .int .i64 s.e.at_, .slice ax s.e.kids.length cx, .slice ay s.th.length cy, .slice az s.el.length cz] 123)) B A v1 (ps ++ codeL (ss.take j) ps.length) lo hi s _ _ _ (by have := HC.out.2.2.2; omega) (HL.out.1.below gA (Nat.le_refl _)) hAB ((hkx.under hBA hhi).under gA (by omega)) ((hky.under hBA hhi).under gA (by omega)) ((hkz.under hBA hhi).under gA (by omega)) hhi hfit hth hel (by rw [List.length_append]; omega)
   unfold stmtV at hC
   have HS : Hid (ps ++ codeL (ss.take (j + 1)) ps.length = ps ++ codeL (ss.take j) ps.length ++ codeS s (ps ++ codeL (ss.take j) ps.length).length) := by show _ = _; rw [hsuc, List.length_append, List.append_assoc]
   clear hs h5 hkx hky hkz hfit hex hth hel hq1 hq2 hq3 hq4 hkl hsuc hBA
   go_wp2_with fail
   refine hC.mono ?_
   rintro e1 u1 ⟨v2, rfl, C2, T2⟩
   have HN : Hid (Cod u1 B A v2 (ps ++ codeL (ss.take (j + 1)) ps.length) ∧ CodT B v v2 w u1) := ⟨by rw [HS.out]; exact C2, HL.out.2.trans ((codT_below gA (Nat.le_refl _)).trans T2)⟩
   clear hC gA C2 T2 c0 c1 c2 c3 c4 c5 c6 c7 c8 c9
   go_wp2
   go_roundw
   case rel => exact ⟨j + 1, v2, by omega, by go_num, HN.out.1, HN.out.2⟩
   case measure => simp [intOf]; omega
  ·obtain rfl : j = ss.length := by omega
   have hcod := HL.out.1
   rw [List.take_length] at hcod
   have HN : Hid (Cod wr B A v1 (ps ++ codeL ss ps.length) ∧ CodT B v v1 w wr) := ⟨hcod, HL.out.2⟩
   clear hcod hBA
   go_wp2
   go_end0
   exact ⟨v1, rfl, HN.out.1, HN.out.2⟩

theorem caS (n : Nat) : CA n := by
 induction n using Nat.strongRecOn with
 | ind n ih => exact ca_step ih

set_option maxHeartbeats 2000000 in
theorem iCodeOf_any (w : World) (lo hi : Nat) (v : Value) (ss : List StmtD) (h : SR w lo hi v ss) (hhi : hi ≤ w.heap.size) (hm : sizeL ss ≤ 1048576) :
  Calls Tryz.prog 148 #[v] w fun en w' => ∃ v', en = .returned v' ∧ RowI w' w.heap.size v' (codeOf ss) ∧ Below w.heap.size w w' := by
 have hO := iStmtsOk_any w lo hi v ss h hhi hm
 obtain ⟨ad, cap, rfl, _, _⟩ := h.shape
 have HK : Hid (SR w lo hi (.slice ad ss.length cap) ss) := h
 clear h
 unfold codeOf
 cases hk : stmtsOk ss with
 | false =>
  rw [hk] at hO
  go_enter Tryz.func148, Tryz.ntmps148
  go_wp2_with fail
  refine hO.mono ?_
  rintro e1 u1 ⟨rfl, g1⟩
  clear hO
  go_wp2
  go_ret
  exact ⟨_, rfl, rowI_nil _ _, g1⟩
 | true =>
  rw [hk] at hO
  have hf : formT 4 ss = true := by unfold stmtsOk at hk; rw [Bool.and_eq_true] at hk; exact hk.2
  go_enter Tryz.func148, Tryz.ntmps148
  go_wp2_with fail
  refine hO.mono ?_
  rintro e1 u1 ⟨rfl, g1⟩
  clear hO
  have s1 := g1.size
  obtain ⟨u2, hu2, g2, C2, s2⟩ : ∃ u2, u1.alloc (.cells #[.slice none 0 0] 290) = u2 ∧ Below u1.heap.size u1 u2 ∧ Cod u2 u1.heap.size u1.heap.size (.slice none 0 0) [] ∧ u2.heap.size = u1.heap.size + 1 :=
   ⟨_, rfl, (Below.refl _ _).alloc (Nat.le_refl _) _, ⟨World.cell?_alloc_new _ _ _ _, fun o => World.frozen?_alloc_new _ _ _ _, rowI_nil _ _, fun e => (nomatch e), by simp⟩, by simp⟩
  have HU : Hid (_ = u2) := hu2
  have hC := caS _ 4 u2 u1.heap.size u1.heap.size _ [] lo hi _ ss (Nat.le_refl _) hf C2 (Nat.le_refl _) ((HK.out.under g1 hhi).under g2 (by omega)) (by omega) (by simp; omega)
  clear hu2
  go_wp2_with fail
  rw [HU.out]
  refine hC.mono ?_
  rintro e2 u3 ⟨v3, rfl, C3, T3⟩
  have G3 : Below w.heap.size w u3 := (g1.trans (g2.mono s1)).trans ((T3.below C2 (Nat.le_refl _) (by omega)).mono s1)
  rw [List.nil_append, List.length_nil] at C3
  have c3 := C3.c
  have HN : Hid (RowI u3 w.heap.size v3 (codeL ss 0) ∧ Below w.heap.size w u3) := ⟨C3.row.mono s1, G3⟩
  obtain ⟨a3, n3, k3, rfl, hn3⟩ : ∃ ad n cap, v3 = .slice ad n cap ∧ n = (codeL ss 0).length := by obtain ⟨ad, cap, hv, _, _⟩ := C3.row.shape; exact ⟨ad, _, cap, hv, rfl⟩
  clear hC C2 C3 T3 g2 G3 hn3 HU
  go_wp2
  go_ret
  exact ⟨_, rfl, HN.out.1, HN.out.2⟩
end Go.Proofs.YtaoiookfmgpmkaaGreatDoor
