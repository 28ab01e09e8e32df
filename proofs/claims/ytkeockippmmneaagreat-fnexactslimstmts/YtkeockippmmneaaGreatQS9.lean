import Derived.Test.YtkeockippmmneaaGreatSlimV
import Derived.Test.YtkeockippmmneaaGreatQS4
import Derived.Test.YtkeockippmmneaaGreatSlimT
import Derived.Test.YtkeockippmmneaaGreatSlimU
import Derived.Test.YtkeockippmmneaaGreatTwoKit

/-
  Chapter 10's model: statements made shorter (l10Self, l10Stmts). (Written by our generator gen_slimw2.py.)
-/
namespace Go.Proofs.YtkeockippmmneaaGreat
open Go.ChangeShapes Go.WideShapes Go.ChangeAt Go.RowKit
set_option linter.unusedVariables false
set_option linter.unusedSimpArgs false
set_option maxRecDepth 100000

def selfI (k tk ta ek ak at_ : Int) : Bool := (k == 1) && ((ek == 2) && ((ak == tk) && (at_ == ta)))

theorem self_one {s : StmtD} {f : ExprD} {bs : Bool} (h : s.k = 1) (hb : selfI s.k s.tk s.ta f.k f.ak f.at_ = bs) : ((f.k == 2) && ((f.ak == s.tk) && (f.at_ == s.ta))) = bs := by
  rw [← hb]; unfold selfI; rw [h]; rfl

theorem short1 {s : StmtD} {f : ExprD} {T E : List StmtD} (h : s.k = 1) {b : Bool} (hb : ((f.k == 2) && ((f.ak == s.tk) && (f.at_ == s.ta))) = b) : shortS (withS s f T E) = if b = true then [] else [withS s f T E] := by
  unfold shortS
  rw [if_pos (show (withS s f T E).k = 1 from h)]
  show (if ((f.k == 2) && ((f.ak == s.tk) && (f.at_ == s.ta))) = true then _ else _) = _
  rw [hb]
theorem short2 {s : StmtD} {f : ExprD} {T E : List StmtD} (h : s.k = 2) : shortS (withS s f T E) = if T.isEmpty && E.isEmpty then [] else if f.k = 1 then (if f.n != 0 then T else E) else [withS s f T E] := by
  unfold shortS
  rw [if_neg (show ¬ (withS s f T E).k = 1 from by show ¬ s.k = 1; rw [h]; decide), if_pos (show (withS s f T E).k = 2 from h)]
  rfl
theorem short2e {s : StmtD} {f : ExprD} {T E : List StmtD} (h : s.k = 2) (h1 : T = []) (h2 : E = []) : shortS (withS s f T E) = [] := by
  rw [short2 h, h1, h2]; rfl
theorem short2_ne {T E : List StmtD} (h : ¬ (T = [] ∧ E = [])) : ¬ (T.isEmpty && E.isEmpty) = true := by
  rw [Bool.and_eq_true, List.isEmpty_iff, List.isEmpty_iff]; exact h
theorem short2t {s : StmtD} {f : ExprD} {T E : List StmtD} (h : s.k = 2) (h1 : ¬ (T = [] ∧ E = [])) (h2 : f.k = 1) (h3 : ¬ f.n = 0) : shortS (withS s f T E) = T := by
  rw [short2 h, if_neg (short2_ne h1), if_pos h2, if_pos (by simp [h3])]
theorem short2f {s : StmtD} {f : ExprD} {T E : List StmtD} (h : s.k = 2) (h1 : ¬ (T = [] ∧ E = [])) (h2 : f.k = 1) (h3 : f.n = 0) : shortS (withS s f T E) = E := by
  rw [short2 h, if_neg (short2_ne h1), if_pos h2, if_neg (by simp [h3])]
theorem short2n {s : StmtD} {f : ExprD} {T E : List StmtD} (h : s.k = 2) (h1 : ¬ (T = [] ∧ E = [])) (h2 : ¬ f.k = 1) : shortS (withS s f T E) = [withS s f T E] := by
  rw [short2 h, if_neg (short2_ne h1), if_neg h2]
theorem short3 {s : StmtD} {f : ExprD} {T E : List StmtD} (h : s.k = 3) {b : Bool} (hb : isTheB f 0 = b) : shortS (withS s f T E) = if b = true then [] else [withS s f T E] := by
  unfold shortS
  rw [if_neg (show ¬ (withS s f T E).k = 1 from by show ¬ s.k = 1; rw [h]; decide), if_neg (show ¬ (withS s f T E).k = 2 from by show ¬ s.k = 2; rw [h]; decide)]
  show (if isTheB f 0 = true then _ else _) = _
  rw [hb]

theorem shortS_len (s : StmtD) : (shortS s).length ≤ s.th.length + s.el.length + 1 := by
  unfold shortS
  repeat' split
  all_goals first | omega | (simp; done) | (simp; omega)

theorem slimTD_len : ∀ (d : Nat) (l : List StmtD), (slimTD d l).length ≤ cntL l
  | 0, l => by
    rw [slimTD]
    induction l with
    | nil => simp
    | cons s l ih => rw [List.length_cons, cntL, cntS_eq]; omega
  | d + 1, l => by
    rw [slimTD_succ]
    induction l with
    | nil => simp
    | cons s l ih =>
      rw [List.flatMap_cons, List.length_append, cntL, cntS_eq]
      have h1 := shortS_len (withS s (slimD 6 s.e) (slimTD d s.th) (slimTD d s.el))
      have h2 : (withS s (slimD 6 s.e) (slimTD d s.th) (slimTD d s.el)).th.length ≤ cntL s.th := slimTD_len d s.th
      have h3 : (withS s (slimD 6 s.e) (slimTD d s.th) (slimTD d s.el)).el.length ≤ cntL s.el := slimTD_len d s.el
      have h4 : (slimS1 d s).length ≤ cntL s.th + cntL s.el + 1 := by unfold slimS1; omega
      omega

theorem slimTD_nil (d : Nat) : slimTD d [] = [] := by
  cases d with
  | zero => rw [slimTD]
  | succ d => rw [slimTD_succ]; rfl

theorem Out.ten {lo hi B : Nat} {u u' : World} {x0 x1 x2 x3 x4 x5 x6 x7 x8 x9 : Value} (h : Out lo hi u u') (hV : TenW u B x0 x1 x2 x3 x4 x5 x6 x7 x8 x9) (h1 : B < u.heap.size) (h2 : B < lo) : TenW u' B x0 x1 x2 x3 x4 x5 x6 x7 x8 x9 :=
  hV.at_ (h.block B h1 (.inl h2))

theorem sSelf10_any (w : World) (k tk ta ek en ak at_ : Int) (x y z : Value) :
    Calls Tryz.prog 26 #[.agg #[.int .i64 k, .int .i64 tk, .int .i64 ta, .int .i64 ek, .int .i64 en, .int .i64 ak, .int .i64 at_, x, y, z]] w fun e w' => e = .returned (.bool (selfI k tk ta ek ak at_)) ∧ Below w.heap.size w w' := by
  have b1 := fun o => (Below.refl w.heap.size w).alloc (Nat.le_refl _) o
  have HR : Hid (selfI k tk ta ek ak at_ = ((k == 1) && ((ek == 2) && ((ak == tk) && (at_ == ta))))) := rfl
  cases h1 : (k == 1) with
  | false =>
    rw [h1] at HR
    go_enter Tryz.func26, Tryz.ntmps26
    go_wp2
    go_ret
    exact ⟨ret_bool (by rw [HR.out]; rfl), b1 _⟩
  | true =>
    rw [h1] at HR
    cases h2 : (ek == 2) with
    | false =>
      rw [h2] at HR
      go_enter Tryz.func26, Tryz.ntmps26
      go_wp2
      go_ret
      exact ⟨ret_bool (by rw [HR.out]; rfl), b1 _⟩
    | true =>
      rw [h2] at HR
      cases h3 : (ak == tk) with
      | false =>
        rw [h3] at HR
        go_enter Tryz.func26, Tryz.ntmps26
        go_wp2
        go_ret
        exact ⟨ret_bool (by rw [HR.out]; first | rfl | simp [h3]), b1 _⟩
      | true =>
        rw [h3] at HR
        cases h4 : (at_ == ta) with
        | false =>
          rw [h4] at HR
          go_enter Tryz.func26, Tryz.ntmps26
          go_wp2
          go_ret
          exact ⟨ret_bool (by rw [HR.out]; first | rfl | simp [h3, h4]), b1 _⟩
        | true =>
          rw [h4] at HR
          go_enter Tryz.func26, Tryz.ntmps26
          go_wp2
          go_ret
          exact ⟨ret_bool (by rw [HR.out]; first | rfl | simp [h3, h4]), b1 _⟩

/-- What l10Stmts answers, of a list not deeper than d. -/
def LtS (d : Nat) : Prop := ∀ (w : World) (lo hi : Nat) (v : Value) (ss : List StmtD), sizeL ss ≤ 1048576 → SR w lo hi v ss → hi ≤ w.heap.size → formT d ss = true →
  Calls Tryz.prog 14 #[v] w fun en w' => ∃ v', en = .returned v' ∧ SO w' w.heap.size w'.heap.size v' (slimTD d ss) ∧ Below w.heap.size w w'

set_option maxHeartbeats 32000000 in
theorem ltS_step {d0 : Nat} (H : ∀ d, d0 = d + 1 → LtS d) : LtS d0 := by
  intro w lo hi v ss hbig h hhi hform
  obtain ⟨ad, cap, rfl, hc1, hc2⟩ := h.shape
  have hmx : ss.length ≤ 9223372036854775807 := by unfold maxLen at hc2; omega
  have hll := length_le_sizeL ss
  have hcn := cnt_le ss
  have HK : Hid (SR w lo hi (.slice ad ss.length cap) ss) := h
  have HM : Hid (sizeL ss ≤ 1048576 ∧ formT d0 ss = true ∧ cntL ss ≤ 1048576) := ⟨hbig, hform, by omega⟩
  have hl20 : ss.length ≤ 1048576 := by omega
  clear h hc1 hc2 hbig hll hform hcn
  obtain ⟨u0, hu0, G0, R0, S0⟩ : ∃ u0, w.alloc (.cells #[] 44) = u0 ∧ Below w.heap.size w u0 ∧ RowG shellTE 44 u0 w.heap.size (.slice (some ⟨w.heap.size, 0, none⟩) 0 0) ([] : List ShellT) ∧ u0.heap.size = w.heap.size + 1 :=
    ⟨_, rfl, (Below.refl _ _).alloc (Nat.le_refl _) _, rowG_none _ _ _ (Nat.le_refl _), by simp⟩
  have HI : Hid (RowK u0 w.heap.size (.slice (some ⟨w.heap.size, 0, none⟩) 0 0) [] (fun _ => ⟨0, 0, 0, 0, 0, 0, 0, 0⟩) ∧ Below w.heap.size w u0) := ⟨⟨R0, TK.nil _ _ _ _, fun g _ i hi => by simp at hi⟩, G0⟩
  clear R0 G0
  go_enter Tryz.func14, Tryz.ntmps14
  go_wp2_with fail
  try rw [hu0]
  clear hu0
  go_loopw [3, 4] (fun ov iv wr => ∃ (j : Nat) (qs : List ShellT) (r : Nat → Rg), j ≤ ss.length ∧ iv = .int .i64 j ∧ w.heap.size + 1 ≤ wr.heap.size ∧ Hid (qs.map ShellT.s = slimTD d0 (ss.take j) ∧ RowK wr w.heap.size ov qs r ∧ Below w.heap.size w wr)) (fun _ iv _ => ss.length - (intOf iv).toNat)
  case atStart => exact ⟨0, [], _, Nat.zero_le _, rfl, by omega, by rw [List.take_zero, slimTD_nil]; rfl, HI.out.1, HI.out.2⟩
  case round =>
    clear HI S0
    obtain ⟨j, qs, r, hj, rfl, hs, HR⟩ := hrel
    obtain ⟨va, vn, vc, hov⟩ : ∃ a n c, u3 = .slice a n c := by obtain ⟨a, c, h⟩ := HR.out.2.1.row.shape; exact ⟨a, _, c, h⟩
    subst hov
    by_cases hlt : j < ss.length
    · obtain ⟨s, hsj⟩ : ∃ s, ss[j]? = some s := ⟨ss[j], List.getElem?_eq_getElem hlt⟩
      obtain ⟨d, rfl⟩ : ∃ d, d0 = d + 1 := by
        cases d0 with
        | zero => have := formT_zero_nil HM.out.2.1; subst this; simp at hlt
        | succ d => exact ⟨d, rfl⟩
      have HD : Hid (LtS d) := H d rfl
      clear H
      have hlt' : (j : Int) < (ss.length : Int) := by omega
      obtain ⟨b, off, cap', x, y, z, hv, hb1, hb2, h5, hkx, hky, hkz⟩ := HK.out.at_ hsj
      simp only [Value.slice.injEq, true_and] at hv
      obtain ⟨rfl, rfl⟩ := hv
      have hkl := stmt_lt hsj
      have hmm := HM.out
      obtain ⟨ax, cx, rfl, _, _⟩ := hkx.shape
      obtain ⟨ay, cy, rfl, _, _⟩ := hky.shape
      obtain ⟨az, cz, rfl, _, _⟩ := hkz.shape
      have HX : Hid (KR w lo hi (.slice ax s.e.kids.length cx) s.e.kids ∧ SR w lo hi (.slice ay s.th.length cy) s.th ∧ SR w lo hi (.slice az s.el.length cz) s.el) := ⟨hkx, hky, hkz⟩
      obtain ⟨k1, k2, k3, k4⟩ := formT_know hmm.2.1 (List.mem_of_getElem? hsj)
      have k5 : formE 6 s.e = true := by unfold exprOk at k2; rw [Bool.and_eq_true] at k2; exact k2.1
      have HKN : Hid (fitB s = true ∧ formE 6 s.e = true ∧ formT d s.th = true ∧ formT d s.el = true) := ⟨k1, k5, k3, k4⟩
      have HQ : Hid (manyL s.e.kids ≤ 1048576 ∧ sizeL s.th ≤ 1048576 ∧ sizeL s.el ≤ 1048576) := ⟨by omega, by omega, by omega⟩
      have hct := cntL_take_succ hsj
      have hctl := cntL_take_le ss (j + 1)
      have hcs := cntS_eq s
      have hq1 := slimTD_len (d + 1) (ss.take j)
      have hq2 := slimTD_len d s.th
      have hq3 := slimTD_len d s.el
      have hqn : qs.length = (slimTD (d + 1) (ss.take j)).length := by rw [← HR.out.1, List.length_map]
      obtain ⟨f, hf⟩ : ∃ f, slimD 6 s.e = f := ⟨_, rfl⟩
      obtain ⟨T, hT⟩ : ∃ T, slimTD d s.th = T := ⟨_, rfl⟩
      obtain ⟨E, hE⟩ : ∃ E, slimTD d s.el = E := ⟨_, rfl⟩
      have HX1 : Hid (slimTD (d + 1) (ss.take (j + 1)) = slimTD (d + 1) (ss.take j) ++ shortS (withS s f T E)) := by
        show _ = _
        rw [slimTD_succ, slimTD_succ, slimTD_take hsj, ← hf, ← hT, ← hE]; rfl
      have HLN : Hid (qs.length ≤ 1048576 ∧ T.length ≤ 1048576 ∧ E.length ≤ 1048576) := by rw [hT] at hq2; rw [hE] at hq3; exact ⟨by omega, by omega, by omega⟩
      have HFE : Hid (slimD 6 s.e = f ∧ slimTD d s.th = T ∧ slimTD d s.el = E) := ⟨hf, hT, hE⟩
      obtain ⟨c0, c1, c2, c3, c4, c5, c6, c7, c8, c9⟩ := h5.kept (HR.out.2.2.block b (by omega))
      obtain ⟨B, hB⟩ : ∃ B, wr.heap.size = B := ⟨_, rfl⟩
      obtain ⟨u1, hu1, V1, g1, s1⟩ : ∃ u1, wr.alloc (.cells #[.int .i64 s.k, .int .i64 s.tk, .int .i64 s.ta, .int .i64 s.e.k, .int .i64 s.e.n, .int .i64 s.e.ak, .int .i64 s.e.at_, .slice ax s.e.kids.length cx, .slice ay s.th.length cy, .slice az s.el.length cz] 44) = u1 ∧ TenW u1 B (.int .i64 s.k) (.int .i64 s.tk) (.int .i64 s.ta) (.int .i64 s.e.k) (.int .i64 s.e.n) (.int .i64 s.e.ak) (.int .i64 s.e.at_) (.slice ax s.e.kids.length cx) (.slice ay s.th.length cy) (.slice az s.el.length cz) ∧ Below wr.heap.size wr u1 ∧ u1.heap.size = B + 1 := ⟨_, rfl, hB ▸ tenW_new _ _ _ _ _ _ _ _ _ _ _ _, (Below.refl _ _).alloc (Nat.le_refl _) _, by simp [hB]⟩
      have HRR := HR
      have hbs0 := HR.out.2.2.size
      have HTB : Hid ((∀ g, (Value.slice va vn vc).ownBlock = some g → g < B) ∧ ∀ i, i < qs.length → (r i).h ≤ B) := ⟨fun g hg => by have := (HR.out.2.1.row.lt g hg).2; omega, fun i hi => by have := (HR.out.2.1.tk.rng i hi).hi_; omega⟩
      obtain ⟨d0, d1, d2, d3, d4, d5, d6, d7, d8, d9, _⟩ := id V1
      clear hsj hkx hky hkz hkl hmm h5 k1 k2 k3 k4 k5 hct hctl hcs hq1 hq2 hq3 hqn hf hT hE HR
      go_wp2_with fail
      try rw [hB]
      try rw [hu1]
      clear hu1 c0 c1 c2 c3 c4 c5 c6 c7 c8 c9 d0 d1 d2 d3 d4 d5 d6 d7 d8 d9
      refine (copyS _ u1 lo hi _ s.e ⟨_, rfl, HX.out.1.under (HRR.out.2.2.trans (g1.mono (by omega))) hhi⟩ (by omega) (Nat.le_refl _) HQ.out.1).mono ?_
      rintro e1 u2 ⟨v2, rfl, OE, g2⟩
      obtain ⟨wa, wc, rfl⟩ := OE.form5U
      have s2 := g2.size
      have V2 := V1.under g2 (by omega)
      have G2 : Below wr.heap.size wr u2 := g1.trans (g2.mono (by omega))
      clear g1 g2 V1
      have hl := leS 6 u2 _ _ _ s.e OE (Nat.le_refl _) HKN.out.2.1
      rw [HFE.out.1] at hl
      go_wp2_with fail
      refine hl.mono ?_
      clear hl
      rintro e1 u2' ⟨v2', rfl, OF, o2⟩
      obtain ⟨xa, xc, rfl⟩ := OF.form5U
      have s2' := o2.size
      have V2' := o2.ten V2 (by omega) (by omega)
      have G2' : Below wr.heap.size wr u2' := G2.trans (o2.below (by omega) (by omega))
      obtain ⟨sxx, hsx, KX⟩ := OF
      simp only [Value.agg.injEq, Array.mk.injEq, List.cons.injEq, and_true, true_and] at hsx
      subst hsx
      clear o2 V2 G2 OE
      obtain ⟨u3', hu3, V3, N3, z3, b3⟩ := V2'.setE (.int .i64 f.k) (.int .i64 f.n) (.int .i64 f.ak) (.int .i64 f.at_) (.slice xa f.kids.length xc)
      have G3 : Below wr.heap.size wr u3' := G2'.trans (b3.mono (by omega))
      have K3 := KX.kept (w' := u3') fun k q1 q2 => N3 k (by omega)
      have HU3 : Hid (_ = u3') := hu3
      obtain ⟨d0, d1, d2, d3, d4, d5, d6, d7, d8, d9, df⟩ := id V2'
      have f3 := df 3
      have f4 := df 4
      have f5 := df 5
      have f6 := df 6
      have f7 := df 7
      clear df b3 N3 KX G2'
      have d8' : u3'.cell? ⟨B, 8, none⟩ = some (.slice ay s.th.length cy) := V3.c8
      go_wp2_with fail
      try rw [HU3.out]
      clear hu3 d0 d1 d2 d3 d4 d5 d6 d7 d8 d9 f3 f4 f5 f6 f7 d8' V2'
      have hc := HD.out u3' lo hi _ s.th HQ.out.2.1 (HX.out.2.1.under (HRR.out.2.2.trans (G3.mono (by omega))) hhi) (by omega) HKN.out.2.2.1
      rw [HFE.out.2.1] at hc
      refine hc.mono ?_
      clear hc
      rintro e2 u4 ⟨v4, rfl, OT, g4⟩
      obtain ⟨ya, yc, rfl, _, _⟩ := OT.sr.shape
      have s4 := g4.size
      have V4 := V3.under g4 (by omega)
      have G4 := G3.trans (g4.mono (by omega))
      have K4 := K3.under g4 (by omega)
      clear g4 V3 G3 K3
      obtain ⟨u5, hu5, V5, N5, z5, b5⟩ : ∃ u5, u4.setCell ⟨B, 8, none⟩ (.slice ya T.length yc) = u5 ∧ TenW u5 B (.int .i64 s.k) (.int .i64 s.tk) (.int .i64 s.ta) (.int .i64 f.k) (.int .i64 f.n) (.int .i64 f.ak) (.int .i64 f.at_) (.slice xa f.kids.length xc) (.slice ya T.length yc) (.slice az s.el.length cz) ∧ (∀ k, k ≠ B → u5.heap[k]? = u4.heap[k]?) ∧ u5.heap.size = u4.heap.size ∧ Below B u4 u5 := ⟨_, rfl, V4.set8 _, fun k hk => Below.heap_setCell _ _ _ _ hk, by simp, (Below.refl _ _).setCell (p := ⟨B, 8, none⟩) (Nat.le_refl _) _⟩
      have G5 := G4.trans (b5.mono (by omega))
      have K5 := K4.kept (w' := u5) fun k q1 q2 => N5 k (by omega)
      have T5 := OT.kept (w' := u5) fun k q1 q2 => N5 k (by omega)
      obtain ⟨d0, d1, d2, d3, d4, d5, d6, d7, d8, d9, df⟩ := id V4
      have f8 := df 8
      have d9' : u5.cell? ⟨B, 9, none⟩ = some (.slice az s.el.length cz) := V5.c9
      clear df b5 N5 K4 G4 OT
      go_wp2_with fail
      try rw [hu5]
      clear hu5 d0 d1 d2 d3 d4 d5 d6 d7 d8 d9 f8 d9' V4
      have hc := HD.out u5 lo hi _ s.el HQ.out.2.2 (HX.out.2.2.under (HRR.out.2.2.trans (G5.mono (by omega))) hhi) (by omega) HKN.out.2.2.2
      rw [HFE.out.2.2] at hc
      refine hc.mono ?_
      clear hc
      rintro e3 u6 ⟨v6, rfl, OL, g6⟩
      obtain ⟨za, zc, rfl, _, _⟩ := OL.sr.shape
      have s6 := g6.size
      have V6 := V5.under g6 (by omega)
      have G6 := G5.trans (g6.mono (by omega))
      have K6 := K5.under g6 (by omega)
      have T6 := T5.under g6 (by omega)
      clear g6 V5 G5 K5 T5
      obtain ⟨u7, hu7, V7, N7, z7, b7⟩ : ∃ u7, u6.setCell ⟨B, 9, none⟩ (.slice za E.length zc) = u7 ∧ TenW u7 B (.int .i64 s.k) (.int .i64 s.tk) (.int .i64 s.ta) (.int .i64 f.k) (.int .i64 f.n) (.int .i64 f.ak) (.int .i64 f.at_) (.slice xa f.kids.length xc) (.slice ya T.length yc) (.slice za E.length zc) ∧ (∀ k, k ≠ B → u7.heap[k]? = u6.heap[k]?) ∧ u7.heap.size = u6.heap.size ∧ Below B u6 u7 := ⟨_, rfl, V6.set9 _, fun k hk => Below.heap_setCell _ _ _ _ hk, by simp, (Below.refl _ _).setCell (p := ⟨B, 9, none⟩) (Nat.le_refl _) _⟩
      have HZ : Hid (TenW u7 B (.int .i64 s.k) (.int .i64 s.tk) (.int .i64 s.ta) (.int .i64 f.k) (.int .i64 f.n) (.int .i64 f.ak) (.int .i64 f.at_) (.slice xa f.kids.length xc) (.slice ya T.length yc) (.slice za E.length zc) ∧ KO u7 (B + 1) u2.heap.size (.slice xa f.kids.length xc) f.kids ∧ SO u7 u3'.heap.size u4.heap.size (.slice ya T.length yc) T ∧ SO u7 u5.heap.size u6.heap.size (.slice za E.length zc) E ∧ Below wr.heap.size wr u7) := ⟨V7, (K6.kept (w' := u7) fun k q1 q2 => N7 k (by omega)).wide (by omega) (Nat.le_refl _), T6.kept (w' := u7) fun k q1 q2 => N7 k (by omega), OL.kept (w' := u7) fun k q1 q2 => N7 k (by omega), G6.trans (b7.mono (by omega))⟩
      have HU7 : Hid (_ = u7) := hu7
      obtain ⟨q0, q1, q2, q3, q4, q5, q6, q7, q8, q9, df⟩ := id V6
      have f9 := df 9
      obtain ⟨d0, d1, d2, d3, d4, d5, d6, d7, d8, d9, _⟩ := id V7
      clear df b7 N7 K6 T6 OL G6 hu7 V7
      go_wp2_with fail
      try rw [HU7.out]
      clear q0 q1 q2 q3 q4 q5 q6 q7 q8 q9 f9 d0 d1 d2 d3 d4 d5 d6 d7 d8 d9 V6 HU7
      have hsc := sSelf10_any u7 s.k s.tk s.ta f.k f.n f.ak f.at_ (.slice xa f.kids.length xc) (.slice ya T.length yc) (.slice za E.length zc)
      obtain ⟨bs, hbs⟩ : ∃ bs, selfI s.k s.tk s.ta f.k f.ak f.at_ = bs := ⟨_, rfl⟩
      rw [hbs] at hsc
      refine hsc.mono ?_
      clear hsc
      rintro e4 u8 ⟨rfl, g8⟩
      have s8 := g8.size
      have HZ2 : Hid (TenW u8 B (.int .i64 s.k) (.int .i64 s.tk) (.int .i64 s.ta) (.int .i64 f.k) (.int .i64 f.n) (.int .i64 f.ak) (.int .i64 f.at_) (.slice xa f.kids.length xc) (.slice ya T.length yc) (.slice za E.length zc) ∧ KO u8 (B + 1) u2.heap.size (.slice xa f.kids.length xc) f.kids ∧ SO u8 u3'.heap.size u4.heap.size (.slice ya T.length yc) T ∧ SO u8 u5.heap.size u6.heap.size (.slice za E.length zc) E ∧ Below wr.heap.size wr u8) := ⟨HZ.out.1.under g8 (by omega), HZ.out.2.1.under g8 (by omega), HZ.out.2.2.1.under g8 (by omega), HZ.out.2.2.2.1.under g8 (by omega), HZ.out.2.2.2.2.trans (g8.mono (by omega))⟩
      clear HZ
      have HZ := HZ2
      clear HZ2
      clear g8
      obtain ⟨d0, d1, d2, d3, d4, d5, d6, d7, d8, d9, _⟩ := id HZ.out.1
      rcases fit_kind HKN.out.1 with hk | hk | hk
      · have ek1 : (s.k == 1) = true := by simp [hk]
        have ek2 : (s.k == 2) = false := by simp [hk]
        have ek3 : (s.k == 3) = false := by simp [hk]
        have Hk : Hid (s.k = 1) := hk
        clear hk
        cases bs with
        | true =>
          have HN : Hid (qs.map ShellT.s = slimTD (d + 1) (ss.take (j + 1)) ∧ RowK u8 w.heap.size (.slice va vn vc) qs r ∧ Below w.heap.size w u8) := ⟨by rw [HX1.out, short1 Hk.out (self_one Hk.out hbs), if_pos rfl, List.append_nil, HRR.out.1], HRR.out.2.1.below HZ.out.2.2.2.2 (Nat.le_refl _), HRR.out.2.2.trans (HZ.out.2.2.2.2.mono (by omega))⟩
          clear HZ
          go_wp2
          go_roundw
          case rel => exact ⟨j + 1, qs, r, by omega, by go_num, by omega, HN.out⟩
          case measure => simp [intOf]; omega
        | false =>
          obtain ⟨uA, huA, VA, gA, sA⟩ : ∃ uA, u8.alloc (.cells #[.int .i64 s.k, .int .i64 s.tk, .int .i64 s.ta, .int .i64 f.k, .int .i64 f.n, .int .i64 f.ak, .int .i64 f.at_, .slice xa f.kids.length xc, .slice ya T.length yc, .slice za E.length zc] 44) = uA ∧ TenW uA u8.heap.size (.int .i64 s.k) (.int .i64 s.tk) (.int .i64 s.ta) (.int .i64 f.k) (.int .i64 f.n) (.int .i64 f.ak) (.int .i64 f.at_) (.slice xa f.kids.length xc) (.slice ya T.length yc) (.slice za E.length zc) ∧ Below u8.heap.size u8 uA ∧ uA.heap.size = u8.heap.size + 1 := ⟨_, rfl, tenW_new _ _ _ _ _ _ _ _ _ _ _ _, (Below.refl _ _).alloc (Nat.le_refl _) _, by simp⟩
          have HUA : Hid (_ = uA) := huA
          have HA0 : Hid (RowK uA w.heap.size (.slice va vn vc) qs r ∧ Below w.heap.size w uA ∧ TK uA (B + 1) u6.heap.size [(⟨withS s f T E, xa, xc, ya, yc, za, zc⟩ : ShellT)] (fun _ => ⟨B + 1, u6.heap.size, B + 1, u2.heap.size, u3'.heap.size, u4.heap.size, u5.heap.size, u6.heap.size⟩) ∧ GR shellTE uA u8.heap.size (u8.heap.size + 1) (.slice (some ⟨u8.heap.size, 0, none⟩) 1 1) [(⟨withS s f T E, xa, xc, ya, yc, za, zc⟩ : ShellT)]) :=
            ⟨(HRR.out.2.1.below HZ.out.2.2.2.2 (Nat.le_refl _)).below gA (Nat.le_refl _), (HRR.out.2.2.trans (HZ.out.2.2.2.2.mono (by omega))).trans (gA.mono (by omega)),
             TK.one (q := ⟨withS s f T E, xa, xc, ya, yc, za, zc⟩) (r := ⟨B + 1, u6.heap.size, B + 1, u2.heap.size, u3'.heap.size, u4.heap.size, u5.heap.size, u6.heap.size⟩) ((HZ.out.2.1.under gA (by omega)).wide (by show B + 1 ≤ _; omega) (by show _ ≤ u2.heap.size; omega)) (HZ.out.2.2.1.under gA (by omega)) (HZ.out.2.2.2.1.under gA (by omega)) ⟨by show B + 1 ≤ B + 1; omega, by show u6.heap.size ≤ u6.heap.size; omega, ⟨by show B + 1 ≤ B + 1; omega, by show u2.heap.size ≤ u6.heap.size; omega⟩, ⟨by show B + 1 ≤ u3'.heap.size; omega, by show u4.heap.size ≤ u6.heap.size; omega⟩, ⟨by show B + 1 ≤ u5.heap.size; omega, by show u6.heap.size ≤ u6.heap.size; omega⟩, .inl (by show u2.heap.size ≤ u3'.heap.size; omega), .inl (by show u2.heap.size ≤ u5.heap.size; omega), .inl (by show u4.heap.size ≤ u5.heap.size; omega)⟩,
             gr_one (q := ⟨withS s f T E, xa, xc, ya, yc, za, zc⟩) VA⟩
          have hln : qs.length + [(⟨withS s f T E, xa, xc, ya, yc, za, zc⟩ : ShellT)].length ≤ 16777216 := by have := HLN.out.1; simp; omega
          clear huA VA gA
          go_wp2_with (at_builtin; (try rw [HUA.out]); refine wpList_appG (E := shellTE) Tryz.underlying24 info_stmt rfl (by decide) rfl _ _ rfl w.heap.size u8.heap.size (u8.heap.size + 1) rfl rfl HA0.out.1.row HA0.out.2.2.2 (by omega) hln ?_)
          intro v9 u9 hA
          have hgr := hA.grown
          have hAS : uA.heap.size ≤ u9.heap.size := hgr.size
          obtain ⟨rr, R9⟩ := HA0.out.1.app hA HA0.out.2.2.1 (by omega) (by omega) (fun i hi => .inl (by have := HTB.out.2 i hi; omega)) (fun g hg => .inl (by have := HTB.out.1 g hg; omega)) hAS (fun k hk hne => grownBy_block hgr hk hne)
          have G9 : Below w.heap.size w u9 := HA0.out.2.1.trans (hA.below HA0.out.1.row (Nat.le_refl _) (by omega))
          have HN : Hid ((qs ++ [(⟨withS s f T E, xa, xc, ya, yc, za, zc⟩ : ShellT)]).map ShellT.s = slimTD (d + 1) (ss.take (j + 1)) ∧ RowK u9 w.heap.size v9 (qs ++ [(⟨withS s f T E, xa, xc, ya, yc, za, zc⟩ : ShellT)]) rr ∧ Below w.heap.size w u9) := ⟨by rw [HX1.out, short1 Hk.out (self_one Hk.out hbs), if_neg Bool.false_ne_true, List.map_append, HRR.out.1]; rfl, R9, G9⟩
          clear hA hgr R9 G9 HA0 HZ d0 d1 d2 d3 d4 d5 d6 d7 d8 d9
          go_wp2
          go_roundw
          case rel => exact ⟨j + 1, _, rr, by omega, by go_num, by omega, HN.out⟩
          case measure => simp [intOf]; omega
      · have ek1 : (s.k == 1) = false := by simp [hk]
        have ek2 : (s.k == 2) = true := by simp [hk]
        have ek3 : (s.k == 3) = false := by simp [hk]
        obtain rfl : bs = false := by rw [← hbs]; simp [selfI, hk]
        have Hk : Hid (s.k = 2) := hk
        clear hk
        by_cases hT : T = []
        · have eT : ((T.length : Int) == 0) = true := by rw [hT]; rfl
          have HT : Hid (T = []) := hT
          clear hT
          by_cases hE : E = []
          · have eE : ((E.length : Int) == 0) = true := by rw [hE]; rfl
            have HE : Hid (E = []) := hE
            clear hE
            have HN : Hid (qs.map ShellT.s = slimTD (d + 1) (ss.take (j + 1)) ∧ RowK u8 w.heap.size (.slice va vn vc) qs r ∧ Below w.heap.size w u8) := ⟨by rw [HX1.out, short2e Hk.out HT.out HE.out, List.append_nil, HRR.out.1], HRR.out.2.1.below HZ.out.2.2.2.2 (Nat.le_refl _), HRR.out.2.2.trans (HZ.out.2.2.2.2.mono (by omega))⟩
            clear HZ
            go_wp2
            go_roundw
            case rel => exact ⟨j + 1, qs, r, by omega, by go_num, by omega, HN.out⟩
            case measure => simp [intOf]; omega
          · have hE1 : E.length ≠ 0 := fun h => hE (List.eq_nil_of_length_eq_zero h)
            have eE : ((E.length : Int) == 0) = false := by simp; omega
            by_cases hf1 : f.k = 1
            · have ef1 : (f.k == 1) = true := by simp [hf1]
              have Hf : Hid (f.k = 1) := hf1
              clear hf1
              have hc := sOn_any f.n u8
              by_cases hn : f.n = 0
              · have hn0 : (f.n != 0) = false := by simp [hn]
                have Hn : Hid (f.n = 0) := hn
                clear hn
                rw [hn0] at hc
                go_wp2_with fail
                refine hc.mono ?_
                clear hc
                rintro e5 u8' ⟨rfl, hw⟩
                have hw := hw.symm
                subst hw
                obtain ⟨ps, rp, hps, GP, TP⟩ := HZ.out.2.2.2.1.shells
                have hpl : ps.length = E.length := by rw [← hps, List.length_map]
                have HA0 : Hid (RowK u8 w.heap.size (.slice va vn vc) qs r ∧ Below w.heap.size w u8 ∧ TK u8 u5.heap.size u6.heap.size ps rp ∧ GR shellTE u8 u5.heap.size u6.heap.size (.slice za E.length zc) ps) :=
                  ⟨HRR.out.2.1.below HZ.out.2.2.2.2 (Nat.le_refl _), HRR.out.2.2.trans (HZ.out.2.2.2.2.mono (by omega)), TP, GP⟩
                have hln : qs.length + ps.length ≤ 16777216 := by have := HLN.out; omega
                clear TP GP
                go_wp2_with (at_builtin; refine wpList_appG (E := shellTE) Tryz.underlying24 info_stmt rfl (by decide) rfl _ _ rfl w.heap.size u5.heap.size u6.heap.size rfl rfl HA0.out.1.row HA0.out.2.2.2 (by omega) hln ?_)
                intro v9 u9 hA
                have hgr := hA.grown
                have hAS : u8.heap.size ≤ u9.heap.size := hgr.size
                obtain ⟨rr, R9⟩ := HA0.out.1.app hA HA0.out.2.2.1 (by omega) (by omega) (fun i hi => .inl (by have := HTB.out.2 i hi; omega)) (fun g hg => .inl (by have := HTB.out.1 g hg; omega)) hAS (fun k hk hne => grownBy_block hgr hk hne)
                have G9 : Below w.heap.size w u9 := HA0.out.2.1.trans (hA.below HA0.out.1.row (Nat.le_refl _) (by omega))
                have HN : Hid ((qs ++ ps).map ShellT.s = slimTD (d + 1) (ss.take (j + 1)) ∧ RowK u9 w.heap.size v9 (qs ++ ps) rr ∧ Below w.heap.size w u9) := ⟨by rw [HX1.out, short2f Hk.out (fun h => hE h.2) Hf.out Hn.out, List.map_append, HRR.out.1, hps], R9, G9⟩
                clear hA hgr R9 G9 HA0 HZ d0 d1 d2 d3 d4 d5 d6 d7 d8 d9
                go_wp2
                go_roundw
                case rel => exact ⟨j + 1, _, rr, by omega, by go_num, by omega, HN.out⟩
                case measure => simp [intOf]; omega
              · have hn0 : (f.n != 0) = true := by simp [hn]
                have Hn : Hid (¬ f.n = 0) := hn
                clear hn
                rw [hn0] at hc
                go_wp2_with fail
                refine hc.mono ?_
                clear hc
                rintro e5 u8' ⟨rfl, hw⟩
                have hw := hw.symm
                subst hw
                obtain ⟨ps, rp, hps, GP, TP⟩ := HZ.out.2.2.1.shells
                have hpl : ps.length = T.length := by rw [← hps, List.length_map]
                have HA0 : Hid (RowK u8 w.heap.size (.slice va vn vc) qs r ∧ Below w.heap.size w u8 ∧ TK u8 u3'.heap.size u4.heap.size ps rp ∧ GR shellTE u8 u3'.heap.size u4.heap.size (.slice ya T.length yc) ps) :=
                  ⟨HRR.out.2.1.below HZ.out.2.2.2.2 (Nat.le_refl _), HRR.out.2.2.trans (HZ.out.2.2.2.2.mono (by omega)), TP, GP⟩
                have hln : qs.length + ps.length ≤ 16777216 := by have := HLN.out; omega
                clear TP GP
                go_wp2_with (at_builtin; refine wpList_appG (E := shellTE) Tryz.underlying24 info_stmt rfl (by decide) rfl _ _ rfl w.heap.size u3'.heap.size u4.heap.size rfl rfl HA0.out.1.row HA0.out.2.2.2 (by omega) hln ?_)
                intro v9 u9 hA
                have hgr := hA.grown
                have hAS : u8.heap.size ≤ u9.heap.size := hgr.size
                obtain ⟨rr, R9⟩ := HA0.out.1.app hA HA0.out.2.2.1 (by omega) (by omega) (fun i hi => .inl (by have := HTB.out.2 i hi; omega)) (fun g hg => .inl (by have := HTB.out.1 g hg; omega)) hAS (fun k hk hne => grownBy_block hgr hk hne)
                have G9 : Below w.heap.size w u9 := HA0.out.2.1.trans (hA.below HA0.out.1.row (Nat.le_refl _) (by omega))
                have HN : Hid ((qs ++ ps).map ShellT.s = slimTD (d + 1) (ss.take (j + 1)) ∧ RowK u9 w.heap.size v9 (qs ++ ps) rr ∧ Below w.heap.size w u9) := ⟨by rw [HX1.out, short2t Hk.out (fun h => hE h.2) Hf.out Hn.out, List.map_append, HRR.out.1, hps], R9, G9⟩
                clear hA hgr R9 G9 HA0 HZ d0 d1 d2 d3 d4 d5 d6 d7 d8 d9
                go_wp2
                go_roundw
                case rel => exact ⟨j + 1, _, rr, by omega, by go_num, by omega, HN.out⟩
                case measure => simp [intOf]; omega
            · have ef1 : (f.k == 1) = false := by simp [hf1]
              have Hf : Hid (¬ f.k = 1) := hf1
              clear hf1
              obtain ⟨uA, huA, VA, gA, sA⟩ : ∃ uA, u8.alloc (.cells #[.int .i64 s.k, .int .i64 s.tk, .int .i64 s.ta, .int .i64 f.k, .int .i64 f.n, .int .i64 f.ak, .int .i64 f.at_, .slice xa f.kids.length xc, .slice ya T.length yc, .slice za E.length zc] 44) = uA ∧ TenW uA u8.heap.size (.int .i64 s.k) (.int .i64 s.tk) (.int .i64 s.ta) (.int .i64 f.k) (.int .i64 f.n) (.int .i64 f.ak) (.int .i64 f.at_) (.slice xa f.kids.length xc) (.slice ya T.length yc) (.slice za E.length zc) ∧ Below u8.heap.size u8 uA ∧ uA.heap.size = u8.heap.size + 1 := ⟨_, rfl, tenW_new _ _ _ _ _ _ _ _ _ _ _ _, (Below.refl _ _).alloc (Nat.le_refl _) _, by simp⟩
              have HUA : Hid (_ = uA) := huA
              have HA0 : Hid (RowK uA w.heap.size (.slice va vn vc) qs r ∧ Below w.heap.size w uA ∧ TK uA (B + 1) u6.heap.size [(⟨withS s f T E, xa, xc, ya, yc, za, zc⟩ : ShellT)] (fun _ => ⟨B + 1, u6.heap.size, B + 1, u2.heap.size, u3'.heap.size, u4.heap.size, u5.heap.size, u6.heap.size⟩) ∧ GR shellTE uA u8.heap.size (u8.heap.size + 1) (.slice (some ⟨u8.heap.size, 0, none⟩) 1 1) [(⟨withS s f T E, xa, xc, ya, yc, za, zc⟩ : ShellT)]) :=
                ⟨(HRR.out.2.1.below HZ.out.2.2.2.2 (Nat.le_refl _)).below gA (Nat.le_refl _), (HRR.out.2.2.trans (HZ.out.2.2.2.2.mono (by omega))).trans (gA.mono (by omega)),
                 TK.one (q := ⟨withS s f T E, xa, xc, ya, yc, za, zc⟩) (r := ⟨B + 1, u6.heap.size, B + 1, u2.heap.size, u3'.heap.size, u4.heap.size, u5.heap.size, u6.heap.size⟩) ((HZ.out.2.1.under gA (by omega)).wide (by show B + 1 ≤ _; omega) (by show _ ≤ u2.heap.size; omega)) (HZ.out.2.2.1.under gA (by omega)) (HZ.out.2.2.2.1.under gA (by omega)) ⟨by show B + 1 ≤ B + 1; omega, by show u6.heap.size ≤ u6.heap.size; omega, ⟨by show B + 1 ≤ B + 1; omega, by show u2.heap.size ≤ u6.heap.size; omega⟩, ⟨by show B + 1 ≤ u3'.heap.size; omega, by show u4.heap.size ≤ u6.heap.size; omega⟩, ⟨by show B + 1 ≤ u5.heap.size; omega, by show u6.heap.size ≤ u6.heap.size; omega⟩, .inl (by show u2.heap.size ≤ u3'.heap.size; omega), .inl (by show u2.heap.size ≤ u5.heap.size; omega), .inl (by show u4.heap.size ≤ u5.heap.size; omega)⟩,
                 gr_one (q := ⟨withS s f T E, xa, xc, ya, yc, za, zc⟩) VA⟩
              have hln : qs.length + [(⟨withS s f T E, xa, xc, ya, yc, za, zc⟩ : ShellT)].length ≤ 16777216 := by have := HLN.out.1; simp; omega
              clear huA VA gA
              go_wp2_with (at_builtin; (try rw [HUA.out]); refine wpList_appG (E := shellTE) Tryz.underlying24 info_stmt rfl (by decide) rfl _ _ rfl w.heap.size u8.heap.size (u8.heap.size + 1) rfl rfl HA0.out.1.row HA0.out.2.2.2 (by omega) hln ?_)
              intro v9 u9 hA
              have hgr := hA.grown
              have hAS : uA.heap.size ≤ u9.heap.size := hgr.size
              obtain ⟨rr, R9⟩ := HA0.out.1.app hA HA0.out.2.2.1 (by omega) (by omega) (fun i hi => .inl (by have := HTB.out.2 i hi; omega)) (fun g hg => .inl (by have := HTB.out.1 g hg; omega)) hAS (fun k hk hne => grownBy_block hgr hk hne)
              have G9 : Below w.heap.size w u9 := HA0.out.2.1.trans (hA.below HA0.out.1.row (Nat.le_refl _) (by omega))
              have HN : Hid ((qs ++ [(⟨withS s f T E, xa, xc, ya, yc, za, zc⟩ : ShellT)]).map ShellT.s = slimTD (d + 1) (ss.take (j + 1)) ∧ RowK u9 w.heap.size v9 (qs ++ [(⟨withS s f T E, xa, xc, ya, yc, za, zc⟩ : ShellT)]) rr ∧ Below w.heap.size w u9) := ⟨by rw [HX1.out, short2n Hk.out (fun h => hE h.2) Hf.out, List.map_append, HRR.out.1]; rfl, R9, G9⟩
              clear hA hgr R9 G9 HA0 HZ d0 d1 d2 d3 d4 d5 d6 d7 d8 d9
              go_wp2
              go_roundw
              case rel => exact ⟨j + 1, _, rr, by omega, by go_num, by omega, HN.out⟩
              case measure => simp [intOf]; omega
        · have hT1 : T.length ≠ 0 := fun h => hT (List.eq_nil_of_length_eq_zero h)
          have eT : ((T.length : Int) == 0) = false := by simp; omega
          by_cases hf1 : f.k = 1
          · have ef1 : (f.k == 1) = true := by simp [hf1]
            have Hf : Hid (f.k = 1) := hf1
            clear hf1
            have hc := sOn_any f.n u8
            by_cases hn : f.n = 0
            · have hn0 : (f.n != 0) = false := by simp [hn]
              have Hn : Hid (f.n = 0) := hn
              clear hn
              rw [hn0] at hc
              go_wp2_with fail
              refine hc.mono ?_
              clear hc
              rintro e5 u8' ⟨rfl, hw⟩
              have hw := hw.symm
              subst hw
              obtain ⟨ps, rp, hps, GP, TP⟩ := HZ.out.2.2.2.1.shells
              have hpl : ps.length = E.length := by rw [← hps, List.length_map]
              have HA0 : Hid (RowK u8 w.heap.size (.slice va vn vc) qs r ∧ Below w.heap.size w u8 ∧ TK u8 u5.heap.size u6.heap.size ps rp ∧ GR shellTE u8 u5.heap.size u6.heap.size (.slice za E.length zc) ps) :=
                ⟨HRR.out.2.1.below HZ.out.2.2.2.2 (Nat.le_refl _), HRR.out.2.2.trans (HZ.out.2.2.2.2.mono (by omega)), TP, GP⟩
              have hln : qs.length + ps.length ≤ 16777216 := by have := HLN.out; omega
              clear TP GP
              go_wp2_with (at_builtin; refine wpList_appG (E := shellTE) Tryz.underlying24 info_stmt rfl (by decide) rfl _ _ rfl w.heap.size u5.heap.size u6.heap.size rfl rfl HA0.out.1.row HA0.out.2.2.2 (by omega) hln ?_)
              intro v9 u9 hA
              have hgr := hA.grown
              have hAS : u8.heap.size ≤ u9.heap.size := hgr.size
              obtain ⟨rr, R9⟩ := HA0.out.1.app hA HA0.out.2.2.1 (by omega) (by omega) (fun i hi => .inl (by have := HTB.out.2 i hi; omega)) (fun g hg => .inl (by have := HTB.out.1 g hg; omega)) hAS (fun k hk hne => grownBy_block hgr hk hne)
              have G9 : Below w.heap.size w u9 := HA0.out.2.1.trans (hA.below HA0.out.1.row (Nat.le_refl _) (by omega))
              have HN : Hid ((qs ++ ps).map ShellT.s = slimTD (d + 1) (ss.take (j + 1)) ∧ RowK u9 w.heap.size v9 (qs ++ ps) rr ∧ Below w.heap.size w u9) := ⟨by rw [HX1.out, short2f Hk.out (fun h => hT h.1) Hf.out Hn.out, List.map_append, HRR.out.1, hps], R9, G9⟩
              clear hA hgr R9 G9 HA0 HZ d0 d1 d2 d3 d4 d5 d6 d7 d8 d9
              go_wp2
              go_roundw
              case rel => exact ⟨j + 1, _, rr, by omega, by go_num, by omega, HN.out⟩
              case measure => simp [intOf]; omega
            · have hn0 : (f.n != 0) = true := by simp [hn]
              have Hn : Hid (¬ f.n = 0) := hn
              clear hn
              rw [hn0] at hc
              go_wp2_with fail
              refine hc.mono ?_
              clear hc
              rintro e5 u8' ⟨rfl, hw⟩
              have hw := hw.symm
              subst hw
              obtain ⟨ps, rp, hps, GP, TP⟩ := HZ.out.2.2.1.shells
              have hpl : ps.length = T.length := by rw [← hps, List.length_map]
              have HA0 : Hid (RowK u8 w.heap.size (.slice va vn vc) qs r ∧ Below w.heap.size w u8 ∧ TK u8 u3'.heap.size u4.heap.size ps rp ∧ GR shellTE u8 u3'.heap.size u4.heap.size (.slice ya T.length yc) ps) :=
                ⟨HRR.out.2.1.below HZ.out.2.2.2.2 (Nat.le_refl _), HRR.out.2.2.trans (HZ.out.2.2.2.2.mono (by omega)), TP, GP⟩
              have hln : qs.length + ps.length ≤ 16777216 := by have := HLN.out; omega
              clear TP GP
              go_wp2_with (at_builtin; refine wpList_appG (E := shellTE) Tryz.underlying24 info_stmt rfl (by decide) rfl _ _ rfl w.heap.size u3'.heap.size u4.heap.size rfl rfl HA0.out.1.row HA0.out.2.2.2 (by omega) hln ?_)
              intro v9 u9 hA
              have hgr := hA.grown
              have hAS : u8.heap.size ≤ u9.heap.size := hgr.size
              obtain ⟨rr, R9⟩ := HA0.out.1.app hA HA0.out.2.2.1 (by omega) (by omega) (fun i hi => .inl (by have := HTB.out.2 i hi; omega)) (fun g hg => .inl (by have := HTB.out.1 g hg; omega)) hAS (fun k hk hne => grownBy_block hgr hk hne)
              have G9 : Below w.heap.size w u9 := HA0.out.2.1.trans (hA.below HA0.out.1.row (Nat.le_refl _) (by omega))
              have HN : Hid ((qs ++ ps).map ShellT.s = slimTD (d + 1) (ss.take (j + 1)) ∧ RowK u9 w.heap.size v9 (qs ++ ps) rr ∧ Below w.heap.size w u9) := ⟨by rw [HX1.out, short2t Hk.out (fun h => hT h.1) Hf.out Hn.out, List.map_append, HRR.out.1, hps], R9, G9⟩
              clear hA hgr R9 G9 HA0 HZ d0 d1 d2 d3 d4 d5 d6 d7 d8 d9
              go_wp2
              go_roundw
              case rel => exact ⟨j + 1, _, rr, by omega, by go_num, by omega, HN.out⟩
              case measure => simp [intOf]; omega
          · have ef1 : (f.k == 1) = false := by simp [hf1]
            have Hf : Hid (¬ f.k = 1) := hf1
            clear hf1
            obtain ⟨uA, huA, VA, gA, sA⟩ : ∃ uA, u8.alloc (.cells #[.int .i64 s.k, .int .i64 s.tk, .int .i64 s.ta, .int .i64 f.k, .int .i64 f.n, .int .i64 f.ak, .int .i64 f.at_, .slice xa f.kids.length xc, .slice ya T.length yc, .slice za E.length zc] 44) = uA ∧ TenW uA u8.heap.size (.int .i64 s.k) (.int .i64 s.tk) (.int .i64 s.ta) (.int .i64 f.k) (.int .i64 f.n) (.int .i64 f.ak) (.int .i64 f.at_) (.slice xa f.kids.length xc) (.slice ya T.length yc) (.slice za E.length zc) ∧ Below u8.heap.size u8 uA ∧ uA.heap.size = u8.heap.size + 1 := ⟨_, rfl, tenW_new _ _ _ _ _ _ _ _ _ _ _ _, (Below.refl _ _).alloc (Nat.le_refl _) _, by simp⟩
            have HUA : Hid (_ = uA) := huA
            have HA0 : Hid (RowK uA w.heap.size (.slice va vn vc) qs r ∧ Below w.heap.size w uA ∧ TK uA (B + 1) u6.heap.size [(⟨withS s f T E, xa, xc, ya, yc, za, zc⟩ : ShellT)] (fun _ => ⟨B + 1, u6.heap.size, B + 1, u2.heap.size, u3'.heap.size, u4.heap.size, u5.heap.size, u6.heap.size⟩) ∧ GR shellTE uA u8.heap.size (u8.heap.size + 1) (.slice (some ⟨u8.heap.size, 0, none⟩) 1 1) [(⟨withS s f T E, xa, xc, ya, yc, za, zc⟩ : ShellT)]) :=
              ⟨(HRR.out.2.1.below HZ.out.2.2.2.2 (Nat.le_refl _)).below gA (Nat.le_refl _), (HRR.out.2.2.trans (HZ.out.2.2.2.2.mono (by omega))).trans (gA.mono (by omega)),
               TK.one (q := ⟨withS s f T E, xa, xc, ya, yc, za, zc⟩) (r := ⟨B + 1, u6.heap.size, B + 1, u2.heap.size, u3'.heap.size, u4.heap.size, u5.heap.size, u6.heap.size⟩) ((HZ.out.2.1.under gA (by omega)).wide (by show B + 1 ≤ _; omega) (by show _ ≤ u2.heap.size; omega)) (HZ.out.2.2.1.under gA (by omega)) (HZ.out.2.2.2.1.under gA (by omega)) ⟨by show B + 1 ≤ B + 1; omega, by show u6.heap.size ≤ u6.heap.size; omega, ⟨by show B + 1 ≤ B + 1; omega, by show u2.heap.size ≤ u6.heap.size; omega⟩, ⟨by show B + 1 ≤ u3'.heap.size; omega, by show u4.heap.size ≤ u6.heap.size; omega⟩, ⟨by show B + 1 ≤ u5.heap.size; omega, by show u6.heap.size ≤ u6.heap.size; omega⟩, .inl (by show u2.heap.size ≤ u3'.heap.size; omega), .inl (by show u2.heap.size ≤ u5.heap.size; omega), .inl (by show u4.heap.size ≤ u5.heap.size; omega)⟩,
               gr_one (q := ⟨withS s f T E, xa, xc, ya, yc, za, zc⟩) VA⟩
            have hln : qs.length + [(⟨withS s f T E, xa, xc, ya, yc, za, zc⟩ : ShellT)].length ≤ 16777216 := by have := HLN.out.1; simp; omega
            clear huA VA gA
            go_wp2_with (at_builtin; (try rw [HUA.out]); refine wpList_appG (E := shellTE) Tryz.underlying24 info_stmt rfl (by decide) rfl _ _ rfl w.heap.size u8.heap.size (u8.heap.size + 1) rfl rfl HA0.out.1.row HA0.out.2.2.2 (by omega) hln ?_)
            intro v9 u9 hA
            have hgr := hA.grown
            have hAS : uA.heap.size ≤ u9.heap.size := hgr.size
            obtain ⟨rr, R9⟩ := HA0.out.1.app hA HA0.out.2.2.1 (by omega) (by omega) (fun i hi => .inl (by have := HTB.out.2 i hi; omega)) (fun g hg => .inl (by have := HTB.out.1 g hg; omega)) hAS (fun k hk hne => grownBy_block hgr hk hne)
            have G9 : Below w.heap.size w u9 := HA0.out.2.1.trans (hA.below HA0.out.1.row (Nat.le_refl _) (by omega))
            have HN : Hid ((qs ++ [(⟨withS s f T E, xa, xc, ya, yc, za, zc⟩ : ShellT)]).map ShellT.s = slimTD (d + 1) (ss.take (j + 1)) ∧ RowK u9 w.heap.size v9 (qs ++ [(⟨withS s f T E, xa, xc, ya, yc, za, zc⟩ : ShellT)]) rr ∧ Below w.heap.size w u9) := ⟨by rw [HX1.out, short2n Hk.out (fun h => hT h.1) Hf.out, List.map_append, HRR.out.1]; rfl, R9, G9⟩
            clear hA hgr R9 G9 HA0 HZ d0 d1 d2 d3 d4 d5 d6 d7 d8 d9
            go_wp2
            go_roundw
            case rel => exact ⟨j + 1, _, rr, by omega, by go_num, by omega, HN.out⟩
            case measure => simp [intOf]; omega
      · have ek1 : (s.k == 1) = false := by simp [hk]
        have ek2 : (s.k == 2) = false := by simp [hk]
        have ek3 : (s.k == 3) = true := by simp [hk]
        obtain rfl : bs = false := by rw [← hbs]; simp [selfI, hk]
        have Hk : Hid (s.k = 3) := hk
        clear hk
        have hc := sIs10_any u8 f xa f.kids.length xc 0
        obtain ⟨bz, hbz⟩ : ∃ bz, isTheB f 0 = bz := ⟨_, rfl⟩
        rw [hbz] at hc
        go_wp2_with fail
        refine hc.mono ?_
        clear hc
        rintro e5 u8' ⟨rfl, g9⟩
        have s9 := g9.size
        clear d0 d1 d2 d3 d4 d5 d6 d7 d8 d9
        have HZ2 : Hid (TenW u8' B (.int .i64 s.k) (.int .i64 s.tk) (.int .i64 s.ta) (.int .i64 f.k) (.int .i64 f.n) (.int .i64 f.ak) (.int .i64 f.at_) (.slice xa f.kids.length xc) (.slice ya T.length yc) (.slice za E.length zc) ∧ KO u8' (B + 1) u2.heap.size (.slice xa f.kids.length xc) f.kids ∧ SO u8' u3'.heap.size u4.heap.size (.slice ya T.length yc) T ∧ SO u8' u5.heap.size u6.heap.size (.slice za E.length zc) E ∧ Below wr.heap.size wr u8') := ⟨HZ.out.1.under g9 (by omega), HZ.out.2.1.under g9 (by omega), HZ.out.2.2.1.under g9 (by omega), HZ.out.2.2.2.1.under g9 (by omega), HZ.out.2.2.2.2.trans (g9.mono (by omega))⟩
        clear HZ
        have HZ := HZ2
        clear HZ2
        clear g9
        obtain ⟨d0, d1, d2, d3, d4, d5, d6, d7, d8, d9, _⟩ := id HZ.out.1
        cases bz with
        | true =>
          have HN : Hid (qs.map ShellT.s = slimTD (d + 1) (ss.take (j + 1)) ∧ RowK u8' w.heap.size (.slice va vn vc) qs r ∧ Below w.heap.size w u8') := ⟨by rw [HX1.out, short3 Hk.out hbz, if_pos rfl, List.append_nil, HRR.out.1], HRR.out.2.1.below HZ.out.2.2.2.2 (Nat.le_refl _), HRR.out.2.2.trans (HZ.out.2.2.2.2.mono (by omega))⟩
          clear HZ
          go_wp2
          go_roundw
          case rel => exact ⟨j + 1, qs, r, by omega, by go_num, by omega, HN.out⟩
          case measure => simp [intOf]; omega
        | false =>
          obtain ⟨uA, huA, VA, gA, sA⟩ : ∃ uA, u8'.alloc (.cells #[.int .i64 s.k, .int .i64 s.tk, .int .i64 s.ta, .int .i64 f.k, .int .i64 f.n, .int .i64 f.ak, .int .i64 f.at_, .slice xa f.kids.length xc, .slice ya T.length yc, .slice za E.length zc] 44) = uA ∧ TenW uA u8'.heap.size (.int .i64 s.k) (.int .i64 s.tk) (.int .i64 s.ta) (.int .i64 f.k) (.int .i64 f.n) (.int .i64 f.ak) (.int .i64 f.at_) (.slice xa f.kids.length xc) (.slice ya T.length yc) (.slice za E.length zc) ∧ Below u8'.heap.size u8' uA ∧ uA.heap.size = u8'.heap.size + 1 := ⟨_, rfl, tenW_new _ _ _ _ _ _ _ _ _ _ _ _, (Below.refl _ _).alloc (Nat.le_refl _) _, by simp⟩
          have HUA : Hid (_ = uA) := huA
          have HA0 : Hid (RowK uA w.heap.size (.slice va vn vc) qs r ∧ Below w.heap.size w uA ∧ TK uA (B + 1) u6.heap.size [(⟨withS s f T E, xa, xc, ya, yc, za, zc⟩ : ShellT)] (fun _ => ⟨B + 1, u6.heap.size, B + 1, u2.heap.size, u3'.heap.size, u4.heap.size, u5.heap.size, u6.heap.size⟩) ∧ GR shellTE uA u8'.heap.size (u8'.heap.size + 1) (.slice (some ⟨u8'.heap.size, 0, none⟩) 1 1) [(⟨withS s f T E, xa, xc, ya, yc, za, zc⟩ : ShellT)]) :=
            ⟨(HRR.out.2.1.below HZ.out.2.2.2.2 (Nat.le_refl _)).below gA (Nat.le_refl _), (HRR.out.2.2.trans (HZ.out.2.2.2.2.mono (by omega))).trans (gA.mono (by omega)),
             TK.one (q := ⟨withS s f T E, xa, xc, ya, yc, za, zc⟩) (r := ⟨B + 1, u6.heap.size, B + 1, u2.heap.size, u3'.heap.size, u4.heap.size, u5.heap.size, u6.heap.size⟩) ((HZ.out.2.1.under gA (by omega)).wide (by show B + 1 ≤ _; omega) (by show _ ≤ u2.heap.size; omega)) (HZ.out.2.2.1.under gA (by omega)) (HZ.out.2.2.2.1.under gA (by omega)) ⟨by show B + 1 ≤ B + 1; omega, by show u6.heap.size ≤ u6.heap.size; omega, ⟨by show B + 1 ≤ B + 1; omega, by show u2.heap.size ≤ u6.heap.size; omega⟩, ⟨by show B + 1 ≤ u3'.heap.size; omega, by show u4.heap.size ≤ u6.heap.size; omega⟩, ⟨by show B + 1 ≤ u5.heap.size; omega, by show u6.heap.size ≤ u6.heap.size; omega⟩, .inl (by show u2.heap.size ≤ u3'.heap.size; omega), .inl (by show u2.heap.size ≤ u5.heap.size; omega), .inl (by show u4.heap.size ≤ u5.heap.size; omega)⟩,
             gr_one (q := ⟨withS s f T E, xa, xc, ya, yc, za, zc⟩) VA⟩
          have hln : qs.length + [(⟨withS s f T E, xa, xc, ya, yc, za, zc⟩ : ShellT)].length ≤ 16777216 := by have := HLN.out.1; simp; omega
          clear huA VA gA
          go_wp2_with (at_builtin; (try rw [HUA.out]); refine wpList_appG (E := shellTE) Tryz.underlying24 info_stmt rfl (by decide) rfl _ _ rfl w.heap.size u8'.heap.size (u8'.heap.size + 1) rfl rfl HA0.out.1.row HA0.out.2.2.2 (by omega) hln ?_)
          intro v9 u9 hA
          have hgr := hA.grown
          have hAS : uA.heap.size ≤ u9.heap.size := hgr.size
          obtain ⟨rr, R9⟩ := HA0.out.1.app hA HA0.out.2.2.1 (by omega) (by omega) (fun i hi => .inl (by have := HTB.out.2 i hi; omega)) (fun g hg => .inl (by have := HTB.out.1 g hg; omega)) hAS (fun k hk hne => grownBy_block hgr hk hne)
          have G9 : Below w.heap.size w u9 := HA0.out.2.1.trans (hA.below HA0.out.1.row (Nat.le_refl _) (by omega))
          have HN : Hid ((qs ++ [(⟨withS s f T E, xa, xc, ya, yc, za, zc⟩ : ShellT)]).map ShellT.s = slimTD (d + 1) (ss.take (j + 1)) ∧ RowK u9 w.heap.size v9 (qs ++ [(⟨withS s f T E, xa, xc, ya, yc, za, zc⟩ : ShellT)]) rr ∧ Below w.heap.size w u9) := ⟨by rw [HX1.out, short3 Hk.out hbz, if_neg Bool.false_ne_true, List.map_append, HRR.out.1]; rfl, R9, G9⟩
          clear hA hgr R9 G9 HA0 HZ d0 d1 d2 d3 d4 d5 d6 d7 d8 d9
          go_wp2
          go_roundw
          case rel => exact ⟨j + 1, _, rr, by omega, by go_num, by omega, HN.out⟩
          case measure => simp [intOf]; omega
    · obtain rfl : j = ss.length := by omega
      have HO : Hid (SO wr w.heap.size wr.heap.size (.slice va vn vc) (slimTD d0 ss) ∧ Below w.heap.size w wr) := ⟨by
        have h1 := HR.out.2.1.so (by omega)
        rw [HR.out.1, List.take_length] at h1
        exact h1, HR.out.2.2⟩
      clear HR
      go_wp2
      go_ret
      exact ⟨_, rfl, HO.out⟩

theorem ltS : ∀ d, LtS d
  | 0 => ltS_step fun d h => by omega
  | d + 1 => ltS_step fun d' h => by obtain rfl : d = d' := by omega
                                     exact ltS d
end Go.Proofs.YtkeockippmmneaaGreat

/-
  Chapter 10's model: SlimStmts.
-/
namespace Go.Proofs.YtkeockippmmneaaGreat
open Go.ChangeShapes Go.WideShapes Go.ChangeAt Go.RowKit
set_option linter.unusedVariables false
set_option linter.unusedSimpArgs false
set_option maxRecDepth 100000

theorem shortS_size (s : StmtD) : sizeL (shortS s) ≤ sizeS s := by
  have h1 : sizeL [s] = sizeS s := by rw [sizeL, sizeL]; rfl
  have h0 : sizeL [] = 0 := by rw [sizeL]
  have h2 := sizeS_eq s
  unfold shortS
  repeat' split
  all_goals first | (rw [h1]; omega) | (rw [h0]; omega) | omega

theorem slim_size : ∀ (d : Nat) (l : List StmtD), formT d l = true → sizeL (slimTD d l) ≤ 65 * cntL l
  | 0, l, h => by
    have := formT_zero_nil h
    subst this
    rw [slimTD, sizeL]; omega
  | d + 1, l, h => by
    rw [slimTD_succ]
    induction l with
    | nil => show sizeL [] ≤ _; rw [sizeL]; omega
    | cons s l ih =>
      obtain ⟨k1, k2, k3, k4⟩ := formT_know h (List.mem_cons_self ..)
      have hl : formT (d + 1) l = true := by
        rw [formT, List.all_cons, Bool.and_eq_true] at h
        rw [formT]; exact h.2
      have k5 : formE 6 s.e = true := by unfold exprOk at k2; rw [Bool.and_eq_true] at k2; exact k2.1
      have hf := form_many 6 _ (slim_form 6 s.e k5)
      rw [manyE_eq] at hf
      have ht := slim_size d s.th k3
      have he := slim_size d s.el k4
      have hs := shortS_size (withS s (slimD 6 s.e) (slimTD d s.th) (slimTD d s.el))
      have hx' : sizeS (withS s (slimD 6 s.e) (slimTD d s.th) (slimTD d s.el)) = manyL (slimD 6 s.e).kids + sizeL (slimTD d s.th) + sizeL (slimTD d s.el) + 1 := sizeS_eq _
      have hi := ih hl
      have h6 : (2 : Nat) ^ 6 = 64 := by decide
      rw [h6] at hf
      rw [List.flatMap_cons, sizeL_append, cntL, cntS_eq]
      have hs1 : sizeL (slimS1 d s) ≤ sizeS (withS s (slimD 6 s.e) (slimTD d s.th) (slimTD d s.el)) := hs
      omega

theorem slimStmts_size (l : List StmtD) : sizeL (slimStmts l) ≤ 1040 := by
  unfold slimStmts
  by_cases h : stmtsOk l = true
  · rw [if_pos h]
    have h1 := ((stmtsOk_iff l).1 h).2
    have h2 := slim_size 4 l (by unfold stmtsOk at h; rw [Bool.and_eq_true] at h; exact h.2)
    omega
  · rw [if_neg h]
    have h0 : sizeL [] = 0 := by rw [sizeL]
    omega

set_option maxHeartbeats 4000000 in
theorem sSlimStmts_any (w : World) (lo hi : Nat) (v : Value) (ss : List StmtD) (h : SR w lo hi v ss) (hhi : hi ≤ w.heap.size) (hm : sizeL ss ≤ 1048576) :
    Calls Tryz.prog 5 #[v] w fun en w' => ∃ v', en = .returned v' ∧ SO w' w.heap.size w'.heap.size v' (slimStmts ss) ∧ Below w.heap.size w w' := by
  have HE : Hid (SR w lo hi v ss) := h
  obtain ⟨ad, cap, rfl, _, _⟩ := h.shape
  clear h
  have hz := slimStmts_size ss
  have HR : Hid (slimStmts ss = if stmtsOk ss then slimTD 4 ss else []) := rfl
  obtain ⟨X, hX⟩ : ∃ X, slimStmts ss = X := ⟨_, rfl⟩
  rw [hX] at HR hz ⊢
  clear hX
  have hok0 := sStmtsOk_any w lo hi _ ss HE.out hhi hm
  go_enter Tryz.func5, Tryz.ntmps5
  go_wp2_with fail
  refine hok0.mono ?_
  clear hok0
  rintro e1 u1 ⟨rfl, G1⟩
  have S1 := G1.size
  cases hok : stmtsOk ss with
  | false =>
    have HX : Hid (X = []) := by show X = _; rw [HR.out, hok]; rfl
    go_wp2
    go_ret
    exact ⟨_, rfl, by rw [HX.out]; exact .nil _ _ _ _ (Nat.zero_le _), G1.alloc (by omega) _⟩
  | true =>
    have HX : Hid (X = slimTD 4 ss) := by show X = _; rw [HR.out, hok]; rfl
    have hfm : formT 4 ss = true := by unfold stmtsOk at hok; rw [Bool.and_eq_true] at hok; exact hok.2
    have HFM : Hid (formT 4 ss = true ∧ sizeL X ≤ 1048576) := ⟨hfm, by omega⟩
    clear hfm hz
    go_wp2_with fail
    refine (copyT _ u1 lo hi _ ss (Nat.le_refl _) hm (HE.out.under G1 hhi) (by omega)).mono ?_
    rintro e2 u2 ⟨v2, rfl, O2, g2⟩
    have S2 := g2.size
    have G2 := G1.trans (g2.mono (by omega))
    clear g2 G1
    obtain ⟨a2, c2, rfl, _, _⟩ := O2.sr.shape
    have hl := ltS 4 u2 _ _ _ ss hm O2.sr (Nat.le_refl _) HFM.out.1
    rw [← HX.out] at hl
    go_wp2_with fail
    refine hl.mono ?_
    clear hl
    rintro e3 u3 ⟨v3, rfl, O3, g3⟩
    have S3 := g3.size
    have G3 := G2.trans (g3.mono (by omega))
    clear g3 G2 O2
    obtain ⟨a3, c3, rfl, _, _⟩ := O3.sr.shape
    go_wp2_with fail
    refine (copyT _ u3 _ _ _ X (Nat.le_refl _) HFM.out.2 O3.sr (Nat.le_refl _)).mono ?_
    rintro e4 u4 ⟨v4, rfl, O4, g4⟩
    have S4 := g4.size
    have HB : Hid (Below w.heap.size w u4 ∧ SO u4 w.heap.size u4.heap.size v4 X) := ⟨G3.trans (g4.mono (by omega)), O4.wide (by omega) (Nat.le_refl _)⟩
    clear g4 G3 O3 O4
    go_wp2
    go_ret
    exact ⟨_, rfl, HB.out.2, HB.out.1⟩
end Go.Proofs.YtkeockippmmneaaGreat
