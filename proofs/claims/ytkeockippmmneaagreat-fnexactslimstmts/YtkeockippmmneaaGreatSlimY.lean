/-
  Chapter 10: statements of a kind, made shorter: slimmingOf, slim. (Written by our generator gen_slimy.py.)
-/
import Derived.Test.YtkeockippmmneaaGreatQS2
import Derived.Test.YtkeockippmmneaaGreatQS4
import Derived.Test.YtkeockippmmneaaGreatSlimR
import Derived.Test.YtkeockippmmneaaGreatQS5
namespace Go.Proofs.YtkeockippmmneaaGreat
open Go.ChangeShapes Go.WideShapes Go.ChangeAt Go.RowKit
set_option linter.unusedVariables false
set_option linter.unusedSimpArgs false
set_option maxRecDepth 100000

/-- What a statement is as one of its kind. -/
def slimV (k : Int) (v : Value) : Value := if k = 1 then .iface 82 v else if k = 2 then .iface 83 v else .iface 84 v

/-- What slim answers. -/
def SlR (w w' : World) (s : StmtD) (x y z v' : Value) : Prop :=
  (shortS s = [] ∧ v' = .slice none 0 0) ∨ (shortS s = [s] ∧ ∃ P, w.heap.size ≤ P ∧ P < w'.heap.size ∧ v' = .slice (some ⟨P, 0, none⟩) 1 1 ∧ TenW w' P (.int .i64 s.k) (.int .i64 s.tk) (.int .i64 s.ta) (.int .i64 s.e.k) (.int .i64 s.e.n) (.int .i64 s.e.ak) (.int .i64 s.e.at_) x y z) ∨
  (shortS s = s.th ∧ v' = y) ∨ (shortS s = s.el ∧ v' = z)

theorem shortY1 {s : StmtD} (h : s.k = 1) {b : Bool} (hb : ((s.e.k == 2) && ((s.e.ak == s.tk) && (s.e.at_ == s.ta))) = b) : shortS s = if b = true then [] else [s] := by
  unfold shortS
  rw [if_pos h, hb]
theorem shortY2 {s : StmtD} (h : s.k = 2) : shortS s = if s.th.isEmpty && s.el.isEmpty then [] else if s.e.k = 1 then (if s.e.n != 0 then s.th else s.el) else [s] := by
  unfold shortS
  rw [if_neg (by rw [h]; decide), if_pos h]
theorem shortY3 {s : StmtD} (h1 : ¬ s.k = 1) (h2 : ¬ s.k = 2) {b : Bool} (hb : isTheB s.e 0 = b) : shortS s = if b = true then [] else [s] := by
  unfold shortS
  rw [if_neg h1, if_neg h2, hb]
theorem isE {l : List StmtD} {b : Bool} (h : ((l.length : Int) == 0) = b) : l.isEmpty = b := by
  cases l with
  | nil => rw [← h]; rfl
  | cons x l => rw [← h]; simp; omega

set_option maxHeartbeats 1000000 in
theorem slimmingOf_any (w : World) (s : StmtD) (ax ay az : Option Go.Addr) (cx cy cz : Nat) :
    Calls Tryz.prog 34 #[.agg #[.int .i64 s.k, .int .i64 s.tk, .int .i64 s.ta, .int .i64 s.e.k, .int .i64 s.e.n, .int .i64 s.e.ak, .int .i64 s.e.at_, .slice ax s.e.kids.length cx, .slice ay s.th.length cy, .slice az s.el.length cz]] w fun e w' => e = .returned (slimV s.k (.agg #[.int .i64 s.k, .int .i64 s.tk, .int .i64 s.ta, .int .i64 s.e.k, .int .i64 s.e.n, .int .i64 s.e.ak, .int .i64 s.e.at_, .slice ax s.e.kids.length cx, .slice ay s.th.length cy, .slice az s.el.length cz])) ∧ Below w.heap.size w w' := by
  have b1 := fun o => (Below.refl w.heap.size w).alloc (Nat.le_refl _) o
  unfold slimV
  generalize s.k = k
  by_cases h1 : k = 1
  · subst h1
    go_enter Tryz.func34, Tryz.ntmps34
    go_wp2
    go_ret
    exact ⟨rfl, b1 _⟩
  by_cases h2 : k = 2
  · subst h2
    go_enter Tryz.func34, Tryz.ntmps34
    go_wp2
    go_ret
    exact ⟨rfl, b1 _⟩
  have e1 : (k == 1) = false := by simp [h1]
  have e2 : (k == 2) = false := by simp [h2]
  rw [if_neg h1, if_neg h2]
  clear h1 h2
  go_enter Tryz.func34, Tryz.ntmps34
  go_wp2
  go_ret
  exact ⟨rfl, b1 _⟩

theorem readsAt2_any (W : World) (e : ExprD) (ad : Option Go.Addr) (cap : Nat) (k t : Int) :
    Calls Tryz.prog 101 #[.agg #[.int .i64 e.k, .int .i64 e.n, .int .i64 e.ak, .int .i64 e.at_, .slice ad e.kids.length cap], .agg #[.int .i64 k, .int .i64 t]] W fun en w' => en = .returned (.bool ((e.k == 2) && ((e.ak == k) && (e.at_ == t)))) ∧ Below W.heap.size W w' := by
  have b1 := fun o o' => ((Below.refl W.heap.size W).alloc (Nat.le_refl _) o).alloc (by simp) o'
  cases h1 : (e.k == 2) with
  | false =>
    go_enter Tryz.func101, Tryz.ntmps101
    go_wp2
    go_ret
    exact ⟨rfl, b1 _ _⟩
  | true =>
    cases h2 : (e.ak == k) with
    | false =>
      go_enter Tryz.func101, Tryz.ntmps101
      go_wp2
      go_ret
      exact ⟨ret_bool (by first | rfl | simp [h2]), b1 _ _⟩
    | true =>
      cases h3 : (e.at_ == t) with
      | false =>
        go_enter Tryz.func101, Tryz.ntmps101
        go_wp2
        go_ret
        exact ⟨ret_bool (by first | rfl | simp [h2, h3]), b1 _ _⟩
      | true =>
        go_enter Tryz.func101, Tryz.ntmps101
        go_wp2
        go_ret
        exact ⟨ret_bool (by first | rfl | simp [h2, h3]), b1 _ _⟩

set_option maxHeartbeats 4000000 in
theorem slim_set (w : World) (s : StmtD) (ax ay az : Option Go.Addr) (cx cy cz : Nat) (hk : s.k = 1) :
    Calls Tryz.prog 97 #[.agg #[.int .i64 s.k, .int .i64 s.tk, .int .i64 s.ta, .int .i64 s.e.k, .int .i64 s.e.n, .int .i64 s.e.ak, .int .i64 s.e.at_, .slice ax s.e.kids.length cx, .slice ay s.th.length cy, .slice az s.el.length cz]] w fun e w' => ∃ v', e = .returned v' ∧ SlR w w' s (.slice ax s.e.kids.length cx) (.slice ay s.th.length cy) (.slice az s.el.length cz) v' ∧ Below w.heap.size w w' := by
  have Hk : Hid (s.k = 1) := hk
  clear hk
  obtain ⟨u0, hu0, G0, T0, S0⟩ : ∃ u0, w.alloc (.cells (#[.int .i64 s.k, .int .i64 s.tk, .int .i64 s.ta, .int .i64 s.e.k, .int .i64 s.e.n, .int .i64 s.e.ak, .int .i64 s.e.at_, .slice ax s.e.kids.length cx, .slice ay s.th.length cy, .slice az s.el.length cz]) 82) = u0 ∧ Below w.heap.size w u0 ∧ TenW u0 w.heap.size (.int .i64 s.k) (.int .i64 s.tk) (.int .i64 s.ta) (.int .i64 s.e.k) (.int .i64 s.e.n) (.int .i64 s.e.ak) (.int .i64 s.e.at_) (.slice ax s.e.kids.length cx) (.slice ay s.th.length cy) (.slice az s.el.length cz) ∧ u0.heap.size = w.heap.size + 1 :=
    ⟨_, rfl, (Below.refl _ _).alloc (Nat.le_refl _) _, tenW_new _ _ _ _ _ _ _ _ _ _ _ _, by simp⟩
  obtain ⟨c0, c1, c2, c3, c4, c5, c6, c7, c8, c9, _⟩ := id T0
  have hr := fun W => readsAt2_any W s.e ax cx s.tk s.ta
  obtain ⟨b, hb⟩ : ∃ b, ((s.e.k == 2) && ((s.e.ak == s.tk) && (s.e.at_ == s.ta))) = b := ⟨_, rfl⟩
  rw [hb] at hr
  have HB : Hid (((s.e.k == 2) && ((s.e.ak == s.tk) && (s.e.at_ == s.ta))) = b) := hb
  clear hb
  go_enter Tryz.func97, Tryz.ntmps97
  go_wp2_with fail
  try rw [hu0]
  clear hu0 c0 c1 c2 c3 c4 c5 c6 c7 c8 c9
  refine (hr _).mono ?_
  clear hr
  rintro e1 u1 ⟨rfl, g1⟩
  have S1 := g1.size
  have G1 := G0.trans (g1.mono (by omega))
  obtain ⟨c0, c1, c2, c3, c4, c5, c6, c7, c8, c9, _⟩ := T0.under g1 (by omega)
  clear g1 G0 T0
  cases b with
  | true =>
    have HS : Hid (shortS s = []) := shortY1 Hk.out HB.out
    go_wp2
    go_ret
    exact ⟨_, rfl, .inl ⟨HS.out, rfl⟩, G1⟩
  | false =>
    have HS : Hid (shortS s = [s]) := shortY1 Hk.out HB.out
    have HG : Hid (Below w.heap.size w u1) := by first | exact G1 | exact G2
    go_wp2
    go_ret
    exact ⟨_, rfl, .inr (.inl ⟨HS.out, _, HG.out.size, by simp, rfl, tenW_new _ _ _ _ _ _ _ _ _ _ _ _⟩), HG.out.alloc (by have := HG.out.size; omega) _⟩

set_option maxHeartbeats 4000000 in
theorem slim_while (w : World) (s : StmtD) (ax ay az : Option Go.Addr) (cx cy cz : Nat) (hk1 : ¬ s.k = 1) (hk2 : ¬ s.k = 2) :
    Calls Tryz.prog 110 #[.agg #[.int .i64 s.k, .int .i64 s.tk, .int .i64 s.ta, .int .i64 s.e.k, .int .i64 s.e.n, .int .i64 s.e.ak, .int .i64 s.e.at_, .slice ax s.e.kids.length cx, .slice ay s.th.length cy, .slice az s.el.length cz]] w fun e w' => ∃ v', e = .returned v' ∧ SlR w w' s (.slice ax s.e.kids.length cx) (.slice ay s.th.length cy) (.slice az s.el.length cz) v' ∧ Below w.heap.size w w' := by
  have Hk : Hid (¬ s.k = 1 ∧ ¬ s.k = 2) := ⟨hk1, hk2⟩
  clear hk1 hk2
  obtain ⟨u0, hu0, G0, T0, S0⟩ : ∃ u0, w.alloc (.cells (#[.int .i64 s.k, .int .i64 s.tk, .int .i64 s.ta, .int .i64 s.e.k, .int .i64 s.e.n, .int .i64 s.e.ak, .int .i64 s.e.at_, .slice ax s.e.kids.length cx, .slice ay s.th.length cy, .slice az s.el.length cz]) 84) = u0 ∧ Below w.heap.size w u0 ∧ TenW u0 w.heap.size (.int .i64 s.k) (.int .i64 s.tk) (.int .i64 s.ta) (.int .i64 s.e.k) (.int .i64 s.e.n) (.int .i64 s.e.ak) (.int .i64 s.e.at_) (.slice ax s.e.kids.length cx) (.slice ay s.th.length cy) (.slice az s.el.length cz) ∧ u0.heap.size = w.heap.size + 1 :=
    ⟨_, rfl, (Below.refl _ _).alloc (Nat.le_refl _) _, tenW_new _ _ _ _ _ _ _ _ _ _ _ _, by simp⟩
  obtain ⟨c0, c1, c2, c3, c4, c5, c6, c7, c8, c9, _⟩ := id T0
  have hr := fun W => isThe_any W s.e ax s.e.kids.length cx 0
  obtain ⟨b, hb⟩ : ∃ b, isTheB s.e 0 = b := ⟨_, rfl⟩
  rw [hb] at hr
  have HB : Hid (isTheB s.e 0 = b) := hb
  clear hb
  go_enter Tryz.func110, Tryz.ntmps110
  go_wp2_with fail
  try rw [hu0]
  clear hu0 c0 c1 c2 c3 c4 c5 c6 c7 c8 c9
  refine (hr _).mono ?_
  clear hr
  rintro e1 u1 ⟨rfl, g1⟩
  have S1 := g1.size
  have G1 := G0.trans (g1.mono (by omega))
  obtain ⟨c0, c1, c2, c3, c4, c5, c6, c7, c8, c9, _⟩ := T0.under g1 (by omega)
  clear g1 G0 T0
  cases b with
  | true =>
    have HS : Hid (shortS s = []) := shortY3 Hk.out.1 Hk.out.2 HB.out
    go_wp2
    go_ret
    exact ⟨_, rfl, .inl ⟨HS.out, rfl⟩, G1⟩
  | false =>
    have HS : Hid (shortS s = [s]) := shortY3 Hk.out.1 Hk.out.2 HB.out
    have HG : Hid (Below w.heap.size w u1) := by first | exact G1 | exact G2
    go_wp2
    go_ret
    exact ⟨_, rfl, .inr (.inl ⟨HS.out, _, HG.out.size, by simp, rfl, tenW_new _ _ _ _ _ _ _ _ _ _ _ _⟩), HG.out.alloc (by have := HG.out.size; omega) _⟩

set_option maxHeartbeats 8000000 in
theorem slim_if (w : World) (s : StmtD) (ax ay az : Option Go.Addr) (cx cy cz : Nat) (hk : s.k = 2) (hl1 : s.th.length ≤ 1048576) (hl2 : s.el.length ≤ 1048576) :
    Calls Tryz.prog 105 #[.agg #[.int .i64 s.k, .int .i64 s.tk, .int .i64 s.ta, .int .i64 s.e.k, .int .i64 s.e.n, .int .i64 s.e.ak, .int .i64 s.e.at_, .slice ax s.e.kids.length cx, .slice ay s.th.length cy, .slice az s.el.length cz]] w fun e w' => ∃ v', e = .returned v' ∧ SlR w w' s (.slice ax s.e.kids.length cx) (.slice ay s.th.length cy) (.slice az s.el.length cz) v' ∧ Below w.heap.size w w' := by
  have Hk : Hid (s.k = 2) := hk
  clear hk
  obtain ⟨u0, hu0, G0, T0, S0⟩ : ∃ u0, w.alloc (.cells (#[.int .i64 s.k, .int .i64 s.tk, .int .i64 s.ta, .int .i64 s.e.k, .int .i64 s.e.n, .int .i64 s.e.ak, .int .i64 s.e.at_, .slice ax s.e.kids.length cx, .slice ay s.th.length cy, .slice az s.el.length cz]) 83) = u0 ∧ Below w.heap.size w u0 ∧ TenW u0 w.heap.size (.int .i64 s.k) (.int .i64 s.tk) (.int .i64 s.ta) (.int .i64 s.e.k) (.int .i64 s.e.n) (.int .i64 s.e.ak) (.int .i64 s.e.at_) (.slice ax s.e.kids.length cx) (.slice ay s.th.length cy) (.slice az s.el.length cz) ∧ u0.heap.size = w.heap.size + 1 :=
    ⟨_, rfl, (Below.refl _ _).alloc (Nat.le_refl _) _, tenW_new _ _ _ _ _ _ _ _ _ _ _ _, by simp⟩
  obtain ⟨c0, c1, c2, c3, c4, c5, c6, c7, c8, c9, _⟩ := id T0
  have hr := fun W => isNumber_any W s.e ax s.e.kids.length cx
  have hn := fun W => numOn_any W s.e.n
  obtain ⟨b, hb⟩ : ∃ b, (s.e.k == 1) = b := ⟨_, rfl⟩
  rw [hb] at hr
  have HB : Hid ((s.e.k == 1) = b) := hb
  obtain ⟨o, ho⟩ : ∃ o, (s.e.n != 0) = o := ⟨_, rfl⟩
  rw [ho] at hn
  have HO : Hid ((s.e.n != 0) = o) := ho
  obtain ⟨bt, ht⟩ : ∃ bt, ((s.th.length : Int) == 0) = bt := ⟨_, rfl⟩
  obtain ⟨be, he⟩ : ∃ be, ((s.el.length : Int) == 0) = be := ⟨_, rfl⟩
  have HSS : Hid (shortS s = if bt && be then [] else if b then (if o then s.th else s.el) else [s]) := by
    show _ = _
    rw [shortY2 Hk.out, isE ht, isE he, ho]
    cases b with
    | true => have : s.e.k = 1 := by simpa using hb
              rw [if_pos this]; rfl
    | false => have : ¬ s.e.k = 1 := by simpa using hb
               rw [if_neg this]; rfl
  clear hb ho
  cases bt with
  | false =>
    go_enter Tryz.func105, Tryz.ntmps105
    go_wp2_with fail
    try rw [hu0]
    clear hu0 c0 c1 c2 c3 c4 c5 c6 c7 c8 c9
    refine (hr _).mono ?_
    clear hr
    rintro e1 u1 ⟨rfl, g1⟩
    have S1 := g1.size
    have G1 := G0.trans (g1.mono (by omega))
    have T1 := T0.under g1 (by omega)
    obtain ⟨c0, c1, c2, c3, c4, c5, c6, c7, c8, c9, _⟩ := id T1
    clear g1 G0 T0
    cases b with
    | false =>
      have HS : Hid (shortS s = [s]) := by show _ = _; rw [HSS.out]; rfl
      have HG : Hid (Below w.heap.size w u1) := by first | exact G1 | exact G2
      go_wp2
      go_ret
      exact ⟨_, rfl, .inr (.inl ⟨HS.out, _, HG.out.size, by simp, rfl, tenW_new _ _ _ _ _ _ _ _ _ _ _ _⟩), HG.out.alloc (by have := HG.out.size; omega) _⟩
    | true =>
      go_wp2_with fail
      refine (hn _).mono ?_
      clear hn
      rintro e2 u2 ⟨rfl, hw⟩
      have hw := hw.symm
      subst hw
      cases o with
      | true =>
        have HS : Hid (shortS s = s.th) := by show _ = _; rw [HSS.out]; rfl
        go_wp2
        go_ret
        exact ⟨_, rfl, .inr (.inr (.inl ⟨HS.out, rfl⟩)), G1⟩
      | false =>
        have HS : Hid (shortS s = s.el) := by show _ = _; rw [HSS.out]; rfl
        go_wp2
        go_ret
        exact ⟨_, rfl, .inr (.inr (.inr ⟨HS.out, rfl⟩)), G1⟩
  | true =>
    cases be with
    | false =>
      go_enter Tryz.func105, Tryz.ntmps105
      go_wp2_with fail
      try rw [hu0]
      clear hu0 c0 c1 c2 c3 c4 c5 c6 c7 c8 c9
      refine (hr _).mono ?_
      clear hr
      rintro e1 u1 ⟨rfl, g1⟩
      have S1 := g1.size
      have G1 := G0.trans (g1.mono (by omega))
      have T1 := T0.under g1 (by omega)
      obtain ⟨c0, c1, c2, c3, c4, c5, c6, c7, c8, c9, _⟩ := id T1
      clear g1 G0 T0
      cases b with
      | false =>
        have HS : Hid (shortS s = [s]) := by show _ = _; rw [HSS.out]; rfl
        have HG : Hid (Below w.heap.size w u1) := by first | exact G1 | exact G2
        go_wp2
        go_ret
        exact ⟨_, rfl, .inr (.inl ⟨HS.out, _, HG.out.size, by simp, rfl, tenW_new _ _ _ _ _ _ _ _ _ _ _ _⟩), HG.out.alloc (by have := HG.out.size; omega) _⟩
      | true =>
        go_wp2_with fail
        refine (hn _).mono ?_
        clear hn
        rintro e2 u2 ⟨rfl, hw⟩
        have hw := hw.symm
        subst hw
        cases o with
        | true =>
          have HS : Hid (shortS s = s.th) := by show _ = _; rw [HSS.out]; rfl
          go_wp2
          go_ret
          exact ⟨_, rfl, .inr (.inr (.inl ⟨HS.out, rfl⟩)), G1⟩
        | false =>
          have HS : Hid (shortS s = s.el) := by show _ = _; rw [HSS.out]; rfl
          go_wp2
          go_ret
          exact ⟨_, rfl, .inr (.inr (.inr ⟨HS.out, rfl⟩)), G1⟩
    | true =>
      have HS : Hid (shortS s = []) := by show _ = _; rw [HSS.out]; rfl
      go_enter Tryz.func105, Tryz.ntmps105
      go_wp2
      go_ret
      exact ⟨_, rfl, .inl ⟨HS.out, rfl⟩, by first | exact G0 | (rw [hu0]; exact G0)⟩
end Go.Proofs.YtkeockippmmneaaGreat
