/-
  Statements of a kind, behind an interface: doingOf, fits, stmtOk.
-/
import Derived.Test.YtkeockippmmneaaStmtPre
import Derived.Test.YtkeockippmmneaaPartsB
namespace Go.Proofs.Ytkeockippmmneaa
open Go.ChangeShapes Go.WideShapes Go.ChangeAt Go.RowKit
set_option linter.unusedVariables false

/-- A statement as one of its kind, as an interface's value. -/
def doingV (k : Int) (v : Value) : Value := if k = 1 then .iface 111 v else if k = 2 then .iface 112 v else if k = 3 then .iface 113 v else .nilIface

set_option maxHeartbeats 1000000 in
theorem doingOf_any (w : World) (s : StmtD) (ax ay az : Option Go.Addr) (cx cy cz : Nat) :
    Calls Try.prog 76 #[.agg #[.int .i64 s.k, .int .i64 s.tk, .int .i64 s.ta, .int .i64 s.e.k, .int .i64 s.e.n, .int .i64 s.e.ak, .int .i64 s.e.at_, .slice ax s.e.kids.length cx, .slice ay s.th.length cy, .slice az s.el.length cz]] w fun e w' => e = .returned (doingV s.k (.agg #[.int .i64 s.k, .int .i64 s.tk, .int .i64 s.ta, .int .i64 s.e.k, .int .i64 s.e.n, .int .i64 s.e.ak, .int .i64 s.e.at_, .slice ax s.e.kids.length cx, .slice ay s.th.length cy, .slice az s.el.length cz])) ∧ Below w.heap.size w w' := by
  have b1 := fun o => (Below.refl w.heap.size w).alloc (Nat.le_refl _) o
  unfold doingV
  generalize s.k = k
  by_cases h1 : k = 1
  · subst h1
    go_enter Try.func76, Try.ntmps76
    go_wp2
    go_ret
    exact ⟨rfl, b1 _⟩
  by_cases h2 : k = 2
  · subst h2
    go_enter Try.func76, Try.ntmps76
    go_wp2
    go_ret
    exact ⟨rfl, b1 _⟩
  by_cases h3 : k = 3
  · subst h3
    go_enter Try.func76, Try.ntmps76
    go_wp2
    go_ret
    exact ⟨rfl, b1 _⟩
  have e1 : (k == 1) = false := by simp [h1]
  have e2 : (k == 2) = false := by simp [h2]
  have e3 : (k == 3) = false := by simp [h3]
  rw [if_neg h1, if_neg h2, if_neg h3]
  clear h1 h2 h3
  go_enter Try.func76, Try.ntmps76
  go_wp2
  go_ret
  exact ⟨rfl, b1 _⟩

set_option maxHeartbeats 400000 in
theorem placeTakes_any (w : World) (k : Int) (hk : kindOk k = true) :
    Calls Try.prog 135 #[.int .i64 k] w fun e w' => e = .returned (.bool (k != 1)) ∧ w' = w := by
  have ho := placeOk_any w k
  rw [hk] at ho
  cases h : (k != 1) with
  | true =>
    go_enter Try.func135, Try.ntmps135
    go_wp2_with fail
    refine ho.mono ?_
    rintro e w1 ⟨rfl, rfl⟩
    clear ho
    go_wp2
    go_ret
    exact ⟨rfl, rfl⟩
  | false =>
    go_enter Try.func135, Try.ntmps135
    go_wp2_with fail
    refine ho.mono ?_
    rintro e w1 ⟨rfl, rfl⟩
    clear ho
    go_wp2
    go_ret
    exact ⟨rfl, rfl⟩

set_option maxRecDepth 100000 in
set_option maxHeartbeats 2000000 in
theorem fits_set (w : World) (s : StmtD) (ax ay az : Option Go.Addr) (cx cy cz : Nat) (h1 : s.th.length ≤ 1048576) (h2 : s.el.length ≤ 1048576) :
    Calls Try.prog 133 #[.agg #[.int .i64 s.k, .int .i64 s.tk, .int .i64 s.ta, .int .i64 s.e.k, .int .i64 s.e.n, .int .i64 s.e.ak, .int .i64 s.e.at_, .slice ax s.e.kids.length cx, .slice ay s.th.length cy, .slice az s.el.length cz]] w fun e w' => e = .returned (.bool (addrOk ⟨s.tk, s.ta⟩ && ((s.tk != 1) && (((s.th.length : Int) == 0) && ((s.el.length : Int) == 0))))) ∧ Below w.heap.size w w' := by
  have ev : AddrD.val ⟨s.tk, s.ta⟩ = .agg #[.int .i64 s.tk, .int .i64 s.ta] := rfl
  have hao := fun W => iAddrOk_any W s.tk s.ta
  rw [ev] at hao
  clear ev
  go_enter Try.func133, Try.ntmps133
  go_wp2_with fail
  obtain ⟨u0, hu0, G0, T0, S0⟩ : ∃ u0, w.alloc (.cells #[.int .i64 s.k, .int .i64 s.tk, .int .i64 s.ta, .int .i64 s.e.k, .int .i64 s.e.n, .int .i64 s.e.ak, .int .i64 s.e.at_, .slice ax s.e.kids.length cx, .slice ay s.th.length cy, .slice az s.el.length cz] 111) = u0 ∧ Below w.heap.size w u0 ∧ TenW u0 w.heap.size (.int .i64 s.k) (.int .i64 s.tk) (.int .i64 s.ta) (.int .i64 s.e.k) (.int .i64 s.e.n) (.int .i64 s.e.ak) (.int .i64 s.e.at_) (.slice ax s.e.kids.length cx) (.slice ay s.th.length cy) (.slice az s.el.length cz) ∧ u0.heap.size = w.heap.size + 1 :=
    ⟨_, rfl, (Below.refl _ _).alloc (Nat.le_refl _) _, tenW_new _ _ _ _ _ _ _ _ _ _ _ _, by simp⟩
  rw [hu0]
  clear hu0
  refine (hao _).mono ?_
  rintro e1 u1 ⟨rfl, g1⟩
  have G1 := G0.trans (g1.mono (by omega))
  obtain ⟨c0, c1, c2, c3, c4, c5, c6, c7, c8, c9, _⟩ := T0.under g1 (by omega)
  clear g1 G0 T0 hao
  cases ha : addrOk ⟨s.tk, s.ta⟩ with
  | false =>
    go_wp2
    go_ret
    exact ⟨ret_bool (by rw [ha]; rfl), G1⟩
  | true =>
    have hko : kindOk s.tk = true := by
      rw [kindOk_addr] at ha
      simp only [Bool.and_eq_true] at ha
      exact ha.1.1
    go_wp2_with fail
    refine (placeTakes_any _ s.tk hko).mono ?_
    rintro e2 u2 ⟨rfl, rfl⟩
    cases ht : (s.tk != 1) with
    | false =>
      go_wp2
      go_ret
      exact ⟨ret_bool (by rw [ha, ht]; rfl), G1⟩
    | true =>
      cases hh : ((s.th.length : Int) == 0) with
      | false =>
        go_wp2
        go_ret
        exact ⟨ret_bool (by rw [ha, ht, hh]; rfl), G1⟩
      | true =>
        cases he : ((s.el.length : Int) == 0) with
        | false =>
          go_wp2
          go_ret
          exact ⟨ret_bool (by rw [ha, ht, hh, he]; rfl), G1⟩
        | true =>
          go_wp2
          go_ret
          exact ⟨ret_bool (by rw [ha, ht, hh, he]; rfl), G1⟩

set_option maxHeartbeats 1000000 in
theorem fits_if (w : World) (s : StmtD) (ax ay az : Option Go.Addr) (cx cy cz : Nat) :
    Calls Try.prog 137 #[.agg #[.int .i64 s.k, .int .i64 s.tk, .int .i64 s.ta, .int .i64 s.e.k, .int .i64 s.e.n, .int .i64 s.e.ak, .int .i64 s.e.at_, .slice ax s.e.kids.length cx, .slice ay s.th.length cy, .slice az s.el.length cz]] w fun e w' => e = .returned (.bool ((s.tk == 0) && (s.ta == 0))) ∧ Below w.heap.size w w' := by
  have b1 := fun o => (Below.refl w.heap.size w).alloc (Nat.le_refl _) o
  cases h1 : (s.tk == 0) with
  | false =>
    go_enter Try.func137, Try.ntmps137
    go_wp2
    go_ret
    exact ⟨rfl, b1 _⟩
  | true =>
    cases h2 : (s.ta == 0) with
    | false =>
      go_enter Try.func137, Try.ntmps137
      go_wp2
      go_ret
      exact ⟨rfl, b1 _⟩
    | true =>
      go_enter Try.func137, Try.ntmps137
      go_wp2
      go_ret
      exact ⟨rfl, b1 _⟩

set_option maxHeartbeats 1000000 in
theorem fits_while (w : World) (s : StmtD) (ax ay az : Option Go.Addr) (cx cy cz : Nat) (h2 : s.el.length ≤ 1048576) :
    Calls Try.prog 140 #[.agg #[.int .i64 s.k, .int .i64 s.tk, .int .i64 s.ta, .int .i64 s.e.k, .int .i64 s.e.n, .int .i64 s.e.ak, .int .i64 s.e.at_, .slice ax s.e.kids.length cx, .slice ay s.th.length cy, .slice az s.el.length cz]] w fun e w' => e = .returned (.bool (((s.tk == 0) && (s.ta == 0)) && ((s.el.length : Int) == 0))) ∧ Below w.heap.size w w' := by
  have b1 := fun o => (Below.refl w.heap.size w).alloc (Nat.le_refl _) o
  cases h1 : (s.tk == 0) with
  | false =>
    go_enter Try.func140, Try.ntmps140
    go_wp2
    go_ret
    exact ⟨rfl, b1 _⟩
  | true =>
    cases h2 : (s.ta == 0) with
    | false =>
      go_enter Try.func140, Try.ntmps140
      go_wp2
      go_ret
      exact ⟨rfl, b1 _⟩
    | true =>
      cases h3 : ((s.el.length : Int) == 0) with
      | false =>
        go_enter Try.func140, Try.ntmps140
        go_wp2
        go_ret
        exact ⟨rfl, b1 _⟩
      | true =>
        go_enter Try.func140, Try.ntmps140
        go_wp2
        go_ret
        exact ⟨rfl, b1 _⟩

theorem m_fits_set (v : Value) : ∀ w : World, (method 254 111 v "loop.example/stopgate/impl.fits").run Try.prog w = .ok (133, v) w := fun _ => by kernel_rfl
theorem m_fits_if (v : Value) : ∀ w : World, (method 254 112 v "loop.example/stopgate/impl.fits").run Try.prog w = .ok (137, v) w := fun _ => by kernel_rfl
theorem m_fits_while (v : Value) : ∀ w : World, (method 254 113 v "loop.example/stopgate/impl.fits").run Try.prog w = .ok (140, v) w := fun _ => by kernel_rfl
theorem calls_set_fits (args : Array Value) (w : World) : (callFunc 133 args).run Try.prog w = .ok (.enter 133 args) w := by kernel_rfl
theorem calls_if_fits (args : Array Value) (w : World) : (callFunc 137 args).run Try.prog w = .ok (.enter 137 args) w := by kernel_rfl
theorem calls_while_fits (args : Array Value) (w : World) : (callFunc 140 args).run Try.prog w = .ok (.enter 140 args) w := by kernel_rfl

set_option maxRecDepth 100000 in
set_option maxHeartbeats 4000000 in
/-- A statement of a kind that there is. -/
theorem stmtOk_gen (w : World) (lo hi : Nat) (s : StmtD) (ax ay az : Option Go.Addr) (cx cy cz : Nat) (T : TypeId) (ff : Nat) (r : Bool) (hx : KR w lo hi (.slice ax s.e.kids.length cx) s.e.kids) (hhi : hi ≤ w.heap.size) (hm : manyL s.e.kids ≤ 1048576)
    (hkv : doingV s.k (.agg #[.int .i64 s.k, .int .i64 s.tk, .int .i64 s.ta, .int .i64 s.e.k, .int .i64 s.e.n, .int .i64 s.e.ak, .int .i64 s.e.at_, .slice ax s.e.kids.length cx, .slice ay s.th.length cy, .slice az s.el.length cz]) = .iface T (.agg #[.int .i64 s.k, .int .i64 s.tk, .int .i64 s.ta, .int .i64 s.e.k, .int .i64 s.e.n, .int .i64 s.e.ak, .int .i64 s.e.at_, .slice ax s.e.kids.length cx, .slice ay s.th.length cy, .slice az s.el.length cz]))
    (hm2 : ∀ w : World, (method 254 T (.agg #[.int .i64 s.k, .int .i64 s.tk, .int .i64 s.ta, .int .i64 s.e.k, .int .i64 s.e.n, .int .i64 s.e.ak, .int .i64 s.e.at_, .slice ax s.e.kids.length cx, .slice ay s.th.length cy, .slice az s.el.length cz]) "loop.example/stopgate/impl.fits").run Try.prog w = .ok (ff, .agg #[.int .i64 s.k, .int .i64 s.tk, .int .i64 s.ta, .int .i64 s.e.k, .int .i64 s.e.n, .int .i64 s.e.ak, .int .i64 s.e.at_, .slice ax s.e.kids.length cx, .slice ay s.th.length cy, .slice az s.el.length cz]) w)
    (he2 : ∀ (args : Array Value) (w : World), (callFunc ff args).run Try.prog w = .ok (.enter ff args) w)
    (hf : ∀ W : World, Calls Try.prog ff #[.agg #[.int .i64 s.k, .int .i64 s.tk, .int .i64 s.ta, .int .i64 s.e.k, .int .i64 s.e.n, .int .i64 s.e.ak, .int .i64 s.e.at_, .slice ax s.e.kids.length cx, .slice ay s.th.length cy, .slice az s.el.length cz]] W fun e w' => e = .returned (.bool r) ∧ Below W.heap.size W w') :
    Calls Try.prog 60 #[.agg #[.int .i64 s.k, .int .i64 s.tk, .int .i64 s.ta, .int .i64 s.e.k, .int .i64 s.e.n, .int .i64 s.e.ak, .int .i64 s.e.at_, .slice ax s.e.kids.length cx, .slice ay s.th.length cy, .slice az s.el.length cz]] w fun e w' => e = .returned (.bool (r && exprOk s.e)) ∧ Below w.heap.size w w' := by
  have hko := fun W => doingOf_any W s ax ay az cx cy cz
  rw [hkv] at hko
  clear hkv
  have HX : Hid (KR w lo hi (.slice ax s.e.kids.length cx) s.e.kids) := hx
  clear hx
  go_enter Try.func60, Try.ntmps60
  go_wp2_with fail
  obtain ⟨u0, hu0, G0, T0, S0⟩ : ∃ u0, w.alloc (.cells #[.int .i64 s.k, .int .i64 s.tk, .int .i64 s.ta, .int .i64 s.e.k, .int .i64 s.e.n, .int .i64 s.e.ak, .int .i64 s.e.at_, .slice ax s.e.kids.length cx, .slice ay s.th.length cy, .slice az s.el.length cz] 61) = u0 ∧ Below w.heap.size w u0 ∧ TenW u0 w.heap.size (.int .i64 s.k) (.int .i64 s.tk) (.int .i64 s.ta) (.int .i64 s.e.k) (.int .i64 s.e.n) (.int .i64 s.e.ak) (.int .i64 s.e.at_) (.slice ax s.e.kids.length cx) (.slice ay s.th.length cy) (.slice az s.el.length cz) ∧ u0.heap.size = w.heap.size + 1 :=
    ⟨_, rfl, (Below.refl _ _).alloc (Nat.le_refl _) _, tenW_new _ _ _ _ _ _ _ _ _ _ _ _, by simp⟩
  rw [hu0]
  clear hu0
  refine (hko _).mono ?_
  rintro e1 u1 ⟨rfl, g1⟩
  have S1 := g1.size
  have G1 := G0.trans (g1.mono (by omega))
  have T1 := T0.under g1 (by omega)
  clear hko g1 T0 G0
  go_wp2_with fail
  refine (hf _).mono ?_
  rintro e2 u2 ⟨rfl, g2⟩
  have S2 := g2.size
  have G2 := G1.trans (g2.mono (by omega))
  obtain ⟨c0, c1, c2, c3, c4, c5, c6, c7, c8, c9, _⟩ := T1.under g2 (by omega)
  clear hf g2 T1 G1
  cases r with
  | false =>
    go_wp2
    go_ret
    exact ⟨rfl, G2⟩
  | true =>
    go_wp2_with fail
    refine (iExprOk_any _ lo hi _ s.e ⟨_, rfl, HX.out.under G2 hhi⟩ (by omega) hm).mono ?_
    rintro e3 u3 ⟨rfl, g3⟩
    have G3 := G2.trans (g3.mono (by omega))
    clear g3 G2
    go_wp2
    go_ret
    exact ⟨by simp, G3⟩

set_option maxRecDepth 100000 in
set_option maxHeartbeats 1000000 in
theorem stmtOk_nil (w : World) (s : StmtD) (ax ay az : Option Go.Addr) (cx cy cz : Nat) (hkv : doingV s.k (.agg #[.int .i64 s.k, .int .i64 s.tk, .int .i64 s.ta, .int .i64 s.e.k, .int .i64 s.e.n, .int .i64 s.e.ak, .int .i64 s.e.at_, .slice ax s.e.kids.length cx, .slice ay s.th.length cy, .slice az s.el.length cz]) = .nilIface) :
    Calls Try.prog 60 #[.agg #[.int .i64 s.k, .int .i64 s.tk, .int .i64 s.ta, .int .i64 s.e.k, .int .i64 s.e.n, .int .i64 s.e.ak, .int .i64 s.e.at_, .slice ax s.e.kids.length cx, .slice ay s.th.length cy, .slice az s.el.length cz]] w fun e w' => e = .returned (.bool false) ∧ Below w.heap.size w w' := by
  have hko := fun W => doingOf_any W s ax ay az cx cy cz
  rw [hkv] at hko
  have b1 := fun o => (Below.refl w.heap.size w).alloc (Nat.le_refl _) o
  clear hkv
  go_enter Try.func60, Try.ntmps60
  go_wp2_with fail
  refine (hko _).mono ?_
  rintro e1 u1 ⟨rfl, g1⟩
  have G1 := (b1 _).trans (g1.mono (by simp))
  clear hko g1 b1
  go_wp2
  go_ret
  exact ⟨rfl, G1⟩

theorem stmtOk_any (w : World) (lo hi : Nat) (s : StmtD) (ax ay az : Option Go.Addr) (cx cy cz : Nat) (hx : KR w lo hi (.slice ax s.e.kids.length cx) s.e.kids) (hhi : hi ≤ w.heap.size) (hm : manyL s.e.kids ≤ 1048576) (h1 : s.th.length ≤ 1048576) (h2 : s.el.length ≤ 1048576) :
    Calls Try.prog 60 #[.agg #[.int .i64 s.k, .int .i64 s.tk, .int .i64 s.ta, .int .i64 s.e.k, .int .i64 s.e.n, .int .i64 s.e.ak, .int .i64 s.e.at_, .slice ax s.e.kids.length cx, .slice ay s.th.length cy, .slice az s.el.length cz]] w fun en w' => en = .returned (.bool (stmtB s)) ∧ Below w.heap.size w w' := by
  unfold stmtB
  by_cases k1 : s.k = 1
  · have hp : fitB s = (addrOk ⟨s.tk, s.ta⟩ && ((s.tk != 1) && (((s.th.length : Int) == 0) && ((s.el.length : Int) == 0)))) := by unfold fitB; rw [if_pos k1]
    rw [hp]
    exact stmtOk_gen w lo hi s ax ay az cx cy cz 111 133 _ hx hhi hm (by unfold doingV; rw [if_pos k1]) (m_fits_set _) calls_set_fits (fun W => fits_set W s ax ay az cx cy cz h1 h2)
  by_cases k2 : s.k = 2
  · have hp : fitB s = ((s.tk == 0) && (s.ta == 0)) := by unfold fitB; rw [if_neg k1, if_pos k2]
    rw [hp]
    exact stmtOk_gen w lo hi s ax ay az cx cy cz 112 137 _ hx hhi hm (by unfold doingV; rw [if_neg k1, if_pos k2]) (m_fits_if _) calls_if_fits (fun W => fits_if W s ax ay az cx cy cz)
  by_cases k3 : s.k = 3
  · have hp : fitB s = (((s.tk == 0) && (s.ta == 0)) && ((s.el.length : Int) == 0)) := by unfold fitB; rw [if_neg k1, if_neg k2, if_pos k3]
    rw [hp]
    exact stmtOk_gen w lo hi s ax ay az cx cy cz 113 140 _ hx hhi hm (by unfold doingV; rw [if_neg k1, if_neg k2, if_pos k3]) (m_fits_while _) calls_while_fits (fun W => fits_while W s ax ay az cx cy cz h2)
  · have hp : fitB s = false := by unfold fitB; rw [if_neg k1, if_neg k2, if_neg k3]
    rw [hp, Bool.false_and]
    exact stmtOk_nil w s ax ay az cx cy cz (by unfold doingV; rw [if_neg k1, if_neg k2, if_neg k3])
end Go.Proofs.Ytkeockippmmneaa
