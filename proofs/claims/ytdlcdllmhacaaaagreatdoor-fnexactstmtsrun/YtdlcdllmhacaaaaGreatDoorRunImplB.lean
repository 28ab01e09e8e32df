/-
  Statements done, by the program: do of each kind, a list.
-/
import Derived.Test.YtdlcdllmhacaaaaGreatDoorRunImplA
import Derived.Deep.LoopGhost
namespace Go.Proofs.YtdlcdllmhacaaaaGreatDoor
open Go.ChangeShapes Go.WideShapes Go.ChangeAt Go.RowKit
set_option linter.unusedVariables false
set_option maxRecDepth 100000
variable {A : Nat}

/-- What is answered with a code. -/
def errOf (c : Int) (er : Value) : Value := if c = 0 then .nilIface else er

/-- The variable of the error lies apart, and holds it. -/
structure ErrAt (w : World) (B : Nat) (er : Value) : Prop where
  pos : 0 < B
  lt : B < w.heap.size
  cell : w.cell? ⟨0, 0, none⟩ = some er
  ifc : ∃ t v, er = .iface t v

theorem ErrAt.out {w w' : World} {B : Nat} {er : Value} (h : ErrAt w B er) (ho : Out B (B + 1) w w') : ErrAt w' B er :=
  ⟨h.pos, Nat.lt_of_lt_of_le h.lt ho.size, by rw [World.cell?_of_block (w := w) (ho.block 0 (by have := h.lt; omega) (.inl h.pos))]; exact h.cell, h.ifc⟩

/-- A list done, not deeper than so. -/
def AllP (dp : Nat) : Prop := ∀ (A : Nat) (w : World) (B lo' hi' : Nat) (v : Value) (d d1 : MemD) (ss : List StmtD) (f f1 : Nat) (c1 : Int) (er : Value), RunV A w B d f → ErrAt w B er → SR w lo' hi' v ss → hi' ≤ w.heap.size → (hi' ≤ B ∨ B + 1 ≤ lo') → memOk d = true → formT dp ss = true → sizeL ss ≤ 1048576 → f ≤ 100 → runL ss d f = (d1, c1, f1) →
  Calls Tryz.prog 31 #[.pointer (some ⟨B, 0, none⟩), v] w fun e w' => e = .returned (errOf c1 er) ∧ RunV A w' B d1 f1 ∧ Out B (B + 1) w w'

set_option maxHeartbeats 4000000 in
theorem ifDo_any {dp : Nat} (H : AllP dp) (w : World) (B lo' hi' : Nat) (s : StmtD) (ax ay az : Option Go.Addr) (cx cy cz : Nat) (d d1 : MemD) (f f1 : Nat) (c1 : Int) (er : Value) (hv : RunV A w B d f) (hE : ErrAt w B er) (hx : KR w lo' hi' (.slice ax s.e.kids.length cx) s.e.kids) (hy : SR w lo' hi' (.slice ay s.th.length cy) s.th) (hz : SR w lo' hi' (.slice az s.el.length cz) s.el) (hhi' : hi' ≤ w.heap.size) (hap : hi' ≤ B ∨ B + 1 ≤ lo') (hd : memOk d = true)
    (he : exprOk s.e = true) (hth : formT dp s.th = true) (hel : formT dp s.el = true) (hsz : manyL s.e.kids ≤ 1048576 ∧ sizeL s.th ≤ 1048576 ∧ sizeL s.el ≤ 1048576) (hf : f ≤ 100) (hr : (if onD s.e d then runL s.th d f else runL s.el d f) = (d1, c1, f1)) :
    Calls Tryz.prog 190 #[.agg #[.int .i64 s.k, .int .i64 s.tk, .int .i64 s.ta, .int .i64 s.e.k, .int .i64 s.e.n, .int .i64 s.e.ak, .int .i64 s.e.at_, .slice ax s.e.kids.length cx, .slice ay s.th.length cy, .slice az s.el.length cz], .pointer (some ⟨B, 0, none⟩)] w fun e w' => e = .returned (errOf c1 er) ∧ RunV A w' B d1 f1 ∧ Out B (B + 1) w w' := by
  obtain ⟨u0, hu0, G0, T0, S0⟩ : ∃ u0, w.alloc (.cells #[.int .i64 s.k, .int .i64 s.tk, .int .i64 s.ta, .int .i64 s.e.k, .int .i64 s.e.n, .int .i64 s.e.ak, .int .i64 s.e.at_, .slice ax s.e.kids.length cx, .slice ay s.th.length cy, .slice az s.el.length cz] 140) = u0 ∧ Below w.heap.size w u0 ∧ TenW u0 w.heap.size (.int .i64 s.k) (.int .i64 s.tk) (.int .i64 s.ta) (.int .i64 s.e.k) (.int .i64 s.e.n) (.int .i64 s.e.ak) (.int .i64 s.e.at_) (.slice ax s.e.kids.length cx) (.slice ay s.th.length cy) (.slice az s.el.length cz) ∧ u0.heap.size = w.heap.size + 1 :=
    ⟨_, rfl, (Below.refl _ _).alloc (Nat.le_refl _) _, tenW_new _ _ _ _ _ _ _ _ _ _ _ _, by simp⟩
  have hBl := hE.lt
  have hon := on_any u0 B lo' hi' s.e ax cx d f (hv.below G0 hBl) (by omega) (hx.under G0 hhi') (by omega) hsz.1 he hd
  have HX : Hid (SR w lo' hi' (.slice ay s.th.length cy) s.th ∧ SR w lo' hi' (.slice az s.el.length cz) s.el) := ⟨hy, hz⟩
  have HV : Hid (RunV A w B d f ∧ ErrAt w B er) := ⟨hv, hE⟩
  have HT : Hid (TenW u0 w.heap.size (.int .i64 s.k) (.int .i64 s.tk) (.int .i64 s.ta) (.int .i64 s.e.k) (.int .i64 s.e.n) (.int .i64 s.e.ak) (.int .i64 s.e.at_) (.slice ax s.e.kids.length cx) (.slice ay s.th.length cy) (.slice az s.el.length cz)) := T0
  have HU0 : Hid (w.alloc (.cells #[.int .i64 s.k, .int .i64 s.tk, .int .i64 s.ta, .int .i64 s.e.k, .int .i64 s.e.n, .int .i64 s.e.ak, .int .i64 s.e.at_, .slice ax s.e.kids.length cx, .slice ay s.th.length cy, .slice az s.el.length cz] 140) = u0) := hu0
  have HR : Hid ((if onD s.e d then runL s.th d f else runL s.el d f) = (d1, c1, f1)) := hr
  clear hx hy hz hv hE T0 hu0 hr
  go_enter Tryz.func190, Tryz.ntmps190
  go_wp2_with fail
  rw [HU0.out]
  refine hon.mono ?_
  clear hon HU0
  rintro en u1 ⟨rfl, g1⟩
  have S1 := g1.size
  have G1 : Below w.heap.size w u1 := G0.trans (g1.mono (by omega))
  have hO1 : Out B (B + 1) w u1 := out_of_below G1 _ _
  have HT1 : Hid (TenW u1 w.heap.size (.int .i64 s.k) (.int .i64 s.tk) (.int .i64 s.ta) (.int .i64 s.e.k) (.int .i64 s.e.n) (.int .i64 s.e.ak) (.int .i64 s.e.at_) (.slice ax s.e.kids.length cx) (.slice ay s.th.length cy) (.slice az s.el.length cz)) := HT.out.under g1 (by omega)
  clear g1 HT
  cases ho : onD s.e d with
  | true =>
    have hrb := HR.out
    rw [ho, if_pos rfl] at hrb
    have hall := H A u1 B lo' hi' _ d d1 s.th f f1 c1 er (HV.out.1.below G1 hBl) (HV.out.2.out hO1) (HX.out.1.under G1 hhi') (by omega) hap hd hth hsz.2.1 hf hrb
    have c8 := HT1.out.c8
    clear hrb
    go_wp2_with fail
    refine hall.mono ?_
    clear hall c8
    rintro en u2 ⟨rfl, hv2, hO2⟩
    have HO : Hid (RunV A u2 B d1 f1 ∧ Out B (B + 1) w u2) := ⟨hv2, hO1.trans hO2⟩
    clear hv2 hO2
    go_wp2
    go_ret
    exact ⟨rfl, HO.out.1, HO.out.2⟩
  | false =>
    have hrb := HR.out
    rw [ho, if_neg (by simp)] at hrb
    have hall := H A u1 B lo' hi' _ d d1 s.el f f1 c1 er (HV.out.1.below G1 hBl) (HV.out.2.out hO1) (HX.out.2.under G1 hhi') (by omega) hap hd hel hsz.2.2 hf hrb
    have c9 := HT1.out.c9
    clear hrb
    go_wp2_with fail
    refine hall.mono ?_
    clear hall c9
    rintro en u2 ⟨rfl, hv2, hO2⟩
    have HO : Hid (RunV A u2 B d1 f1 ∧ Out B (B + 1) w u2) := ⟨hv2, hO1.trans hO2⟩
    clear hv2 hO2
    go_wp2
    go_ret
    exact ⟨rfl, HO.out.1, HO.out.2⟩

set_option maxHeartbeats 8000000 in
theorem whileDo_any {dp : Nat} (H : AllP dp) (w : World) (B lo' hi' : Nat) (s : StmtD) (ax ay az : Option Go.Addr) (cx cy cz : Nat) (d d1 : MemD) (f f1 : Nat) (c1 : Int) (er : Value) (hv : RunV A w B d f) (hE : ErrAt w B er) (hx : KR w lo' hi' (.slice ax s.e.kids.length cx) s.e.kids) (hy : SR w lo' hi' (.slice ay s.th.length cy) s.th) (hhi' : hi' ≤ w.heap.size) (hap : hi' ≤ B ∨ B + 1 ≤ lo') (hd : memOk d = true)
    (he : exprOk s.e = true) (hth : formT dp s.th = true) (hsz : manyL s.e.kids ≤ 1048576 ∧ sizeL s.th ≤ 1048576) (hf : f ≤ 100) (hr : whileD (onD s.e) (runL s.th) (f + 1) d f = (d1, c1, f1)) :
    Calls Tryz.prog 195 #[.agg #[.int .i64 s.k, .int .i64 s.tk, .int .i64 s.ta, .int .i64 s.e.k, .int .i64 s.e.n, .int .i64 s.e.ak, .int .i64 s.e.at_, .slice ax s.e.kids.length cx, .slice ay s.th.length cy, .slice az s.el.length cz], .pointer (some ⟨B, 0, none⟩)] w fun e w' => e = .returned (errOf c1 er) ∧ RunV A w' B d1 f1 ∧ Out B (B + 1) w w' := by
  obtain ⟨u0, hu0, G0, T0, S0⟩ : ∃ u0, w.alloc (.cells #[.int .i64 s.k, .int .i64 s.tk, .int .i64 s.ta, .int .i64 s.e.k, .int .i64 s.e.n, .int .i64 s.e.ak, .int .i64 s.e.at_, .slice ax s.e.kids.length cx, .slice ay s.th.length cy, .slice az s.el.length cz] 141) = u0 ∧ Below w.heap.size w u0 ∧ TenW u0 w.heap.size (.int .i64 s.k) (.int .i64 s.tk) (.int .i64 s.ta) (.int .i64 s.e.k) (.int .i64 s.e.n) (.int .i64 s.e.ak) (.int .i64 s.e.at_) (.slice ax s.e.kids.length cx) (.slice ay s.th.length cy) (.slice az s.el.length cz) ∧ u0.heap.size = w.heap.size + 1 :=
    ⟨_, rfl, (Below.refl _ _).alloc (Nat.le_refl _) _, tenW_new _ _ _ _ _ _ _ _ _ _ _ _, by simp⟩
  have hBl := hE.lt
  have HX : Hid (KR w lo' hi' (.slice ax s.e.kids.length cx) s.e.kids ∧ SR w lo' hi' (.slice ay s.th.length cy) s.th) := ⟨hx, hy⟩
  have HE : Hid (ErrAt w B er) := hE
  have HU0 : Hid (w.alloc (.cells #[.int .i64 s.k, .int .i64 s.tk, .int .i64 s.ta, .int .i64 s.e.k, .int .i64 s.e.n, .int .i64 s.e.ak, .int .i64 s.e.at_, .slice ax s.e.kids.length cx, .slice ay s.th.length cy, .slice az s.el.length cz] 141) = u0) := hu0
  have HB : Hid (∀ d f, memOk d = true → EndOk f (runL s.th d f)) := fun d f h => runL_ok s.th d f h
  have HI0 : Hid (RunV A u0 B d f ∧ Out B (B + 1) w u0 ∧ TenW u0 w.heap.size (.int .i64 s.k) (.int .i64 s.tk) (.int .i64 s.ta) (.int .i64 s.e.k) (.int .i64 s.e.n) (.int .i64 s.e.ak) (.int .i64 s.e.at_) (.slice ax s.e.kids.length cx) (.slice ay s.th.length cy) (.slice az s.el.length cz)) := ⟨hv.below G0 hBl, out_of_below G0 _ _, T0⟩
  have HR0 : Hid (memOk d = true ∧ whileD (onD s.e) (runL s.th) (f + 1) d f = (d1, c1, f1)) := ⟨hd, hr⟩
  clear hx hy hv hE T0 hu0 hr hd G0
  go_enter Tryz.func195, Tryz.ntmps195
  go_wp2_with fail
  rw [HU0.out]
  clear HU0
  go_loopg [5] f (fun gk v wr => ∃ d : MemD, gk ≤ 100 ∧ w.heap.size + 1 ≤ wr.heap.size ∧ Hid (memOk d = true ∧ whileD (onD s.e) (runL s.th) (gk + 1) d gk = (d1, c1, f1)) ∧ Hid (RunV A wr B d gk ∧ Out B (B + 1) w wr ∧ TenW wr w.heap.size (.int .i64 s.k) (.int .i64 s.tk) (.int .i64 s.ta) (.int .i64 s.e.k) (.int .i64 s.e.n) (.int .i64 s.e.ak) (.int .i64 s.e.at_) (.slice ax s.e.kids.length cx) (.slice ay s.th.length cy) (.slice az s.el.length cz)))
  case atStart => exact ⟨d, hf, by omega, HR0.out, HI0.out⟩
  case round =>
    clear HI0 HR0 hf S0 d
    obtain ⟨d, hf, hs, HR, HI⟩ := hrel
    obtain ⟨hv, hout, hT⟩ := HI.out
    have hon := on_any wr B lo' hi' s.e ax cx d gk hv (by omega) (HX.out.1.out hout hhi' hap) (by omega) hsz.1 he HR.out.1
    have hst := whileD_step (c := onD s.e) HB.out d gk HR.out.1
    rw [HR.out.2] at hst
    have HST : Hid _ := hst
    obtain ⟨_, _, _, e3, e4, e5, e6, e7, _, _, _⟩ := id hT
    clear hst hv hout hT
    go_wp2_with fail
    refine hon.mono ?_
    clear hon e3 e4 e5 e6 e7
    rintro en u1 ⟨rfl, g1⟩
    have hs1 := g1.size
    obtain ⟨hv, hout, hT⟩ := HI.out
    have HI1 : Hid (RunV A u1 B d gk ∧ Out B (B + 1) w u1 ∧ TenW u1 w.heap.size (.int .i64 s.k) (.int .i64 s.tk) (.int .i64 s.ta) (.int .i64 s.e.k) (.int .i64 s.e.n) (.int .i64 s.e.ak) (.int .i64 s.e.at_) (.slice ax s.e.kids.length cx) (.slice ay s.th.length cy) (.slice az s.el.length cz)) := ⟨hv.below g1 (by omega), hout.trans (out_of_below g1 _ _), hT.under g1 (by omega)⟩
    clear hv hout hT HI g1
    cases hc : onD s.e d with
    | false =>
      have hst := HST.out
      rw [hc] at hst
      simp only [Bool.false_eq_true, if_false, Prod.mk.injEq] at hst
      obtain ⟨rfl, rfl, rfl⟩ := hst
      go_wp2
      go_ret
      exact ⟨rfl, HI1.out.1, HI1.out.2.1⟩
    | true =>
      have hst := HST.out
      rw [hc, if_pos rfl] at hst
      have hbk := HB.out d gk HR.out.1
      obtain ⟨⟨d2, c2, f2⟩, hrb⟩ : ∃ r, runL s.th d gk = r := ⟨_, rfl⟩
      rw [hrb] at hst hbk
      obtain ⟨hb1, hb2, hb3⟩ := hbk
      simp only at hst hb1 hb2 hb3
      obtain ⟨hv, hout, hT⟩ := HI1.out
      have hall := H A u1 B lo' hi' _ d d2 s.th gk f2 c2 er hv (HE.out.out hout) (HX.out.2.out hout hhi' hap) (by omega) hap HR.out.1 hth hsz.2 hf hrb
      have HST2 : Hid _ := hst
      have HB2 : Hid (memOk d2 = true ∧ f2 ≤ gk) := ⟨hb1, hb2⟩
      have e8 := hT.c8
      clear hst hv hout hT HST hb1 hb2
      go_wp2_with fail
      refine hall.mono ?_
      clear hall e8
      rintro en u3 ⟨rfl, hv3, hO3⟩
      have hs3 := hO3.size
      obtain ⟨hv, hout, hT⟩ := HI1.out
      have HI3 : Hid (RunV A u3 B d2 f2 ∧ Out B (B + 1) w u3 ∧ TenW u3 w.heap.size (.int .i64 s.k) (.int .i64 s.tk) (.int .i64 s.ta) (.int .i64 s.e.k) (.int .i64 s.e.n) (.int .i64 s.e.ak) (.int .i64 s.e.at_) (.slice ax s.e.kids.length cx) (.slice ay s.th.length cy) (.slice az s.el.length cz)) := ⟨hv3, hout.trans hO3, hT.at_ (hO3.block w.heap.size (by omega) (by omega))⟩
      clear hv hout hT hv3 hO3 HI1
      rcases hb3 with rfl | ⟨rfl, rfl⟩
      · have hst := HST2.out
        rw [if_neg (by simp)] at hst
        have e0 : errOf 0 er = .nilIface := rfl
        rw [e0]
        by_cases hf2 : f2 = 0
        · subst hf2
          rw [if_pos rfl] at hst
          simp only [Prod.mk.injEq] at hst
          obtain ⟨rfl, rfl, rfl⟩ := hst
          have hE3 := HE.out.out HI3.out.2.1
          have htk := take_zero u3 B d1 er HI3.out.1 hE3.cell hE3.ifc
          obtain ⟨te, ve, rfl⟩ := hE3.ifc
          clear e0
          go_wp2_with fail
          refine htk.mono ?_
          clear htk hE3
          rintro en u4 ⟨rfl, rfl⟩
          go_wp2
          go_ret
          exact ⟨rfl, HI3.out.1, HI3.out.2.1⟩
        · rw [if_neg hf2] at hst
          obtain ⟨g, rfl⟩ : ∃ g, f2 = g + 1 := ⟨f2 - 1, by omega⟩
          have hff := HB2.out.2
          have htk := take_some u3 B d2 g HI3.out.1 (by omega) (by omega)
          have HN : Hid (memOk d2 = true ∧ whileD (onD s.e) (runL s.th) (g + 1) d2 g = (d1, c1, f1)) := ⟨HB2.out.1, by simpa using hst.symm⟩
          clear hst e0
          go_wp2_with fail
          refine htk.mono ?_
          clear htk
          rintro en u4 ⟨rfl, hv4, hO4⟩
          have hs4 := hO4.size
          have HI4 : Hid (RunV A u4 B d2 g ∧ Out B (B + 1) w u4 ∧ TenW u4 w.heap.size (.int .i64 s.k) (.int .i64 s.tk) (.int .i64 s.ta) (.int .i64 s.e.k) (.int .i64 s.e.n) (.int .i64 s.e.ak) (.int .i64 s.e.at_) (.slice ax s.e.kids.length cx) (.slice ay s.th.length cy) (.slice az s.el.length cz)) := ⟨hv4, HI3.out.2.1.trans hO4, HI3.out.2.2.at_ (hO4.block w.heap.size (by omega) (by omega))⟩
          clear hv4 hO4 HI3
          go_wp2
          go_roundg g
          case measure => omega
          case rel => exact ⟨d2, by omega, by omega, HN.out, HI4.out⟩
      · have hst := HST2.out
        rw [if_pos (by simp)] at hst
        simp only [Prod.mk.injEq] at hst
        obtain ⟨rfl, rfl, rfl⟩ := hst
        have e1 : errOf 1 er = er := rfl
        rw [e1]
        clear e1
        obtain ⟨te, ve, rfl⟩ := HE.out.ifc
        go_wp2
        go_ret
        exact ⟨rfl, HI3.out.1, HI3.out.2.1⟩

theorem m_do_set (v : Value) : ∀ w : World, (method 365 139 v "loop.example/stopgate/impl.do").run Tryz.prog w = .ok (181, v) w := fun _ => by kernel_rfl
theorem m_do_if (v : Value) : ∀ w : World, (method 365 140 v "loop.example/stopgate/impl.do").run Tryz.prog w = .ok (190, v) w := fun _ => by kernel_rfl
theorem m_do_while (v : Value) : ∀ w : World, (method 365 141 v "loop.example/stopgate/impl.do").run Tryz.prog w = .ok (195, v) w := fun _ => by kernel_rfl
theorem calls_set_do (args : Array Value) (w : World) : (callFunc 181 args).run Tryz.prog w = .ok (.enter 181 args) w := by kernel_rfl
theorem calls_if_do (args : Array Value) (w : World) : (callFunc 190 args).run Tryz.prog w = .ok (.enter 190 args) w := by kernel_rfl
theorem calls_while_do (args : Array Value) (w : World) : (callFunc 195 args).run Tryz.prog w = .ok (.enter 195 args) w := by kernel_rfl

theorem do_kind {dp : Nat} (H : AllP dp) (s : StmtD) (ax ay az : Option Go.Addr) (cx cy cz : Nat) (hfit : fitB s = true) (he : exprOk s.e = true) (hth : formT dp s.th = true) (hel : formT dp s.el = true) (hsz : manyL s.e.kids ≤ 1048576 ∧ sizeL s.th ≤ 1048576 ∧ sizeL s.el ≤ 1048576) :
    ∃ T fd, doingV s.k (.agg #[.int .i64 s.k, .int .i64 s.tk, .int .i64 s.ta, .int .i64 s.e.k, .int .i64 s.e.n, .int .i64 s.e.ak, .int .i64 s.e.at_, .slice ax s.e.kids.length cx, .slice ay s.th.length cy, .slice az s.el.length cz]) = .iface T (.agg #[.int .i64 s.k, .int .i64 s.tk, .int .i64 s.ta, .int .i64 s.e.k, .int .i64 s.e.n, .int .i64 s.e.ak, .int .i64 s.e.at_, .slice ax s.e.kids.length cx, .slice ay s.th.length cy, .slice az s.el.length cz]) ∧ (∀ w : World, (method 365 T (.agg #[.int .i64 s.k, .int .i64 s.tk, .int .i64 s.ta, .int .i64 s.e.k, .int .i64 s.e.n, .int .i64 s.e.ak, .int .i64 s.e.at_, .slice ax s.e.kids.length cx, .slice ay s.th.length cy, .slice az s.el.length cz]) "loop.example/stopgate/impl.do").run Tryz.prog w = .ok (fd, .agg #[.int .i64 s.k, .int .i64 s.tk, .int .i64 s.ta, .int .i64 s.e.k, .int .i64 s.e.n, .int .i64 s.e.ak, .int .i64 s.e.at_, .slice ax s.e.kids.length cx, .slice ay s.th.length cy, .slice az s.el.length cz]) w) ∧ (∀ (args : Array Value) (w : World), (callFunc fd args).run Tryz.prog w = .ok (.enter fd args) w) ∧
      ∀ (A : Nat) (w : World) (B lo' hi' : Nat) (d d1 : MemD) (f f1 : Nat) (c1 : Int) (er : Value), RunV A w B d f → ErrAt w B er → KR w lo' hi' (.slice ax s.e.kids.length cx) s.e.kids → SR w lo' hi' (.slice ay s.th.length cy) s.th → SR w lo' hi' (.slice az s.el.length cz) s.el → hi' ≤ w.heap.size → (hi' ≤ B ∨ B + 1 ≤ lo') → memOk d = true → f ≤ 100 → runS s d f = (d1, c1, f1) →
        Calls Tryz.prog fd #[.agg #[.int .i64 s.k, .int .i64 s.tk, .int .i64 s.ta, .int .i64 s.e.k, .int .i64 s.e.n, .int .i64 s.e.ak, .int .i64 s.e.at_, .slice ax s.e.kids.length cx, .slice ay s.th.length cy, .slice az s.el.length cz], .pointer (some ⟨B, 0, none⟩)] w fun e w' => e = .returned (errOf c1 er) ∧ RunV A w' B d1 f1 ∧ Out B (B + 1) w w' := by
  rcases fitB_kind hfit with hk | hk | hk
  · refine ⟨_, _, by unfold doingV; rw [if_pos hk], m_do_set _, calls_set_do, fun A w B lo' hi' d d1 f f1 c1 er hv hE hx hy hz hhi hap hd hf hr => ?_⟩
    rw [runS_eq, if_pos hk] at hr
    simp only [Prod.mk.injEq] at hr
    obtain ⟨rfl, rfl, rfl⟩ := hr
    exact setDo_any w B lo' hi' s ax ay az cx cy cz d f hv hE.lt hx hhi hsz.1 he hd (fitB_addr hfit hk)
  · have h1 : ¬ s.k = 1 := by omega
    have h3 : ¬ s.k = 3 := by omega
    refine ⟨_, _, by unfold doingV; rw [if_neg h1, if_pos hk], m_do_if _, calls_if_do, fun A w B lo' hi' d d1 f f1 c1 er hv hE hx hy hz hhi hap hd hf hr => ?_⟩
    rw [runS_eq, if_neg h1, if_neg h3] at hr
    exact ifDo_any H w B lo' hi' s ax ay az cx cy cz d d1 f f1 c1 er hv hE hx hy hz hhi hap hd he hth hel hsz hf hr
  · have h1 : ¬ s.k = 1 := by omega
    have h2 : ¬ s.k = 2 := by omega
    refine ⟨_, _, by unfold doingV; rw [if_neg h1, if_neg h2, if_pos hk], m_do_while _, calls_while_do, fun A w B lo' hi' d d1 f f1 c1 er hv hE hx hy hz hhi hap hd hf hr => ?_⟩
    rw [runS_eq, if_neg h1, if_pos hk] at hr
    exact whileDo_any H w B lo' hi' s ax ay az cx cy cz d d1 f f1 c1 er hv hE hx hy hhi hap hd he hth ⟨hsz.1, hsz.2.1⟩ hf hr

theorem allP_zero : AllP 0 := by
  intro A w B lo' hi' v d d1 ss f f1 c1 er hv hE hss hhi' hap hd hform hsz hf hr
  have hnil : ss = [] := by rw [formT] at hform; simpa using hform
  subst hnil
  rw [runL_nil] at hr
  simp only [Prod.mk.injEq] at hr
  obtain ⟨rfl, rfl, rfl⟩ := hr
  obtain ⟨ad, cap, rfl, hc1, hc2⟩ := hss.shape
  have HV : Hid (RunV A w B d f) := hv
  have e0 : errOf 0 er = .nilIface := rfl
  rw [e0]
  clear hss hv hE e0
  go_enter Tryz.func31, Tryz.ntmps31
  go_wp2_with fail
  go_loopw [10] (fun i wr => i = .int .i64 0 ∧ wr = w) (fun _ _ => 0)
  case atStart => exact ⟨rfl, rfl⟩
  case round =>
    obtain ⟨rfl, rfl⟩ := hrel
    go_wp2
    go_ret
    exact ⟨rfl, HV.out, Out.refl _ _ _⟩

set_option maxHeartbeats 8000000 in
theorem allP_step {dp : Nat} (H : AllP dp) : AllP (dp + 1) := by
  intro A w B lo' hi' v d d1 ss f f1 c1 er hv hE hss hhi' hap hd hform hsz hf hr
  obtain ⟨ad, cap, rfl, hc1, hc2⟩ := hss.shape
  have hmx : ss.length ≤ 9223372036854775807 := by unfold maxLen at hc2; omega
  have hBl := hE.lt
  have HSS : Hid (SR w lo' hi' (.slice ad ss.length cap) ss) := hss
  have HFM : Hid (formT (dp + 1) ss = true ∧ sizeL ss ≤ 1048576) := ⟨hform, hsz⟩
  have HE : Hid (ErrAt w B er) := hE
  have HR0 : Hid (memOk d = true ∧ runL (ss.drop 0) d f = (d1, c1, f1)) := ⟨hd, by rw [List.drop_zero]; exact hr⟩
  have HI0 : Hid (RunV A w B d f ∧ Out B (B + 1) w w) := ⟨hv, Out.refl _ _ _⟩
  clear hss hform hsz hE hr hd hv hc1 hc2
  go_enter Tryz.func31, Tryz.ntmps31
  go_wp2_with fail
  go_loopw [10] (fun i wr => ∃ (j : Nat) (d : MemD) (f : Nat), i = .int .i64 j ∧ f ≤ 100 ∧ j ≤ ss.length ∧ w.heap.size ≤ wr.heap.size ∧ Hid (memOk d = true ∧ runL (ss.drop j) d f = (d1, c1, f1)) ∧ Hid (RunV A wr B d f ∧ Out B (B + 1) w wr)) (fun i _ => ss.length - (intOf i).toNat)
  case atStart => exact ⟨0, d, f, rfl, hf, Nat.zero_le _, Nat.le_refl _, HR0.out, HI0.out⟩
  case round =>
    clear HI0 HR0 hf d f
    obtain ⟨j, d, f, rfl, hf, hj, hs, HR, HI⟩ := hrel
    by_cases hlt : j < ss.length
    · obtain ⟨s, hs'⟩ : ∃ s, ss[j]? = some s := ⟨ss[j], List.getElem?_eq_getElem hlt⟩
      obtain ⟨b, off, cap', x, y, z, hv', hb1, hb2, h10, hkx, hky, hkz⟩ := HSS.out.at_ hs'
      simp only [Value.slice.injEq, true_and] at hv'
      obtain ⟨rfl, rfl⟩ := hv'
      obtain ⟨ax, cx, rfl, _, _⟩ := hkx.shape
      obtain ⟨ay, cy, rfl, _, _⟩ := hky.shape
      obtain ⟨az, cz, rfl, _, _⟩ := hkz.shape
      obtain ⟨hfit, hexo, hfth, hfel⟩ := formT_at HFM.out.1 hs'
      have hlt2 := stmt_lt hs'
      have hsz2 := HFM.out.2
      have hst := runL_drop hs' d f
      rw [HR.out.2] at hst
      have hrsO := runS_ok s d f HR.out.1
      obtain ⟨⟨d2, c2, f2⟩, hrs⟩ : ∃ r, runS s d f = r := ⟨_, rfl⟩
      rw [hrs] at hst hrsO
      obtain ⟨hmk, hfl, hcode⟩ := hrsO
      simp only at hst hmk hfl hcode
      have HST : Hid _ := hst
      obtain ⟨hv0, hout0⟩ := HI.out
      obtain ⟨T, fd, hkv, hmeth, hcal, hdo⟩ := do_kind H s ax ay az cx cy cz hfit hexo hfth hfel ⟨by omega, by omega, by omega⟩
      obtain ⟨c0, c1', c2', c3, c4, c5, c6, c7, c8, c9⟩ := h10.kept (hout0.block b (by omega) (by omega))
      obtain ⟨u1, hu1, G1, S1⟩ : ∃ u1, wr.alloc (.cells #[.int .i64 s.k, .int .i64 s.tk, .int .i64 s.ta, .int .i64 s.e.k, .int .i64 s.e.n, .int .i64 s.e.ak, .int .i64 s.e.at_, .slice ax s.e.kids.length cx, .slice ay s.th.length cy, .slice az s.el.length cz] 60) = u1 ∧ Below wr.heap.size wr u1 ∧ u1.heap.size = wr.heap.size + 1 :=
        ⟨_, rfl, (Below.refl _ _).alloc (Nat.le_refl _) _, by simp⟩
      have HU1 : Hid (_ = u1) := hu1
      have hko := doingOf_any u1 s ax ay az cx cy cz
      rw [hkv] at hko
      have HX : Hid (KR w lo' hi' (.slice ax s.e.kids.length cx) s.e.kids ∧ SR w lo' hi' (.slice ay s.th.length cy) s.th ∧ SR w lo' hi' (.slice az s.el.length cz) s.el) := ⟨hkx, hky, hkz⟩
      have HDO : Hid _ := hdo
      clear hs' hkx hky hkz h10 hlt2 hsz2 hst hu1 hfit hexo hfth hfel hkv hdo hv0 hout0
      go_wp2_with fail
      rw [HU1.out]
      refine hko.mono ?_
      clear hko HU1 c0 c1' c2' c3 c4 c5 c6 c7 c8 c9
      rintro en u2 ⟨rfl, g2⟩
      have s2 := g2.size
      obtain ⟨hv0, hout0⟩ := HI.out
      have g02 : Below wr.heap.size wr u2 := G1.trans (g2.mono (by omega))
      have hout2 : Out B (B + 1) w u2 := hout0.trans (out_of_below g02 _ _)
      have hrun := HDO.out A u2 B lo' hi' d d2 f f2 c2 er (hv0.below g02 (by omega)) (HE.out.out hout2) (HX.out.1.out hout2 hhi' hap) (HX.out.2.1.out hout2 hhi' hap) (HX.out.2.2.out hout2 hhi' hap) (by omega) hap HR.out.1 hf hrs
      have HO2 : Hid (Out B (B + 1) w u2) := hout2
      clear HDO hv0 hout0 g02 hout2 g2 G1 HI
      go_wp2_with fail
      refine hrun.mono ?_
      clear hrun
      rintro en u3 ⟨rfl, hv3, hO3⟩
      have s3 := hO3.size
      have HI3 : Hid (RunV A u3 B d2 f2 ∧ Out B (B + 1) w u3) := ⟨hv3, HO2.out.trans hO3⟩
      clear hv3 hO3 HO2
      rcases hcode with rfl | ⟨rfl, rfl⟩
      · have e0 : errOf 0 er = .nilIface := rfl
        rw [e0]
        have HN : Hid (memOk d2 = true ∧ runL (ss.drop (j + 1)) d2 f2 = (d1, c1, f1)) := ⟨hmk, by have := HST.out; simpa using this.symm⟩
        clear e0
        go_wp2
        go_roundw
        case rel => exact ⟨j + 1, d2, f2, by go_num, by omega, by omega, by omega, HN.out, HI3.out⟩
        case measure => simp [intOf]; omega
      · have hst := HST.out
        rw [if_pos (by simp)] at hst
        simp only [Prod.mk.injEq] at hst
        obtain ⟨rfl, rfl, rfl⟩ := hst
        have e1 : errOf 1 er = er := rfl
        rw [e1]
        clear e1
        obtain ⟨te, ve, rfl⟩ := HE.out.ifc
        go_wp2
        go_ret
        exact ⟨rfl, HI3.out.1, HI3.out.2⟩
    · obtain rfl : j = ss.length := by omega
      have hst := HR.out.2
      rw [runL_drop_all] at hst
      simp only [Prod.mk.injEq] at hst
      obtain ⟨rfl, rfl, rfl⟩ := hst
      go_wp2
      go_ret
      exact ⟨rfl, HI.out.1, HI.out.2⟩

theorem allP : ∀ dp, AllP dp
  | 0 => allP_zero
  | dp + 1 => allP_step (allP dp)
end Go.Proofs.YtdlcdllmhacaaaaGreatDoor
