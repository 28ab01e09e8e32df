/-
  Draws of what is reckoned: l3Bent.
-/
import Derived.Test.YtdhmioelmcdflaaDrawExprD
namespace Go.Proofs.Ytdhmioelmcdflaa
open Go.ChangeShapes Go.WideShapes Go.ChangeAt Go.RowKit
set_option linter.unusedVariables false
set_option maxRecDepth 100000

/-- What holds as l3Bent goes on: e is the variable's, at V. -/
structure BentI (n0 B : Nat) (a : Option Addr) (len cap : Nat) (q : Int) (w : World) (V : Nat) (u : World) (e : ExprD) (s : Value) : Prop where
  var : EVar (w.heap.size + 1) V u e s
  res : Five u w.heap.size (.int .i64 0) (.int .i64 0) (.int .i64 0) (.int .i64 0) (.slice none 0 0)
  rd : RdQ n0 B a len cap q u
  aside : Aside B w u
  lt : w.heap.size < V

theorem BentI.asideB {n0 B : Nat} {a : Option Addr} {len cap : Nat} {q q' : Int} {w : World} {V : Nat} {u u' : World} {e : ExprD} {s : Value} (h : BentI n0 B a len cap q w V u e s) (hB : B < w.heap.size) (ha : Aside B u u') (hr : RdQ n0 B a len cap q' u') : BentI n0 B a len cap q' w V u' e s :=
  ⟨h.var.aside ha (by omega) (by have := h.lt; omega), h.res.aside ha (by have := h.var.lt; have := h.lt; omega) (by omega), hr, h.aside.trans ha, h.lt⟩
theorem BentI.under {n0 B : Nat} {a : Option Addr} {len cap : Nat} {q : Int} {w : World} {V : Nat} {u u' : World} {e : ExprD} {s : Value} (h : BentI n0 B a len cap q w V u e s) (hb : Below u.heap.size u u') : BentI n0 B a len cap q w V u' e s :=
  ⟨h.var.under hb, h.res.under hb (by have := h.var.lt; have := h.lt; omega), h.rd.kept hb, h.aside.trans (aside_of hb), h.lt⟩
/-- The variable is written. -/
theorem BentI.put {n0 B : Nat} {a : Option Addr} {len cap : Nat} {q : Int} {w : World} {V : Nat} {u u' : World} {e e' : ExprD} {s s' : Value} (h : BentI n0 B a len cap q w V u e s) (hB : B < w.heap.size) (hv : EVar (w.heap.size + 1) V u' e' s') (hn : ∀ k, k ≠ V → u'.heap[k]? = u.heap[k]?) (hs : u'.heap.size = u.heap.size) (ho : u'.os = u.os) (ht : u'.tape = u.tape) (hp : u'.output = u.output) : BentI n0 B a len cap q w V u' e' s' := by
  have hlt := h.lt
  refine ⟨hv, ?_, h.rd.block (by omega) fun k hk => hn k (by omega), ⟨ho.trans h.aside.os, ht.trans h.aside.tape, hp.trans h.aside.output, by have := h.aside.size; omega, fun k h1 h2 => by rw [hn k (by omega)]; exact h.aside.block k h1 h2⟩, hlt⟩
  have hk := hn w.heap.size (by omega)
  exact ⟨by rw [World.cell?_of_block (w := u) hk]; exact h.res.c0, by rw [World.cell?_of_block (w := u) hk]; exact h.res.c1, by rw [World.cell?_of_block (w := u) hk]; exact h.res.c2, by rw [World.cell?_of_block (w := u) hk]; exact h.res.c3, by rw [World.cell?_of_block (w := u) hk]; exact h.res.c4, fun o => by rw [World.frozen?_of_block (w := u) hk]; exact h.res.f o⟩

theorem BentI.store {n0 B : Nat} {a : Option Addr} {len cap : Nat} {q : Int} {w : World} {V : Nat} {u : World} {e : ExprD} {s : Value} (h : BentI n0 B a len cap q w V u e s) (hB : B < w.heap.size) (e' : ExprD) (s' : Value) (ht : KRP u (Sans (w.heap.size + 1) V u) s' e'.kids) :
    ∃ u1, ((((u.setCell ⟨V, 0, none⟩ (.int .i64 e'.k)).setCell ⟨V, 1, none⟩ (.int .i64 e'.n)).setCell ⟨V, 2, none⟩ (.int .i64 e'.ak)).setCell ⟨V, 3, none⟩ (.int .i64 e'.at_)).setCell ⟨V, 4, none⟩ s' = u1 ∧ BentI n0 B a len cap q w V u1 e' s' ∧ u1.heap.size = u.heap.size := by
  obtain ⟨u1, hu1, hv, hn, hs, hb⟩ := h.var.store e' s' ht
  exact ⟨u1, hu1, h.put hB hv hn hs hb.os hb.tape hb.output, hs⟩

/-- The answer is stored into the block of the result. -/
theorem bent_ret {n0 B : Nat} {a : Option Addr} {len cap : Nat} {q q' : Int} {w : World} {V : Nat} {u : World} {k n ak at_ : Int} {es : List ExprD} {s : Value} (h : BentI n0 B a len cap q w V u (.mk k n ak at_ es) s) (hB : B < w.heap.size) (hq : q ≤ q') (hm : manyE (.mk k n ak at_ es) ≤ 3000) :
    ∃ u1, ((((u.setCell ⟨w.heap.size, 0, none⟩ (.int .i64 k)).setCell ⟨w.heap.size, 1, none⟩ (.int .i64 n)).setCell ⟨w.heap.size, 2, none⟩ (.int .i64 ak)).setCell ⟨w.heap.size, 3, none⟩ (.int .i64 at_)).setCell ⟨w.heap.size, 4, none⟩ s = u1 ∧
      Five u1 w.heap.size (.int .i64 k) (.int .i64 n) (.int .i64 ak) (.int .i64 at_) s ∧
      ∃ v e, Ending.returned (.agg #[.int .i64 k, .int .i64 n, .int .i64 ak, .int .i64 at_, s]) = .returned v ∧ ER u1 w.heap.size u1.heap.size v e ∧ manyE e ≤ 3000 ∧ RdQ n0 B a len cap q' u1 ∧ Aside B w u1 := by
  obtain ⟨u1, hu1, F1, N1, S1, _⟩ := five_store h.res (.int .i64 k) (.int .i64 n) (.int .i64 ak) (.int .i64 at_) s
  refine ⟨u1, hu1, F1, _, .mk k n ak at_ es, rfl, ⟨s, rfl, ?_⟩, hm, ?_, ?_⟩
  · have ht : KRP u (Sans (w.heap.size + 1) V u) s es := h.var.tree
    exact (ht.kept (S' := fun j => w.heap.size + 1 ≤ j ∧ j < u1.heap.size) (fun j hj => N1 j (by have := hj.1; omega)) (fun j hj => ⟨hj.1, by rw [S1]; exact hj.2.1⟩)).kr fun j hj => ⟨by omega, hj.2⟩
  · exact (h.rd.block (by omega) fun j hj => N1 j (by omega)).mono hq
  · rw [← hu1]; exact ((((h.aside.setNew (Nat.le_refl _) _).setNew (Nat.le_refl _) _).setNew (Nat.le_refl _) _).setNew (Nat.le_refl _) _).setNew (Nat.le_refl _) _

theorem many_not (e : ExprD) : manyE (.mk 10 0 0 0 [e]) = manyE e + 1 := by rw [manyE_eq]; show manyL [e] + 1 = _; rw [manyL, manyL]
theorem many_two (e : ExprD) : manyE (.mk 3 0 0 0 [e, e]) = 2 * manyE e + 1 := by rw [manyE_eq]; show manyL [e, e] + 1 = _; rw [manyL, manyL, manyL]; omega
theorem many_same (e : ExprD) (k n ak at_ : Int) : manyE (.mk k n ak at_ e.kids) = manyE e := by rw [manyE_eq, manyE_eq e]; rfl

set_option maxHeartbeats 8000000 in
theorem l3Bent_any (n0 : Nat) (w : World) (B : Nat) (a : Option Addr) (len cap : Nat) (q : Int) (h : RdQ n0 B a len cap q w) (hq : q + 300 < 1000000) :
    Calls Try.prog 36 #[.pointer (some ⟨B, 0, none⟩)] w fun en w' => ∃ v e, en = .returned v ∧ ER w' w.heap.size w'.heap.size v e ∧ manyE e ≤ 3000 ∧ RdQ n0 B a len cap (q + 300) w' ∧ Aside B w w' := by
  have hB := h.hi
  obtain ⟨u0, hu0, A0, R0, S0, P0⟩ : ∃ u0, w.alloc (.cells #[.int .i64 0, .int .i64 0, .int .i64 0, .int .i64 0, .slice none 0 0] 27) = u0 ∧ Aside B w u0 ∧ RdQ n0 B a len cap q u0 ∧ u0.heap.size = w.heap.size + 1 ∧ Five u0 w.heap.size (.int .i64 0) (.int .i64 0) (.int .i64 0) (.int .i64 0) (.slice none 0 0) :=
    ⟨_, rfl, aside_alloc _ _ _, h.kept ((Below.refl _ _).alloc (Nat.le_refl _) _), by simp, five_new _ _ _ _ _ _ _⟩
  go_enter Try.func36, Try.ntmps36
  go_wp2_with fail
  clear hu0
  refine (l3Some_any n0 _ B a len cap _ R0 (by omega)).mono ?_
  rintro e1 u1 ⟨v, e, rfl, ⟨s, rfl, hko⟩, hm, R1, A1⟩
  obtain ⟨ads, cps, rfl, _, _⟩ := hko.kr.shape
  have S1 := A1.size
  obtain ⟨V, hV⟩ : ∃ V, u1.heap.size = V := ⟨_, rfl⟩
  obtain ⟨u2, hu2, hI, S2⟩ : ∃ u2, u1.alloc (.cells #[.int .i64 e.k, .int .i64 e.n, .int .i64 e.ak, .int .i64 e.at_, .slice ads e.kids.length cps] 27) = u2 ∧ BentI n0 B a len cap (q + 200) w V u2 e (.slice ads e.kids.length cps) ∧ u2.heap.size = V + 1 := by
    have g2 := (Below.refl u1.heap.size u1).alloc (Nat.le_refl _) (.cells #[.int .i64 e.k, .int .i64 e.n, .int .i64 e.ak, .int .i64 e.at_, .slice ads e.kids.length cps] 27)
    have F2 := five_new u1 (.int .i64 e.k) (.int .i64 e.n) (.int .i64 e.ak) (.int .i64 e.at_) (.slice ads e.kids.length cps) 27
    rw [hV] at F2
    refine ⟨_, rfl, ⟨⟨F2, (hko.under g2 (Nat.le_refl _)).kr.krp fun k h1 h2 => ⟨by omega, by rw [World.size_alloc]; omega, by omega⟩, by rw [World.size_alloc]; omega⟩, (P0.aside A1 (by omega) (by omega)).under g2 (by omega), R1.kept g2, (A0.trans A1).trans (aside_of g2), by omega⟩, by rw [World.size_alloc]; omega⟩
  clear A0 R0 P0 A1 R1 hko
  go_wp2_with fail
  clear hu2 hV
  refine (pickQ n0 _ B a len cap _ 60 hI.rd (by omega) (by omega) (by omega)).mono ?_
  rintro e1 u3 ⟨r, rfl, hr0, hr1, R3, A3⟩
  have S3 := A3.size
  have hI3 := hI.asideB hB A3 R3
  have HI : Hid (BentI n0 B a len cap (q + 200 + 1) w V u3 e (.slice ads e.kids.length cps)) := hI3
  clear hI hI3 R3 A3
  have hVw := HI.out.lt
  by_cases h0 : r = 0
  · subst h0
    go_wp2_with fail
    refine (numQ n0 _ B a len cap _ u3.heap.size 0 4 4 (HI.out.rd.kept ((Below.refl _ _).alloc (Nat.le_refl _) _)) (by omega) (by omega) (by omega) (by omega) (by exact ints_new _ _ _ _ rfl rfl)).mono ?_
    rintro e1 u4 ⟨x, i, rfl, _, _, R4, A4⟩
    have S4 := A4.size
    rw [World.size_alloc] at S4
    have hI4 := (HI.out.under ((Below.refl u3.heap.size u3).alloc (Nat.le_refl _) _)).asideB hB A4 R4
    have c4 := hI4.var.five.c0
    have f4 := hI4.var.five.f 0
    obtain ⟨u5, hu5⟩ : ∃ u5, u4.setCell ⟨V, 0, none⟩ (.int .i64 x) = u5 := ⟨_, rfl⟩
    have S5 : u5.heap.size = u4.heap.size := by rw [← hu5]; simp
    have hI5 : BentI n0 B a len cap (q + 200 + 1 + 1) w V u5 (.mk x e.n e.ak e.at_ e.kids) (.slice ads e.kids.length cps) := by
      rw [← hu5]
      exact hI4.put hB (hI4.var.setK x) (fun k hk => Below.heap_setCell _ _ _ _ hk) (by simp) rfl rfl rfl
    have HI5 : Hid (BentI n0 B a len cap (q + 200 + 1 + 1) w V u5 (.mk x e.n e.ak e.at_ e.kids) (.slice ads e.kids.length cps)) := hI5
    clear hI4 hI5 HI R4 A4
    obtain ⟨u9, hu9, F9, HX9⟩ := bent_ret (q' := q + 300) (k := x) (n := e.n) (ak := e.ak) (at_ := e.at_) (es := e.kids) (s := .slice ads e.kids.length cps) HI5.out hB (by omega) (by rw [many_same]; omega)
    have HU : Hid (_ = u9) := hu9
    have HF : Hid (Five u9 w.heap.size _ _ _ _ _) := F9
    obtain ⟨p0, p1, p2, p3, p4, pf⟩ := (HI5.out).res
    have FV : Five u5 V (.int .i64 x) (.int .i64 e.n) (.int .i64 e.ak) (.int .i64 e.at_) (.slice ads e.kids.length cps) := (HI5.out).var.five
    obtain ⟨y0, y1, y2, y3, y4, _⟩ := FV
    have q0 := pf 0
    have q1 := pf 1
    have q2 := pf 2
    have q3 := pf 3
    have q4 := pf 4
    clear pf hu9 F9
    go_wp2
    rw [HU.out]
    obtain ⟨r0, r1, r2, r3, r4, _⟩ := HF.out
    exact bodyPost_ret (v := .agg #[.int .i64 x, .int .i64 e.n, .int .i64 e.ak, .int .i64 e.at_, .slice ads e.kids.length cps]) (by simp [results, Try.results36, go_sem, r0, r1, r2, r3, r4]) rfl (by obtain ⟨v, e, h1, h2⟩ := HX9; first | exact ⟨v, e, h1, h2⟩ | exact ⟨v, h1, e, h2⟩)
  have e0 : (r == 0) = false := by simp [h0]
  by_cases h1 : r = 1
  · subst h1
    go_wp2_with fail
    refine (numQ n0 _ B a len cap _ u3.heap.size 0 2 2 (HI.out.rd.kept ((Below.refl _ _).alloc (Nat.le_refl _) _)) (by omega) (by omega) (by omega) (by omega) (by exact ints_new _ _ _ _ rfl rfl)).mono ?_
    rintro e1 u4 ⟨x, i, rfl, _, _, R4, A4⟩
    have S4 := A4.size
    rw [World.size_alloc] at S4
    have hI4 := (HI.out.under ((Below.refl u3.heap.size u3).alloc (Nat.le_refl _) _)).asideB hB A4 R4
    have c4 := hI4.var.five.c1
    have f4 := hI4.var.five.f 1
    obtain ⟨u5, hu5⟩ : ∃ u5, u4.setCell ⟨V, 1, none⟩ (.int .i64 x) = u5 := ⟨_, rfl⟩
    have S5 : u5.heap.size = u4.heap.size := by rw [← hu5]; simp
    have hI5 : BentI n0 B a len cap (q + 200 + 1 + 1) w V u5 (.mk e.k x e.ak e.at_ e.kids) (.slice ads e.kids.length cps) := by
      rw [← hu5]
      exact hI4.put hB (hI4.var.setN x) (fun k hk => Below.heap_setCell _ _ _ _ hk) (by simp) rfl rfl rfl
    have HI5 : Hid (BentI n0 B a len cap (q + 200 + 1 + 1) w V u5 (.mk e.k x e.ak e.at_ e.kids) (.slice ads e.kids.length cps)) := hI5
    clear hI4 hI5 HI R4 A4
    obtain ⟨u9, hu9, F9, HX9⟩ := bent_ret (q' := q + 300) (k := e.k) (n := x) (ak := e.ak) (at_ := e.at_) (es := e.kids) (s := .slice ads e.kids.length cps) HI5.out hB (by omega) (by rw [many_same]; omega)
    have HU : Hid (_ = u9) := hu9
    have HF : Hid (Five u9 w.heap.size _ _ _ _ _) := F9
    obtain ⟨p0, p1, p2, p3, p4, pf⟩ := (HI5.out).res
    have FV : Five u5 V (.int .i64 e.k) (.int .i64 x) (.int .i64 e.ak) (.int .i64 e.at_) (.slice ads e.kids.length cps) := (HI5.out).var.five
    obtain ⟨y0, y1, y2, y3, y4, _⟩ := FV
    have q0 := pf 0
    have q1 := pf 1
    have q2 := pf 2
    have q3 := pf 3
    have q4 := pf 4
    clear pf hu9 F9
    go_wp2
    rw [HU.out]
    obtain ⟨r0, r1, r2, r3, r4, _⟩ := HF.out
    exact bodyPost_ret (v := .agg #[.int .i64 e.k, .int .i64 x, .int .i64 e.ak, .int .i64 e.at_, .slice ads e.kids.length cps]) (by simp [results, Try.results36, go_sem, r0, r1, r2, r3, r4]) rfl (by obtain ⟨v, e, h1, h2⟩ := HX9; first | exact ⟨v, e, h1, h2⟩ | exact ⟨v, h1, e, h2⟩)
  have e1 : (r == 1) = false := by simp [h1]
  by_cases h2 : r = 2
  · subst h2
    go_wp2_with fail
    refine (l2AddrBent_any n0 _ B a len cap _ HI.out.rd (by omega)).mono ?_
    rintro e1 u4 ⟨xk, xt, rfl, R4, A4⟩
    have S4 := A4.size
    have hI4 := HI.out.asideB hB A4 R4
    have c4 := hI4.var.five.c2
    have c5 := hI4.var.five.c3
    have f4 := hI4.var.five.f 2
    have f5 := hI4.var.five.f 3
    obtain ⟨u5, hu5⟩ : ∃ u5, (u4.setCell ⟨V, 2, none⟩ (.int .i64 xk)).setCell ⟨V, 3, none⟩ (.int .i64 xt) = u5 := ⟨_, rfl⟩
    have S5 : u5.heap.size = u4.heap.size := by rw [← hu5]; simp
    have hI5 : BentI n0 B a len cap (q + 200 + 1 + 4) w V u5 (.mk e.k e.n xk xt e.kids) (.slice ads e.kids.length cps) := by
      rw [← hu5]
      exact hI4.put hB (hI4.var.setA xk xt) (fun k hk => by rw [Below.heap_setCell _ _ _ _ hk, Below.heap_setCell _ _ _ _ hk]) (by simp) rfl rfl rfl
    have HI5 : Hid (BentI n0 B a len cap (q + 200 + 1 + 4) w V u5 (.mk e.k e.n xk xt e.kids) (.slice ads e.kids.length cps)) := hI5
    clear hI4 hI5 HI R4 A4
    obtain ⟨u9, hu9, F9, HX9⟩ := bent_ret (q' := q + 300) (k := e.k) (n := e.n) (ak := xk) (at_ := xt) (es := e.kids) (s := .slice ads e.kids.length cps) HI5.out hB (by omega) (by rw [many_same]; omega)
    have HU : Hid (_ = u9) := hu9
    have HF : Hid (Five u9 w.heap.size _ _ _ _ _) := F9
    obtain ⟨p0, p1, p2, p3, p4, pf⟩ := (HI5.out).res
    have FV : Five u5 V (.int .i64 e.k) (.int .i64 e.n) (.int .i64 xk) (.int .i64 xt) (.slice ads e.kids.length cps) := (HI5.out).var.five
    obtain ⟨y0, y1, y2, y3, y4, _⟩ := FV
    have q0 := pf 0
    have q1 := pf 1
    have q2 := pf 2
    have q3 := pf 3
    have q4 := pf 4
    clear pf hu9 F9
    go_wp2
    rw [HU.out]
    obtain ⟨r0, r1, r2, r3, r4, _⟩ := HF.out
    exact bodyPost_ret (v := .agg #[.int .i64 e.k, .int .i64 e.n, .int .i64 xk, .int .i64 xt, .slice ads e.kids.length cps]) (by simp [results, Try.results36, go_sem, r0, r1, r2, r3, r4]) rfl (by obtain ⟨v, e, h1, h2⟩ := HX9; first | exact ⟨v, e, h1, h2⟩ | exact ⟨v, h1, e, h2⟩)
  have e2 : (r == 2) = false := by simp [h2]
  by_cases h3 : r = 3
  · subst h3
    go_wp2_with fail
    go_loopw [4] (fun i wr => ∃ (j : Nat) (e' : ExprD) (s' : Value), i = .int .i64 j ∧ j ≤ 6 ∧ V < wr.heap.size ∧ Hid (manyE e' ≤ 155 + j ∧ BentI n0 B a len cap (q + 200 + 1) w V wr e' s')) (fun i _ => 6 - (intOf i).toNat)
    case atStart => exact ⟨0, e, _, rfl, by omega, by omega, by omega, HI.out⟩
    case round =>
      clear HI
      obtain ⟨j, e', s', rfl, hj, hVs, HR⟩ := hrel
      obtain ⟨k', n', ak', at', es'⟩ := e'
      have HI' : Hid (BentI n0 B a len cap (q + 200 + 1) w V wr (.mk k' n' ak' at' es') s') := HR.out.2
      obtain ⟨ads', cps', rfl⟩ := HI'.out.var.tree.shape
      by_cases hlt : j < 6
      · have hlt' : (j : Int) < 6 := by omega
        have g1 := (Below.refl wr.heap.size wr).alloc (Nat.le_refl _) (.cells #[.int .i64 k', .int .i64 n', .int .i64 ak', .int .i64 at', .slice ads' es'.length cps'] 27)
        have hI1 := HI'.out.under g1
        have hrow : KRP (wr.alloc (.cells #[.int .i64 k', .int .i64 n', .int .i64 ak', .int .i64 at', .slice ads' es'.length cps'] 27)) (Sans (w.heap.size + 1) V (wr.alloc (.cells #[.int .i64 k', .int .i64 n', .int .i64 ak', .int .i64 at', .slice ads' es'.length cps'] 27))) (.slice (some ⟨wr.heap.size, 0, none⟩) 1 1) [.mk k' n' ak' at' es'] :=
          krp_one (e := .mk k' n' ak' at' es') (heap_alloc_new wr _) ⟨by omega, by rw [World.size_alloc]; omega, by omega⟩ hI1.var.tree
        obtain ⟨u5, hu5, hI5, S5⟩ := hI1.store hB (.mk 10 0 0 0 [.mk k' n' ak' at' es']) _ hrow
        have HU5 : Hid (_ = u5) := hu5
        have HI5 : Hid (BentI n0 B a len cap (q + 200 + 1) w V u5 (.mk 10 0 0 0 [.mk k' n' ak' at' es']) (.slice (some ⟨wr.heap.size, 0, none⟩) 1 1)) := hI5
        have FV : Five wr V (.int .i64 k') (.int .i64 n') (.int .i64 ak') (.int .i64 at') (.slice ads' es'.length cps') := HI'.out.var.five
        have FW := hI1.var.five
        obtain ⟨y0, y1, y2, y3, y4, _⟩ := FV
        have FW : Five _ V (.int .i64 k') (.int .i64 n') (.int .i64 ak') (.int .i64 at') (.slice ads' es'.length cps') := FW
        obtain ⟨z0, z1, z2, z3, z4, zf⟩ := FW
        have zf0 := zf 0
        have zf1 := zf 1
        have zf2 := zf 2
        have zf3 := zf 3
        have zf4 := zf 4
        have hV5 : V < u5.heap.size := by rw [S5, World.size_alloc]; omega
        clear zf hu5 hI5 hrow hI1 g1 S5
        go_wp2
        go_roundw
        case rel =>
          have hU : _ = u5 := HU5.out
          rw [World.setCell_alloc_past _ _ _ _ (by omega), World.setCell_alloc_past _ _ _ _ (by simp; omega), World.setCell_alloc_past _ _ _ _ (by simp; omega), World.setCell_alloc_past _ _ _ _ (by simp; omega), World.setCell_alloc_past _ _ _ _ (by simp; omega)] at hU
          refine ⟨j + 1, .mk 10 0 0 0 [.mk k' n' ak' at' es'], .slice (some ⟨wr.heap.size, 0, none⟩) 1 1, by go_num, by omega, ?_, by rw [many_not]; have := HR.out.1; omega, ?_⟩
          · rw [← hU] at hV5; exact hV5
          · rw [← hU] at HI5; exact HI5.out
        case measure => simp [intOf]; omega
      · obtain rfl : j = 6 := by omega
        obtain ⟨u9, hu9, F9, HX9⟩ := bent_ret (q' := q + 300) (k := k') (n := n') (ak := ak') (at_ := at') (es := es') (s := .slice ads' es'.length cps') HI'.out hB (by omega) (by have := HR.out.1; omega)
        have HU : Hid (_ = u9) := hu9
        have HF : Hid (Five u9 w.heap.size _ _ _ _ _) := F9
        obtain ⟨p0, p1, p2, p3, p4, pf⟩ := (HI'.out).res
        have FV : Five wr V (.int .i64 k') (.int .i64 n') (.int .i64 ak') (.int .i64 at') (.slice ads' es'.length cps') := (HI'.out).var.five
        obtain ⟨y0, y1, y2, y3, y4, _⟩ := FV
        have q0 := pf 0
        have q1 := pf 1
        have q2 := pf 2
        have q3 := pf 3
        have q4 := pf 4
        clear pf hu9 F9
        go_wp2
        rw [HU.out]
        obtain ⟨r0, r1, r2, r3, r4, _⟩ := HF.out
        exact bodyPost_ret (v := .agg #[.int .i64 k', .int .i64 n', .int .i64 ak', .int .i64 at', .slice ads' es'.length cps']) (by simp [results, Try.results36, go_sem, r0, r1, r2, r3, r4]) rfl (by obtain ⟨v, e, h1, h2⟩ := HX9; first | exact ⟨v, e, h1, h2⟩ | exact ⟨v, h1, e, h2⟩)
  have e3 : (r == 3) = false := by simp [h3]
  by_cases h4 : r = 4
  · subst h4
    go_wp2_with fail
    go_loopw [5] (fun i wr => ∃ (j : Nat) (e' : ExprD) (s' : Value), i = .int .i64 j ∧ j ≤ 4 ∧ V < wr.heap.size ∧ Hid (manyE e' + 1 ≤ 156 * 2 ^ j ∧ BentI n0 B a len cap (q + 200 + 1) w V wr e' s')) (fun i _ => 4 - (intOf i).toNat)
    case atStart => exact ⟨0, e, _, rfl, by omega, by omega, by omega, HI.out⟩
    case round =>
      clear HI
      obtain ⟨j, e', s', rfl, hj, hVs, HR⟩ := hrel
      obtain ⟨k', n', ak', at', es'⟩ := e'
      have HI' : Hid (BentI n0 B a len cap (q + 200 + 1) w V wr (.mk k' n' ak' at' es') s') := HR.out.2
      obtain ⟨ads', cps', rfl⟩ := HI'.out.var.tree.shape
      by_cases hlt : j < 4
      · have hlt' : (j : Int) < 4 := by omega
        have hp2 : 2 ^ j ≤ 8 := by obtain rfl | rfl | rfl | rfl : j = 0 ∨ j = 1 ∨ j = 2 ∨ j = 3 := by omega
                                   all_goals decide
        have hmE : manyE (.mk k' n' ak' at' es') ≤ 3000 := by have := HR.out.1; omega
        go_wp2_with fail
        have HI2 := HI'.out
        have hmk : manyL es' ≤ 1048576 := by have := manyE_eq (.mk k' n' ak' at' es'); have h2 : manyE (.mk k' n' ak' at' es') = manyL es' + 1 := this; omega
        refine wp_region_last (R := Grow) (Φ := fun i v u => match i with
            | 0 => v = .agg #[.int .i64 k', .int .i64 n', .int .i64 ak', .int .i64 at', .slice ads' es'.length cps']
            | 1 => v = .agg #[.int .i64 k', .int .i64 n', .int .i64 ak', .int .i64 at', .slice ads' es'.length cps']
            | 2 => ∃ t lo hi, v = .agg #[.int .i64 k', .int .i64 n', .int .i64 ak', .int .i64 at', t] ∧ KO u lo hi t es' ∧ wr.heap.size ≤ lo ∧ hi ≤ u.heap.size
            | 3 => ∃ g t lo hi, v = .slice (some ⟨g, 0, none⟩) 2 2 ∧ u.heap[g]? = some (.cells #[.int .i64 k', .int .i64 n', .int .i64 ak', .int .i64 at', .slice ads' es'.length cps', .int .i64 k', .int .i64 n', .int .i64 ak', .int .i64 at', t] 27) ∧ KO u lo hi t es' ∧ wr.heap.size ≤ lo ∧ hi ≤ u.heap.size ∧ wr.heap.size ≤ g ∧ g < u.heap.size
            | 4 => ∃ g t lo hi, v = .agg #[.int .i64 3, .int .i64 0, .int .i64 0, .int .i64 0, .slice (some ⟨g, 0, none⟩) 2 2] ∧ u.heap[g]? = some (.cells #[.int .i64 k', .int .i64 n', .int .i64 ak', .int .i64 at', .slice ads' es'.length cps', .int .i64 k', .int .i64 n', .int .i64 ak', .int .i64 at', t] 27) ∧ KO u lo hi t es' ∧ wr.heap.size ≤ lo ∧ hi ≤ u.heap.size ∧ wr.heap.size ≤ g ∧ g < u.heap.size
            | _ => True)
          (J := fun _ _ _ => True) 5 _ rfl rfl (by kernel_rfl) (by kernel_rfl) (by kernel_rfl) (by kernel_rfl) (Below.refl _ _) grow_trans ?_ trivial ?_ ?_
        · intro i v u u' hr
          have hs := hr.size
          match i with
          | 0 | 1 | _ + 5 => exact fun h => h
          | 2 => exact fun ⟨t, lo, hi, h1, h2, h3, h4⟩ => ⟨t, lo, hi, h1, h2.under hr h4, h3, by omega⟩
          | 3 | 4 => exact fun ⟨g, t, lo, hi, h1, h2, h3, h4, h5, h6, h7⟩ => ⟨g, t, lo, hi, h1, by rw [hr.block g h7]; exact h2, h3.under hr h5, h4, by omega, h6, by omega⟩
        · intro i o ho hin L ac u hf hR0 hLs hLi hp he hJ K' hK
          have hR : Grow wr u := (Below.drew (Below.refl _ _)).trans hR0
          have hsz' : ac.tmps.size = 48 := hf.size
          have hus := hR.size
          have FV : Five u V (.int .i64 k') (.int .i64 n') (.int .i64 ak') (.int .i64 at') (.slice ads' es'.length cps') := (HI2.under hR).var.five
          rcases i with _ | _ | _ | _ | _ | i
          · obtain rfl := Option.some.inj ho
            have q3 : ac.tmps.getD 3 undef = .pointer (some ⟨V, 0, none⟩) := hf.at_ 3 (by kernel_rfl)
            obtain ⟨c0, c1, c2, c3, c4, _⟩ := FV
            clear hp he
            go_simp
            exact hK _ _ (Below.refl _ _) (getD_put_self ac 42 _ (by show _ < ac.tmps.size; omega)) trivial
          · obtain rfl := Option.some.inj ho
            have q3 : ac.tmps.getD 3 undef = .pointer (some ⟨V, 0, none⟩) := hf.at_ 3 (by kernel_rfl)
            obtain ⟨c0, c1, c2, c3, c4, _⟩ := FV
            clear hp he
            go_simp
            exact hK _ _ (Below.refl _ _) (getD_put_self ac 43 _ (by show _ < ac.tmps.size; omega)) trivial
          · obtain rfl := Option.some.inj ho
            have q43 : ac.tmps.getD 43 undef = .agg #[.int .i64 k', .int .i64 n', .int .i64 ak', .int .i64 at', .slice ads' es'.length cps'] := hp 1 _ rfl (he _ (Array.mem_of_getElem? (i := 0) rfl) (by kernel_rfl))
            have hC := copyS (manyL es') u 0 u.heap.size _ (.mk k' n' ak' at' es') ⟨_, rfl, (HI2.under hR).var.tree.kr fun j hj => ⟨Nat.zero_le _, hj.2.1⟩⟩ (Nat.le_refl _) (Nat.le_refl _) hmk
            clear hp he
            go_simp
            refine hC.mono ?_
            rintro e1 u' ⟨v', rfl, ⟨t, rfl, hko⟩, g1⟩
            exact hK _ _ g1 ⟨t, _, _, getD_put_self ac 44 _ (by show _ < ac.tmps.size; omega), hko, by omega, Nat.le_refl _⟩ trivial
          · obtain rfl := Option.some.inj ho
            have q42 : ac.tmps.getD 42 undef = .agg #[.int .i64 k', .int .i64 n', .int .i64 ak', .int .i64 at', .slice ads' es'.length cps'] := hp 0 _ rfl (he _ (Array.mem_of_getElem? (i := 0) rfl) (by kernel_rfl))
            obtain ⟨t, lo, hi, q44, hko, h4, h5⟩ := hp 2 _ rfl (he _ (Array.mem_of_getElem? (i := 1) rfl) (by kernel_rfl))
            have q44 : ac.tmps.getD 44 undef = .agg #[.int .i64 k', .int .i64 n', .int .i64 ak', .int .i64 at', t] := q44
            have q42b : ac.tmps[42]?.getD undef = .agg #[.int .i64 k', .int .i64 n', .int .i64 ak', .int .i64 at', .slice ads' es'.length cps'] := by rw [← q42]; exact (Array.getD_eq_getD_getElem? ..).symm
            have q44b : ac.tmps[44]?.getD undef = .agg #[.int .i64 k', .int .i64 n', .int .i64 ak', .int .i64 at', t] := by rw [← q44]; exact (Array.getD_eq_getD_getElem? ..).symm
            have HZ : Hid (ac.tmps.size = 48) := hsz'
            obtain ⟨adt, cpt, rfl, _, _⟩ := hko.kr.shape
            clear hp he hsz' q42 q44
            go_simp
            have hsz' := HZ.out
            have g1 := (Below.refl u.heap.size u).alloc (Nat.le_refl _) (.cells #[.int .i64 k', .int .i64 n', .int .i64 ak', .int .i64 at', .slice ads' es'.length cps', .int .i64 k', .int .i64 n', .int .i64 ak', .int .i64 at', .slice adt es'.length cpt] 27)
            exact hK _ _ g1 ⟨u.heap.size, _, lo, hi, getD_put_self ac 45 _ (by show _ < ac.tmps.size; omega), heap_alloc_new u _, hko.under g1 h5, h4, by have := g1.size; omega, by omega, by simp⟩ trivial
          · obtain rfl := Option.some.inj ho
            obtain ⟨g, t, lo, hi, q45, h2, h3, h4, h5, h6, h7⟩ := hp 3 _ rfl (he _ (Array.mem_of_getElem? (i := 0) rfl) (by kernel_rfl))
            have q45 : ac.tmps.getD 45 undef = .slice (some ⟨g, 0, none⟩) 2 2 := q45
            have q45b : ac.tmps[45]?.getD undef = .slice (some ⟨g, 0, none⟩) 2 2 := by rw [← q45]; exact (Array.getD_eq_getD_getElem? ..).symm
            have HZ : Hid (ac.tmps.size = 48) := hsz'
            clear hp he hsz' q45
            go_simp
            have hsz' := HZ.out
            exact hK _ _ (Below.refl _ _) ⟨g, t, lo, hi, getD_put_self ac 46 _ (by show _ < ac.tmps.size; omega), h2, h3, h4, h5, h6, h7⟩ trivial
          · omega
        · intro L ac u hf hR0 hp hJ K' hK
          have hR : Grow wr u := (Below.drew (Below.refl _ _)).trans hR0
          have hus := hR.size
          obtain ⟨g, t, lo, hi, q46, h2, h3, h4, h5, h6, h7⟩ := (hp 4 _ (by decide) rfl).2
          have m46 : ac.tmps.getD 46 undef = .agg #[.int .i64 3, .int .i64 0, .int .i64 0, .int .i64 0, .slice (some ⟨g, 0, none⟩) 2 2] := q46
          have hI1 := HI2.under hR
          have hrow : KRP u (Sans (w.heap.size + 1) V u) (.slice (some ⟨g, 0, none⟩) 2 2) [.mk k' n' ak' at' es', .mk k' n' ak' at' es'] :=
            krp_two (e := .mk k' n' ak' at' es') (f := .mk k' n' ak' at' es') h2 ⟨by omega, h7, by omega⟩ hI1.var.tree (h3.kr.krp fun j ha hb => ⟨by omega, by omega, by omega⟩)
          obtain ⟨u5, hu5, hI5, S5⟩ := hI1.store hB (.mk 3 0 0 0 [.mk k' n' ak' at' es', .mk k' n' ak' at' es']) _ hrow
          have HU5 : Hid (_ = u5) := hu5
          have HI5 : Hid (BentI n0 B a len cap (q + 200 + 1) w V u5 (.mk 3 0 0 0 [.mk k' n' ak' at' es', .mk k' n' ak' at' es']) (.slice (some ⟨g, 0, none⟩) 2 2)) := hI5
          have FW : Five u V (.int .i64 k') (.int .i64 n') (.int .i64 ak') (.int .i64 at') (.slice ads' es'.length cps') := hI1.var.five
          obtain ⟨z0, z1, z2, z3, z4, zf⟩ := FW
          have zf0 := zf 0
          have zf1 := zf 1
          have zf2 := zf 2
          have zf3 := zf 3
          have zf4 := zf 4
          have hV5 : V < u5.heap.size := by rw [S5]; omega
          clear zf hu5 hI5 hrow hI1 S5 q46 hp hJ hR0 HI2

          obtain ⟨f, ea, hfv⟩ := act_lit ac 48 hf.size
          have md : ac.defers = [] := hf.defers
          rw [md] at ea
          have m0 := hf.at_ 0 (by kernel_rfl)
          have m1 := hf.at_ 1 (by kernel_rfl)
          have m2 := hf.at_ 2 (by kernel_rfl)
          have m3 := hf.at_ 3 (by kernel_rfl)
          have m4 := hf.at_ 4 (by kernel_rfl)
          have m5 := hf.at_ 5 (by kernel_rfl)
          have m6 := hf.at_ 6 (by kernel_rfl)
          have m7 := hf.at_ 7 (by kernel_rfl)
          have m8 := hf.at_ 8 (by kernel_rfl)
          have m9 := hf.at_ 9 (by kernel_rfl)
          have m10 := hf.at_ 10 (by kernel_rfl)
          have m11 := hf.at_ 11 (by kernel_rfl)
          have m12 := hf.at_ 12 (by kernel_rfl)
          have m13 := hf.at_ 13 (by kernel_rfl)
          have m14 := hf.at_ 14 (by kernel_rfl)
          have m15 := hf.at_ 15 (by kernel_rfl)
          have m16 := hf.at_ 16 (by kernel_rfl)
          have m17 := hf.at_ 17 (by kernel_rfl)
          have m18 := hf.at_ 18 (by kernel_rfl)
          have m19 := hf.at_ 19 (by kernel_rfl)
          have m20 := hf.at_ 20 (by kernel_rfl)
          have m21 := hf.at_ 21 (by kernel_rfl)
          have m22 := hf.at_ 22 (by kernel_rfl)
          have m23 := hf.at_ 23 (by kernel_rfl)
          have m24 := hf.at_ 24 (by kernel_rfl)
          have m25 := hf.at_ 25 (by kernel_rfl)
          have m26 := hf.at_ 26 (by kernel_rfl)
          have m27 := hf.at_ 27 (by kernel_rfl)
          have m28 := hf.at_ 28 (by kernel_rfl)
          have m29 := hf.at_ 29 (by kernel_rfl)
          have m30 := hf.at_ 30 (by kernel_rfl)
          have m31 := hf.at_ 31 (by kernel_rfl)
          have m32 := hf.at_ 32 (by kernel_rfl)
          have m33 := hf.at_ 33 (by kernel_rfl)
          have m34 := hf.at_ 34 (by kernel_rfl)
          have m35 := hf.at_ 35 (by kernel_rfl)
          have m36 := hf.at_ 36 (by kernel_rfl)
          have m37 := hf.at_ 37 (by kernel_rfl)
          have m38 := hf.at_ 38 (by kernel_rfl)
          have m39 := hf.at_ 39 (by kernel_rfl)
          have m40 := hf.at_ 40 (by kernel_rfl)
          have m41 := hf.at_ 41 (by kernel_rfl)
          have m47 := hf.at_ 47 (by kernel_rfl)
          rw [← hfv] at m0 m1 m2 m3 m4 m5 m6 m7 m8 m9 m10 m11 m12 m13 m14 m15 m16 m17 m18 m19 m20 m21 m22 m23 m24 m25 m26 m27 m28 m29 m30 m31 m32 m33 m34 m35 m36 m37 m38 m39 m40 m41 m47 m46
          simp only [Array.getD_eq_getD_getElem?, List.getElem?_toArray, List.getElem?_cons_succ, List.getElem?_cons_zero, Option.getD_some] at m0 m1 m2 m3 m4 m5 m6 m7 m8 m9 m10 m11 m12 m13 m14 m15 m16 m17 m18 m19 m20 m21 m22 m23 m24 m25 m26 m27 m28 m29 m30 m31 m32 m33 m34 m35 m36 m37 m38 m39 m40 m41 m47
          simp only [List.range, List.range.loop, List.map_cons, List.map_nil, m0, m1, m2, m3, m4, m5, m6, m7, m8, m9, m10, m11, m12, m13, m14, m15, m16, m17, m18, m19, m20, m21, m22, m23, m24, m25, m26, m27, m28, m29, m30, m31, m32, m33, m34, m35, m36, m37, m38, m39, m40, m41, m47, m46] at ea
          subst ea
          clear m0 m1 m2 m3 m4 m5 m6 m7 m8 m9 m10 m11 m12 m13 m14 m15 m16 m17 m18 m19 m20 m21 m22 m23 m24 m25 m26 m27 m28 m29 m30 m31 m32 m33 m34 m35 m36 m37 m38 m39 m40 m41 m47 m46 hfv md hf
          go_simp
          refine hK _ _ ?_
          clear hK
          go_wp2
          go_roundw
          case rel =>
            have hU : _ = u5 := HU5.out
            refine ⟨j + 1, .mk 3 0 0 0 [.mk k' n' ak' at' es', .mk k' n' ak' at' es'], .slice (some ⟨g, 0, none⟩) 2 2, by go_num, by omega, ?_, ?_, ?_⟩
            · rw [← hU] at hV5; exact hV5
            · rw [many_two, Nat.pow_succ]; have := HR.out.1; omega
            · rw [← hU] at HI5; exact HI5.out
          case measure => simp [intOf]; omega
      · obtain rfl : j = 4 := by omega
        obtain ⟨u9, hu9, F9, HX9⟩ := bent_ret (q' := q + 300) (k := k') (n := n') (ak := ak') (at_ := at') (es := es') (s := .slice ads' es'.length cps') HI'.out hB (by omega) (by have := HR.out.1; omega)
        have HU : Hid (_ = u9) := hu9
        have HF : Hid (Five u9 w.heap.size _ _ _ _ _) := F9
        obtain ⟨p0, p1, p2, p3, p4, pf⟩ := (HI'.out).res
        have FV : Five wr V (.int .i64 k') (.int .i64 n') (.int .i64 ak') (.int .i64 at') (.slice ads' es'.length cps') := (HI'.out).var.five
        obtain ⟨y0, y1, y2, y3, y4, _⟩ := FV
        have q0 := pf 0
        have q1 := pf 1
        have q2 := pf 2
        have q3 := pf 3
        have q4 := pf 4
        clear pf hu9 F9
        go_wp2
        rw [HU.out]
        obtain ⟨r0, r1, r2, r3, r4, _⟩ := HF.out
        exact bodyPost_ret (v := .agg #[.int .i64 k', .int .i64 n', .int .i64 ak', .int .i64 at', .slice ads' es'.length cps']) (by simp [results, Try.results36, go_sem, r0, r1, r2, r3, r4]) rfl (by obtain ⟨v, e, h1, h2⟩ := HX9; first | exact ⟨v, e, h1, h2⟩ | exact ⟨v, h1, e, h2⟩)
  have e4 : (r == 4) = false := by simp [h4]
  clear h0 h1 h2 h3 h4
  rw [ExprD.eta e] at HI
  obtain ⟨u9, hu9, F9, HX9⟩ := bent_ret (q' := q + 300) (k := e.k) (n := e.n) (ak := e.ak) (at_ := e.at_) (es := e.kids) (s := .slice ads e.kids.length cps) HI.out hB (by omega) (by rw [← ExprD.eta]; omega)
  have HU : Hid (_ = u9) := hu9
  have HF : Hid (Five u9 w.heap.size _ _ _ _ _) := F9
  obtain ⟨p0, p1, p2, p3, p4, pf⟩ := (HI.out).res
  have FV : Five u3 V (.int .i64 e.k) (.int .i64 e.n) (.int .i64 e.ak) (.int .i64 e.at_) (.slice ads e.kids.length cps) := (HI.out).var.five
  obtain ⟨y0, y1, y2, y3, y4, _⟩ := FV
  have q0 := pf 0
  have q1 := pf 1
  have q2 := pf 2
  have q3 := pf 3
  have q4 := pf 4
  clear pf hu9 F9
  go_wp2
  rw [HU.out]
  obtain ⟨r0, r1, r2, r3, r4, _⟩ := HF.out
  exact bodyPost_ret (v := .agg #[.int .i64 e.k, .int .i64 e.n, .int .i64 e.ak, .int .i64 e.at_, .slice ads e.kids.length cps]) (by simp [results, Try.results36, go_sem, r0, r1, r2, r3, r4]) rfl (by obtain ⟨v, e, h1, h2⟩ := HX9; first | exact ⟨v, e, h1, h2⟩ | exact ⟨v, h1, e, h2⟩)
end Go.Proofs.Ytdhmioelmcdflaa
