/-
  Draws of what is reckoned: l3Expr.
-/
import Derived.Test.YtdhmioelmcdflaaDrawKit
import Derived.Test.YtdhmioelmcdflaaKidsKit
import Derived.Test.YtdhmioelmcdflaaExprSpec
import Derived.Test.YtdhmioelmcdflaaDrawDag
import Derived.Deep.AppendLies
import Derived.Deep.Upon
namespace Go.Proofs.Ytdhmioelmcdflaa
open Go.ChangeShapes Go.WideShapes Go.ChangeAt Go.RowKit
set_option linter.unusedVariables false
set_option maxRecDepth 100000

/-- A bound on picks and on parts. -/
def big : Nat → Nat
  | 0 => 5
  | d + 1 => 2 * big d + 5

theorem Five.aside {u u' : World} {B R : Nat} {v0 v1 v2 v3 v4 : Value} (h : Five u R v0 v1 v2 v3 v4) (ha : Aside B u u') (hR : R < u.heap.size) (hne : R ≠ B) : Five u' R v0 v1 v2 v3 v4 :=
  ⟨by rw [ha.cellAt hR hne]; exact h.c0, by rw [ha.cellAt hR hne]; exact h.c1, by rw [ha.cellAt hR hne]; exact h.c2, by rw [ha.cellAt hR hne]; exact h.c3, by rw [ha.cellAt hR hne]; exact h.c4, fun o => by rw [ha.frozenAt hR hne]; exact h.f o⟩

theorem KO.aside {w w' : World} {B lo hi : Nat} {v : Value} {es : List ExprD} (h : KO w lo hi v es) (ha : Aside B w w') (hlo : B < lo) (hhi : hi ≤ w.heap.size) : KO w' lo hi v es :=
  h.kept fun k h1 h2 => ha.at_ (by omega) (by omega)

/-- What l3Expr answers, drawn not deeper than d. -/
def ExprS (d : Nat) : Prop := ∀ (n0 : Nat) (w : World) (B : Nat) (a : Option Addr) (len cap : Nat) (q : Int), RdQ n0 B a len cap q w → q + big d < 1000000 →
  Calls Try.prog 88 #[.pointer (some ⟨B, 0, none⟩), .int .i64 d] w fun en w' => ∃ v e, en = .returned v ∧ EO w' w.heap.size w'.heap.size v e ∧ manyE e ≤ big d ∧ RdQ n0 B a len cap (q + big d) w' ∧ Aside B w w'

/-- An answer that was stored into the block of the result. -/
theorem draw_ret {n0 B : Nat} {a : Option Addr} {len cap : Nat} {q q' : Int} {w u : World} {N : Nat} {v0 v1 v2 v3 v4 : Value} {k n ak at_ : Int} {s : Value} {es : List ExprD}
    (h : Five u w.heap.size v0 v1 v2 v3 v4) (hr : RdQ n0 B a len cap q u) (ha : Aside B w u) (hk : KO u (w.heap.size + 1) u.heap.size s es) (hq : q ≤ q') (hm : manyE (.mk k n ak at_ es) ≤ N) (hB : B < w.heap.size) (hS : w.heap.size < u.heap.size) :
    ∃ u1, ((((u.setCell ⟨w.heap.size, 0, none⟩ (.int .i64 k)).setCell ⟨w.heap.size, 1, none⟩ (.int .i64 n)).setCell ⟨w.heap.size, 2, none⟩ (.int .i64 ak)).setCell ⟨w.heap.size, 3, none⟩ (.int .i64 at_)).setCell ⟨w.heap.size, 4, none⟩ s = u1 ∧
      Five u1 w.heap.size (.int .i64 k) (.int .i64 n) (.int .i64 ak) (.int .i64 at_) s ∧
      ∃ v e, Ending.returned (.agg #[.int .i64 k, .int .i64 n, .int .i64 ak, .int .i64 at_, s]) = .returned v ∧ EO u1 w.heap.size u1.heap.size v e ∧ manyE e ≤ N ∧ RdQ n0 B a len cap q' u1 ∧ Aside B w u1 := by
  obtain ⟨u1, hu1, F1, N1, S1, _⟩ := five_store h (.int .i64 k) (.int .i64 n) (.int .i64 ak) (.int .i64 at_) s
  refine ⟨u1, hu1, F1, _, .mk k n ak at_ es, rfl, ⟨s, rfl, ?_⟩, hm, ?_, ?_⟩
  · exact (hk.kept fun q h1 h2 => N1 q (by omega)).wide (by omega) (by omega)
  · exact (hr.block (by omega) fun q hq => N1 q (by omega)).mono hq
  · rw [← hu1]; exact ((((ha.setNew (Nat.le_refl _) _).setNew (Nat.le_refl _) _).setNew (Nat.le_refl _) _).setNew (Nat.le_refl _) _).setNew (Nat.le_refl _) _

/-- The reader's block and the list's own row may have changed, of all old blocks. -/
structure RowR (B : Nat) (row : Option Nat) (u u' : World) : Prop where
  os : u'.os = u.os
  tape : u'.tape = u.tape
  output : u'.output = u.output
  size : u.heap.size ≤ u'.heap.size
  block : ∀ k, k < u.heap.size → k ≠ B → some k ≠ row → u'.heap[k]? = u.heap[k]?

theorem RowR.refl (B : Nat) (row : Option Nat) (u : World) : RowR B row u u := ⟨rfl, rfl, rfl, Nat.le_refl _, fun _ _ _ _ => rfl⟩
theorem RowR.trans {B : Nat} {row : Option Nat} {a b c : World} (h : RowR B row a b) (k : RowR B row b c) : RowR B row a c :=
  ⟨k.os.trans h.os, k.tape.trans h.tape, k.output.trans h.output, Nat.le_trans h.size k.size, fun i h1 h2 h3 => (k.block i (Nat.lt_of_lt_of_le h1 h.size) h2 h3).trans (h.block i h1 h2 h3)⟩
theorem RowR.of_below {B : Nat} {row : Option Nat} {u u' : World} (h : Below u.heap.size u u') : RowR B row u u' := ⟨h.os, h.tape, h.output, h.size, fun k hk _ _ => h.block k hk⟩
theorem RowR.of_aside {B : Nat} {row : Option Nat} {u u' : World} (h : Aside B u u') : RowR B row u u' := ⟨h.os, h.tape, h.output, h.size, fun k hk hne _ => h.at_ hk hne⟩
theorem RowR.of_grown {B : Nat} {row : Option Nat} {u u' : World} (h : u.grownBy u' row) (ho : u'.os = u.os) (ht : u'.tape = u.tape) (hp : u'.output = u.output) : RowR B row u u' := ⟨ho, ht, hp, h.size, fun k hk _ hne => h.block k hk hne⟩
theorem RowR.five {B : Nat} {row : Option Nat} {u u' : World} (h : RowR B row u u') {E : Nat} {v0 v1 v2 v3 v4 : Value} (hF : Five u E v0 v1 v2 v3 v4) (h1 : E < u.heap.size) (h2 : E ≠ B) (h3 : some E ≠ row) : Five u' E v0 v1 v2 v3 v4 := by
  have hk := h.block E h1 h2 h3
  exact ⟨by rw [World.cell?_of_block (w := u) hk]; exact hF.c0, by rw [World.cell?_of_block (w := u) hk]; exact hF.c1, by rw [World.cell?_of_block (w := u) hk]; exact hF.c2, by rw [World.cell?_of_block (w := u) hk]; exact hF.c3, by rw [World.cell?_of_block (w := u) hk]; exact hF.c4, fun o => by rw [World.frozen?_of_block (w := u) hk]; exact hF.f o⟩
theorem RowR.ko {B : Nat} {row : Option Nat} {u u' : World} (h : RowR B row u u') {lo hi : Nat} {v : Value} {es : List ExprD} (hk : KO u lo hi v es) (h1 : B < lo) (h2 : ∀ k, row = some k → k < lo) (h3 : hi ≤ u.heap.size) : KO u' lo hi v es :=
  hk.kept fun k a b => h.block k (by omega) (by omega) fun e => by have := h2 k e.symm; omega

/-- What holds ahead of a round that draws a kid: i are still to be drawn. -/
structure KidD (n0 B : Nat) (a : Option Addr) (len cap : Nat) (q : Int) (M : Nat) (w : World) (E base : Nat) (K : Int) (i : Nat) (wr : World) (v : Value) (ps : List (ExprD × Value)) (l h : Nat → Nat) : Prop where
  aside : Aside B w wr
  rd : RdQ n0 B a len cap (q + 2 + ps.length * M) wr
  res : Five wr w.heap.size (.int .i64 0) (.int .i64 0) (.int .i64 0) (.int .i64 0) (.slice none 0 0)
  box : Five wr E (.int .i64 K) (.int .i64 0) (.int .i64 0) (.int .i64 0) v
  kp : KP wr base v ps l h
  lt : w.heap.size < E ∧ E < base ∧ base ≤ wr.heap.size
  many : ps.length + i ≤ 2
  parts : manyL (ps.map Prod.fst) ≤ ps.length * M

theorem KidD.row {n0 B : Nat} {a : Option Addr} {len cap : Nat} {q : Int} {M : Nat} {w : World} {E base : Nat} {K : Int} {i : Nat} {wr : World} {v : Value} {ps : List (ExprD × Value)} {l h : Nat → Nat}
    (k : KidD n0 B a len cap q M w E base K i wr v ps l h) : ∀ g, v.ownBlock = some g → base ≤ g ∧ g < wr.heap.size := fun g hg => k.kp.size g hg

/-- The list with one kid more stands in u; it is stored into the variable. -/
theorem KidD.next {n0 B : Nat} {a : Option Addr} {len cap : Nat} {q : Int} {M : Nat} {w : World} {E base : Nat} {K : Int} {i : Nat} {wr u : World} {v v' : Value} {ps : List (ExprD × Value)} {l h l' h' : Nat → Nat} {e : ExprD} {s : Value}
    (k : KidD n0 B a len cap q M w E base K (i + 1) wr v ps l h) (hB : B < w.heap.size) (hR : RowR B v.ownBlock wr u) (hrd : RdQ n0 B a len cap (q + 2 + ps.length * M + M) u) (hkp : KP u base v' (ps ++ [(e, s)]) l' h') (hm : manyE e ≤ M) :
    KidD n0 B a len cap q M w E base K i (u.setCell ⟨E, 4, none⟩ v') v' (ps ++ [(e, s)]) l' h' := by
  have hlt := k.lt
  have hsz := hR.size
  have hrow := k.row
  have hne : ∀ j, j < base → some j ≠ v.ownBlock := fun j hj e => by have := (hrow j e.symm).1; omega
  have hbx := hR.five k.box (by omega) (by omega) (hne E (by omega))
  have hrs := hR.five k.res (by omega) (by omega) (hne _ (by omega))
  have hA : Aside B w u := ⟨hR.os.trans k.aside.os, hR.tape.trans k.aside.tape, hR.output.trans k.aside.output, Nat.le_trans k.aside.size hR.size, fun j hj hj' => by
    have := k.aside.size
    rw [hR.block j (by omega) (by omega) (hne j (by omega))]; exact k.aside.block j hj hj'⟩
  refine ⟨hA.setNew (by omega) _, ?_, hrs.other _ (by omega), hbx.set4 _, hkp.kept (fun j h1 h2 => Below.heap_setCell _ _ _ _ (by show j ≠ E; omega)) (by rw [World.size_setCell]; exact Nat.le_refl _), by rw [World.size_setCell]; omega, by have := k.many; simp; omega, ?_⟩
  · refine (hrd.setCell (by omega) _).mono ?_
    rw [List.length_append, List.length_cons, List.length_nil]
    rw [show ((ps.length + (0 + 1) : Nat) : Int) = (ps.length : Int) + 1 by omega, Int.add_mul]
    omega
  · rw [List.map_append, manyL_append, List.length_append, Nat.add_mul]
    have := k.parts
    show _ + manyL [e] ≤ _
    rw [manyL, manyL]
    simp
    omega

/-- The row with one part more. -/
theorem kp_append {B base : Nat} {wr u u1 : World} {v : Value} {ps : List (ExprD × Value)} {l h : Nat → Nat} (k : KP u base v ps l h) {e : ExprD} {s : Value} {lo hi g c : Nat} (hbs : base ≤ u.heap.size)
    (hrow : ∀ j, v.ownBlock = some j → j < lo) (hlh : ∀ i, i < ps.length → h i ≤ lo) (hl1 : lo ≤ hi) (hl2 : hi ≤ u.heap.size) (hbl : base ≤ lo) (hko : KO u lo hi s e.kids) (hg : u.grownBy u1 v.ownBlock)
    (hown : u1.ownsRow base 27 5 (.slice (some ⟨g, 0, none⟩) (ps.length + 1) c) (ps.length + 1) (rowE ps ++ [.int .i64 e.k, .int .i64 e.n, .int .i64 e.ak, .int .i64 e.at_, s])) (hat : v.ownBlock = some g ∨ g = u.heap.size) :
    KP u1 base (.slice (some ⟨g, 0, none⟩) (ps.length + 1) c) (ps ++ [(e, s)]) (fun i => if i = ps.length then lo else l i) (fun i => if i = ps.length then hi else h i) := by
  have hus := hg.size
  have hne : ∀ i, i < ps.length → ∀ q, l i ≤ q → q < h i → some q ≠ v.ownBlock := fun i hi q h1 h2 hq => by
    have := k.off i q hi hq.symm
    omega
  refine ⟨by rw [rowE_snoc, List.length_append]; exact hown, fun i p hp => ?_, fun i hi => ?_, fun i g' hi hv => ?_, fun i j hij hj => ?_⟩
  · by_cases hil : i < ps.length
    · rw [List.getElem?_append_left hil] at hp
      have hr := k.rng i hil
      simp only [if_neg (Nat.ne_of_lt hil)]
      exact (k.kids i p hp).kept fun q h1 h2 => hg.block q (by omega) (hne i hil q h1 h2)
    · rw [List.getElem?_append_right (by omega)] at hp
      have : i = ps.length := by
        have := (List.getElem?_eq_some_iff.mp hp).1
        simp at this
        omega
      subst this
      simp at hp
      subst hp
      simp only [if_true]
      refine hko.kept fun q h1 h2 => hg.block q (by omega) fun hq => ?_
      have := hrow q hq.symm
      omega
  · simp only [List.length_append, List.length_cons, List.length_nil] at hi
    by_cases hil : i < ps.length
    · simp only [if_neg (Nat.ne_of_lt hil)]
      have := k.rng i hil
      omega
    · obtain rfl : i = ps.length := by omega
      simp only [if_true]
      omega
  · simp only [Value.ownBlock, Option.some.injEq] at hv
    subst hv
    simp only [List.length_append, List.length_cons, List.length_nil] at hi
    by_cases hil : i < ps.length
    · simp only [if_neg (Nat.ne_of_lt hil)]
      have := k.rng i hil
      rcases hat with h1 | h1
      · exact k.off i g hil h1
      · omega
    · obtain rfl : i = ps.length := by omega
      simp only [if_true]
      rcases hat with h1 | h1
      · have := hrow g h1; omega
      · omega
  · simp only [List.length_append, List.length_cons, List.length_nil] at hj
    have hi : i < ps.length := by omega
    simp only [if_neg (Nat.ne_of_lt hi)]
    by_cases hjl : j < ps.length
    · simp only [if_neg (Nat.ne_of_lt hjl)]; exact k.dis i j hij hjl
    · obtain rfl : j = ps.length := by omega
      simp only [if_true]
      exact hlh i hi

/-- Slots that the leaf needs. -/
theorem big_succ (d : Nat) : big (d + 1) = 2 * big d + 5 := rfl
theorem big_ge (d : Nat) : 5 ≤ big d := by cases d with | zero => exact Nat.le_refl _ | succ d => rw [big_succ]; omega

set_option maxHeartbeats 4000000 in
theorem expr_step {d : Nat} (hd : d ≤ 100) (H : ∀ d', d' + 1 = d → ExprS d') : ExprS d := by
  intro n0 w B a len cap q h hq
  have hB := h.hi
  have hg := big_ge d
  obtain ⟨u0, hu0, A0, R0, S0, P0⟩ : ∃ u0, w.alloc (.cells #[.int .i64 0, .int .i64 0, .int .i64 0, .int .i64 0, .slice none 0 0] 27) = u0 ∧ Aside B w u0 ∧ RdQ n0 B a len cap q u0 ∧ u0.heap.size = w.heap.size + 1 ∧ Five u0 w.heap.size (.int .i64 0) (.int .i64 0) (.int .i64 0) (.int .i64 0) (.slice none 0 0) :=
    ⟨_, rfl, aside_alloc _ _ _, h.kept ((Below.refl _ _).alloc (Nat.le_refl _) _), by simp, five_new _ _ _ _ _ _ _⟩
  by_cases hd1 : d ≤ 1
  · have hd2 : (d : Int) ≤ 1 := by omega
    clear H
    go_enter Try.func88, Try.ntmps88
    go_wp2_with fail
    clear hu0
    refine (pickQ n0 _ B a len cap _ 3 R0 (by omega) (by omega) (by omega)).mono ?_
    rintro e v1 ⟨r, rfl, hr0, hr1, RR, AA⟩
    have SS := AA.size
    have PP := P0.aside AA (by omega) (by omega)
    have AW := A0.trans AA
    by_cases h3 : r = 0
    · subst h3
      go_wp2_with fail
      refine (numQ n0 _ B a len cap _ v1.heap.size 0 7 7 (RR.kept ((Below.refl _ _).alloc (Nat.le_refl _) _)) (by omega) (by omega) (by omega) (by omega) (by exact ints_new _ _ _ _ rfl rfl)).mono ?_
      rintro e v3 ⟨n, i, rfl, _, _, R3, A3⟩
      have S3 := A3.size
      rw [World.size_alloc] at S3
      have P3 := (PP.aside (aside_alloc B v1 _) (by omega) (by omega)).aside A3 (by rw [World.size_alloc]; omega) (by omega)
      have A4 := (AW.trans (aside_alloc _ _ _)).trans A3
      clear RR AA PP AW A3 R0 A0 P0
      obtain ⟨u9, hu9, F9, HX9⟩ := draw_ret (N := big d) (q' := q + big d) (k := 1) (n := n) (ak := 0) (at_ := 0) (s := .slice none 0 0) (es := []) P3 R3 A4 (.nil _ _ _ _ (Nat.zero_le _)) (by omega) (by simp [manyE, manyL]; omega) hB (by omega)
      have HU : Hid (_ = u9) := hu9
      have HF : Hid (Five u9 w.heap.size _ _ _ _ _) := F9
      obtain ⟨p0, p1, p2, p3, p4, pf⟩ := P3
      have q0 := pf 0
      have q1 := pf 1
      have q2 := pf 2
      have q3 := pf 3
      have q4 := pf 4
      clear pf hu9 F9
      go_wp2
      rw [HU.out]
      obtain ⟨r0, r1, r2, r3, r4, _⟩ := HF.out
      exact bodyPost_ret (v := .agg #[.int .i64 1, .int .i64 n, .int .i64 0, .int .i64 0, .slice none 0 0]) (by simp [results, Try.results88, go_sem, r0, r1, r2, r3, r4]) rfl (by obtain ⟨v, e, h1, h2⟩ := HX9; first | exact ⟨v, e, h1, h2⟩ | exact ⟨v, h1, e, h2⟩)
    · have h3' : (r == 0) = false := by simp [h3]
      go_wp2_with fail
      refine (l2Addr_any n0 _ B a len cap _ RR (by omega)).mono ?_
      rintro e v3 ⟨ak, at_, rfl, R3, A3⟩
      have S3 := A3.size
      have P3 := PP.aside A3 (by omega) (by omega)
      have A4 := AW.trans A3
      clear RR AA PP AW A3 R0 A0 P0
      obtain ⟨u9, hu9, F9, HX9⟩ := draw_ret (N := big d) (q' := q + big d) (k := 2) (n := 0) (ak := ak) (at_ := at_) (s := .slice none 0 0) (es := []) P3 R3 A4 (.nil _ _ _ _ (Nat.zero_le _)) (by omega) (by simp [manyE, manyL]; omega) hB (by omega)
      have HU : Hid (_ = u9) := hu9
      have HF : Hid (Five u9 w.heap.size _ _ _ _ _) := F9
      obtain ⟨p0, p1, p2, p3, p4, pf⟩ := P3
      have q0 := pf 0
      have q1 := pf 1
      have q2 := pf 2
      have q3 := pf 3
      have q4 := pf 4
      clear pf hu9 F9
      go_wp2
      rw [HU.out]
      obtain ⟨r0, r1, r2, r3, r4, _⟩ := HF.out
      exact bodyPost_ret (v := .agg #[.int .i64 2, .int .i64 0, .int .i64 ak, .int .i64 at_, .slice none 0 0]) (by simp [results, Try.results88, go_sem, r0, r1, r2, r3, r4]) rfl (by obtain ⟨v, e, h1, h2⟩ := HX9; first | exact ⟨v, e, h1, h2⟩ | exact ⟨v, h1, e, h2⟩)
  · have hd2 : ¬ (d : Int) ≤ 1 := by omega
    go_enter Try.func88, Try.ntmps88
    go_wp2_with fail
    clear hu0
    refine (pickQ n0 _ B a len cap _ 4 R0 (by omega) (by omega) (by omega)).mono ?_
    rintro e u1 ⟨r0, rfl, hr00, hr01, R1, A1⟩
    have S1 := A1.size
    have P1 := P0.aside A1 (by omega) (by omega)
    have A2 := A0.trans A1
    clear A0 R0 P0 A1
    by_cases h4 : r0 = 0
    · subst h4
      clear H
      go_wp2_with fail
      refine (pickQ n0 _ B a len cap _ 3 R1 (by omega) (by omega) (by omega)).mono ?_
      rintro e v1 ⟨r, rfl, hr0, hr1, RR, AA⟩
      have SS := AA.size
      have PP := P1.aside AA (by omega) (by omega)
      have AW := A2.trans AA
      by_cases h3 : r = 0
      · subst h3
        go_wp2_with fail
        refine (numQ n0 _ B a len cap _ v1.heap.size 0 7 7 (RR.kept ((Below.refl _ _).alloc (Nat.le_refl _) _)) (by omega) (by omega) (by omega) (by omega) (by exact ints_new _ _ _ _ rfl rfl)).mono ?_
        rintro e v3 ⟨n, i, rfl, _, _, R3, A3⟩
        have S3 := A3.size
        rw [World.size_alloc] at S3
        have P3 := (PP.aside (aside_alloc B v1 _) (by omega) (by omega)).aside A3 (by rw [World.size_alloc]; omega) (by omega)
        have A4 := (AW.trans (aside_alloc _ _ _)).trans A3
        clear RR AA PP AW A3 R1 A2 P1
        obtain ⟨u9, hu9, F9, HX9⟩ := draw_ret (N := big d) (q' := q + big d) (k := 1) (n := n) (ak := 0) (at_ := 0) (s := .slice none 0 0) (es := []) P3 R3 A4 (.nil _ _ _ _ (Nat.zero_le _)) (by omega) (by simp [manyE, manyL]; omega) hB (by omega)
        have HU : Hid (_ = u9) := hu9
        have HF : Hid (Five u9 w.heap.size _ _ _ _ _) := F9
        obtain ⟨p0, p1, p2, p3, p4, pf⟩ := P3
        have q0 := pf 0
        have q1 := pf 1
        have q2 := pf 2
        have q3 := pf 3
        have q4 := pf 4
        clear pf hu9 F9
        go_wp2
        rw [HU.out]
        obtain ⟨r0, r1, r2, r3, r4, _⟩ := HF.out
        exact bodyPost_ret (v := .agg #[.int .i64 1, .int .i64 n, .int .i64 0, .int .i64 0, .slice none 0 0]) (by simp [results, Try.results88, go_sem, r0, r1, r2, r3, r4]) rfl (by obtain ⟨v, e, h1, h2⟩ := HX9; first | exact ⟨v, e, h1, h2⟩ | exact ⟨v, h1, e, h2⟩)
      · have h3' : (r == 0) = false := by simp [h3]
        go_wp2_with fail
        refine (l2Addr_any n0 _ B a len cap _ RR (by omega)).mono ?_
        rintro e v3 ⟨ak, at_, rfl, R3, A3⟩
        have S3 := A3.size
        have P3 := PP.aside A3 (by omega) (by omega)
        have A4 := AW.trans A3
        clear RR AA PP AW A3 R1 A2 P1
        obtain ⟨u9, hu9, F9, HX9⟩ := draw_ret (N := big d) (q' := q + big d) (k := 2) (n := 0) (ak := ak) (at_ := at_) (s := .slice none 0 0) (es := []) P3 R3 A4 (.nil _ _ _ _ (Nat.zero_le _)) (by omega) (by simp [manyE, manyL]; omega) hB (by omega)
        have HU : Hid (_ = u9) := hu9
        have HF : Hid (Five u9 w.heap.size _ _ _ _ _) := F9
        obtain ⟨p0, p1, p2, p3, p4, pf⟩ := P3
        have q0 := pf 0
        have q1 := pf 1
        have q2 := pf 2
        have q3 := pf 3
        have q4 := pf 4
        clear pf hu9 F9
        go_wp2
        rw [HU.out]
        obtain ⟨r0, r1, r2, r3, r4, _⟩ := HF.out
        exact bodyPost_ret (v := .agg #[.int .i64 2, .int .i64 0, .int .i64 ak, .int .i64 at_, .slice none 0 0]) (by simp [results, Try.results88, go_sem, r0, r1, r2, r3, r4]) rfl (by obtain ⟨v, e, h1, h2⟩ := HX9; first | exact ⟨v, e, h1, h2⟩ | exact ⟨v, h1, e, h2⟩)
    · have h4' : (r0 == 0) = false := by simp [h4]
      go_wp2_with fail
      refine (numQ n0 _ B a len cap _ u1.heap.size 0 10 10 (R1.kept ((Below.refl _ _).alloc (Nat.le_refl _) _)) (by omega) (by omega) (by omega) (by omega) (by exact ints_new _ _ _ _ rfl rfl)).mono ?_
      rintro e u2 ⟨K, i, rfl, _, _, R2, A3⟩
      have S2 := A3.size
      rw [World.size_alloc] at S2
      have P2 := (P1.aside (aside_alloc B u1 _) (by omega) (by omega)).aside A3 (by rw [World.size_alloc]; omega) (by omega)
      have A4 := (A2.trans (aside_alloc _ _ _)).trans A3
      clear R1 P1 A2 A3
      have hkd := fun W => l3Kids_any W K
      go_wp2_with fail
      refine (hkd _).mono ?_
      rintro e1 wz ⟨rfl, rfl⟩
      obtain ⟨d', rfl⟩ : ∃ d', d = d' + 1 := ⟨d - 1, by omega⟩
      have hE := H d' rfl
      have hbs := big_succ d'
      clear H hg
      obtain ⟨M, hM⟩ : ∃ M, big d' = M := ⟨_, rfl⟩
      have HM : Hid (big d' = M) := hM
      rw [hM] at hbs
      clear hM
      have hbs2 : 2 * M + 5 ≤ big (d' + 1) := by omega
      clear hbs
      have hdd : ((d' + 1 : Nat) : Int) = (d' : Int) + 1 := by omega
      have hk2 := (kidsOf_bd K).2
      obtain ⟨E, hEe⟩ : ∃ E, u2.heap.size = E := ⟨_, rfl⟩
      have hI : KidD n0 B a len cap q M w E (E + 1) K (kidsOf K).toNat (u2.alloc (.cells #[.int .i64 K, .int .i64 0, .int .i64 0, .int .i64 0, .slice none 0 0] 27)) (.slice none 0 0) [] (fun _ => 0) (fun _ => 0) := by
        refine ⟨A4.trans (aside_alloc _ _ _), ?_, P2.under ((Below.refl _ _).alloc (Nat.le_refl _) _) (by omega), ?_, KP.nil _ _, by rw [World.size_alloc]; omega, by simp; omega, by simp [manyL]⟩
        · simpa using (R2.kept ((Below.refl _ _).alloc (Nat.le_refl _) _)).mono (by omega)
        · have := five_new u2 (.int .i64 K) (.int .i64 0) (.int .i64 0) (.int .i64 0) (.slice none 0 0) 27
          rwa [hEe] at this
      rw [hEe]
      clear A4 R2 P2 hkd hEe
      obtain ⟨i0, hi0, hz0, hz1, hz2⟩ := info_parts info_expr
      go_wp2_with fail
      go_loopw [6] (fun i wr => ∃ (z : Int) (v : Value) (ps : List (ExprD × Value)) (l h : Nat → Nat), i = .int .i64 z ∧ z ≤ 2 ∧ KidD n0 B a len cap q M w E (E + 1) K z.toNat wr v ps l h) (fun i _ => (intOf i).toNat)
      case atStart => exact ⟨_, _, _, _, _, rfl, hk2, hI⟩
      case round =>
        clear hI hk2
        obtain ⟨z, v, ps, l, h, rfl, hz, hI⟩ := hrel
        obtain ⟨adv, nv, cv, rfl⟩ : ∃ a n c, v = .slice a n c := by
          rcases hI.kp.own.2 with ⟨rfl, _⟩ | ⟨g, cap, cur, rfl, _⟩
          · exact ⟨_, _, _, rfl⟩
          · exact ⟨_, _, _, rfl⟩
        have hlt := hI.lt
        by_cases hz0' : z ≤ 0
        · have hz1' : ¬ (0 : Int) < z := by omega
          have hS := hlt
          have hpl : (ps.length : Int) * M ≤ 2 * M := Int.mul_le_mul_of_nonneg_right (by have := hI.many; omega) (by omega)
          have hpl' : ps.length * M ≤ 2 * M := Nat.mul_le_mul_right _ (by have := hI.many; omega)
          obtain ⟨u9, hu9, F9, HX9⟩ := draw_ret (N := big (d' + 1)) (q' := q + big (d' + 1)) (k := K) (n := 0) (ak := 0) (at_ := 0) (s := .slice adv nv cv) (es := ps.map Prod.fst) hI.res hI.rd hI.aside (hI.kp.ko.wide (by omega) (Nat.le_refl _)) (by omega) (by rw [manyE_eq]; show manyL (ps.map Prod.fst) + 1 ≤ big (d' + 1); have := hI.parts; omega) hB (by omega)
          have HU : Hid (_ = u9) := hu9
          have HF : Hid (Five u9 w.heap.size _ _ _ _ _) := F9
          obtain ⟨p0, p1, p2, p3, p4, pf⟩ := hI.res
          obtain ⟨y0, y1, y2, y3, y4, _⟩ := hI.box
          have q0 := pf 0
          have q1 := pf 1
          have q2 := pf 2
          have q3 := pf 3
          have q4 := pf 4
          clear pf hu9 F9 hI
          go_wp2
          rw [HU.out]
          obtain ⟨r0, r1, r2, r3, r4, _⟩ := HF.out
          exact bodyPost_ret (v := .agg #[.int .i64 K, .int .i64 0, .int .i64 0, .int .i64 0, .slice adv nv cv]) (by simp [results, Try.results88, go_sem, r0, r1, r2, r3, r4]) rfl (by obtain ⟨v, e, h1, h2⟩ := HX9; first | exact ⟨v, e, h1, h2⟩ | exact ⟨v, h1, e, h2⟩)
        have hz1' : (0 : Int) < z := by omega
        have hrow := hI.row
        have hmy := hI.many
        have hne : ∀ j, j < E + 1 → some j ≠ (Value.slice adv nv cv).ownBlock := fun j hj e => by have := (hrow j e.symm).1; omega
        have HI : Hid (KidD n0 B a len cap q M w E (E + 1) K z.toNat wr (.slice adv nv cv) ps l h) := hI
        clear hI
        go_wp2_with fail
        refine wp_region_last (R := RowR B (Value.slice adv nv cv).ownBlock) (Φ := fun i v u => match i with
            | 0 => v = .pointer (some ⟨E, 4, none⟩)
            | 1 => v = .slice adv nv cv
            | 2 => v = .pointer (some ⟨B, 0, none⟩)
            | 3 => v = .int .i64 ((d' : Int) + 1)
            | 4 => v = .int .i64 d'
            | 5 => ∃ e s lo hi, v = .agg #[.int .i64 e.k, .int .i64 e.n, .int .i64 e.ak, .int .i64 e.at_, s] ∧ KO u lo hi s e.kids ∧ manyE e ≤ M ∧ wr.heap.size ≤ lo ∧ lo ≤ hi ∧ hi ≤ u.heap.size
            | 6 => ∃ g e s lo hi, v = .slice (some ⟨g, 0, none⟩) 1 1 ∧ u.heap[g]? = some (.cells #[.int .i64 e.k, .int .i64 e.n, .int .i64 e.ak, .int .i64 e.at_, s] 27) ∧ KO u lo hi s e.kids ∧ manyE e ≤ M ∧ wr.heap.size ≤ lo ∧ lo ≤ hi ∧ hi ≤ g ∧ g < u.heap.size
            | 8 => v = .pointer (some ⟨E, 4, none⟩)
            | _ => True)
          (J := KidJ 5 7 42 (RdQ n0 B a len cap (q + 2 + ps.length * M)) (RdQ n0 B a len cap (q + 2 + ps.length * M + M)) (fun u => KP u (E + 1) (.slice adv nv cv) ps l h) (fun v u => ∃ g c e s l' h', v = .slice (some ⟨g, 0, none⟩) (ps.length + 1) c ∧ KP u (E + 1) v (ps ++ [(e, s)]) l' h' ∧ manyE e ≤ M))
          9 _ rfl rfl (by kernel_rfl) (by kernel_rfl) (by kernel_rfl) (by kernel_rfl) (RowR.refl _ _ _) (fun _ _ _ h k => h.trans k) ?_ ?_ ?_ ?_
        · intro i v u u' hr
          have hs := hr.size
          match i with
          | 0 | 1 | 2 | 3 | 4 | 7 | 8 | _ + 9 => exact fun h => h
          | 5 => exact fun ⟨e, s, lo, hi, h1, h2, h3, h4, h5, h6⟩ => ⟨e, s, lo, hi, h1, hr.ko h2 (by have := HI.out.aside.size; omega) (fun k hk => by have := (hrow k hk).2; omega) h6, h3, h4, h5, by omega⟩
          | 6 => exact fun ⟨g, e, s, lo, hi, h1, h2, h3, h4, h5, h6, h7, h8⟩ => ⟨g, e, s, lo, hi, h1, by rw [hr.block g h8 (by have := HI.out.aside.size; omega) fun e => by have := (hrow g e.symm).2; omega]; exact h2, hr.ko h3 (by have := HI.out.aside.size; omega) (fun k hk => by have := (hrow k hk).2; omega) (by omega), h4, h5, h6, h7, by omega⟩
        · have g0 : Below wr.heap.size wr wr.drew := Below.drew (Below.refl _ _)
          exact ⟨fun _ => HI.out.rd.kept g0, fun h => by simp at h, fun _ => HI.out.kp.kept (fun k _ hk => g0.block k hk) g0.size, fun h => by simp at h⟩
        · intro i o ho hin L ac u hf hR0 hLs hLi hp he hJ K' hK
          have hR : RowR B (Value.slice adv nv cv).ownBlock wr u := (RowR.of_below (Below.drew (Below.refl _ _))).trans hR0
          have hsz' : ac.tmps.size = 45 := hf.size
          have hus := hR.size
          have hws := HI.out.aside.size
          rcases i with _ | _ | _ | _ | _ | _ | _ | _ | _ | i
          · obtain rfl := Option.some.inj ho
            have q5 : ac.tmps.getD 5 undef = .pointer (some ⟨E, 0, none⟩) := hf.at_ 5 (by kernel_rfl)
            clear hp he
            go_simp
            exact hK _ _ (RowR.refl _ _ _) (getD_put_self ac 35 _ (by show _ < ac.tmps.size; omega)) (hJ.other (by decide) (by decide) (by decide) id id id fun _ h => h)
          · obtain rfl := Option.some.inj ho
            have q35 : ac.tmps.getD 35 undef = .pointer (some ⟨E, 4, none⟩) := hp 0 _ rfl (he _ (Array.mem_of_getElem? (i := 0) rfl) (by kernel_rfl))
            have c4 := (hR.five HI.out.box (by omega) (by omega) (hne E (by omega))).c4
            clear hp he
            go_simp
            exact hK _ _ (RowR.refl _ _ _) (getD_put_self ac 36 _ (by show _ < ac.tmps.size; omega)) (hJ.other (by decide) (by decide) (by decide) id id id fun _ h => h)
          · obtain rfl := Option.some.inj ho
            have q0 : ac.tmps.getD 0 undef = .pointer (some ⟨B, 0, none⟩) := hf.at_ 0 (by kernel_rfl)
            clear hp he
            go_simp
            exact hK _ _ (RowR.refl _ _ _) (getD_put_self ac 37 _ (by show _ < ac.tmps.size; omega)) (hJ.other (by decide) (by decide) (by decide) id id id fun _ h => h)
          · obtain rfl := Option.some.inj ho
            have q1 : ac.tmps.getD 1 undef = .int .i64 ((d' + 1 : Nat) : Int) := hf.at_ 1 (by kernel_rfl)
            rw [hdd] at q1
            clear hp he
            go_simp
            exact hK _ _ (RowR.refl _ _ _) (getD_put_self ac 38 _ (by show _ < ac.tmps.size; omega)) (hJ.other (by decide) (by decide) (by decide) id id id fun _ h => h)
          · obtain rfl := Option.some.inj ho
            have q38 : ac.tmps.getD 38 undef = .int .i64 ((d' : Int) + 1) := hp 3 _ rfl (he _ (Array.mem_of_getElem? (i := 0) rfl) (by kernel_rfl))
      
            clear hp he
            go_simp
            exact hK _ _ (RowR.refl _ _ _) (by refine (getD_put_self ac 39 _ (by show _ < ac.tmps.size; omega)).trans ?_; rw [wrap_small _ (by omega) (by omega)]) (hJ.other (by decide) (by decide) (by decide) id id id fun _ h => h)
          · obtain rfl := Option.some.inj ho
            have q37 : ac.tmps.getD 37 undef = .pointer (some ⟨B, 0, none⟩) := hp 2 _ rfl (he _ (Array.mem_of_getElem? (i := 0) rfl) (by kernel_rfl))
            have q39 : ac.tmps.getD 39 undef = .int .i64 d' := hp 4 _ rfl (he _ (Array.mem_of_getElem? (i := 1) rfl) (by kernel_rfl))
            have hrd := hJ.1 hLi
            have hpl : (ps.length : Int) * M ≤ 1 * M := Int.mul_le_mul_of_nonneg_right (by omega) (by omega)
            clear hp he
            go_simp
            refine (hE n0 u B a len cap _ hrd (by rw [HM.out]; omega)).mono ?_
            rintro e1 u' ⟨v', e, rfl, ⟨s, rfl, hko⟩, hm, hrd', hA⟩
            rw [HM.out] at hm hrd'
            refine hK _ _ (RowR.of_aside hA) ⟨e, s, _, _, getD_put_self ac 40 _ (by show _ < ac.tmps.size; omega), hko, hm, by omega, hA.size, Nat.le_refl _⟩ (hJ.call (by show 5 < L.size; rw [hLs]; decide) (by decide) (by decide) hrd' (fun h => h.kept (fun k h1 h2 => hA.at_ h2 (by omega)) hA.size) ?_)
            rintro v'' ⟨g, c, e', s', l', h', h1, h2, h3⟩
            exact ⟨g, c, e', s', l', h', h1, h2.kept (fun k h1 h2 => hA.at_ h2 (by omega)) hA.size, h3⟩
          · obtain rfl := Option.some.inj ho
            obtain ⟨e, s, lo, hi, q40, hko, hm, h4, h5, h6⟩ := hp 5 _ rfl (he _ (Array.mem_of_getElem? (i := 0) rfl) (by kernel_rfl))
            have q40 : ac.tmps.getD 40 undef = .agg #[.int .i64 e.k, .int .i64 e.n, .int .i64 e.ak, .int .i64 e.at_, s] := q40
            have q40b : ac.tmps[40]?.getD undef = .agg #[.int .i64 e.k, .int .i64 e.n, .int .i64 e.ak, .int .i64 e.at_, s] := by rw [← q40]; exact (Array.getD_eq_getD_getElem? ..).symm
            have HZ : Hid (ac.tmps.size = 45) := hsz'
            obtain ⟨ads, cps, rfl, _, _⟩ := hko.kr.shape
            clear hp he hsz' q40
            go_simp
            have hsz' := HZ.out
            have g1 : Below u.heap.size u (u.alloc (.cells #[.int .i64 e.k, .int .i64 e.n, .int .i64 e.ak, .int .i64 e.at_, .slice ads e.kids.length cps] 27)) := (Below.refl _ _).alloc (Nat.le_refl _) _
            refine hK _ _ (RowR.of_below g1) ⟨u.heap.size, e, _, lo, hi, getD_put_self ac 41 _ (by show _ < ac.tmps.size; omega), heap_alloc_new u _, hko.under g1 h6, hm, h4, h5, h6, by simp⟩ (hJ.other (by decide) (by decide) (by decide) (fun h => h.kept g1) (fun h => h.kept g1) (fun h => h.kept (fun k _ h2 => g1.block k h2) g1.size) ?_)
            rintro v'' ⟨g, c, e', s', l', h', h1, h2, h3⟩
            exact ⟨g, c, e', s', l', h', h1, h2.kept (fun k _ h2 => g1.block k h2) g1.size, h3⟩
          · obtain rfl := Option.some.inj ho
            have q36 : ac.tmps.getD 36 undef = .slice adv nv cv := hp 1 _ rfl (he _ (Array.mem_of_getElem? (i := 0) rfl) (by kernel_rfl))
            obtain ⟨g, e, s, lo, hi, q41, hgb, hko, hm, h4, h5, h6, h7⟩ := hp 6 _ rfl (he _ (Array.mem_of_getElem? (i := 1) rfl) (by kernel_rfl))
            have q41 : ac.tmps.getD 41 undef = .slice (some ⟨g, 0, none⟩) 1 1 := q41
            have hkp := hJ.2.2.1 hLi
            clear hp he
            refine step_append_lies _ rfl (.tmp 36) (.tmp 41) 25 rfl (E + 1) 27 i0 (.agg #[.int .i64 0, .int .i64 0, .int .i64 0, .int .i64 0, .slice none 0 0]) 5 56 Try.underlying25 hi0 hz0 hz1 hz2 rfl (by decide) (.slice adv nv cv) ps.length (rowE ps) q36 hkp.own ⟨g, 0, none⟩ 1 1 [.int .i64 e.k, .int .i64 e.n, .int .i64 e.ak, .int .i64 e.at_, s] q41 rfl (World.news_of_block hgb) (by intro q hq; simp at hq; rcases hq with rfl | rfl | rfl | rfl | rfl <;> first | rfl | (obtain ⟨_, _, rfl, _, _⟩ := hko.kr.shape; rfl)) (by decide) (by unfold maxLen; omega) (by omega) (by omega) u.heap.size rfl ?_
            intro g' c' u1 hown' hgrow hat2 hlt2
            have gb := (Below.refl 0 u).grown hgrow (Nat.zero_le _) (fun _ _ => Nat.zero_le _)
            have hrow' : ∀ j, (Value.slice adv nv cv).ownBlock = some j → E + 1 ≤ j ∧ j < wr.heap.size := hrow
            have hK1 := kp_append (B := B) (wr := wr) hkp (e := e) (s := s) (lo := lo) (hi := hi) (by omega) (fun j hj => by have := (hrow' j hj).2; omega) (fun i hi => by have := (HI.out.kp.rng i hi).2.2; omega) h5 (by omega) (by omega) hko hgrow hown' hat2
            refine hK _ _ (RowR.of_grown hgrow gb.os gb.tape gb.output) trivial (hJ.app (by show 7 < L.size; rw [hLs]; decide) (by decide) (by show _ < ac.tmps.size; omega) ?_ ?_ ⟨g', c', e, s, _, _, rfl, hK1, hm⟩)
            · exact fun h => h.block hgrow.size fun k hk => hgrow.block k (by omega) fun e => by have := (hrow' k e.symm).1; omega
            · exact fun h => h.block hgrow.size fun k hk => hgrow.block k (by omega) fun e => by have := (hrow' k e.symm).1; omega
          · obtain rfl := Option.some.inj ho
            have q5 : ac.tmps.getD 5 undef = .pointer (some ⟨E, 0, none⟩) := hf.at_ 5 (by kernel_rfl)
            clear hp he
            go_simp
            exact hK _ _ (RowR.refl _ _ _) (getD_put_self ac 43 _ (by show _ < ac.tmps.size; omega)) (hJ.other (by decide) (by decide) (by decide) id id id fun _ h => h)
          · omega
        · intro L ac u hf hR0 hp hJ K' hK
          have hR : RowR B (Value.slice adv nv cv).ownBlock wr u := (RowR.of_below (Below.drew (Below.refl _ _))).trans hR0
          have hsz' : ac.tmps.size = 45 := hf.size
          have hws := HI.out.aside.size
          have hus := hR.size
          have q43 : ac.tmps.getD 43 undef = .pointer (some ⟨E, 4, none⟩) := (hp 8 _ (by decide) rfl).2
          have hrd := hJ.2.1 (hp 5 _ (by decide) rfl).1
          obtain ⟨g, c, e, s, l', h', q42, hkp, hm⟩ := hJ.2.2.2 (hp 7 _ (by decide) rfl).1
          have hF := hR.five HI.out.box (by omega) (by omega) (hne E (by omega))
          have c4 := hF.c4
          have f4 := hF.f 4
          rw [q42] at hkp
          obtain ⟨zz, hzz⟩ : ∃ zz : Nat, z = zz + 1 := ⟨z.toNat - 1, by omega⟩
          have HI2 := HI.out
          rw [show z.toNat = zz + 1 by omega] at HI2
          have hnext := HI2.next hB hR hrd hkp hm
          have HN : Hid (KidD n0 B a len cap q M w E (E + 1) K zz (u.setCell ⟨E, 4, none⟩ _) _ _ _ _) := hnext
          have m42 := q42
          have m43 := q43
          clear q42 q43 hp hJ hrd hkp hR0 hR hsz' hF hnext HI2 HI
          obtain ⟨f, ea, hfv⟩ := act_lit ac 45 hf.size
          have md : ac.defers = [] := hf.defers
          rw [md] at ea
          have m0 := hf.at_ 0 (by kernel_rfl)
          have m1 := hf.at_ 1 (by kernel_rfl)
          have m2 := hf.at_ 2 (by kernel_rfl)
          have m3 := hf.at_ 3 (by kernel_rfl)
          have m4 := hf.at_ 4 (by kernel_rfl)
          have m5 := hf.at_ 5 (by kernel_rfl)
          have m6 := hf.at_ 6 (by kernel_rfl)
          have m7 := hf.at_ 7 (by kernel_rfl)
          have m8 := hf.at_ 8 (by kernel_rfl)
          have m9 := hf.at_ 9 (by kernel_rfl)
          have m10 := hf.at_ 10 (by kernel_rfl)
          have m11 := hf.at_ 11 (by kernel_rfl)
          have m12 := hf.at_ 12 (by kernel_rfl)
          have m13 := hf.at_ 13 (by kernel_rfl)
          have m14 := hf.at_ 14 (by kernel_rfl)
          have m15 := hf.at_ 15 (by kernel_rfl)
          have m16 := hf.at_ 16 (by kernel_rfl)
          have m17 := hf.at_ 17 (by kernel_rfl)
          have m18 := hf.at_ 18 (by kernel_rfl)
          have m19 := hf.at_ 19 (by kernel_rfl)
          have m20 := hf.at_ 20 (by kernel_rfl)
          have m21 := hf.at_ 21 (by kernel_rfl)
          have m22 := hf.at_ 22 (by kernel_rfl)
          have m23 := hf.at_ 23 (by kernel_rfl)
          have m24 := hf.at_ 24 (by kernel_rfl)
          have m25 := hf.at_ 25 (by kernel_rfl)
          have m26 := hf.at_ 26 (by kernel_rfl)
          have m27 := hf.at_ 27 (by kernel_rfl)
          have m28 := hf.at_ 28 (by kernel_rfl)
          have m29 := hf.at_ 29 (by kernel_rfl)
          have m30 := hf.at_ 30 (by kernel_rfl)
          have m31 := hf.at_ 31 (by kernel_rfl)
          have m32 := hf.at_ 32 (by kernel_rfl)
          have m33 := hf.at_ 33 (by kernel_rfl)
          have m34 := hf.at_ 34 (by kernel_rfl)
          have m44 := hf.at_ 44 (by kernel_rfl)
          rw [← hfv] at m0 m1 m2 m3 m4 m5 m6 m7 m8 m9 m10 m11 m12 m13 m14 m15 m16 m17 m18 m19 m20 m21 m22 m23 m24 m25 m26 m27 m28 m29 m30 m31 m32 m33 m34 m44 m42 m43
          simp only [Array.getD_eq_getD_getElem?, List.getElem?_toArray, List.getElem?_cons_succ, List.getElem?_cons_zero, Option.getD_some] at m0 m1 m2 m3 m4 m5 m6 m7 m8 m9 m10 m11 m12 m13 m14 m15 m16 m17 m18 m19 m20 m21 m22 m23 m24 m25 m26 m27 m28 m29 m30 m31 m32 m33 m34 m44
          simp only [List.range, List.range.loop, List.map_cons, List.map_nil, m0, m1, m2, m3, m4, m5, m6, m7, m8, m9, m10, m11, m12, m13, m14, m15, m16, m17, m18, m19, m20, m21, m22, m23, m24, m25, m26, m27, m28, m29, m30, m31, m32, m33, m34, m44, m42, m43] at ea
          subst ea
          clear m0 m1 m2 m3 m4 m5 m6 m7 m8 m9 m10 m11 m12 m13 m14 m15 m16 m17 m18 m19 m20 m21 m22 m23 m24 m25 m26 m27 m28 m29 m30 m31 m32 m33 m34 m44 m42 m43 hfv md hf
          go_simp
          refine hK _ _ ?_
          clear hK
          go_wp2
          go_roundw
          case rel => exact ⟨z - 1, _, _, _, _, by go_num, by omega, by rw [show (z - 1).toNat = zz by omega]; exact HN.out⟩
          case measure => simp [intOf]; omega

theorem exprS : ∀ d, d ≤ 100 → ExprS d
  | 0, h => expr_step h fun d' e => by omega
  | d + 1, h => expr_step h fun d' e => by obtain rfl : d' = d := by omega
                                           exact exprS d' (by omega)
end Go.Proofs.Ytdhmioelmcdflaa
