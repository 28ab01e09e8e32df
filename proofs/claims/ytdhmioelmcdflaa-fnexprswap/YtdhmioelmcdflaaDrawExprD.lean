/-
  Draws of what is reckoned: l2AddrBent, l3Bent.
-/
import Derived.Test.YtdhmioelmcdflaaDrawExprC
namespace Go.Proofs.Ytdhmioelmcdflaa
open Go.ChangeShapes Go.WideShapes Go.ChangeAt Go.RowKit
set_option linter.unusedVariables false
set_option maxRecDepth 100000

theorem Pair.set0 {u : World} {B : Nat} {x y : Value} (h : Pair u B x y) (v : Value) : Pair (u.setCell ⟨B, 0, none⟩ v) B v y :=
  ⟨World.cell?_setCell_same' _ _ _ (by rw [h.c0]; rfl), by rw [cell_set_other u (.inr (by decide))]; exact h.c1, fun o => by rw [World.frozen?_setCell]; exact h.f o⟩
theorem Pair.set1 {u : World} {B : Nat} {x y : Value} (h : Pair u B x y) (v : Value) : Pair (u.setCell ⟨B, 1, none⟩ v) B x v :=
  ⟨by rw [cell_set_other u (.inr (by decide))]; exact h.c0, World.cell?_setCell_same' _ _ _ (by rw [h.c1]; rfl), fun o => by rw [World.frozen?_setCell]; exact h.f o⟩

/-- Lists of parts that can be read, in blocks of which S holds. -/
inductive KRP (w : World) (S : Nat → Prop) : Value → List ExprD → Prop
  | nil (ad : Option Go.Addr) (cap : Nat) (hc : cap ≤ maxLen) : KRP w S (.slice ad 0 cap) []
  | cons (b off cap : Nat) (es : List ExprD) (ss : Nat → Value) (h0 : es ≠ []) (h1 : es.length ≤ cap) (h2 : cap ≤ maxLen) (h3 : S b)
      (hc : ∀ i e, es[i]? = some e → Cell5 w b (off + i * 5) e (ss i)) (hk : ∀ i e, es[i]? = some e → KRP w S (ss i) e.kids) : KRP w S (.slice (some ⟨b, off, none⟩) es.length cap) es

theorem KRP.shape {w : World} {S : Nat → Prop} {v : Value} {es : List ExprD} (h : KRP w S v es) : ∃ ad cap, v = .slice ad es.length cap := by
  cases h with
  | nil ad cap hc => exact ⟨ad, cap, rfl⟩
  | cons b off cap es ss h0 h1 h2 => exact ⟨_, cap, rfl⟩
theorem KR.krp {w : World} {lo hi : Nat} {v : Value} {es : List ExprD} (h : KR w lo hi v es) {S : Nat → Prop} (hS : ∀ k, lo ≤ k → k < hi → S k) : KRP w S v es := by
  induction h with
  | nil ad cap hc => exact .nil ad cap hc
  | cons b off cap es ss h0 h1 h2 h3 h4 hc _ ih => exact .cons b off cap es ss h0 h1 h2 (hS b h3 h4) hc ih
theorem KRP.kr {w : World} {lo hi : Nat} {v : Value} {es : List ExprD} {S : Nat → Prop} (h : KRP w S v es) (hS : ∀ k, S k → lo ≤ k ∧ k < hi) : KR w lo hi v es := by
  induction h with
  | nil ad cap hc => exact .nil ad cap hc
  | cons b off cap es ss h0 h1 h2 h3 hc _ ih => exact .cons b off cap es ss h0 h1 h2 (hS b h3).1 (hS b h3).2 hc ih
theorem KRP.kept {w w' : World} {S S' : Nat → Prop} {v : Value} {es : List ExprD} (h : KRP w S v es) (hk : ∀ k, S k → w'.heap[k]? = w.heap[k]?) (hS : ∀ k, S k → S' k) : KRP w' S' v es := by
  induction h with
  | nil ad cap hc => exact .nil ad cap hc
  | cons b off cap es ss h0 h1 h2 h3 hc _ ih => exact .cons b off cap es ss h0 h1 h2 (hS b h3) (fun i e hi => (hc i e hi).kept (hk b h3)) ih

/-- Blocks from lo on that are there, but for V. -/
def Sans (lo V : Nat) (u : World) (k : Nat) : Prop := lo ≤ k ∧ k < u.heap.size ∧ k ≠ V

/-- A variable at V that holds what is reckoned; its parts lie from lo on, apart from V. -/
structure EVar (lo V : Nat) (u : World) (e : ExprD) (s : Value) : Prop where
  five : Five u V (.int .i64 e.k) (.int .i64 e.n) (.int .i64 e.ak) (.int .i64 e.at_) s
  tree : KRP u (Sans lo V u) s e.kids
  lt : V < u.heap.size

theorem EVar.aside {B lo V : Nat} {u u' : World} {e : ExprD} {s : Value} (h : EVar lo V u e s) (ha : Aside B u u') (hB : B < lo) (hV : V ≠ B) : EVar lo V u' e s :=
  ⟨h.five.aside ha h.lt hV, h.tree.kept (fun k hk => ha.at_ hk.2.1 (by have := hk.1; omega)) (fun k hk => ⟨hk.1, Nat.lt_of_lt_of_le hk.2.1 ha.size, hk.2.2⟩), Nat.lt_of_lt_of_le h.lt ha.size⟩
theorem EVar.under {lo V : Nat} {u u' : World} {e : ExprD} {s : Value} (h : EVar lo V u e s) (hb : Below u.heap.size u u') : EVar lo V u' e s :=
  ⟨h.five.under hb h.lt, h.tree.kept (fun k hk => hb.block k hk.2.1) (fun k hk => ⟨hk.1, Nat.lt_of_lt_of_le hk.2.1 hb.size, hk.2.2⟩), Nat.lt_of_lt_of_le h.lt hb.size⟩

/-- Five values are stored into the variable. -/
theorem EVar.store {lo V : Nat} {u : World} {e : ExprD} {s : Value} (h : EVar lo V u e s) (e' : ExprD) (s' : Value) (ht : KRP u (Sans lo V u) s' e'.kids) :
    ∃ u1, ((((u.setCell ⟨V, 0, none⟩ (.int .i64 e'.k)).setCell ⟨V, 1, none⟩ (.int .i64 e'.n)).setCell ⟨V, 2, none⟩ (.int .i64 e'.ak)).setCell ⟨V, 3, none⟩ (.int .i64 e'.at_)).setCell ⟨V, 4, none⟩ s' = u1 ∧ EVar lo V u1 e' s' ∧ (∀ k, k ≠ V → u1.heap[k]? = u.heap[k]?) ∧ u1.heap.size = u.heap.size ∧ Below 0 u u1 := by
  obtain ⟨u1, hu1, F1, N1, S1, B1⟩ := five_store h.five (.int .i64 e'.k) (.int .i64 e'.n) (.int .i64 e'.ak) (.int .i64 e'.at_) s'
  exact ⟨u1, hu1, ⟨F1, ht.kept (fun k hk => N1 k hk.2.2) (fun k hk => ⟨hk.1, by rw [S1]; exact hk.2.1, hk.2.2⟩), by rw [S1]; exact h.lt⟩, N1, S1, B1 0 u (Nat.zero_le _) (Below.refl _ _)⟩

theorem EVar.setK {lo V : Nat} {u : World} {e : ExprD} {s : Value} (h : EVar lo V u e s) (k : Int) : EVar lo V (u.setCell ⟨V, 0, none⟩ (.int .i64 k)) (.mk k e.n e.ak e.at_ e.kids) s :=
  ⟨h.five.set0 _, h.tree.kept (fun j hj => Below.heap_setCell _ _ _ _ (show j ≠ V from hj.2.2)) (fun j hj => ⟨hj.1, by rw [World.size_setCell]; exact hj.2.1, hj.2.2⟩), by rw [World.size_setCell]; exact h.lt⟩
theorem EVar.setN {lo V : Nat} {u : World} {e : ExprD} {s : Value} (h : EVar lo V u e s) (n : Int) : EVar lo V (u.setCell ⟨V, 1, none⟩ (.int .i64 n)) (.mk e.k n e.ak e.at_ e.kids) s :=
  ⟨h.five.set1 _, h.tree.kept (fun j hj => Below.heap_setCell _ _ _ _ (show j ≠ V from hj.2.2)) (fun j hj => ⟨hj.1, by rw [World.size_setCell]; exact hj.2.1, hj.2.2⟩), by rw [World.size_setCell]; exact h.lt⟩
theorem EVar.setA {lo V : Nat} {u : World} {e : ExprD} {s : Value} (h : EVar lo V u e s) (ak at_ : Int) : EVar lo V ((u.setCell ⟨V, 2, none⟩ (.int .i64 ak)).setCell ⟨V, 3, none⟩ (.int .i64 at_)) (.mk e.k e.n ak at_ e.kids) s :=
  ⟨(h.five.set2 _).set3 _, h.tree.kept (fun j hj => by rw [Below.heap_setCell _ _ _ _ (show j ≠ V from hj.2.2), Below.heap_setCell _ _ _ _ (show j ≠ V from hj.2.2)]) (fun j hj => ⟨hj.1, by rw [World.size_setCell, World.size_setCell]; exact hj.2.1, hj.2.2⟩), by rw [World.size_setCell, World.size_setCell]; exact h.lt⟩

/-- A list of one. -/
theorem krp_one {u : World} {S : Nat → Prop} {g : Nat} {e : ExprD} {s : Value} (hg : u.heap[g]? = some (.cells #[.int .i64 e.k, .int .i64 e.n, .int .i64 e.ak, .int .i64 e.at_, s] 27)) (hS : S g) (ht : KRP u S s e.kids) : KRP u S (.slice (some ⟨g, 0, none⟩) 1 1) [e] := by
  refine .cons g 0 1 [e] (fun _ => s) (by simp) (by simp) (by unfold maxLen; omega) hS (fun i x hx => ?_) (fun i x hx => ?_)
  · cases i with
    | zero =>
      simp at hx; subst hx
      exact ⟨by simp [World.cell?, hg], by simp [World.cell?, hg], by simp [World.cell?, hg], by simp [World.cell?, hg], by simp [World.cell?, hg]⟩
    | succ i => simp at hx
  · cases i with
    | zero => simp at hx; subst hx; exact ht
    | succ i => simp at hx

/-- A list of two. -/
theorem krp_two {u : World} {S : Nat → Prop} {g : Nat} {e f : ExprD} {s t : Value} (hg : u.heap[g]? = some (.cells #[.int .i64 e.k, .int .i64 e.n, .int .i64 e.ak, .int .i64 e.at_, s, .int .i64 f.k, .int .i64 f.n, .int .i64 f.ak, .int .i64 f.at_, t] 27)) (hS : S g) (he : KRP u S s e.kids) (hf : KRP u S t f.kids) : KRP u S (.slice (some ⟨g, 0, none⟩) 2 2) [e, f] := by
  refine .cons g 0 2 [e, f] (fun i => if i = 0 then s else t) (by simp) (by simp) (by unfold maxLen; omega) hS (fun i x hx => ?_) (fun i x hx => ?_)
  · rcases i with _ | _ | i
    · simp at hx; subst hx
      exact ⟨by simp [World.cell?, hg], by simp [World.cell?, hg], by simp [World.cell?, hg], by simp [World.cell?, hg], by simp [World.cell?, hg]⟩
    · simp at hx; subst hx
      exact ⟨by simp [World.cell?, hg], by simp [World.cell?, hg], by simp [World.cell?, hg], by simp [World.cell?, hg], by simp [World.cell?, hg]⟩
    · simp at hx
  · rcases i with _ | _ | i
    · simp at hx; subst hx; exact he
    · simp at hx; subst hx; exact hf
    · simp at hx

set_option maxHeartbeats 4000000 in
theorem l2AddrBent_any (n0 : Nat) (w : World) (B : Nat) (a : Option Addr) (len cap : Nat) (q : Int) (h : RdQ n0 B a len cap q w) (hq : q + 5 < 1000000) :
    Calls Try.prog 66 #[.pointer (some ⟨B, 0, none⟩)] w fun e w' => ∃ k t, e = .returned (.agg #[.int .i64 k, .int .i64 t]) ∧ RdQ n0 B a len cap (q + 4) w' ∧ Aside B w w' := by
  have hB := h.hi
  obtain ⟨u0, hu0, A0, R0, S0, P0⟩ : ∃ u0, w.alloc (.cells #[.int .i64 0, .int .i64 0] 24) = u0 ∧ Aside B w u0 ∧ RdQ n0 B a len cap q u0 ∧ u0.heap.size = w.heap.size + 1 ∧ Pair u0 w.heap.size (.int .i64 0) (.int .i64 0) :=
    ⟨_, rfl, aside_alloc _ _ _, h.kept ((Below.refl _ _).alloc (Nat.le_refl _) _), by simp, pair_new _ _ _ _⟩
  go_enter Try.func66, Try.ntmps66
  go_wp2_with fail
  clear hu0
  refine (l2Addr_any n0 _ B a len cap _ R0 (by omega)).mono ?_
  rintro e u1 ⟨k, t, rfl, R1, A1⟩
  have S1 := A1.size
  have P1 := P0.aside A1 (by omega) (by omega)
  have A2 := A0.trans A1
  clear A0 R0 P0 A1
  obtain ⟨u2, hu2, A3, R2, V2, P2, S2⟩ : ∃ u2, u1.alloc (.cells #[.int .i64 k, .int .i64 t] 24) = u2 ∧ Aside B w u2 ∧ RdQ n0 B a len cap (q + 2) u2 ∧ Pair u2 u1.heap.size (.int .i64 k) (.int .i64 t) ∧ Pair u2 w.heap.size (.int .i64 0) (.int .i64 0) ∧ u2.heap.size = u1.heap.size + 1 :=
    ⟨_, rfl, A2.trans (aside_alloc _ _ _), R1.kept ((Below.refl _ _).alloc (Nat.le_refl _) _), pair_new _ _ _ _, P1.aside (aside_alloc B u1 _) (by omega) (by omega), by simp⟩
  go_wp2_with fail
  clear hu2 A2 R1 P1
  refine (pickQ n0 _ B a len cap _ 16 R2 (by omega) (by omega) (by omega)).mono ?_
  rintro e u3 ⟨r, rfl, hr0, hr1, R3, A4⟩
  have S3 := A4.size
  have V3 := V2.aside A4 (by omega) (by omega)
  have P3 := P2.aside A4 (by omega) (by omega)
  have A5 := A3.trans A4
  clear A3 R2 V2 P2 A4
  have HR3 : Hid (RdQ n0 B a len cap (q + 4) u3) := R3.mono (by omega)
  by_cases h0 : r = 0
  · subst h0
    go_wp2_with fail
    refine (numQ n0 _ B a len cap _ u3.heap.size 0 3 3 (R3.kept ((Below.refl _ _).alloc (Nat.le_refl _) _)) (by omega) (by omega) (by omega) (by omega) (by exact ints_new _ _ _ _ rfl rfl)).mono ?_
    rintro e u4 ⟨x, i, rfl, _, _, R4, A6⟩
    have S4 := A6.size
    rw [World.size_alloc] at S4
    have V4 := (V3.aside (aside_alloc B u3 _) (by omega) (by omega)).aside A6 (by rw [World.size_alloc]; omega) (by omega)
    have P4 := (P3.aside (aside_alloc B u3 _) (by omega) (by omega)).aside A6 (by rw [World.size_alloc]; omega) (by omega)
    have A7 := (A5.trans (aside_alloc _ _ _)).trans A6
    clear R3 A5 A6 V3 P3
    have V5 := V4.set0 (.int .i64 x)
    have R5 : RdQ n0 B a len cap (q + 4) (u4.setCell ⟨u1.heap.size, 0, none⟩ (.int .i64 x)) := (R4.setCell (by omega) _).mono (by omega)
    have A8 : Aside B w (u4.setCell ⟨u1.heap.size, 0, none⟩ (.int .i64 x)) := A7.setNew (by omega) _
    have P5 : Pair (u4.setCell ⟨u1.heap.size, 0, none⟩ (.int .i64 x)) w.heap.size (.int .i64 0) (.int .i64 0) :=
      ⟨by rw [cell_set_other u4 (.inl (by omega))]; exact P4.c0, by rw [cell_set_other u4 (.inl (by omega))]; exact P4.c1, fun o => by rw [World.frozen?_setCell]; exact P4.f o⟩
    have f4 := V4.f 0
    have c4 := V4.c0
    clear V4 R4 A7 P4
    obtain ⟨u5, hu5⟩ : ∃ u5, u4.setCell ⟨u1.heap.size, 0, none⟩ (.int .i64 x) = u5 := ⟨_, rfl⟩
    have S5 : u5.heap.size = u4.heap.size := by rw [← hu5]; simp
    rw [hu5] at V5 R5 A8 P5
    obtain ⟨y0, y1, _⟩ := V5
    obtain ⟨c0, c1, hf⟩ := P5
    have f0 := hf 0
    have f1 := hf 1
    have HR : Hid (RdQ n0 B a len cap (q + 4) u5) := R5
    have HA : Hid (Aside B w u5) := A8
    have HP : Hid (Pair u5 w.heap.size (.int .i64 0) (.int .i64 0)) := ⟨c0, c1, hf⟩
    clear hf R5 A8
    go_wp2
    refine bodyPost_ret (v := .agg #[.int .i64 (x), .int .i64 (t)]) ?_ rfl (by
      first
        | exact ⟨_, _, rfl, (HR.out.setCell (by omega) _).setCell (by omega) _, (HA.out.setNew (Nat.le_refl _) _).setNew (Nat.le_refl _) _⟩
        | exact ⟨_, ⟨_, rfl⟩, (HR.out.setCell (by omega) _).setCell (by omega) _, (HA.out.setNew (Nat.le_refl _) _).setNew (Nat.le_refl _) _⟩)
    simp [results, Try.results66, go_sem, c0, c1]
  have e0 : (r == 0) = false := by simp [h0]
  by_cases h1 : r = 1
  · subst h1
    go_wp2_with fail
    refine (numQ n0 _ B a len cap _ u3.heap.size 0 3 3 (R3.kept ((Below.refl _ _).alloc (Nat.le_refl _) _)) (by omega) (by omega) (by omega) (by omega) (by exact ints_new _ _ _ _ rfl rfl)).mono ?_
    rintro e u4 ⟨x, i, rfl, _, _, R4, A6⟩
    have S4 := A6.size
    rw [World.size_alloc] at S4
    have V4 := (V3.aside (aside_alloc B u3 _) (by omega) (by omega)).aside A6 (by rw [World.size_alloc]; omega) (by omega)
    have P4 := (P3.aside (aside_alloc B u3 _) (by omega) (by omega)).aside A6 (by rw [World.size_alloc]; omega) (by omega)
    have A7 := (A5.trans (aside_alloc _ _ _)).trans A6
    clear R3 A5 A6 V3 P3
    have V5 := V4.set1 (.int .i64 x)
    have R5 : RdQ n0 B a len cap (q + 4) (u4.setCell ⟨u1.heap.size, 1, none⟩ (.int .i64 x)) := (R4.setCell (by omega) _).mono (by omega)
    have A8 : Aside B w (u4.setCell ⟨u1.heap.size, 1, none⟩ (.int .i64 x)) := A7.setNew (by omega) _
    have P5 : Pair (u4.setCell ⟨u1.heap.size, 1, none⟩ (.int .i64 x)) w.heap.size (.int .i64 0) (.int .i64 0) :=
      ⟨by rw [cell_set_other u4 (.inl (by omega))]; exact P4.c0, by rw [cell_set_other u4 (.inl (by omega))]; exact P4.c1, fun o => by rw [World.frozen?_setCell]; exact P4.f o⟩
    have f4 := V4.f 1
    have c4 := V4.c1
    clear V4 R4 A7 P4
    obtain ⟨u5, hu5⟩ : ∃ u5, u4.setCell ⟨u1.heap.size, 1, none⟩ (.int .i64 x) = u5 := ⟨_, rfl⟩
    have S5 : u5.heap.size = u4.heap.size := by rw [← hu5]; simp
    rw [hu5] at V5 R5 A8 P5
    obtain ⟨y0, y1, _⟩ := V5
    obtain ⟨c0, c1, hf⟩ := P5
    have f0 := hf 0
    have f1 := hf 1
    have HR : Hid (RdQ n0 B a len cap (q + 4) u5) := R5
    have HA : Hid (Aside B w u5) := A8
    have HP : Hid (Pair u5 w.heap.size (.int .i64 0) (.int .i64 0)) := ⟨c0, c1, hf⟩
    clear hf R5 A8
    go_wp2
    refine bodyPost_ret (v := .agg #[.int .i64 (k), .int .i64 (x)]) ?_ rfl (by
      first
        | exact ⟨_, _, rfl, (HR.out.setCell (by omega) _).setCell (by omega) _, (HA.out.setNew (Nat.le_refl _) _).setNew (Nat.le_refl _) _⟩
        | exact ⟨_, ⟨_, rfl⟩, (HR.out.setCell (by omega) _).setCell (by omega) _, (HA.out.setNew (Nat.le_refl _) _).setNew (Nat.le_refl _) _⟩)
    simp [results, Try.results66, go_sem, c0, c1]
  have e1 : (r == 1) = false := by simp [h1]
  clear R3 h0 h1
  have R3 := HR3.out
  obtain ⟨y0, y1, _⟩ := V3
  obtain ⟨c0, c1, hf⟩ := P3
  have f0 := hf 0
  have f1 := hf 1
  have HR : Hid (RdQ n0 B a len cap (q + 4) u3) := R3
  have HA : Hid (Aside B w u3) := A5
  have HP : Hid (Pair u3 w.heap.size (.int .i64 0) (.int .i64 0)) := ⟨c0, c1, hf⟩
  clear hf R3 A5
  go_wp2
  refine bodyPost_ret (v := .agg #[.int .i64 (k), .int .i64 (t)]) ?_ rfl (by
    first
      | exact ⟨_, _, rfl, (HR.out.setCell (by omega) _).setCell (by omega) _, (HA.out.setNew (Nat.le_refl _) _).setNew (Nat.le_refl _) _⟩
      | exact ⟨_, ⟨_, rfl⟩, (HR.out.setCell (by omega) _).setCell (by omega) _, (HA.out.setNew (Nat.le_refl _) _).setNew (Nat.le_refl _) _⟩)
  simp [results, Try.results66, go_sem, c0, c1]
end Go.Proofs.Ytdhmioelmcdflaa
