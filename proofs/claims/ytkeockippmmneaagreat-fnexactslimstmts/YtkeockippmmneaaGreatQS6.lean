import Derived.Test.YtkeockippmmneaaGreatKit
import Derived.Test.YtkeockippmmneaaGreatQS3
import Derived.Test.YtkeockippmmneaaGreatExprData
import Derived.Test.YtkeockippmmneaaGreatAddrKit
import Derived.Test.YtkeockippmmneaaGreatDag
import Derived.Test.YtkeockippmmneaaGreatQS1

/-
  Worlds in which but one row of all old blocks may have changed; variables of three cells.
-/
namespace Go.Proofs.YtkeockippmmneaaGreat
open Go.ChangeShapes Go.WideShapes Go.ChangeAt Go.RowKit
set_option linter.unusedVariables false

/-- The reader's block and the list's own row may have changed, of all old blocks. -/
structure RowR (B : Nat) (row : Option Nat) (u u' : World) : Prop where
  os : u'.os = u.os
  tape : u'.tape = u.tape
  output : u'.output = u.output
  size : u.heap.size ≤ u'.heap.size
  block : ∀ k, k < u.heap.size → k ≠ B → some k ≠ row → u'.heap[k]? = u.heap[k]?

theorem RowR.refl (B : Nat) (row : Option Nat) (u : World) : RowR B row u u := ⟨rfl, rfl, rfl, Nat.le_refl _, fun _ _ _ _ => rfl⟩
theorem RowR.trans {B : Nat} {row : Option Nat} {a b c : World} (h : RowR B row a b) (k : RowR B row b c) : RowR B row a c :=
  ⟨k.os.trans h.os, k.tape.trans h.tape, k.output.trans h.output, Nat.le_trans h.size k.size, fun i h1 h2 h3 => (k.block i (Nat.lt_of_lt_of_le h1 h.size) h2 h3).trans (h.block i h1 h2 h3)⟩
theorem RowR.of_below {B : Nat} {row : Option Nat} {u u' : World} (h : Below u.heap.size u u') : RowR B row u u' := ⟨h.os, h.tape, h.output, h.size, fun k hk _ _ => h.block k hk⟩
theorem RowR.of_grown {B : Nat} {row : Option Nat} {u u' : World} (h : u.grownBy u' row) (ho : u'.os = u.os) (ht : u'.tape = u.tape) (hp : u'.output = u.output) : RowR B row u u' := ⟨ho, ht, hp, h.size, fun k hk _ hne => h.block k hk hne⟩

/-- Of all old blocks the list's own row alone may have changed. -/
abbrev RowA (row : Option Nat) (u u' : World) : Prop := ∀ B, RowR B row u u'

theorem RowA.block {row : Option Nat} {u u' : World} (h : RowA row u u') (k : Nat) (h1 : k < u.heap.size) (h2 : some k ≠ row) : u'.heap[k]? = u.heap[k]? := (h (k + 1)).block k h1 (by omega) h2

/-- Three values in one block that may be written. -/
structure Three (u : World) (V : Nat) (x y z : Value) : Prop where
  c0 : u.cell? ⟨V, 0, none⟩ = some x
  c1 : u.cell? ⟨V, 1, none⟩ = some y
  c2 : u.cell? ⟨V, 2, none⟩ = some z
  f : ∀ o, u.frozen? ⟨V, o, none⟩ = false

theorem three_new (u : World) (x y z : Value) (t : TypeId) : Three (u.alloc (.cells #[x, y, z] t)) u.heap.size x y z :=
  ⟨World.cell?_alloc_new _ _ _ _, World.cell?_alloc_new _ _ _ _, World.cell?_alloc_new _ _ _ _, fun o => World.frozen?_alloc_new _ _ _ _⟩
theorem Three.at_ {u u' : World} {V : Nat} {x y z : Value} (h : Three u V x y z) (hk : u'.heap[V]? = u.heap[V]?) : Three u' V x y z :=
  ⟨by rw [World.cell?_of_block (w := u) hk]; exact h.c0, by rw [World.cell?_of_block (w := u) hk]; exact h.c1, by rw [World.cell?_of_block (w := u) hk]; exact h.c2, fun i => by rw [World.frozen?_of_block (w := u) hk]; exact h.f i⟩
theorem Three.set0 {u : World} {V : Nat} {x y z : Value} (h : Three u V x y z) (v : Value) : Three (u.setCell ⟨V, 0, none⟩ v) V v y z :=
  ⟨World.cell?_setCell_same' _ _ _ (by rw [h.c0]; rfl), by rw [cell_set_other u (.inr (by decide))]; exact h.c1, by rw [cell_set_other u (.inr (by decide))]; exact h.c2, fun o => by rw [World.frozen?_setCell]; exact h.f o⟩
theorem Three.set1 {u : World} {V : Nat} {x y z : Value} (h : Three u V x y z) (v : Value) : Three (u.setCell ⟨V, 1, none⟩ v) V x v z :=
  ⟨by rw [cell_set_other u (.inr (by decide))]; exact h.c0, World.cell?_setCell_same' _ _ _ (by rw [h.c1]; rfl), by rw [cell_set_other u (.inr (by decide))]; exact h.c2, fun o => by rw [World.frozen?_setCell]; exact h.f o⟩
theorem Three.set2 {u : World} {V : Nat} {x y z : Value} (h : Three u V x y z) (v : Value) : Three (u.setCell ⟨V, 2, none⟩ v) V x y v :=
  ⟨by rw [cell_set_other u (.inr (by decide))]; exact h.c0, by rw [cell_set_other u (.inr (by decide))]; exact h.c1, World.cell?_setCell_same' _ _ _ (by rw [h.c2]; rfl), fun o => by rw [World.frozen?_setCell]; exact h.f o⟩

theorem three_store {u : World} {R : Nat} {a b c : Value} (h : Three u R a b c) (x y z : Value) :
    ∃ u1, ((u.setCell ⟨R, 0, none⟩ x).setCell ⟨R, 1, none⟩ y).setCell ⟨R, 2, none⟩ z = u1 ∧ Three u1 R x y z ∧ (∀ k, k ≠ R → u1.heap[k]? = u.heap[k]?) ∧ u1.heap.size = u.heap.size ∧ Below R u u1 :=
  ⟨_, rfl, ((h.set0 _).set1 _).set2 _, fun k hk => by rw [Below.heap_setCell _ _ _ _ hk, Below.heap_setCell _ _ _ _ hk, Below.heap_setCell _ _ _ _ hk], by simp, (((Below.refl _ _).setCell (p := ⟨R, 0, none⟩) (Nat.le_refl _) _).setCell (p := ⟨R, 1, none⟩) (Nat.le_refl _) _).setCell (p := ⟨R, 2, none⟩) (Nat.le_refl _) _⟩
end Go.Proofs.YtkeockippmmneaaGreat

/-
  Chapter 10: what is read, what may be set, as data; both sides' way through a tree comes to the same.
-/
namespace Go.Proofs.YtkeockippmmneaaGreat
open Go.RowKit
set_option linter.unusedVariables false

/-- A part is by itself what is at a place. -/
def readB (k t : Int) (e : ExprD) : Bool := (e.k == 2) && ((e.ak == k) && (e.at_ == t))

mutual
/-- The model's way: a part that is a place is asked, others' kids are. -/
def rdE (k t : Int) : ExprD → Bool
  | .mk j _ a i ks => if j = 2 then (a == k) && (i == t) else rdL k t ks
def rdL (k t : Int) : List ExprD → Bool
  | [] => false
  | e :: es => rdE k t e || rdL k t es
end

theorem rdE_eq (k t : Int) (e : ExprD) : rdE k t e = if e.k = 2 then (e.ak == k) && (e.at_ == t) else rdL k t e.kids := by cases e; rw [rdE]; rfl

theorem rdL_any (k t : Int) (es : List ExprD) : rdL k t es = es.any (rdE k t) := by
  induction es with
  | nil => rw [rdL]; rfl
  | cons e es ih => rw [rdL, ih]; rfl

theorem rdL_take_succ {k t : Int} {es : List ExprD} {i : Nat} {e : ExprD} (h : es[i]? = some e) : rdL k t (es.take (i + 1)) = (rdL k t (es.take i) || rdE k t e) := by
  rw [rdL_any, rdL_any, List.take_add_one, h, List.any_append]
  simp

theorem rdL_at {k t : Int} {es : List ExprD} {i : Nat} {e : ExprD} (h : es[i]? = some e) (hr : rdE k t e = true) : rdL k t es = true := by
  rw [rdL_any, List.any_eq_true]
  exact ⟨e, List.mem_of_getElem? h, hr⟩

def slimReads (e : ExprD) (k t : Int) : Bool := exprOk e && rdE k t e

theorem preL_any (p : ExprD × Int → Bool) (d : Int) (es : List ExprD) : (preL d es).any p = es.any fun e => (preE d e).any p := by
  induction es with
  | nil => rw [preL]; rfl
  | cons e es ih => rw [preL, List.any_append, ih]; rfl

theorem rd_pre (k t : Int) : ∀ (d : Nat) (c : Int) (e : ExprD), formE d e = true → rdE k t e = (preE c e).any fun x => readB k t x.1
  | 0, c, e, h => by rw [formE] at h; cases h
  | d + 1, c, e, h => by
    rw [formE_succ, Bool.and_eq_true, List.all_eq_true] at h
    rw [rdE_eq, preE_eq, List.any_cons, preL_any]
    by_cases h2 : e.k = 2
    · have hp := h.1
      unfold partB at hp
      have hk : kidsOf e.k = 0 := by rw [h2]; rfl
      rw [hk, Bool.and_eq_true, Bool.and_eq_true, beq_iff_eq] at hp
      have hn : e.kids = [] := List.eq_nil_of_length_eq_zero (by omega)
      rw [if_pos h2, hn]
      unfold readB
      simp [h2]
    · rw [if_neg h2, rdL_any]
      have hr : readB k t (e, c).1 = false := by unfold readB; simp [h2]
      rw [hr, Bool.false_or]
      have : ∀ es : List ExprD, (∀ x, x ∈ es → formE d x = true) → es.any (rdE k t) = es.any fun x => (preE (wrap64 (c + 1)) x).any fun x => readB k t x.1 := by
        intro es
        induction es with
        | nil => intro _; rfl
        | cons x xs ih => intro hx; rw [List.any_cons, List.any_cons, ih fun y hy => hx y (.tail _ hy), rd_pre k t d _ x (hx x (.head _))]
      exact this e.kids h.2

theorem slimReads_pre {e : ExprD} (h : exprOk e = true) (k t : Int) : slimReads e k t = (preE 0 e).any fun x => readB k t x.1 := by
  unfold slimReads
  rw [h, Bool.true_and]
  unfold exprOk at h
  rw [Bool.and_eq_true] at h
  exact rd_pre k t 6 0 e h.1
end Go.Proofs.YtkeockippmmneaaGreat

/-
  szExpr, szExprS: the laws' helpers that count parts.
-/
namespace Go.Proofs.YtkeockippmmneaaGreat
open Go.ChangeShapes Go.WideShapes Go.ChangeAt Go.RowKit
set_option linter.unusedVariables false

theorem many_rest (es : List ExprD) (j : Nat) (hj : j ≤ es.length) : manyL (es.take j) + (es.length - j) ≤ manyL es := by
  have h := manyL_append (es.take j) (es.drop j)
  rw [List.take_append_drop] at h
  have h2 := length_le_manyL (es.drop j)
  rw [List.length_drop] at h2
  omega

theorem take_le_many (es : List ExprD) (j : Nat) (hj : j ≤ es.length) : j ≤ manyL (es.take j) := by
  have h2 := length_le_manyL (es.take j)
  rw [List.length_take] at h2
  omega

/-- What szExprS answers of lists of at most n parts. -/
def SzS (n : Nat) : Prop := ∀ (w : World) (lo hi : Nat) (v : Value) (es : List ExprD) (left : Int), manyL es ≤ n → KR w lo hi v es → hi ≤ w.heap.size → 0 ≤ left → left ≤ 1048576 →
  Calls Tryz.prog 37 #[v, .int .i64 left] w fun e w' => e = .returned (.int .i64 (if left < manyL es then -1 else left - manyL es)) ∧ Below w.heap.size w w'

theorem szExpr_of {n : Nat} (H : SzS n) (w : World) (lo hi : Nat) (k m a t : Int) (s : Value) (es : List ExprD) (left : Int) (hn : manyL es ≤ n) (h : KR w lo hi s es) (hhi : hi ≤ w.heap.size) (h1 : 0 ≤ left) (h2 : left ≤ 1048576) :
    Calls Tryz.prog 21 #[.agg #[.int .i64 k, .int .i64 m, .int .i64 a, .int .i64 t, s], .int .i64 left] w fun e w' => e = .returned (.int .i64 (if left < manyL es then -1 else left - manyL es)) ∧ Below w.heap.size w w' := by
  have b1 := fun o => (Below.refl w.heap.size w).alloc (Nat.le_refl _) o
  by_cases hl : left < manyL es
  · rw [if_pos hl]
    go_enter Tryz.func21, Tryz.ntmps21
    go_wp2_with fail
    refine (H _ lo hi s es left hn (h.under (b1 _) hhi) (by simp; omega) h1 h2).mono ?_
    rw [if_pos hl]
    rintro e w1 ⟨rfl, g1⟩
    have G1 := below_two (b1 _) g1
    clear g1 h
    go_wp2
    go_ret
    exact ⟨rfl, G1⟩
  · rw [if_neg hl]
    go_enter Tryz.func21, Tryz.ntmps21
    go_wp2_with fail
    refine (H _ lo hi s es left hn (h.under (b1 _) hhi) (by simp; omega) h1 h2).mono ?_
    rw [if_neg (by omega)]
    rintro e w1 ⟨rfl, g1⟩
    have G1 := below_two (b1 _) g1
    have hp : ¬ (left - (manyL es : Int) < 0) := by omega
    clear g1 h
    go_wp2
    go_ret
    exact ⟨rfl, G1⟩

set_option maxHeartbeats 1000000 in
theorem szExprS_step {n : Nat} (H : ∀ m, m < n → SzS m) : SzS n := by
  intro w lo hi v es left hn h hhi h1 h2
  obtain ⟨ad, cap, rfl, hc1, hc2⟩ := h.shape
  have hmx : es.length ≤ 9223372036854775807 := by unfold maxLen at hc2; omega
  have hlm := length_le_manyL es
  obtain ⟨r, hr0⟩ : ∃ r : Int, (if left < (manyL es : Int) then -1 else left - (manyL es : Int)) = r := ⟨_, rfl⟩
  rw [hr0]
  have HA : Hid ((if left < (manyL es : Int) then -1 else left - (manyL es : Int)) = r) := hr0
  clear hr0
  by_cases hl : left - es.length < 0
  · obtain rfl : r = -1 := by have := HA.out; rw [if_pos (by omega)] at this; exact this.symm
    clear HA
    have HK : Hid (KR w lo hi (.slice ad es.length cap) es) := h
    clear h
    go_enter Tryz.func37, Tryz.ntmps37
    go_wp2
    go_ret
    exact ⟨rfl, Below.refl _ _⟩
  · have HK : Hid (KR w lo hi (.slice ad es.length cap) es) := h
    have HM : Hid (es.length ≤ manyL es) := hlm
    clear h hlm
    go_enter Tryz.func37, Tryz.ntmps37
    go_wp2_with fail
    go_loopw [1, 5] (fun l i wr => ∃ j : Nat, j ≤ es.length ∧ l = .int .i64 (left - es.length - (manyL (es.take j) - j)) ∧ 0 ≤ left - es.length - ((manyL (es.take j) : Int) - j) ∧ i = .int .i64 j ∧ Below w.heap.size w wr) (fun _ i _ => es.length - (intOf i).toNat)
    case atStart => exact ⟨0, Nat.zero_le _, by simp [manyL], by simp [manyL]; omega, rfl, Below.refl _ _⟩
    case round =>
      obtain ⟨j, hj, rfl, hnn, rfl, hb⟩ := hrel
      by_cases hlt : j < es.length
      · obtain ⟨e, he⟩ : ∃ e, es[j]? = some e := ⟨es[j], List.getElem?_eq_getElem hlt⟩
        obtain ⟨b, off, cap', s, hv, hb1, hb2, h5, hk⟩ := HK.out.at_ he
        simp only [Value.slice.injEq, true_and] at hv
        obtain ⟨rfl, rfl⟩ := hv
        obtain ⟨c0, c1, c2, c3, c4⟩ := h5
        have hkl := kid_lt he
        have hsuc := manyL_take_succ he
        have hrest := many_rest es (j + 1) hlt
        have hE := manyE_eq e
        have htk := take_le_many es j hj
        obtain ⟨q, hq⟩ : ∃ q : Int, left - es.length - ((manyL (es.take j) : Int) - j) = q := ⟨_, rfl⟩
        rw [hq] at hnn ⊢
        have hz := szExpr_of (n := manyL e.kids) (H _ (by omega)) wr lo hi e.k e.n e.ak e.at_ s e.kids q (Nat.le_refl _) (hk.under hb hhi) (Nat.le_trans hhi hb.size) hnn (by omega)
        rw [← hb.cell (p := ⟨b, off + j * 5, none⟩) (by show b < _; omega)] at c0
        rw [← hb.cell (p := ⟨b, off + j * 5 + 1, none⟩) (by show b < _; omega)] at c1
        rw [← hb.cell (p := ⟨b, off + j * 5 + 2, none⟩) (by show b < _; omega)] at c2
        rw [← hb.cell (p := ⟨b, off + j * 5 + 3, none⟩) (by show b < _; omega)] at c3
        rw [← hb.cell (p := ⟨b, off + j * 5 + 4, none⟩) (by show b < _; omega)] at c4
        clear hk
        by_cases hr : q < manyL e.kids
        · rw [if_pos hr] at hz
          have HR : Hid (left < manyL es) := by show left < (manyL es : Int); omega
          clear hsuc hrest hE htk hkl hq
          go_wp2_with fail
          refine hz.mono ?_
          rintro e1 w1 ⟨rfl, g1⟩
          have G1 := hb.trans (g1.mono hb.size)
          clear g1 c0 c1 c2 c3 c4
          go_wp2
          go_ret
          exact ⟨ret_int (by have := HA.out; rw [if_pos HR.out] at this; exact this), G1⟩
        · rw [if_neg hr] at hz
          have HQ : Hid (q - manyL e.kids = left - es.length - ((manyL (es.take (j + 1)) : Int) - ((j + 1 : Nat) : Int))) := by show q - (manyL e.kids : Int) = _; omega
          have hr' : ¬ (q - (manyL e.kids : Int) < 0) := by omega
          clear hsuc hrest hE htk hkl hq
          go_wp2_with fail
          refine hz.mono ?_
          rintro e1 w1 ⟨rfl, g1⟩
          have G1 := hb.trans (g1.mono hb.size)
          clear g1 c0 c1 c2 c3 c4
          go_wp2
          go_roundw
          case rel => exact ⟨j + 1, by omega, by rw [HQ.out], by rw [← HQ.out]; omega, by go_num, G1⟩
          case measure => simp [intOf]; omega
      · obtain rfl : j = es.length := by omega
        rw [List.take_length] at hnn ⊢
        have HR : Hid (left - es.length - ((manyL es : Int) - es.length) = r) := by show _ = _; rw [← HA.out, if_neg (by omega)]; omega
        obtain ⟨q, hq⟩ : ∃ q : Int, left - es.length - ((manyL es : Int) - es.length) = q := ⟨_, rfl⟩
        rw [hq] at HR hnn ⊢
        clear hq
        go_wp2
        go_ret
        exact ⟨ret_int HR.out, hb⟩

theorem szS (n : Nat) : SzS n := by
  induction n using Nat.strongRecOn with
  | ind n ih => exact szExprS_step ih

theorem szExpr_any (w : World) (lo hi : Nat) (v : Value) (e : ExprD) (left : Int) (h : ER w lo hi v e) (hhi : hi ≤ w.heap.size) (h1 : 0 ≤ left) (h2 : left ≤ 1048576) :
    Calls Tryz.prog 21 #[v, .int .i64 left] w fun en w' => en = .returned (.int .i64 (if left < manyL e.kids then -1 else left - manyL e.kids)) ∧ Below w.heap.size w w' := by
  obtain ⟨s, rfl, hk⟩ := h
  exact szExpr_of (szS _) w lo hi _ _ _ _ s e.kids left (Nat.le_refl _) hk hhi h1 h2
end Go.Proofs.YtkeockippmmneaaGreat

/-
  eqExpr, eqExprS: the laws' helpers that compare.
-/
namespace Go.Proofs.YtkeockippmmneaaGreat
open Go.ChangeShapes Go.WideShapes Go.ChangeAt Go.RowKit
set_option linter.unusedVariables false

theorem exprD_eq {x y : ExprD} : x = y ↔ x.k = y.k ∧ x.n = y.n ∧ x.ak = y.ak ∧ x.at_ = y.at_ ∧ x.kids = y.kids := by
  cases x; cases y; simp [ExprD.k, ExprD.n, ExprD.ak, ExprD.at_, ExprD.kids]

/-- What eqExprS answers of lists of which the first has at most n parts. -/
def EqS (n : Nat) : Prop := ∀ (w : World) (lo hi lo' hi' : Nat) (v v' : Value) (es es' : List ExprD), manyL es ≤ n → KR w lo hi v es → KR w lo' hi' v' es' → hi ≤ w.heap.size → hi' ≤ w.heap.size →
  Calls Tryz.prog 55 #[v, v'] w fun e w' => ∃ r : Bool, e = .returned (.bool r) ∧ (r = true ↔ es = es') ∧ Below w.heap.size w w'

set_option maxHeartbeats 1000000 in
theorem eqExpr_of {n : Nat} (H : EqS n) (w : World) (lo hi lo' hi' : Nat) (x y : ExprD) (s s' : Value) (hn : manyL x.kids ≤ n) (h : KR w lo hi s x.kids) (h' : KR w lo' hi' s' y.kids) (hhi : hi ≤ w.heap.size) (hhi' : hi' ≤ w.heap.size) :
    Calls Tryz.prog 36 #[.agg #[.int .i64 x.k, .int .i64 x.n, .int .i64 x.ak, .int .i64 x.at_, s], .agg #[.int .i64 y.k, .int .i64 y.n, .int .i64 y.ak, .int .i64 y.at_, s']] w fun e w' => ∃ r : Bool, e = .returned (.bool r) ∧ (r = true ↔ x = y) ∧ Below w.heap.size w w' := by
  have b2 := fun o o' => ((Below.refl w.heap.size w).alloc (Nat.le_refl _) o).alloc (by simp) o'
  have HX : Hid (x = y ↔ x.k = y.k ∧ x.n = y.n ∧ x.ak = y.ak ∧ x.at_ = y.at_ ∧ x.kids = y.kids) := exprD_eq
  obtain ⟨ad, cap, rfl, _, _⟩ := h.shape
  obtain ⟨ad', cap', rfl, _, _⟩ := h'.shape
  obtain ⟨k1, e1⟩ : ∃ q, x.k = q := ⟨_, rfl⟩
  obtain ⟨n1, e2⟩ : ∃ q, x.n = q := ⟨_, rfl⟩
  obtain ⟨a1, e3⟩ : ∃ q, x.ak = q := ⟨_, rfl⟩
  obtain ⟨t1, e4⟩ : ∃ q, x.at_ = q := ⟨_, rfl⟩
  obtain ⟨k2, d1⟩ : ∃ q, y.k = q := ⟨_, rfl⟩
  obtain ⟨n2, d2⟩ : ∃ q, y.n = q := ⟨_, rfl⟩
  obtain ⟨a2, d3⟩ : ∃ q, y.ak = q := ⟨_, rfl⟩
  obtain ⟨t2, d4⟩ : ∃ q, y.at_ = q := ⟨_, rfl⟩
  rw [e1, e2, e3, e4, d1, d2, d3, d4] at HX
  rw [e1, e2, e3, e4, d1, d2, d3, d4]
  clear e1 e2 e3 e4 d1 d2 d3 d4
  have HK := And.intro h h'
  have HK : Hid (KR w lo hi (.slice ad x.kids.length cap) x.kids ∧ KR w lo' hi' (.slice ad' y.kids.length cap') y.kids) := HK
  clear h h'
  by_cases q1 : k1 = k2
  · have q1' : (k1 != k2) = false := by simp [q1]
    by_cases q2 : n1 = n2
    · have q2' : (n1 != n2) = false := by simp [q2]
      have Q12 : Hid (k1 = k2 ∧ n1 = n2) := ⟨q1, q2⟩
      clear q1 q2
      go_enter Tryz.func36, Tryz.ntmps36
      go_wp2_with fail
      obtain ⟨u0, hu0, G0, c0, c1, S0⟩ : ∃ u0, (w.alloc (.cells #[.int .i64 k1, .int .i64 n1, .int .i64 a1, .int .i64 t1, .slice ad x.kids.length cap] 42)).alloc (.cells #[.int .i64 k2, .int .i64 n2, .int .i64 a2, .int .i64 t2, .slice ad' y.kids.length cap'] 42) = u0 ∧ Below w.heap.size w u0 ∧ u0.cell? ⟨w.heap.size, 4, none⟩ = some (.slice ad x.kids.length cap) ∧ u0.cell? ⟨w.heap.size + 1, 4, none⟩ = some (.slice ad' y.kids.length cap') ∧ u0.heap.size = w.heap.size + 2 :=
        ⟨_, rfl, b2 _ _, World.cell?_alloc2_first _ _ _ _, World.cell?_alloc2_new _ _ _ _, by simp⟩
      rw [hu0]
      clear hu0
      refine (eqAddr_any _ ⟨a1, t1⟩ ⟨a2, t2⟩).mono ?_
      by_cases q3 : (⟨a1, t1⟩ : AddrD) = ⟨a2, t2⟩
      · rw [decide_eq_true q3]
        rintro e1 u1 ⟨rfl, g1⟩
        have S1 := g1.size
        have G1 := G0.trans (g1.mono (by omega))
        rw [← g1.cell (p := ⟨w.heap.size, 4, none⟩) (by show w.heap.size < u0.heap.size; omega)] at c0
        rw [← g1.cell (p := ⟨w.heap.size + 1, 4, none⟩) (by show w.heap.size + 1 < u0.heap.size; omega)] at c1
        have Q3 : Hid (a1 = a2 ∧ t1 = t2) := by simp at q3; exact q3
        clear g1 G0 q3
        go_wp2_with fail
        refine (H _ lo hi lo' hi' _ _ x.kids y.kids hn (HK.out.1.under G1 hhi) (HK.out.2.under G1 hhi') (by omega) (by omega)).mono ?_
        rintro e2 u2 ⟨r, rfl, hr, g2⟩
        have G2 := G1.trans (g2.mono (by omega))
        have HR : Hid (r = true ↔ x.kids = y.kids) := hr
        clear g2 hr G1 c0 c1
        have hfin : (r = true ↔ x = y) := by
          rw [HR.out, HX.out]
          exact ⟨fun h => ⟨Q12.out.1, Q12.out.2, Q3.out.1, Q3.out.2, h⟩, fun h => h.2.2.2.2⟩
        have HF : Hid (r = true ↔ x = y) := hfin
        clear hfin
        cases r with
        | true =>
          go_wp2
          go_ret
          exact ⟨true, rfl, by simpa using HF.out, G2⟩
        | false =>
          go_wp2
          go_ret
          exact ⟨false, rfl, HF.out, G2⟩
      · rw [decide_eq_false q3]
        rintro e1 u1 ⟨rfl, g1⟩
        have G1 := G0.trans (g1.mono (by omega))
        have HF : Hid (false = true ↔ x = y) := by show _ ↔ _; rw [HX.out]; simp at q3 ⊢; intro _ _ h1 h2; exact absurd h2 (q3 h1)
        clear g1 G0 q3 c0 c1
        go_wp2
        go_ret
        exact ⟨false, rfl, HF.out, G1⟩
    · have q2' : (n1 != n2) = true := by simp [q2]
      have HF : Hid (false = true ↔ x = y) := by show _ ↔ _; rw [HX.out]; simp; intro _ h; exact absurd h q2
      clear q1 q2
      go_enter Tryz.func36, Tryz.ntmps36
      go_wp2
      go_ret
      exact ⟨false, rfl, HF.out, b2 _ _⟩
  · have q1' : (k1 != k2) = true := by simp [q1]
    have HF : Hid (false = true ↔ x = y) := by show _ ↔ _; rw [HX.out]; simp; intro h; exact absurd h q1
    clear q1
    go_enter Tryz.func36, Tryz.ntmps36
    go_wp2
    go_ret
    exact ⟨false, rfl, HF.out, b2 _ _⟩

theorem take_succ_eq {xs ys : List ExprD} {j : Nat} {x y : ExprD} (h : xs.take j = ys.take j) (hx : xs[j]? = some x) (hy : ys[j]? = some y) (e : x = y) : xs.take (j + 1) = ys.take (j + 1) := by
  rw [List.take_add_one, List.take_add_one, h, hx, hy, e]

theorem ne_at_expr {xs ys : List ExprD} {j : Nat} {x y : ExprD} (hx : xs[j]? = some x) (hy : ys[j]? = some y) (e : x ≠ y) : xs ≠ ys := by
  intro h; rw [h, hy] at hx; exact e (Option.some.inj hx).symm

set_option maxHeartbeats 2000000 in
theorem eqExprS_step {n : Nat} (H : ∀ m, m < n → EqS m) : EqS n := by
  intro w lo hi lo' hi' v v' es es' hn h h' hhi hhi'
  obtain ⟨ad, cap, rfl, hc1, hc2⟩ := h.shape
  obtain ⟨ad', cap', rfl, hd1, hd2⟩ := h'.shape
  have hmx : es.length ≤ 9223372036854775807 := by unfold maxLen at hc2; omega
  have hmx' : es'.length ≤ 9223372036854775807 := by unfold maxLen at hd2; omega
  have HK : Hid (KR w lo hi (.slice ad es.length cap) es) := h
  have HK' : Hid (KR w lo' hi' (.slice ad' es'.length cap') es') := h'
  clear h h' hc1 hc2 hd1 hd2
  by_cases hl : es.length = es'.length
  · have hl2 : ((es.length : Int) != (es'.length : Int)) = false := by simp; omega
    have HL : Hid (es.length = es'.length) := hl
    clear hl
    go_enter Tryz.func55, Tryz.ntmps55
    go_wp2_with fail
    go_loopw [5] (fun i wr => ∃ j : Nat, j ≤ es.length ∧ i = .int .i64 j ∧ Below w.heap.size w wr ∧ es.take j = es'.take j) (fun i _ => es.length - (intOf i).toNat)
    case atStart => exact ⟨0, Nat.zero_le _, rfl, Below.refl _ _, rfl⟩
    case round =>
      obtain ⟨j, hj, rfl, hb, ht⟩ := hrel
      have HT : Hid (es.take j = es'.take j) := ht
      clear ht
      by_cases hlt : j < es.length
      · obtain ⟨x, hx⟩ : ∃ x, es[j]? = some x := ⟨es[j], List.getElem?_eq_getElem hlt⟩
        have hlt' : j < es'.length := by rw [← HL.out]; exact hlt
        obtain ⟨y, hy⟩ : ∃ y, es'[j]? = some y := ⟨es'[j]'hlt', List.getElem?_eq_getElem hlt'⟩
        obtain ⟨b, off, cap1, s, hv, hb1, hb2, h5, hk⟩ := HK.out.at_ hx
        obtain ⟨b', off', cap1', s', hv', hb1', hb2', h5', hk'⟩ := HK'.out.at_ hy
        simp only [Value.slice.injEq, true_and] at hv hv'
        obtain ⟨rfl, rfl⟩ := hv
        obtain ⟨rfl, rfl⟩ := hv'
        have hkl := kid_lt hx
        have hsz := hb.size
        have HX : Hid (es[j]? = some x ∧ es'[j]? = some y) := ⟨hx, hy⟩
        clear hx hy
        obtain ⟨ads, cps, rfl, _, _⟩ := hk.shape
        obtain ⟨ads', cps', rfl, _, _⟩ := hk'.shape
        go_wp2_with fail
        refine wp_region_dag (R := Grow) (Φ := fun i v u => match i with
            | 0 => v = .slice (some ⟨b, off, none⟩) es.length cap
            | 1 => v = .int .i64 j
            | 2 => v = .pointer (some ⟨b, off + j * 5, none⟩)
            | 3 => v = .agg #[.int .i64 x.k, .int .i64 x.n, .int .i64 x.ak, .int .i64 x.at_, .slice ads x.kids.length cps]
            | 4 => v = .slice (some ⟨b', off', none⟩) es'.length cap'
            | 5 => v = .int .i64 j
            | 6 => v = .pointer (some ⟨b', off' + j * 5, none⟩)
            | 7 => v = .agg #[.int .i64 y.k, .int .i64 y.n, .int .i64 y.ak, .int .i64 y.at_, .slice ads' y.kids.length cps']
            | 8 => ∃ r : Bool, v = .bool r ∧ (r = true ↔ x = y)
            | 9 => ∃ r : Bool, v = .bool (!r) ∧ (r = true ↔ x = y)
            | _ => True) (by kernel_rfl) (by kernel_rfl) (by kernel_rfl) (Below.refl _ _) grow_trans ?_ ?_ ?_
        · intro i v u u' hr
          match i with
          | 0 | 1 | 2 | 3 | 4 | 5 | 6 | 7 | 8 | 9 | _ + 10 => exact fun h => h
        · intro i o ho a u hf hR0 he K' hK
          have hR : Grow wr u := (Below.drew (Below.refl _ _)).trans hR0
          have hRw : Below w.heap.size w u := hb.trans (hR.mono hsz)
          have hsz' : a.tmps.size = 27 := hf.size
          have hus : wr.heap.size ≤ u.heap.size := hR.size
          have putat : ∀ (t : Nat) (v : Value), t < a.tmps.size → (a.put (some t) v).tmps.getD t undef = v := fun t v ht => by
            show (a.tmps.setIfInBounds t v).getD t undef = v
            simp [ht]
          rcases i with _ | _ | _ | _ | _ | _ | _ | _ | _ | _ | i
          · obtain rfl := Option.some.inj ho
            have f1 : a.tmps.getD 0 undef = .slice (some ⟨b, off, none⟩) es.length cap := hf.at_ 0 (by kernel_rfl)
            clear he
            go_simp
            exact hK _ _ (Below.refl _ _) (putat 17 _ (by omega))
          · obtain rfl := Option.some.inj ho
            have f1 : a.tmps.getD 5 undef = .int .i64 j := hf.at_ 5 (by kernel_rfl)
            clear he
            go_simp
            exact hK _ _ (Below.refl _ _) (putat 18 _ (by omega))
          · obtain rfl := Option.some.inj ho
            have f1 : a.tmps.getD 17 undef = .slice (some ⟨b, off, none⟩) es.length cap := he _ (Array.mem_of_getElem? (i := 0) rfl) (by kernel_rfl) _ rfl
            have f2 : a.tmps.getD 18 undef = .int .i64 j := he _ (Array.mem_of_getElem? (i := 1) rfl) (by kernel_rfl) _ rfl
            clear he
            go_simp
            exact hK _ _ (Below.refl _ _) (putat 19 _ (by omega))
          · obtain rfl := Option.some.inj ho
            have f1 : a.tmps.getD 19 undef = .pointer (some ⟨b, off + j * 5, none⟩) := he _ (Array.mem_of_getElem? (i := 0) rfl) (by kernel_rfl) _ rfl
            obtain ⟨c0, c1, c2, c3, c4⟩ := h5
            rw [← hRw.cell (p := ⟨b, off + j * 5, none⟩) (by show b < _; omega)] at c0
            rw [← hRw.cell (p := ⟨b, off + j * 5 + 1, none⟩) (by show b < _; omega)] at c1
            rw [← hRw.cell (p := ⟨b, off + j * 5 + 2, none⟩) (by show b < _; omega)] at c2
            rw [← hRw.cell (p := ⟨b, off + j * 5 + 3, none⟩) (by show b < _; omega)] at c3
            rw [← hRw.cell (p := ⟨b, off + j * 5 + 4, none⟩) (by show b < _; omega)] at c4
            clear he
            go_simp
            exact hK _ _ (Below.refl _ _) (putat 20 _ (by omega))
          · obtain rfl := Option.some.inj ho
            have f1 : a.tmps.getD 1 undef = .slice (some ⟨b', off', none⟩) es'.length cap' := hf.at_ 1 (by kernel_rfl)
            clear he
            go_simp
            exact hK _ _ (Below.refl _ _) (putat 21 _ (by omega))
          · obtain rfl := Option.some.inj ho
            have f1 : a.tmps.getD 5 undef = .int .i64 j := hf.at_ 5 (by kernel_rfl)
            clear he
            go_simp
            exact hK _ _ (Below.refl _ _) (putat 22 _ (by omega))
          · obtain rfl := Option.some.inj ho
            have f1 : a.tmps.getD 21 undef = .slice (some ⟨b', off', none⟩) es'.length cap' := he _ (Array.mem_of_getElem? (i := 0) rfl) (by kernel_rfl) _ rfl
            have f2 : a.tmps.getD 22 undef = .int .i64 j := he _ (Array.mem_of_getElem? (i := 1) rfl) (by kernel_rfl) _ rfl
            clear he
            go_simp
            exact hK _ _ (Below.refl _ _) (putat 23 _ (by omega))
          · obtain rfl := Option.some.inj ho
            have f1 : a.tmps.getD 23 undef = .pointer (some ⟨b', off' + j * 5, none⟩) := he _ (Array.mem_of_getElem? (i := 0) rfl) (by kernel_rfl) _ rfl
            obtain ⟨c0, c1, c2, c3, c4⟩ := h5'
            rw [← hRw.cell (p := ⟨b', off' + j * 5, none⟩) (by show b' < _; omega)] at c0
            rw [← hRw.cell (p := ⟨b', off' + j * 5 + 1, none⟩) (by show b' < _; omega)] at c1
            rw [← hRw.cell (p := ⟨b', off' + j * 5 + 2, none⟩) (by show b' < _; omega)] at c2
            rw [← hRw.cell (p := ⟨b', off' + j * 5 + 3, none⟩) (by show b' < _; omega)] at c3
            rw [← hRw.cell (p := ⟨b', off' + j * 5 + 4, none⟩) (by show b' < _; omega)] at c4
            clear he
            go_simp
            exact hK _ _ (Below.refl _ _) (putat 24 _ (by omega))
          · obtain rfl := Option.some.inj ho
            have f1 : a.tmps.getD 20 undef = .agg #[.int .i64 x.k, .int .i64 x.n, .int .i64 x.ak, .int .i64 x.at_, .slice ads x.kids.length cps] := he _ (Array.mem_of_getElem? (i := 0) rfl) (by kernel_rfl) _ rfl
            have f2 : a.tmps.getD 24 undef = .agg #[.int .i64 y.k, .int .i64 y.n, .int .i64 y.ak, .int .i64 y.at_, .slice ads' y.kids.length cps'] := he _ (Array.mem_of_getElem? (i := 1) rfl) (by kernel_rfl) _ rfl
            clear he
            go_simp
            refine (eqExpr_of (n := manyL x.kids) (H _ (by omega)) u lo hi lo' hi' x y _ _ (Nat.le_refl _) (hk.under hRw hhi) (hk'.under hRw hhi') (by omega) (by omega)).mono ?_
            rintro e u' ⟨r, rfl, hr, hbu⟩
            exact hK _ _ hbu ⟨r, putat 25 _ (by omega), hr⟩
          · obtain rfl := Option.some.inj ho
            obtain ⟨r, f1, hr⟩ := he _ (Array.mem_of_getElem? (i := 0) rfl) (by kernel_rfl) _ rfl
            have f1 : a.tmps.getD 25 undef = .bool r := f1
            clear he
            go_simp
            exact hK _ _ (Below.refl _ _) ⟨r, putat 26 _ (by omega), hr⟩
          · exact absurd ho (by simp)
        · intro a u hf hR0 hp
          have hR : Grow wr u := (Below.drew (Below.refl _ _)).trans hR0
          have hRw : Below w.heap.size w u := hb.trans (hR.mono hsz)
          have md : a.defers = [] := hf.defers
          obtain ⟨r, m26, hr⟩ := hp 9 _ rfl
          have m26 : a.tmps.getD 26 undef = .bool (!r) := m26
          have m0 : a.tmps.getD 0 undef = .slice (some ⟨b, off, none⟩) es.length cap := hf.at_ 0 (by kernel_rfl)
          have m1 : a.tmps.getD 1 undef = .slice (some ⟨b', off', none⟩) es'.length cap' := hf.at_ 1 (by kernel_rfl)
          have m5 : a.tmps.getD 5 undef = .int .i64 j := hf.at_ 5 (by kernel_rfl)
          have m2 : a.tmps.getD 2 undef = undef := hf.at_ 2 (by kernel_rfl)
          have m3 : a.tmps.getD 3 undef = undef := hf.at_ 3 (by kernel_rfl)
          have m6 : a.tmps.getD 6 undef = .slice (some ⟨b, off, none⟩) es.length cap := hf.at_ 6 (by kernel_rfl)
          have m7 : a.tmps.getD 7 undef = .int .i64 es.length := hf.at_ 7 (by kernel_rfl)
          have m8 : a.tmps.getD 8 undef = .slice (some ⟨b', off', none⟩) es'.length cap' := hf.at_ 8 (by kernel_rfl)
          have m9 : a.tmps.getD 9 undef = .int .i64 es'.length := hf.at_ 9 (by kernel_rfl)
          have m10 : a.tmps.getD 10 undef = .bool false := hf.at_ 10 (by kernel_rfl)
          obtain ⟨f, ea, hfv⟩ := act_lit a 27 hf.size
          rw [← hfv] at m0 m1 m2 m3 m5 m6 m7 m8 m9 m10 m26
          rw [md] at ea
          cases r with
          | true =>
            simp only [List.range, List.range.loop, List.map_cons, List.map_nil, m0, m1, m2, m3, m5, m6, m7, m8, m9, m10, m26, Bool.not_true] at ea
            subst ea
            have HN : Hid (es.take (j + 1) = es'.take (j + 1)) := take_succ_eq HT.out HX.out.1 HX.out.2 (hr.mp rfl)
            clear hfv hf hp hR0 hR md hr h5 h5' hk hk'
            go_wp2
            go_roundw
            case rel => exact ⟨j + 1, by omega, by go_num, hRw, HN.out⟩
            case measure => simp [intOf]; omega
          | false =>
            simp only [List.range, List.range.loop, List.map_cons, List.map_nil, m0, m1, m2, m3, m5, m6, m7, m8, m9, m10, m26, Bool.not_false] at ea
            subst ea
            have HN : Hid (es ≠ es') := ne_at_expr HX.out.1 HX.out.2 fun h => by have := hr.mpr h; cases this
            clear hfv hf hp hR0 hR md hr h5 h5' hk hk'
            go_wp2
            go_ret
            exact ⟨false, rfl, by simp [HN.out], hRw⟩
      · have hje : j = es.length := by omega
        subst hje
        have he : es = es' := by have := HT.out; rwa [List.take_length, HL.out, List.take_length] at this
        have HE : Hid (es = es') := he
        clear he
        go_wp2
        go_ret
        exact ⟨true, rfl, by simp [HE.out], hb⟩
  · have hl2 : ((es.length : Int) != (es'.length : Int)) = true := by simp; omega
    have HE : Hid (es ≠ es') := fun h => hl (by rw [h])
    go_enter Tryz.func55, Tryz.ntmps55
    go_wp2
    go_ret
    exact ⟨false, rfl, by simp [HE.out], Below.refl _ _⟩

theorem eqS (n : Nat) : EqS n := by
  induction n using Nat.strongRecOn with
  | ind n ih => exact eqExprS_step ih

theorem eqExpr_any (w : World) (lo hi lo' hi' : Nat) (v v' : Value) (x y : ExprD) (h : ER w lo hi v x) (h' : ER w lo' hi' v' y) (hhi : hi ≤ w.heap.size) (hhi' : hi' ≤ w.heap.size) :
    Calls Tryz.prog 36 #[v, v'] w fun e w' => ∃ r : Bool, e = .returned (.bool r) ∧ (r = true ↔ x = y) ∧ Below w.heap.size w w' := by
  obtain ⟨s, rfl, hk⟩ := h
  obtain ⟨s', rfl, hk'⟩ := h'
  exact eqExpr_of (eqS _) w lo hi lo' hi' x y s s' (Nat.le_refl _) hk hk' hhi hhi'
end Go.Proofs.YtkeockippmmneaaGreat

/-
  Variables of five cells in a law, and what is reckoned behind marks.
-/
namespace Go.Proofs.YtkeockippmmneaaGreat
open Go.ChangeShapes Go.WideShapes Go.ChangeAt Go.RowKit
set_option linter.unusedVariables false

/-- A variable of five cells. -/
structure Box5 (w : World) (B : Nat) (v0 v1 v2 v3 v4 : Value) : Prop where
  c0 : w.cell? ⟨B, 0, none⟩ = some v0
  c1 : w.cell? ⟨B, 1, none⟩ = some v1
  c2 : w.cell? ⟨B, 2, none⟩ = some v2
  c3 : w.cell? ⟨B, 3, none⟩ = some v3
  c4 : w.cell? ⟨B, 4, none⟩ = some v4

theorem Box5.below {w w' : World} {B n : Nat} {v0 v1 v2 v3 v4 : Value} (h : Box5 w B v0 v1 v2 v3 v4) (hb : Below n w w') (hB : B < n) : Box5 w' B v0 v1 v2 v3 v4 :=
  ⟨by rw [hb.cell (p := ⟨B, 0, none⟩) hB]; exact h.c0, by rw [hb.cell (p := ⟨B, 1, none⟩) hB]; exact h.c1, by rw [hb.cell (p := ⟨B, 2, none⟩) hB]; exact h.c2, by rw [hb.cell (p := ⟨B, 3, none⟩) hB]; exact h.c3, by rw [hb.cell (p := ⟨B, 4, none⟩) hB]; exact h.c4⟩

theorem box5_new (w : World) (v0 v1 v2 v3 v4 : Value) (t : TypeId) : Box5 (w.alloc (.cells #[v0, v1, v2, v3, v4] t)) w.heap.size v0 v1 v2 v3 v4 :=
  ⟨World.cell?_alloc_new _ _ _ _, World.cell?_alloc_new _ _ _ _, World.cell?_alloc_new _ _ _ _, World.cell?_alloc_new _ _ _ _, World.cell?_alloc_new _ _ _ _⟩

theorem EO.shape {w : World} {lo hi : Nat} {v : Value} {e : ExprD} (h : EO w lo hi v e) : ∃ ad cap, v = .agg #[.int .i64 e.k, .int .i64 e.n, .int .i64 e.ak, .int .i64 e.at_, .slice ad e.kids.length cap] := by
  obtain ⟨s, rfl, hk⟩ := h
  obtain ⟨ad, cap, rfl, _, _⟩ := hk.kr.shape
  exact ⟨ad, cap, rfl⟩

theorem ER.shape {w : World} {lo hi : Nat} {v : Value} {e : ExprD} (h : ER w lo hi v e) : ∃ ad cap, v = .agg #[.int .i64 e.k, .int .i64 e.n, .int .i64 e.ak, .int .i64 e.at_, .slice ad e.kids.length cap] := by
  obtain ⟨s, rfl, hk⟩ := h
  obtain ⟨ad, cap, rfl, _, _⟩ := hk.shape
  exact ⟨ad, cap, rfl⟩


theorem eq_of_iff {a b : Bool} {p : Prop} (h : a = true ↔ p) (k : b = true ↔ p) : a = b := Bool.eq_iff_iff.mpr (h.trans k.symm)
end Go.Proofs.YtkeockippmmneaaGreat

/-
  Chapter 10's model: what is read (l10Reads, SlimReads).
-/
namespace Go.Proofs.YtkeockippmmneaaGreat
open Go.ChangeShapes Go.WideShapes Go.ChangeAt Go.RowKit
set_option linter.unusedVariables false
set_option maxRecDepth 100000

/-- Two cells of a variable. -/
structure Pr2 (w : World) (B : Nat) (x y : Value) : Prop where
  c0 : w.cell? ⟨B, 0, none⟩ = some x
  c1 : w.cell? ⟨B, 1, none⟩ = some y

theorem Pr2.below {w w' : World} {B n : Nat} {x y : Value} (h : Pr2 w B x y) (hb : Below n w w') (hn : B < n) : Pr2 w' B x y :=
  ⟨(hb.cell (p := ⟨B, 0, none⟩) hn).trans h.c0, (hb.cell (p := ⟨B, 1, none⟩) hn).trans h.c1⟩

theorem five_two_new (w : World) (e : ExprD) (s : Value) (k t : Int) (T T' : TypeId) :
    ∃ u, (w.alloc (.cells #[.int .i64 e.k, .int .i64 e.n, .int .i64 e.ak, .int .i64 e.at_, s] T)).alloc (.cells #[.int .i64 k, .int .i64 t] T') = u ∧ Below w.heap.size w u ∧ Five u w.heap.size (.int .i64 e.k) (.int .i64 e.n) (.int .i64 e.ak) (.int .i64 e.at_) s ∧ Pr2 u (w.heap.size + 1) (.int .i64 k) (.int .i64 t) ∧ u.heap.size = w.heap.size + 2 := by
  refine ⟨_, rfl, ((Below.refl _ w).alloc (Nat.le_refl _) _).alloc (by simp) _, (five_new w _ _ _ _ _ _).under ((Below.refl _ _).alloc (Nat.le_refl _) _) (by simp), ?_, by simp⟩
  have h : Pr2 ((w.alloc (.cells #[.int .i64 e.k, .int .i64 e.n, .int .i64 e.ak, .int .i64 e.at_, s] T)).alloc (.cells #[.int .i64 k, .int .i64 t] T')) (w.alloc (.cells #[.int .i64 e.k, .int .i64 e.n, .int .i64 e.ak, .int .i64 e.at_, s] T)).heap.size (.int .i64 k) (.int .i64 t) := ⟨World.cell?_alloc_new _ _ _ _, World.cell?_alloc_new _ _ _ _⟩
  rwa [World.size_alloc] at h


end Go.Proofs.YtkeockippmmneaaGreat
