import Derived.Test.YtdhpbiplkjpiiaaGreatDoorRows
import Derived.WalkKit
import Derived.ProofKit
import Derived.OpenShut
import Derived.ShutString
import Derived.Outline
import Derived.Below
import Derived.Deep.QuietTactic
import Derived.BigQuiet
import Derived.WalkSmall

/-
  Small lemmas that all our texts use: equal endings, old cells behind new blocks, one cell written.
-/
namespace Go.Proofs.YtdhpbiplkjpiiaaGreatDoor
open Go.ChangeShapes Go.WideShapes Go.ChangeAt Go.RowKit

theorem ret_int {k : IntKind} {a b : Int} (h : a = b) : Ending.returned (.int k a) = .returned (.int k b) := by rw [h]
theorem ret_bool {a b : Bool} (h : a = b) : Ending.returned (.bool a) = .returned (.bool b) := by rw [h]

theorem bcell {W w1 : World} (hb : Below W.heap.size W w1) : (∀ b o, b < W.heap.size → w1.cell? ⟨b, o, none⟩ = W.cell? ⟨b, o, none⟩) ∧ (∀ b o, b < W.heap.size → w1.frozen? ⟨b, o, none⟩ = W.frozen? ⟨b, o, none⟩) :=
  ⟨fun b o h => hb.cell (p := ⟨b, o, none⟩) h, fun b o h => hb.frozen (p := ⟨b, o, none⟩) h⟩

theorem cell_set_other (w : World) {B o b o' : Nat} {v : Value} (h : b ≠ B ∨ o' ≠ o) : (w.setCell ⟨B, o, none⟩ v).cell? ⟨b, o', none⟩ = w.cell? ⟨b, o', none⟩ :=
  World.cell?_setCell_other w _ _ _ (by intro e; simp only [Addr.mk.injEq] at e; omega)

theorem below_two {w w1 w2 : World} (h1 : Below w.heap.size w w1) (h2 : Below w1.heap.size w1 w2) : Below w.heap.size w w2 :=
  h1.trans (h2.mono h1.size)

end Go.Proofs.YtdhpbiplkjpiiaaGreatDoor

/-
  Lists of numbers in memory, and what the laws' helpers do with them: szIntS counts, eqIntS compares, toIntS copies into new memory, markIntS writes, heldIntS reads back.
-/
namespace Go.Proofs.YtdhpbiplkjpiiaaGreatDoor
open Go.ChangeShapes Go.WideShapes Go.ChangeAt Go.RowKit
set_option linter.unusedVariables false

/-- The cells from an offset on hold these numbers. -/
def CI (w : World) (b off : Nat) (xs : List Int) : Prop :=
  ∀ i x, xs[i]? = some x → w.cell? ⟨b, off + i, none⟩ = some (.int .i64 x)

/-- A slice value that reads as these numbers; its cells lie in the blocks from lo to hi. -/
def SI (w : World) (lo hi : Nat) (v : Value) (xs : List Int) : Prop :=
  ∃ a cap, v = .slice a xs.length cap ∧ xs.length ≤ cap ∧ cap ≤ maxLen ∧
    (xs = [] ∨ ∃ b off, a = some ⟨b, off, none⟩ ∧ lo ≤ b ∧ b < hi ∧ CI w b off xs)

theorem SI.kept {w w' : World} {lo hi : Nat} {v : Value} {xs : List Int} (h : SI w lo hi v xs) (hk : ∀ k, lo ≤ k → k < hi → w'.heap[k]? = w.heap[k]?) : SI w' lo hi v xs := by
  obtain ⟨a, cap, hv, h1, h2, h3⟩ := h
  refine ⟨a, cap, hv, h1, h2, ?_⟩
  rcases h3 with h0 | ⟨b, off, ha, hl, hh, hc⟩
  · exact .inl h0
  · refine .inr ⟨b, off, ha, hl, hh, fun i x hx => ?_⟩
    rw [World.cell?_of_block (w := w) (hk b hl hh)]
    exact hc i x hx

theorem SI.below {w w' : World} {lo hi n : Nat} {v : Value} {xs : List Int} (h : SI w lo hi v xs) (hb : Below n w w') (hn : hi ≤ n) : SI w' lo hi v xs :=
  h.kept fun k _ hk => hb.block k (by omega)

theorem SI.wide {w : World} {lo hi lo' hi' : Nat} {v : Value} {xs : List Int} (h : SI w lo hi v xs) (h1 : lo' ≤ lo) (h2 : hi ≤ hi') : SI w lo' hi' v xs := by
  obtain ⟨a, cap, hv, h3, h4, h5⟩ := h
  refine ⟨a, cap, hv, h3, h4, ?_⟩
  rcases h5 with h0 | ⟨b, off, ha, hl, hh, hc⟩
  · exact .inl h0
  · exact .inr ⟨b, off, ha, by omega, by omega, hc⟩

theorem szIntS_any (w : World) (lo hi : Nat) (v : Value) (xs : List Int) (left : Int) (h : SI w lo hi v xs) (hl : 0 ≤ left) (hl' : left ≤ 1048576) :
    Calls Tryz.prog 15 #[v, .int .i64 left] w fun e w' => e = .returned (.int .i64 (if left < xs.length then -1 else left - xs.length)) ∧ w' = w := by
  obtain ⟨a, cap, rfl, h1, h2, h3⟩ := h
  clear h3
  unfold maxLen at h2
  by_cases h : left < xs.length
  · rw [if_pos h]
    go_enter Tryz.func15, Tryz.ntmps15
    go_wp2
    go_ret
    exact ⟨rfl, rfl⟩
  · rw [if_neg h]
    go_enter Tryz.func15, Tryz.ntmps15
    go_wp2
    go_ret
    exact ⟨rfl, rfl⟩


theorem eq_take_succ {xs ys : List Int} {k : Nat} {x y : Int} (h : xs.take k = ys.take k) (hx : xs[k]? = some x) (hy : ys[k]? = some y) (e : x = y) : xs.take (k + 1) = ys.take (k + 1) := by
  rw [List.take_add_one, List.take_add_one, h, hx, hy, e]

theorem ne_at {xs ys : List Int} {k : Nat} {x y : Int} (hx : xs[k]? = some x) (hy : ys[k]? = some y) (e : x ≠ y) : xs ≠ ys := by
  intro h; rw [h, hy] at hx; exact e (Option.some.inj hx).symm

set_option maxHeartbeats 400000 in
theorem eqIntS_any (w : World) (lo hi lo' hi' : Nat) (va vb : Value) (xs ys : List Int) (ha : SI w lo hi va xs) (hb : SI w lo' hi' vb ys) :
    Calls Tryz.prog 28 #[va, vb] w fun e w' => ∃ m, e = .returned (.bool (decide (xs = ys))) ∧ w' = w.drewN m := by
  obtain ⟨a, cap, rfl, h1, h2, h3⟩ := ha
  obtain ⟨a', cap', rfl, h1', h2', h3'⟩ := hb
  unfold maxLen at h2 h2'
  by_cases hl : xs.length = ys.length
  · have hl2 : ((xs.length : Int) != (ys.length : Int)) = false := by simp; omega
    go_enter Tryz.func28, Tryz.ntmps28
    go_wp2
    go_loopw [5] (fun i wr => ∃ k m : Nat, k ≤ xs.length ∧ i = .int .i64 k ∧ wr = w.drewN m ∧ xs.take k = ys.take k) (fun i _ => xs.length - (intOf i).toNat)
    case atStart => exact ⟨0, 0, Nat.zero_le _, rfl, rfl, rfl⟩
    case round =>
      obtain ⟨k, m, hk, rfl, rfl, htk⟩ := hrel
      by_cases hlt : k < xs.length
      · obtain ⟨x, hx⟩ : ∃ x, xs[k]? = some x := ⟨xs[k], List.getElem?_eq_getElem hlt⟩
        obtain ⟨y, hy⟩ : ∃ y, ys[k]? = some y := ⟨ys[k]'(by omega), List.getElem?_eq_getElem (by omega)⟩
        rcases h3 with h0 | ⟨b, off, rfl, _, _, hc⟩
        · rw [h0] at hlt; simp at hlt
        rcases h3' with h0 | ⟨b', off', rfl, _, _, hc'⟩
        · rw [h0] at hl; simp at hl; rw [hl] at hlt; simp at hlt
        have c1 := hc k x hx
        have c2 := hc' k y hy
        have HX : Hid (xs[k]? = some x) := hx
        have HY : Hid (ys[k]? = some y) := hy
        have HT : Hid (xs.take k = ys.take k) := htk
        have hlt' : k < ys.length := by omega
        clear hx hy htk hc hc' hl
        by_cases hxy : x = y
        · have hxy' : (x == y) = true := by simpa using hxy
          have HE : Hid (x = y) := hxy
          clear hxy
          go_wp2_with fail
          go_quiet (fail)
          go_wp2
          go_roundw
          case rel => exact ⟨k + 1, m + nq, by omega, by go_num, by simp, eq_take_succ HT.out HX.out HY.out HE.out⟩
          case measure => simp [intOf]; omega
        · have hxy' : (x == y) = false := by simpa using hxy
          have HE : Hid (x ≠ y) := hxy
          clear hxy
          go_wp2_with fail
          go_quiet (fail)
          go_wp2
          go_ret
          exact ⟨m + nq, ret_bool (decide_eq_false (ne_at HX.out HY.out HE.out)).symm, by simp⟩
      · have HT : Hid (xs.take k = ys.take k) := htk
        clear htk
        go_wp2
        go_ret
        exact ⟨m, ret_bool (decide_eq_true (by have := HT.out; rwa [List.take_of_length_le (by omega), List.take_of_length_le (by omega)] at this)).symm, rfl⟩
  · have hl2 : ((xs.length : Int) != (ys.length : Int)) = true := by simp; omega
    go_enter Tryz.func28, Tryz.ntmps28
    go_wp2
    go_ret
    exact ⟨0, ret_bool (decide_eq_false (by intro h; exact hl (by rw [h]))).symm, rfl⟩


theorem info_int : (Tryz.prog.info? 3).map (fun i => (i.zero, i.size, i.bytes)) = some (some (.int .i64 0), 1, 8) := by kernel_rfl

/-- A slice value that owns these numbers: from the head of a block of its own, from lo to hi, that may be written. -/
def OI (w : World) (lo hi : Nat) (v : Value) (xs : List Int) : Prop :=
  xs = [] ∧ (∃ a cap, v = .slice a 0 cap ∧ cap ≤ maxLen) ∨
  ∃ g off cap, v = .slice (some ⟨g, off, none⟩) xs.length cap ∧ xs.length ≤ cap ∧ cap ≤ maxLen ∧ lo ≤ g ∧ g < hi ∧ CI w g off xs ∧ ∀ i, w.frozen? ⟨g, off + i, none⟩ = false

theorem OI.si {w : World} {lo hi : Nat} {v : Value} {xs : List Int} (h : OI w lo hi v xs) : SI w lo hi v xs := by
  rcases h with ⟨rfl, a, cap, rfl, hm⟩ | ⟨g, off, cap, hv, h1, h2, h3, h4, h5, _⟩
  · exact ⟨a, cap, rfl, Nat.zero_le _, hm, .inl rfl⟩
  · exact ⟨_, cap, hv, h1, h2, .inr ⟨g, off, rfl, h3, h4, h5⟩⟩

theorem OI.kept {w w' : World} {lo hi : Nat} {v : Value} {xs : List Int} (h : OI w lo hi v xs) (hk : ∀ k, lo ≤ k → k < hi → w'.heap[k]? = w.heap[k]?) : OI w' lo hi v xs := by
  rcases h with h | ⟨g, off, cap, hv, h1, h2, h3, h4, h5, h6⟩
  · exact .inl h
  · refine .inr ⟨g, off, cap, hv, h1, h2, h3, h4, fun i x hx => ?_, fun i => ?_⟩
    · rw [World.cell?_of_block (w := w) (hk g h3 h4)]; exact h5 i x hx
    · rw [World.frozen?_of_block (w := w) (hk g h3 h4)]; exact h6 i

theorem OI.below {w w' : World} {lo hi n : Nat} {v : Value} {xs : List Int} (h : OI w lo hi v xs) (hb : Below n w w') (hn : hi ≤ n) : OI w' lo hi v xs :=
  h.kept fun k _ hk => hb.block k (by omega)

theorem OI.wide {w : World} {lo hi lo' hi' : Nat} {v : Value} {xs : List Int} (h : OI w lo hi v xs) (h1 : lo' ≤ lo) (h2 : hi ≤ hi') : OI w lo' hi' v xs := by
  rcases h with h | ⟨g, off, cap, hv, h3, h4, h5, h6, h7, h8⟩
  · exact .inl h
  · exact .inr ⟨g, off, cap, hv, h3, h4, by omega, by omega, h7, h8⟩

set_option maxHeartbeats 400000 in
theorem toIntS_any (w : World) (lo hi : Nat) (v : Value) (xs : List Int) (h : SI w lo hi v xs) (hhi : hi ≤ w.heap.size) (hx : xs.length ≤ 1048576) :
    Calls Tryz.prog 20 #[v] w fun e w' => ∃ v', e = .returned v' ∧ OI w' w.heap.size w'.heap.size v' xs ∧ Below w.heap.size w w' := by
  obtain ⟨a, cap, rfl, h1, h2, h3⟩ := h
  unfold maxLen at h2
  obtain ⟨i0, hi0, hz0, hz1, hz2⟩ := info_parts info_int
  go_enter Tryz.func20, Tryz.ntmps20
  go_wp2_with (at_make; refine wpList_make_full _ rfl _ _ 22 rfl w.heap.size 3 i0 (.int .i64 0) 1 Tryz.underlying22 hi0 hz0 hz1 .i64 .i64 _ _ xs.length rfl rfl rfl rfl (by rw [hz2]; omega) (by unfold maxLen; omega) (Nat.le_refl _) ?_; intro w1 hown hgrow)
  have hb1 : Below w.heap.size w w1 := (Below.refl _ _).grown hgrow (Nat.le_refl _) (fun k h => by cases h)
  have hs1 : w.heap.size < w1.heap.size := hown.2.elim (fun h => by simp at h) fun ⟨g, cap, cur, hv, hg, hh, _⟩ => by
    simp only [Value.slice.injEq, Option.some.injEq, Addr.mk.injEq, and_true, true_and] at hv
    obtain ⟨rfl, _⟩ := hv
    exact (Array.getElem?_eq_some_iff.mp hh).1
  go_loopw [4] (fun i wr => ∃ (k : Nat) (ys : List Value), k ≤ xs.length ∧ i = .int .i64 k ∧
      wr.ownsRow w.heap.size 3 1 (.slice (some ⟨w.heap.size, 0, none⟩) xs.length xs.length) xs.length ys ∧ Below w.heap.size w wr ∧ w.heap.size < wr.heap.size ∧
      ∀ i x, i < k → xs[i]? = some x → ys[i]? = some (.int .i64 x)) (fun i _ => xs.length - (intOf i).toNat)
  case atStart => exact ⟨0, _, Nat.zero_le _, rfl, hown, hb1, hs1, fun i x h => by omega⟩
  case round =>
    clear hown hgrow hb1 hs1 w1
    obtain ⟨k, ys, hk, rfl, hown, hb, hs, hy⟩ := hrel
    by_cases hlt : k < xs.length
    · rcases h3 with h0 | ⟨b, off, rfl, _, hbh, hc⟩
      · rw [h0] at hlt; simp at hlt
      obtain ⟨x, hx⟩ : ∃ x, xs[k]? = some x := ⟨xs[k], List.getElem?_eq_getElem hlt⟩
      have c1 : wr.cell? ⟨b, off + k, none⟩ = some (.int .i64 x) := by rw [hb.cell (p := ⟨b, off + k, none⟩) (by show b < _; omega)]; exact hc k x hx
      have hyl : ys.length = xs.length := by have := hown.1; omega
      obtain ⟨u, hu⟩ : ∃ u, ys[k]? = some u := ⟨ys[k]'(by omega), List.getElem?_eq_getElem (by omega)⟩
      have c2 : wr.cell? ⟨w.heap.size, k, none⟩ = some u := by rw [hown.cellAt k (by omega)]; exact hu
      have c3 : wr.frozen? ⟨w.heap.size, k, none⟩ = false := hown.frozenAt k
      have hst := (hown.stored k (.int .i64 x)).1
      have hb' : Below w.heap.size w (wr.setCell ⟨w.heap.size, k, none⟩ (.int .i64 x)) := hb.setCell (Nat.le_refl _) _
      have HR : Hid (∀ i z, i < k + 1 → xs[i]? = some z → (ys.set k (.int .i64 x))[i]? = some (.int .i64 z)) := by
        intro i z hi hz
        by_cases e : i = k
        · rw [e, hx] at hz; rw [e, List.getElem?_set_self (by omega), Option.some.inj hz]
        · rw [List.getElem?_set_ne (by omega)]; exact hy i z (by omega) hz
      have HS : Hid ((wr.setCell ⟨w.heap.size, k, none⟩ (.int .i64 x)).ownsRow w.heap.size 3 1 (.slice (some ⟨w.heap.size, 0, none⟩) xs.length xs.length) xs.length (ys.set k (.int .i64 x))) := hst
      have hs' : w.heap.size < (wr.setCell ⟨w.heap.size, k, none⟩ (.int .i64 x)).heap.size := by simpa [World.setCell] using hs
      have HB : Hid (Below w.heap.size w (wr.setCell ⟨w.heap.size, k, none⟩ (.int .i64 x)) ∧ w.heap.size < (wr.setCell ⟨w.heap.size, k, none⟩ (.int .i64 x)).heap.size) := ⟨hb', hs'⟩
      clear hst hb' hs' hy hx hu hc hown hb
      go_wp2
      go_roundw
      case rel => exact ⟨k + 1, _, by omega, by go_num, HS.out, HB.out.1, HB.out.2, HR.out⟩
      case measure => simp [intOf]; omega
    · have hkl : k = xs.length := by omega
      have HO : Hid (OI wr w.heap.size wr.heap.size (.slice (some ⟨w.heap.size, 0, none⟩) xs.length xs.length) xs) := by
        refine .inr ⟨w.heap.size, 0, xs.length, rfl, Nat.le_refl _, by unfold maxLen; omega, Nat.le_refl _, hs, fun i x hx => ?_, fun i => hown.frozenAt _⟩
        have hil : i < xs.length := (List.getElem?_eq_some_iff.mp hx).1
        rw [Nat.zero_add, hown.cellAt i (by omega)]
        exact hy i x (by omega) hx
      clear hown hy hkl
      go_wp2
      go_ret
      exact ⟨_, rfl, HO.out, hb⟩


/-- Only cells of P may have been written; no block has come or gone. -/
structure Wrote (P : Nat → Nat → Prop) (w w' : World) : Prop where
  os : w'.os = w.os
  tape : w'.tape = w.tape
  output : w'.output = w.output
  size : w'.heap.size = w.heap.size
  block : ∀ k, (∀ o, ¬ P k o) → w'.heap[k]? = w.heap[k]?
  cell : ∀ b o, ¬ P b o → w'.cell? ⟨b, o, none⟩ = w.cell? ⟨b, o, none⟩
  frozen : ∀ b o, w'.frozen? ⟨b, o, none⟩ = w.frozen? ⟨b, o, none⟩

theorem Wrote.refl (P : Nat → Nat → Prop) (w : World) : Wrote P w w := ⟨rfl, rfl, rfl, rfl, fun _ _ => rfl, fun _ _ _ => rfl, fun _ _ => rfl⟩

theorem Wrote.trans {P : Nat → Nat → Prop} {a b c : World} (h : Wrote P a b) (k : Wrote P b c) : Wrote P a c :=
  ⟨k.os.trans h.os, k.tape.trans h.tape, k.output.trans h.output, k.size.trans h.size, fun i hi => (k.block i hi).trans (h.block i hi),
    fun b o hp => (k.cell b o hp).trans (h.cell b o hp), fun b o => (k.frozen b o).trans (h.frozen b o)⟩

theorem Wrote.mono {P Q : Nat → Nat → Prop} {a b : World} (h : Wrote P a b) (hPQ : ∀ i o, P i o → Q i o) : Wrote Q a b :=
  ⟨h.os, h.tape, h.output, h.size, fun k hk => h.block k fun o hp => hk o (hPQ k o hp), fun b o hq => h.cell b o fun hp => hq (hPQ b o hp), h.frozen⟩

theorem Wrote.setCell {P : Nat → Nat → Prop} {a w : World} (h : Wrote P a w) {b o : Nat} (hp : P b o) (u : Value) : Wrote P a (w.setCell ⟨b, o, none⟩ u) :=
  h.trans ⟨rfl, rfl, rfl, by simp [World.setCell], fun k hk => Below.heap_setCell _ _ _ _ (fun e => hk o (by rw [e]; exact hp)),
    fun b' o' hp' => World.cell?_setCell_other w _ _ _ (by intro e; simp only [Addr.mk.injEq] at e; obtain ⟨rfl, rfl, _⟩ := e; exact hp' hp),
    fun b' o' => World.frozen?_setCell _ _ _ _⟩

theorem Wrote.below {P : Nat → Nat → Prop} {a b : World} (h : Wrote P a b) {n : Nat} (hn : ∀ i o, P i o → n ≤ i) : Below n a b :=
  ⟨h.os, h.tape, h.output, by rw [h.size]; exact Nat.le_refl _, fun k hk => h.block k fun o hp => by have := hn k o hp; omega⟩

/-- The cells of a slice of n elements of one cell. -/
def Foot (v : Value) (n : Nat) (b o : Nat) : Prop :=
  ∃ g off l cap, v = .slice (some ⟨g, off, none⟩) l cap ∧ b = g ∧ off ≤ o ∧ o < off + n

theorem SI.wrote {P : Nat → Nat → Prop} {w w' : World} {lo hi : Nat} {v : Value} {xs : List Int} (h : SI w lo hi v xs) (hw : Wrote P w w') (hP : ∀ b o, Foot v xs.length b o → ¬ P b o) : SI w' lo hi v xs := by
  obtain ⟨a, cap, rfl, h1, h2, h3⟩ := h
  refine ⟨a, cap, rfl, h1, h2, ?_⟩
  rcases h3 with h0 | ⟨b, off, rfl, hl, hh, hc⟩
  · exact .inl h0
  · refine .inr ⟨b, off, rfl, hl, hh, fun i x hx => ?_⟩
    have hi : i < xs.length := (List.getElem?_eq_some_iff.mp hx).1
    rw [hw.cell _ _ (hP _ _ ⟨b, off, _, _, rfl, rfl, by omega, by omega⟩)]
    exact hc i x hx

theorem OI.wrote {P : Nat → Nat → Prop} {w w' : World} {lo hi : Nat} {v : Value} {xs : List Int} (h : OI w lo hi v xs) (hw : Wrote P w w') (hP : ∀ b o, Foot v xs.length b o → ¬ P b o) : OI w' lo hi v xs := by
  rcases h with h | ⟨g, off, cap, rfl, h1, h2, h3, h4, h5, h6⟩
  · exact .inl h
  · refine .inr ⟨g, off, cap, rfl, h1, h2, h3, h4, fun i x hx => ?_, fun i => ?_⟩
    · have hi : i < xs.length := (List.getElem?_eq_some_iff.mp hx).1
      rw [hw.cell _ _ (hP _ _ ⟨g, off, _, _, rfl, rfl, by omega, by omega⟩)]
      exact h5 i x hx
    · rw [hw.frozen]; exact h6 i

/-- n numbers from k on. -/
def marks (k : Int) (n : Nat) : List Int := (List.range n).map fun (i : Nat) => k + (i : Int)

theorem marks_length (k : Int) (n : Nat) : (marks k n).length = n := by simp [marks]
theorem marks_at {k : Int} {n i : Nat} (h : i < n) : (marks k n)[i]? = some (k + (i : Int)) := by simp [marks, h]

set_option maxHeartbeats 400000 in
theorem markIntS_any (w : World) (lo hi : Nat) (v : Value) (xs : List Int) (k : Int) (h : OI w lo hi v xs) (hx : xs.length ≤ 16777216) (hk : 0 ≤ k) (hk' : k ≤ 1000000000000) :
    Calls Tryz.prog 30 #[v, .int .i64 k] w fun e w' => e = .returned (.int .i64 (k + xs.length)) ∧ OI w' lo hi v (marks k xs.length) ∧ Wrote (Foot v xs.length) w w' := by
  rcases h with ⟨rfl, a, cap, rfl, hm⟩ | ⟨g, off, cap, rfl, h1, h2, h3, h4, h5, h6⟩
  · unfold maxLen at hm
    go_enter Tryz.func30, Tryz.ntmps30
    go_wp2
    go_loopw [1, 5] (fun q i wr => q = .int .i64 k ∧ i = .int .i64 0 ∧ wr = w) (fun _ _ _ => 0)
    case atStart => exact ⟨rfl, rfl, rfl⟩
    case round =>
      obtain ⟨rfl, rfl, rfl⟩ := hrel
      go_wp2
      go_ret
      exact ⟨by simp, .inl ⟨rfl, a, cap, rfl, by unfold maxLen; omega⟩, Wrote.refl _ _⟩
  · unfold maxLen at h2
    go_enter Tryz.func30, Tryz.ntmps30
    go_wp2
    go_loopw [1, 5] (fun q i wr => ∃ j : Nat, j ≤ xs.length ∧ q = .int .i64 (k + j) ∧ i = .int .i64 j ∧ Wrote (Foot (.slice (some ⟨g, off, none⟩) xs.length cap) xs.length) w wr ∧
        (∀ i, i < xs.length → (wr.cell? ⟨g, off + i, none⟩).isSome = true) ∧ ∀ i, i < j → wr.cell? ⟨g, off + i, none⟩ = some (.int .i64 (k + (i : Int)))) (fun _ i _ => xs.length - (intOf i).toNat)
    case atStart =>
      refine ⟨0, Nat.zero_le _, by simp, rfl, Wrote.refl _ _, fun i hi => ?_, fun i hi => by omega⟩
      rw [h5 i xs[i] (List.getElem?_eq_getElem hi)]; rfl
    case round =>
      obtain ⟨j, hj, rfl, rfl, hw, hs, hc⟩ := hrel
      by_cases hlt : j < xs.length
      · have f1 : wr.frozen? ⟨g, off + j, none⟩ = false := by rw [hw.frozen]; exact h6 j
        obtain ⟨u, hu⟩ : ∃ u, wr.cell? ⟨g, off + j, none⟩ = some u := Option.isSome_iff_exists.mp (hs j hlt)
        have HW : Hid (Wrote (Foot (.slice (some ⟨g, off, none⟩) xs.length cap) xs.length) w (wr.setCell ⟨g, off + j, none⟩ (.int .i64 (k + j)))) :=
          hw.setCell ⟨g, off, _, _, rfl, rfl, by omega, by omega⟩ _
        have HC : Hid (∀ i, i < j + 1 → (wr.setCell ⟨g, off + j, none⟩ (.int .i64 (k + j))).cell? ⟨g, off + i, none⟩ = some (.int .i64 (k + (i : Int)))) := by
          intro i hi
          by_cases e : i = j
          · rw [e]; exact World.cell?_setCell_same _ _ _ hu
          · rw [World.cell?_setCell_other _ _ _ _ (by intro e'; simp only [Addr.mk.injEq] at e'; omega)]; exact hc i (by omega)
        have HS : Hid (∀ i, i < xs.length → ((wr.setCell ⟨g, off + j, none⟩ (.int .i64 (k + j))).cell? ⟨g, off + i, none⟩).isSome = true) := by
          intro i hi
          by_cases e : i = j
          · rw [e, World.cell?_setCell_same _ _ _ hu]; rfl
          · rw [World.cell?_setCell_other _ _ _ _ (by intro e'; simp only [Addr.mk.injEq] at e'; omega)]; exact hs i hi
        clear hw hs hc h5 h6
        go_wp2
        go_roundw
        case rel => exact ⟨j + 1, by omega, by go_num, by go_num, HW.out, HS.out, HC.out⟩
        case measure => simp [intOf]; omega
      · have hjl : j = xs.length := by omega
        subst hjl
        have HO : Hid (OI wr lo hi (.slice (some ⟨g, off, none⟩) xs.length cap) (marks k xs.length)) := by
          refine .inr ⟨g, off, cap, by rw [marks_length], by rw [marks_length]; exact h1, by unfold maxLen; omega, h3, h4, fun i x hx => ?_, fun i => by rw [hw.frozen]; exact h6 i⟩
          have hi : i < xs.length := by have := (List.getElem?_eq_some_iff.mp hx).1; rwa [marks_length] at this
          rw [marks_at hi] at hx
          rw [hc i hi, ← Option.some.inj hx]
        clear hs hc h5 h6
        go_wp2
        go_ret
        exact ⟨rfl, HO.out, hw⟩

set_option maxHeartbeats 400000 in
theorem heldIntS_any (w : World) (lo hi : Nat) (v : Value) (n : Nat) (k : Int) (h : SI w lo hi v (marks k n)) (hx : n ≤ 16777216) (hk : 0 ≤ k) (hk' : k ≤ 1000000000000) :
    Calls Tryz.prog 31 #[v, .int .i64 k] w fun e w' => e = .returned (.int .i64 (k + n)) ∧ w' = w := by
  obtain ⟨a, cap, rfl, h1, h2, h3⟩ := h
  rw [marks_length] at *
  unfold maxLen at h2
  go_enter Tryz.func31, Tryz.ntmps31
  go_wp2
  go_loopw [1, 5] (fun q i wr => ∃ j : Nat, j ≤ n ∧ q = .int .i64 (k + j) ∧ i = .int .i64 j ∧ wr = w) (fun _ i _ => n - (intOf i).toNat)
  case atStart => exact ⟨0, Nat.zero_le _, by simp, rfl, rfl⟩
  case round =>
    obtain ⟨j, hj, rfl, rfl, rfl⟩ := hrel
    by_cases hlt : j < n
    · rcases h3 with h0 | ⟨b, off, rfl, _, _, hc⟩
      · have := congrArg List.length h0; rw [marks_length] at this; simp at this; omega
      have c1 := hc j _ (marks_at hlt)
      clear hc
      go_wp2
      go_roundw
      case rel => exact ⟨j + 1, by omega, by go_num, by go_num, by first | rfl | trivial⟩
      case measure => simp [intOf]; omega
    · have hjl : j = n := by omega
      subst hjl
      go_wp2
      go_ret
      exact ⟨rfl, rfl⟩
end Go.Proofs.YtdhpbiplkjpiiaaGreatDoor
