import Derived.Test.YtdlcdllmhacaaaaGreatDoorM5
import Derived.Test.YtdlcdllmhacaaaaGreatDoorBase
import Derived.Test.YtdlcdllmhacaaaaGreatDoorDag

/-
  Lists of numbers in memory, and what the laws' helpers do with them: szIntS counts, eqIntS compares, toIntS copies into new memory, markIntS writes, heldIntS reads back.
-/
namespace Go.Proofs.YtdlcdllmhacaaaaGreatDoor
open Go.ChangeShapes Go.WideShapes Go.ChangeAt Go.RowKit
set_option linter.unusedVariables false

/-- The cells from an offset on hold these numbers. -/
def CI (w : World) (b off : Nat) (xs : List Int) : Prop :=
  ∀ i x, xs[i]? = some x → w.cell? ⟨b, off + i, none⟩ = some (.int .i64 x)

/-- A slice value that reads as these numbers; its cells lie in the blocks from lo to hi. -/
def SI (w : World) (lo hi : Nat) (v : Value) (xs : List Int) : Prop :=
  ∃ a cap, v = .slice a xs.length cap ∧ xs.length ≤ cap ∧ cap ≤ maxLen ∧
    (xs = [] ∨ ∃ b off, a = some ⟨b, off, none⟩ ∧ lo ≤ b ∧ b < hi ∧ CI w b off xs)

theorem SI.kept {w w' : World} {lo hi : Nat} {v : Value} {xs : List Int} (h : SI w lo hi v xs) (hk : ∀ k, lo ≤ k → k < hi → w'.heap[k]? = w.heap[k]?) : SI w' lo hi v xs := by
  obtain ⟨a, cap, hv, h1, h2, h3⟩ := h
  refine ⟨a, cap, hv, h1, h2, ?_⟩
  rcases h3 with h0 | ⟨b, off, ha, hl, hh, hc⟩
  · exact .inl h0
  · refine .inr ⟨b, off, ha, hl, hh, fun i x hx => ?_⟩
    rw [World.cell?_of_block (w := w) (hk b hl hh)]
    exact hc i x hx

theorem SI.below {w w' : World} {lo hi n : Nat} {v : Value} {xs : List Int} (h : SI w lo hi v xs) (hb : Below n w w') (hn : hi ≤ n) : SI w' lo hi v xs :=
  h.kept fun k _ hk => hb.block k (by omega)

theorem SI.wide {w : World} {lo hi lo' hi' : Nat} {v : Value} {xs : List Int} (h : SI w lo hi v xs) (h1 : lo' ≤ lo) (h2 : hi ≤ hi') : SI w lo' hi' v xs := by
  obtain ⟨a, cap, hv, h3, h4, h5⟩ := h
  refine ⟨a, cap, hv, h3, h4, ?_⟩
  rcases h5 with h0 | ⟨b, off, ha, hl, hh, hc⟩
  · exact .inl h0
  · exact .inr ⟨b, off, ha, by omega, by omega, hc⟩

theorem szIntS_any (w : World) (lo hi : Nat) (v : Value) (xs : List Int) (left : Int) (h : SI w lo hi v xs) (hl : 0 ≤ left) (hl' : left ≤ 1048576) :
    Calls Tryz.prog 19 #[v, .int .i64 left] w fun e w' => e = .returned (.int .i64 (if left < xs.length then -1 else left - xs.length)) ∧ w' = w := by
  obtain ⟨a, cap, rfl, h1, h2, h3⟩ := h
  clear h3
  unfold maxLen at h2
  by_cases h : left < xs.length
  · rw [if_pos h]
    go_enter Tryz.func19, Tryz.ntmps19
    go_wp2
    go_ret
    exact ⟨rfl, rfl⟩
  · rw [if_neg h]
    go_enter Tryz.func19, Tryz.ntmps19
    go_wp2
    go_ret
    exact ⟨rfl, rfl⟩

theorem eq_take_succ {xs ys : List Int} {k : Nat} {x y : Int} (h : xs.take k = ys.take k) (hx : xs[k]? = some x) (hy : ys[k]? = some y) (e : x = y) : xs.take (k + 1) = ys.take (k + 1) := by
  rw [List.take_add_one, List.take_add_one, h, hx, hy, e]

theorem ne_at {xs ys : List Int} {k : Nat} {x y : Int} (hx : xs[k]? = some x) (hy : ys[k]? = some y) (e : x ≠ y) : xs ≠ ys := by
  intro h; rw [h, hy] at hx; exact e (Option.some.inj hx).symm

set_option maxHeartbeats 400000 in
theorem eqIntS_any (w : World) (lo hi lo' hi' : Nat) (va vb : Value) (xs ys : List Int) (ha : SI w lo hi va xs) (hb : SI w lo' hi' vb ys) :
    Calls Tryz.prog 32 #[va, vb] w fun e w' => ∃ m, e = .returned (.bool (decide (xs = ys))) ∧ w' = w.drewN m := by
  obtain ⟨a, cap, rfl, h1, h2, h3⟩ := ha
  obtain ⟨a', cap', rfl, h1', h2', h3'⟩ := hb
  unfold maxLen at h2 h2'
  by_cases hl : xs.length = ys.length
  · have hl2 : ((xs.length : Int) != (ys.length : Int)) = false := by simp; omega
    go_enter Tryz.func32, Tryz.ntmps32
    go_wp2
    go_loopw [5] (fun i wr => ∃ k m : Nat, k ≤ xs.length ∧ i = .int .i64 k ∧ wr = w.drewN m ∧ xs.take k = ys.take k) (fun i _ => xs.length - (intOf i).toNat)
    case atStart => exact ⟨0, 0, Nat.zero_le _, rfl, rfl, rfl⟩
    case round =>
      obtain ⟨k, m, hk, rfl, rfl, htk⟩ := hrel
      by_cases hlt : k < xs.length
      · obtain ⟨x, hx⟩ : ∃ x, xs[k]? = some x := ⟨xs[k], List.getElem?_eq_getElem hlt⟩
        obtain ⟨y, hy⟩ : ∃ y, ys[k]? = some y := ⟨ys[k]'(by omega), List.getElem?_eq_getElem (by omega)⟩
        rcases h3 with h0 | ⟨b, off, rfl, _, _, hc⟩
        · rw [h0] at hlt; simp at hlt
        rcases h3' with h0 | ⟨b', off', rfl, _, _, hc'⟩
        · rw [h0] at hl; simp at hl; rw [hl] at hlt; simp at hlt
        have c1 := hc k x hx
        have c2 := hc' k y hy
        have HX : Hid (xs[k]? = some x) := hx
        have HY : Hid (ys[k]? = some y) := hy
        have HT : Hid (xs.take k = ys.take k) := htk
        have hlt' : k < ys.length := by omega
        clear hx hy htk hc hc' hl
        by_cases hxy : x = y
        · have hxy' : (x == y) = true := by simpa using hxy
          have HE : Hid (x = y) := hxy
          clear hxy
          go_wp2_with fail
          go_quiet (fail)
          go_wp2
          go_roundw
          case rel => exact ⟨k + 1, m + nq, by omega, by go_num, by simp, eq_take_succ HT.out HX.out HY.out HE.out⟩
          case measure => simp [intOf]; omega
        · have hxy' : (x == y) = false := by simpa using hxy
          have HE : Hid (x ≠ y) := hxy
          clear hxy
          go_wp2_with fail
          go_quiet (fail)
          go_wp2
          go_ret
          exact ⟨m + nq, ret_bool (decide_eq_false (ne_at HX.out HY.out HE.out)).symm, by simp⟩
      · have HT : Hid (xs.take k = ys.take k) := htk
        clear htk
        go_wp2
        go_ret
        exact ⟨m, ret_bool (decide_eq_true (by have := HT.out; rwa [List.take_of_length_le (by omega), List.take_of_length_le (by omega)] at this)).symm, rfl⟩
  · have hl2 : ((xs.length : Int) != (ys.length : Int)) = true := by simp; omega
    go_enter Tryz.func32, Tryz.ntmps32
    go_wp2
    go_ret
    exact ⟨0, ret_bool (decide_eq_false (by intro h; exact hl (by rw [h]))).symm, rfl⟩

theorem info_int : (Tryz.prog.info? 3).map (fun i => (i.zero, i.size, i.bytes)) = some (some (.int .i64 0), 1, 8) := by kernel_rfl

/-- A slice value that owns these numbers: from the head of a block of its own, from lo to hi, that may be written. -/
def OI (w : World) (lo hi : Nat) (v : Value) (xs : List Int) : Prop :=
  xs = [] ∧ (∃ a cap, v = .slice a 0 cap ∧ cap ≤ maxLen) ∨
  ∃ g off cap, v = .slice (some ⟨g, off, none⟩) xs.length cap ∧ xs.length ≤ cap ∧ cap ≤ maxLen ∧ lo ≤ g ∧ g < hi ∧ CI w g off xs ∧ ∀ i, w.frozen? ⟨g, off + i, none⟩ = false

theorem OI.si {w : World} {lo hi : Nat} {v : Value} {xs : List Int} (h : OI w lo hi v xs) : SI w lo hi v xs := by
  rcases h with ⟨rfl, a, cap, rfl, hm⟩ | ⟨g, off, cap, hv, h1, h2, h3, h4, h5, _⟩
  · exact ⟨a, cap, rfl, Nat.zero_le _, hm, .inl rfl⟩
  · exact ⟨_, cap, hv, h1, h2, .inr ⟨g, off, rfl, h3, h4, h5⟩⟩

theorem OI.kept {w w' : World} {lo hi : Nat} {v : Value} {xs : List Int} (h : OI w lo hi v xs) (hk : ∀ k, lo ≤ k → k < hi → w'.heap[k]? = w.heap[k]?) : OI w' lo hi v xs := by
  rcases h with h | ⟨g, off, cap, hv, h1, h2, h3, h4, h5, h6⟩
  · exact .inl h
  · refine .inr ⟨g, off, cap, hv, h1, h2, h3, h4, fun i x hx => ?_, fun i => ?_⟩
    · rw [World.cell?_of_block (w := w) (hk g h3 h4)]; exact h5 i x hx
    · rw [World.frozen?_of_block (w := w) (hk g h3 h4)]; exact h6 i

theorem OI.below {w w' : World} {lo hi n : Nat} {v : Value} {xs : List Int} (h : OI w lo hi v xs) (hb : Below n w w') (hn : hi ≤ n) : OI w' lo hi v xs :=
  h.kept fun k _ hk => hb.block k (by omega)

theorem OI.wide {w : World} {lo hi lo' hi' : Nat} {v : Value} {xs : List Int} (h : OI w lo hi v xs) (h1 : lo' ≤ lo) (h2 : hi ≤ hi') : OI w lo' hi' v xs := by
  rcases h with h | ⟨g, off, cap, hv, h3, h4, h5, h6, h7, h8⟩
  · exact .inl h
  · exact .inr ⟨g, off, cap, hv, h3, h4, by omega, by omega, h7, h8⟩

set_option maxHeartbeats 400000 in
theorem toIntS_any (w : World) (lo hi : Nat) (v : Value) (xs : List Int) (h : SI w lo hi v xs) (hhi : hi ≤ w.heap.size) (hx : xs.length ≤ 1048576) :
    Calls Tryz.prog 25 #[v] w fun e w' => ∃ v', e = .returned v' ∧ OI w' w.heap.size w'.heap.size v' xs ∧ Below w.heap.size w w' := by
  obtain ⟨a, cap, rfl, h1, h2, h3⟩ := h
  unfold maxLen at h2
  obtain ⟨i0, hi0, hz0, hz1, hz2⟩ := info_parts info_int
  go_enter Tryz.func25, Tryz.ntmps25
  go_wp2_with (at_make; refine wpList_make_full _ rfl _ _ 22 rfl w.heap.size 3 i0 (.int .i64 0) 1 Tryz.underlying22 hi0 hz0 hz1 .i64 .i64 _ _ xs.length rfl rfl rfl rfl (by rw [hz2]; omega) (by unfold maxLen; omega) (Nat.le_refl _) ?_; intro w1 hown hgrow)
  have hb1 : Below w.heap.size w w1 := (Below.refl _ _).grown hgrow (Nat.le_refl _) (fun k h => by cases h)
  have hs1 : w.heap.size < w1.heap.size := hown.2.elim (fun h => by simp at h) fun ⟨g, cap, cur, hv, hg, hh, _⟩ => by
    simp only [Value.slice.injEq, Option.some.injEq, Addr.mk.injEq, and_true, true_and] at hv
    obtain ⟨rfl, _⟩ := hv
    exact (Array.getElem?_eq_some_iff.mp hh).1
  go_loopw [4] (fun i wr => ∃ (k : Nat) (ys : List Value), k ≤ xs.length ∧ i = .int .i64 k ∧
      wr.ownsRow w.heap.size 3 1 (.slice (some ⟨w.heap.size, 0, none⟩) xs.length xs.length) xs.length ys ∧ Below w.heap.size w wr ∧ w.heap.size < wr.heap.size ∧
      ∀ i x, i < k → xs[i]? = some x → ys[i]? = some (.int .i64 x)) (fun i _ => xs.length - (intOf i).toNat)
  case atStart => exact ⟨0, _, Nat.zero_le _, rfl, hown, hb1, hs1, fun i x h => by omega⟩
  case round =>
    clear hown hgrow hb1 hs1 w1
    obtain ⟨k, ys, hk, rfl, hown, hb, hs, hy⟩ := hrel
    by_cases hlt : k < xs.length
    · rcases h3 with h0 | ⟨b, off, rfl, _, hbh, hc⟩
      · rw [h0] at hlt; simp at hlt
      obtain ⟨x, hx⟩ : ∃ x, xs[k]? = some x := ⟨xs[k], List.getElem?_eq_getElem hlt⟩
      have c1 : wr.cell? ⟨b, off + k, none⟩ = some (.int .i64 x) := by rw [hb.cell (p := ⟨b, off + k, none⟩) (by show b < _; omega)]; exact hc k x hx
      have hyl : ys.length = xs.length := by have := hown.1; omega
      obtain ⟨u, hu⟩ : ∃ u, ys[k]? = some u := ⟨ys[k]'(by omega), List.getElem?_eq_getElem (by omega)⟩
      have c2 : wr.cell? ⟨w.heap.size, k, none⟩ = some u := by rw [hown.cellAt k (by omega)]; exact hu
      have c3 : wr.frozen? ⟨w.heap.size, k, none⟩ = false := hown.frozenAt k
      have hst := (hown.stored k (.int .i64 x)).1
      have hb' : Below w.heap.size w (wr.setCell ⟨w.heap.size, k, none⟩ (.int .i64 x)) := hb.setCell (Nat.le_refl _) _
      have HR : Hid (∀ i z, i < k + 1 → xs[i]? = some z → (ys.set k (.int .i64 x))[i]? = some (.int .i64 z)) := by
        intro i z hi hz
        by_cases e : i = k
        · rw [e, hx] at hz; rw [e, List.getElem?_set_self (by omega), Option.some.inj hz]
        · rw [List.getElem?_set_ne (by omega)]; exact hy i z (by omega) hz
      have HS : Hid ((wr.setCell ⟨w.heap.size, k, none⟩ (.int .i64 x)).ownsRow w.heap.size 3 1 (.slice (some ⟨w.heap.size, 0, none⟩) xs.length xs.length) xs.length (ys.set k (.int .i64 x))) := hst
      have hs' : w.heap.size < (wr.setCell ⟨w.heap.size, k, none⟩ (.int .i64 x)).heap.size := by simpa [World.setCell] using hs
      have HB : Hid (Below w.heap.size w (wr.setCell ⟨w.heap.size, k, none⟩ (.int .i64 x)) ∧ w.heap.size < (wr.setCell ⟨w.heap.size, k, none⟩ (.int .i64 x)).heap.size) := ⟨hb', hs'⟩
      clear hst hb' hs' hy hx hu hc hown hb
      go_wp2
      go_roundw
      case rel => exact ⟨k + 1, _, by omega, by go_num, HS.out, HB.out.1, HB.out.2, HR.out⟩
      case measure => simp [intOf]; omega
    · have hkl : k = xs.length := by omega
      have HO : Hid (OI wr w.heap.size wr.heap.size (.slice (some ⟨w.heap.size, 0, none⟩) xs.length xs.length) xs) := by
        refine .inr ⟨w.heap.size, 0, xs.length, rfl, Nat.le_refl _, by unfold maxLen; omega, Nat.le_refl _, hs, fun i x hx => ?_, fun i => hown.frozenAt _⟩
        have hil : i < xs.length := (List.getElem?_eq_some_iff.mp hx).1
        rw [Nat.zero_add, hown.cellAt i (by omega)]
        exact hy i x (by omega) hx
      clear hown hy hkl
      go_wp2
      go_ret
      exact ⟨_, rfl, HO.out, hb⟩

/-- Only cells of P may have been written; no block has come or gone. -/
structure Wrote (P : Nat → Nat → Prop) (w w' : World) : Prop where
  os : w'.os = w.os
  tape : w'.tape = w.tape
  output : w'.output = w.output
  size : w'.heap.size = w.heap.size
  block : ∀ k, (∀ o, ¬ P k o) → w'.heap[k]? = w.heap[k]?
  cell : ∀ b o, ¬ P b o → w'.cell? ⟨b, o, none⟩ = w.cell? ⟨b, o, none⟩
  frozen : ∀ b o, w'.frozen? ⟨b, o, none⟩ = w.frozen? ⟨b, o, none⟩

theorem Wrote.refl (P : Nat → Nat → Prop) (w : World) : Wrote P w w := ⟨rfl, rfl, rfl, rfl, fun _ _ => rfl, fun _ _ _ => rfl, fun _ _ => rfl⟩

theorem Wrote.trans {P : Nat → Nat → Prop} {a b c : World} (h : Wrote P a b) (k : Wrote P b c) : Wrote P a c :=
  ⟨k.os.trans h.os, k.tape.trans h.tape, k.output.trans h.output, k.size.trans h.size, fun i hi => (k.block i hi).trans (h.block i hi),
    fun b o hp => (k.cell b o hp).trans (h.cell b o hp), fun b o => (k.frozen b o).trans (h.frozen b o)⟩

theorem Wrote.mono {P Q : Nat → Nat → Prop} {a b : World} (h : Wrote P a b) (hPQ : ∀ i o, P i o → Q i o) : Wrote Q a b :=
  ⟨h.os, h.tape, h.output, h.size, fun k hk => h.block k fun o hp => hk o (hPQ k o hp), fun b o hq => h.cell b o fun hp => hq (hPQ b o hp), h.frozen⟩

theorem Wrote.setCell {P : Nat → Nat → Prop} {a w : World} (h : Wrote P a w) {b o : Nat} (hp : P b o) (u : Value) : Wrote P a (w.setCell ⟨b, o, none⟩ u) :=
  h.trans ⟨rfl, rfl, rfl, by simp [World.setCell], fun k hk => Below.heap_setCell _ _ _ _ (fun e => hk o (by rw [e]; exact hp)),
    fun b' o' hp' => World.cell?_setCell_other w _ _ _ (by intro e; simp only [Addr.mk.injEq] at e; obtain ⟨rfl, rfl, _⟩ := e; exact hp' hp),
    fun b' o' => World.frozen?_setCell _ _ _ _⟩

theorem Wrote.below {P : Nat → Nat → Prop} {a b : World} (h : Wrote P a b) {n : Nat} (hn : ∀ i o, P i o → n ≤ i) : Below n a b :=
  ⟨h.os, h.tape, h.output, by rw [h.size]; exact Nat.le_refl _, fun k hk => h.block k fun o hp => by have := hn k o hp; omega⟩

/-- The cells of a slice of n elements of one cell. -/
def Foot (v : Value) (n : Nat) (b o : Nat) : Prop :=
  ∃ g off l cap, v = .slice (some ⟨g, off, none⟩) l cap ∧ b = g ∧ off ≤ o ∧ o < off + n

theorem SI.wrote {P : Nat → Nat → Prop} {w w' : World} {lo hi : Nat} {v : Value} {xs : List Int} (h : SI w lo hi v xs) (hw : Wrote P w w') (hP : ∀ b o, Foot v xs.length b o → ¬ P b o) : SI w' lo hi v xs := by
  obtain ⟨a, cap, rfl, h1, h2, h3⟩ := h
  refine ⟨a, cap, rfl, h1, h2, ?_⟩
  rcases h3 with h0 | ⟨b, off, rfl, hl, hh, hc⟩
  · exact .inl h0
  · refine .inr ⟨b, off, rfl, hl, hh, fun i x hx => ?_⟩
    have hi : i < xs.length := (List.getElem?_eq_some_iff.mp hx).1
    rw [hw.cell _ _ (hP _ _ ⟨b, off, _, _, rfl, rfl, by omega, by omega⟩)]
    exact hc i x hx

theorem OI.wrote {P : Nat → Nat → Prop} {w w' : World} {lo hi : Nat} {v : Value} {xs : List Int} (h : OI w lo hi v xs) (hw : Wrote P w w') (hP : ∀ b o, Foot v xs.length b o → ¬ P b o) : OI w' lo hi v xs := by
  rcases h with h | ⟨g, off, cap, rfl, h1, h2, h3, h4, h5, h6⟩
  · exact .inl h
  · refine .inr ⟨g, off, cap, rfl, h1, h2, h3, h4, fun i x hx => ?_, fun i => ?_⟩
    · have hi : i < xs.length := (List.getElem?_eq_some_iff.mp hx).1
      rw [hw.cell _ _ (hP _ _ ⟨g, off, _, _, rfl, rfl, by omega, by omega⟩)]
      exact h5 i x hx
    · rw [hw.frozen]; exact h6 i

/-- n numbers from k on. -/
def marks (k : Int) (n : Nat) : List Int := (List.range n).map fun (i : Nat) => k + (i : Int)

theorem marks_length (k : Int) (n : Nat) : (marks k n).length = n := by simp [marks]
theorem marks_at {k : Int} {n i : Nat} (h : i < n) : (marks k n)[i]? = some (k + (i : Int)) := by simp [marks, h]

set_option maxHeartbeats 400000 in
theorem markIntS_any (w : World) (lo hi : Nat) (v : Value) (xs : List Int) (k : Int) (h : OI w lo hi v xs) (hx : xs.length ≤ 16777216) (hk : 0 ≤ k) (hk' : k ≤ 1000000000000) :
    Calls Tryz.prog 34 #[v, .int .i64 k] w fun e w' => e = .returned (.int .i64 (k + xs.length)) ∧ OI w' lo hi v (marks k xs.length) ∧ Wrote (Foot v xs.length) w w' := by
  rcases h with ⟨rfl, a, cap, rfl, hm⟩ | ⟨g, off, cap, rfl, h1, h2, h3, h4, h5, h6⟩
  · unfold maxLen at hm
    go_enter Tryz.func34, Tryz.ntmps34
    go_wp2
    go_loopw [1, 5] (fun q i wr => q = .int .i64 k ∧ i = .int .i64 0 ∧ wr = w) (fun _ _ _ => 0)
    case atStart => exact ⟨rfl, rfl, rfl⟩
    case round =>
      obtain ⟨rfl, rfl, rfl⟩ := hrel
      go_wp2
      go_ret
      exact ⟨by simp, .inl ⟨rfl, a, cap, rfl, by unfold maxLen; omega⟩, Wrote.refl _ _⟩
  · unfold maxLen at h2
    go_enter Tryz.func34, Tryz.ntmps34
    go_wp2
    go_loopw [1, 5] (fun q i wr => ∃ j : Nat, j ≤ xs.length ∧ q = .int .i64 (k + j) ∧ i = .int .i64 j ∧ Wrote (Foot (.slice (some ⟨g, off, none⟩) xs.length cap) xs.length) w wr ∧
        (∀ i, i < xs.length → (wr.cell? ⟨g, off + i, none⟩).isSome = true) ∧ ∀ i, i < j → wr.cell? ⟨g, off + i, none⟩ = some (.int .i64 (k + (i : Int)))) (fun _ i _ => xs.length - (intOf i).toNat)
    case atStart =>
      refine ⟨0, Nat.zero_le _, by simp, rfl, Wrote.refl _ _, fun i hi => ?_, fun i hi => by omega⟩
      rw [h5 i xs[i] (List.getElem?_eq_getElem hi)]; rfl
    case round =>
      obtain ⟨j, hj, rfl, rfl, hw, hs, hc⟩ := hrel
      by_cases hlt : j < xs.length
      · have f1 : wr.frozen? ⟨g, off + j, none⟩ = false := by rw [hw.frozen]; exact h6 j
        obtain ⟨u, hu⟩ : ∃ u, wr.cell? ⟨g, off + j, none⟩ = some u := Option.isSome_iff_exists.mp (hs j hlt)
        have HW : Hid (Wrote (Foot (.slice (some ⟨g, off, none⟩) xs.length cap) xs.length) w (wr.setCell ⟨g, off + j, none⟩ (.int .i64 (k + j)))) :=
          hw.setCell ⟨g, off, _, _, rfl, rfl, by omega, by omega⟩ _
        have HC : Hid (∀ i, i < j + 1 → (wr.setCell ⟨g, off + j, none⟩ (.int .i64 (k + j))).cell? ⟨g, off + i, none⟩ = some (.int .i64 (k + (i : Int)))) := by
          intro i hi
          by_cases e : i = j
          · rw [e]; exact World.cell?_setCell_same _ _ _ hu
          · rw [World.cell?_setCell_other _ _ _ _ (by intro e'; simp only [Addr.mk.injEq] at e'; omega)]; exact hc i (by omega)
        have HS : Hid (∀ i, i < xs.length → ((wr.setCell ⟨g, off + j, none⟩ (.int .i64 (k + j))).cell? ⟨g, off + i, none⟩).isSome = true) := by
          intro i hi
          by_cases e : i = j
          · rw [e, World.cell?_setCell_same _ _ _ hu]; rfl
          · rw [World.cell?_setCell_other _ _ _ _ (by intro e'; simp only [Addr.mk.injEq] at e'; omega)]; exact hs i hi
        clear hw hs hc h5 h6
        go_wp2
        go_roundw
        case rel => exact ⟨j + 1, by omega, by go_num, by go_num, HW.out, HS.out, HC.out⟩
        case measure => simp [intOf]; omega
      · have hjl : j = xs.length := by omega
        subst hjl
        have HO : Hid (OI wr lo hi (.slice (some ⟨g, off, none⟩) xs.length cap) (marks k xs.length)) := by
          refine .inr ⟨g, off, cap, by rw [marks_length], by rw [marks_length]; exact h1, by unfold maxLen; omega, h3, h4, fun i x hx => ?_, fun i => by rw [hw.frozen]; exact h6 i⟩
          have hi : i < xs.length := by have := (List.getElem?_eq_some_iff.mp hx).1; rwa [marks_length] at this
          rw [marks_at hi] at hx
          rw [hc i hi, ← Option.some.inj hx]
        clear hs hc h5 h6
        go_wp2
        go_ret
        exact ⟨rfl, HO.out, hw⟩

set_option maxHeartbeats 400000 in
theorem heldIntS_any (w : World) (lo hi : Nat) (v : Value) (n : Nat) (k : Int) (h : SI w lo hi v (marks k n)) (hx : n ≤ 16777216) (hk : 0 ≤ k) (hk' : k ≤ 1000000000000) :
    Calls Tryz.prog 36 #[v, .int .i64 k] w fun e w' => e = .returned (.int .i64 (k + n)) ∧ w' = w := by
  obtain ⟨a, cap, rfl, h1, h2, h3⟩ := h
  rw [marks_length] at *
  unfold maxLen at h2
  go_enter Tryz.func36, Tryz.ntmps36
  go_wp2
  go_loopw [1, 5] (fun q i wr => ∃ j : Nat, j ≤ n ∧ q = .int .i64 (k + j) ∧ i = .int .i64 j ∧ wr = w) (fun _ i _ => n - (intOf i).toNat)
  case atStart => exact ⟨0, Nat.zero_le _, by simp, rfl, rfl⟩
  case round =>
    obtain ⟨j, hj, rfl, rfl, rfl⟩ := hrel
    by_cases hlt : j < n
    · rcases h3 with h0 | ⟨b, off, rfl, _, _, hc⟩
      · have := congrArg List.length h0; rw [marks_length] at this; simp at this; omega
      have c1 := hc j _ (marks_at hlt)
      clear hc
      go_wp2
      go_roundw
      case rel => exact ⟨j + 1, by omega, by go_num, by go_num, by first | rfl | trivial⟩
      case measure => simp [intOf]; omega
    · have hjl : j = n := by omega
      subst hjl
      go_wp2
      go_ret
      exact ⟨rfl, rfl⟩
end Go.Proofs.YtdlcdllmhacaaaaGreatDoor

/-
  Worlds that differ in a range of blocks alone.
-/
namespace Go.Proofs.YtdlcdllmhacaaaaGreatDoor
open Go.ChangeShapes Go.WideShapes Go.ChangeAt Go.RowKit
set_option linter.unusedVariables false

/-- Old blocks outside lo to hi are as they were. -/
structure Out (lo hi : Nat) (w w' : World) : Prop where
  os : w'.os = w.os
  tape : w'.tape = w.tape
  output : w'.output = w.output
  size : w.heap.size ≤ w'.heap.size
  block : ∀ k, k < w.heap.size → k < lo ∨ hi ≤ k → w'.heap[k]? = w.heap[k]?

theorem out_of_below {w w' : World} (h : Below w.heap.size w w') (lo hi : Nat) : Out lo hi w w' := ⟨h.os, h.tape, h.output, h.size, fun k hk _ => h.block k hk⟩

theorem Out.trans {lo hi : Nat} {a b c : World} (h : Out lo hi a b) (k : Out lo hi b c) : Out lo hi a c :=
  ⟨k.os.trans h.os, k.tape.trans h.tape, k.output.trans h.output, Nat.le_trans h.size k.size, fun i h1 h2 => (k.block i (Nat.lt_of_lt_of_le h1 h.size) h2).trans (h.block i h1 h2)⟩

theorem Out.below {lo hi n : Nat} {w w' : World} (h : Out lo hi w w') (h1 : n ≤ lo) (h2 : n ≤ w.heap.size) : Below n w w' :=
  ⟨h.os, h.tape, h.output, h.size, fun k hk => h.block k (by omega) (.inl (by omega))⟩
end Go.Proofs.YtdlcdllmhacaaaaGreatDoor

/-
  Memories (three lists of numbers), and what the laws' helpers do with them: szMem, eqMem, toMem, markMem, heldMem.
-/
namespace Go.Proofs.YtdlcdllmhacaaaaGreatDoor
open Go.ChangeShapes Go.WideShapes Go.ChangeAt Go.RowKit
set_option linter.unusedVariables false

/-- A memory's numbers. -/
structure MemD where
  i : List Int
  o : List Int
  v : List Int
deriving DecidableEq

/-- A memory value reads as these numbers. -/
def MI (w : World) (lo hi : Nat) (m : Value) (d : MemD) : Prop :=
  ∃ a b c, m = .agg #[a, b, c] ∧ SI w lo hi a d.i ∧ SI w lo hi b d.o ∧ SI w lo hi c d.v

/-- No cell is of both. -/
def Apart (v : Value) (n : Nat) (v' : Value) (n' : Nat) : Prop := ∀ b o, Foot v n b o → ¬ Foot v' n' b o

/-- A memory value owns these numbers, each list apart from the others. -/
def MO (w : World) (lo hi : Nat) (m : Value) (d : MemD) : Prop :=
  ∃ a b c, m = .agg #[a, b, c] ∧ OI w lo hi a d.i ∧ OI w lo hi b d.o ∧ OI w lo hi c d.v ∧
    Apart a d.i.length b d.o.length ∧ Apart a d.i.length c d.v.length ∧ Apart b d.o.length c d.v.length

theorem MO.mi {w : World} {lo hi : Nat} {m : Value} {d : MemD} (h : MO w lo hi m d) : MI w lo hi m d := by
  obtain ⟨a, b, c, hm, h1, h2, h3, _⟩ := h
  exact ⟨a, b, c, hm, h1.si, h2.si, h3.si⟩

theorem MI.kept {w w' : World} {lo hi : Nat} {m : Value} {d : MemD} (h : MI w lo hi m d) (hk : ∀ k, lo ≤ k → k < hi → w'.heap[k]? = w.heap[k]?) : MI w' lo hi m d := by
  obtain ⟨a, b, c, hm, h1, h2, h3⟩ := h
  exact ⟨a, b, c, hm, h1.kept hk, h2.kept hk, h3.kept hk⟩

theorem MI.below {w w' : World} {lo hi n : Nat} {m : Value} {d : MemD} (h : MI w lo hi m d) (hb : Below n w w') (hn : hi ≤ n) : MI w' lo hi m d :=
  h.kept fun k _ hk => hb.block k (by omega)

theorem MO.kept {w w' : World} {lo hi : Nat} {m : Value} {d : MemD} (h : MO w lo hi m d) (hk : ∀ k, lo ≤ k → k < hi → w'.heap[k]? = w.heap[k]?) : MO w' lo hi m d := by
  obtain ⟨a, b, c, hm, h1, h2, h3, h4⟩ := h
  exact ⟨a, b, c, hm, h1.kept hk, h2.kept hk, h3.kept hk, h4⟩

theorem MO.below {w w' : World} {lo hi n : Nat} {m : Value} {d : MemD} (h : MO w lo hi m d) (hb : Below n w w') (hn : hi ≤ n) : MO w' lo hi m d :=
  h.kept fun k _ hk => hb.block k (by omega)

theorem OI.foot {w : World} {lo hi : Nat} {v : Value} {xs : List Int} (h : OI w lo hi v xs) {b o : Nat} (hf : Foot v xs.length b o) : lo ≤ b ∧ b < hi := by
  obtain ⟨g, off, l, cap, hv, rfl, _, _⟩ := hf
  rcases h with ⟨rfl, a, cap', rfl, _⟩ | ⟨g', off', cap', hv', _, _, h3, h4, _⟩
  · simp at *; omega
  · rw [hv] at hv'; simp at hv'; omega

theorem apart_of {w w' : World} {lo hi lo' hi' : Nat} {v v' : Value} {xs ys : List Int} (h : OI w lo hi v xs) (h' : OI w' lo' hi' v' ys) (hl : hi ≤ lo') : Apart v xs.length v' ys.length := by
  intro b o hf hf'
  have := h.foot hf
  have := h'.foot hf'
  omega

theorem SI.shape {w : World} {lo hi : Nat} {v : Value} {xs : List Int} (h : SI w lo hi v xs) : ∃ a cap, v = .slice a xs.length cap := by
  obtain ⟨a, cap, hv, _⟩ := h; exact ⟨a, cap, hv⟩

set_option maxHeartbeats 1000000 in
theorem toMem_any (w : World) (lo hi : Nat) (m : Value) (d : MemD) (h : MI w lo hi m d) (hhi : hi ≤ w.heap.size)
    (hn : d.i.length + d.o.length + d.v.length ≤ 1048576) :
    Calls Tryz.prog 8 #[m] w fun e w' => ∃ m', e = .returned m' ∧ MO w' w.heap.size w'.heap.size m' d ∧ Below w.heap.size w w' := by
  obtain ⟨a, b, c, rfl, ha, hb, hc⟩ := h
  obtain ⟨aa, ca, rfl⟩ := ha.shape
  obtain ⟨ab, cb, rfl⟩ := hb.shape
  obtain ⟨ac, cc, rfl⟩ := hc.shape
  have hb3 := below_alloc3 w
  go_enter Tryz.func8, Tryz.ntmps8
  go_wp2_with fail
  refine (toIntS_any _ lo hi _ d.i (ha.below (hb3 _ _ _) hhi) (by simp; omega) (by omega)).mono ?_
  rintro e w1 ⟨v1, rfl, ho1, hb1⟩
  obtain ⟨a1, c1, rfl⟩ := ho1.si.shape
  obtain ⟨hc1, hf1⟩ := bcell hb1
  simp only [World.size_alloc] at hb1 ho1 hc1 hf1
  have bw1 : Below w.heap.size w w1 := (hb3 _ _ _).trans (hb1.mono (by omega))
  obtain ⟨p1, p2, p3⟩ : w.heap.size < w1.heap.size ∧ w.heap.size + 1 < w1.heap.size ∧ w.heap.size + 1 + 1 < w1.heap.size := by have := hb1.size; simp at this; omega
  clear hb1 hb3
  go_wp2_with fail
  have bs2 : Below w.heap.size w (w1.setCell ⟨w.heap.size + 1 + 1, 0, none⟩ (.slice a1 d.i.length c1)) := bw1.setCell (by show _ ≤ w.heap.size + 1 + 1; omega) _
  have ho1' : OI (w1.setCell ⟨w.heap.size + 1 + 1, 0, none⟩ (.slice a1 d.i.length c1)) (w.heap.size + 1 + 1 + 1) w1.heap.size (.slice a1 d.i.length c1) d.i :=
    ho1.kept fun k h1 h2 => Below.heap_setCell _ _ _ _ (by show k ≠ w.heap.size + 1 + 1; omega)
  refine (toIntS_any _ lo hi _ d.o (hb.below bs2 hhi) (by simp; omega) (by omega)).mono ?_
  rintro e w2 ⟨v2, rfl, ho2, hb2⟩
  obtain ⟨a2, c2, rfl⟩ := ho2.si.shape
  obtain ⟨hc2, hf2⟩ := bcell hb2
  have hsz2 : (w1.setCell ⟨w.heap.size + 1 + 1, 0, none⟩ (.slice a1 d.i.length c1)).heap.size = w1.heap.size := by simp [World.setCell]
  rw [hsz2] at hb2 ho2 hc2 hf2
  have bw2 : Below w.heap.size w w2 := bs2.trans (hb2.mono (by omega))
  have ho1b : OI w2 (w.heap.size + 1 + 1 + 1) w1.heap.size (.slice a1 d.i.length c1) d.i := ho1'.below hb2 (Nat.le_refl _)
  have q := hb2.size
  rw [hsz2] at q
  obtain ⟨q1, q2, q3⟩ : w.heap.size < w2.heap.size ∧ w.heap.size + 1 < w2.heap.size ∧ w.heap.size + 1 + 1 < w2.heap.size := by omega
  clear hb2 hsz2 bs2 ho1' ho1 bw1
  go_wp2_with fail
  have bs3 : Below w.heap.size w (w2.setCell ⟨w.heap.size + 1 + 1, 1, none⟩ (.slice a2 d.o.length c2)) := bw2.setCell (by show _ ≤ w.heap.size + 1 + 1; omega) _
  have ho1c : OI (w2.setCell ⟨w.heap.size + 1 + 1, 1, none⟩ (.slice a2 d.o.length c2)) (w.heap.size + 1 + 1 + 1) w1.heap.size (.slice a1 d.i.length c1) d.i :=
    ho1b.kept fun k h1 h2 => Below.heap_setCell _ _ _ _ (by show k ≠ w.heap.size + 1 + 1; omega)
  have ho2c : OI (w2.setCell ⟨w.heap.size + 1 + 1, 1, none⟩ (.slice a2 d.o.length c2)) w1.heap.size w2.heap.size (.slice a2 d.o.length c2) d.o :=
    ho2.kept fun k h1 h2 => Below.heap_setCell _ _ _ _ (by show k ≠ w.heap.size + 1 + 1; omega)
  refine (toIntS_any _ lo hi _ d.v (hc.below bs3 hhi) (by simp; omega) (by omega)).mono ?_
  rintro e w3 ⟨v3, rfl, ho3, hb3⟩
  obtain ⟨a3, c3, rfl⟩ := ho3.si.shape
  obtain ⟨hc3, hf3⟩ := bcell hb3
  have hsz3 : (w2.setCell ⟨w.heap.size + 1 + 1, 1, none⟩ (.slice a2 d.o.length c2)).heap.size = w2.heap.size := by simp [World.setCell]
  rw [hsz3] at hb3 ho3 hc3 hf3
  have bw3 : Below w.heap.size w w3 := bs3.trans (hb3.mono (by omega))
  have ho1d : OI w3 (w.heap.size + 1 + 1 + 1) w1.heap.size (.slice a1 d.i.length c1) d.i := ho1c.below hb3 (by omega)
  have ho2d : OI w3 w1.heap.size w2.heap.size (.slice a2 d.o.length c2) d.o := ho2c.below hb3 (by omega)
  have r := hb3.size
  rw [hsz3] at r
  obtain ⟨r1, r2, r3⟩ : w.heap.size < w3.heap.size ∧ w.heap.size + 1 < w3.heap.size ∧ w.heap.size + 1 + 1 < w3.heap.size := by omega
  clear hb3 hsz3 bs3 ho1c ho2c ho1b ho2 bw2
  go_wp2
  have hk : ∀ (x1 x2 x3 x4 : Value) (k : Nat), w.heap.size + 1 + 1 + 1 ≤ k → ((((w3.setCell ⟨w.heap.size + 1 + 1, 2, none⟩ x1).setCell ⟨w.heap.size + 1, 0, none⟩ x2).setCell ⟨w.heap.size + 1, 1, none⟩ x3).setCell ⟨w.heap.size + 1, 2, none⟩ x4).heap[k]? = w3.heap[k]? := by
    intro x1 x2 x3 x4 k hk
    rw [Below.heap_setCell _ _ _ _ (by show k ≠ w.heap.size + 1; omega), Below.heap_setCell _ _ _ _ (by show k ≠ w.heap.size + 1; omega), Below.heap_setCell _ _ _ _ (by show k ≠ w.heap.size + 1; omega), Below.heap_setCell _ _ _ _ (by show k ≠ w.heap.size + 1 + 1; omega)]
  have hsz : ∀ (x1 x2 x3 x4 : Value), ((((w3.setCell ⟨w.heap.size + 1 + 1, 2, none⟩ x1).setCell ⟨w.heap.size + 1, 0, none⟩ x2).setCell ⟨w.heap.size + 1, 1, none⟩ x3).setCell ⟨w.heap.size + 1, 2, none⟩ x4).heap.size = w3.heap.size := by
    intro x1 x2 x3 x4; simp [World.setCell]
  refine bodyPost_ret (v := .agg #[.slice a1 d.i.length c1, .slice a2 d.o.length c2, .slice a3 d.v.length c3]) (by simp [results, Tryz.results8, go_sem, hc3, hc2, hc1, q2, p2]) rfl ⟨_, rfl, ?_, ?_⟩
  · refine ⟨_, _, _, rfl, ?_, ?_, ?_, apart_of ho1d ho2d (Nat.le_refl _), apart_of ho1d ho3 (by omega), apart_of ho2d ho3 (Nat.le_refl _)⟩
    · exact (ho1d.kept fun k h1 h2 => hk _ _ _ _ k h1).wide (by omega) (by rw [hsz]; omega)
    · exact (ho2d.kept fun k h1 h2 => hk _ _ _ _ k (by omega)).wide (by omega) (by rw [hsz]; omega)
    · exact (ho3.kept fun k h1 h2 => hk _ _ _ _ k (by omega)).wide (by omega) (by rw [hsz]; omega)
  · exact (((bw3.setCell (by show _ ≤ w.heap.size + 1 + 1; omega) _).setCell (by show _ ≤ w.heap.size + 1; omega) _).setCell (by show _ ≤ w.heap.size + 1; omega) _).setCell (by show _ ≤ w.heap.size + 1; omega) _

/-- How many numbers there are in a memory. -/
def MemD.many (d : MemD) : Nat := d.i.length + d.o.length + d.v.length

set_option maxHeartbeats 400000 in
theorem szMem_any (w : World) (lo hi : Nat) (m : Value) (d : MemD) (left : Int) (h : MI w lo hi m d) (hhi : hi ≤ w.heap.size) (hl : 0 ≤ left) (hl' : left ≤ 1048576) :
    Calls Tryz.prog 5 #[m, .int .i64 left] w fun e w' => e = .returned (.int .i64 (if left < d.many then -1 else left - d.many)) ∧ Below w.heap.size w w' := by
  obtain ⟨a, b, c, rfl, ha, hb, hc⟩ := h
  have sa := fun o => ha.below (w' := w.alloc o) ((Below.refl _ _).alloc (Nat.le_refl _) o) hhi
  have sb := fun o => hb.below (w' := w.alloc o) ((Below.refl _ _).alloc (Nat.le_refl _) o) hhi
  have sc := fun o => hc.below (w' := w.alloc o) ((Below.refl _ _).alloc (Nat.le_refl _) o) hhi
  unfold MemD.many
  by_cases h1 : left < d.i.length
  · rw [if_pos (by omega)]
    go_enter Tryz.func5, Tryz.ntmps5
    go_wp2_with fail
    refine (szIntS_any _ lo hi _ d.i _ (sa _) hl hl').mono ?_
    rw [if_pos (by omega)]
    rintro e w1 ⟨rfl, rfl⟩
    go_wp2
    go_ret
    exact ⟨rfl, (Below.refl _ _).alloc (Nat.le_refl _) _⟩
  · by_cases h2 : left - d.i.length < d.o.length
    · rw [if_pos (by omega)]
      go_enter Tryz.func5, Tryz.ntmps5
      go_wp2_with fail
      refine (szIntS_any _ lo hi _ d.i _ (sa _) hl hl').mono ?_
      rw [if_neg (by omega)]
      rintro e w1 ⟨rfl, rfl⟩
      go_wp2_with fail
      refine (szIntS_any _ lo hi _ d.o _ (sb _) (by omega) (by omega)).mono ?_
      rw [if_pos (by omega)]
      rintro e w1 ⟨rfl, rfl⟩
      go_wp2
      go_ret
      exact ⟨rfl, (Below.refl _ _).alloc (Nat.le_refl _) _⟩
    · by_cases h3 : left - d.i.length - d.o.length < d.v.length
      · rw [if_pos (by omega)]
        go_enter Tryz.func5, Tryz.ntmps5
        go_wp2_with fail
        refine (szIntS_any _ lo hi _ d.i _ (sa _) hl hl').mono ?_
        rw [if_neg (by omega)]
        rintro e w1 ⟨rfl, rfl⟩
        go_wp2_with fail
        refine (szIntS_any _ lo hi _ d.o _ (sb _) (by omega) (by omega)).mono ?_
        rw [if_neg (by omega)]
        rintro e w1 ⟨rfl, rfl⟩
        go_wp2_with fail
        refine (szIntS_any _ lo hi _ d.v _ (sc _) (by omega) (by omega)).mono ?_
        rw [if_pos (by omega)]
        rintro e w1 ⟨rfl, rfl⟩
        go_wp2
        go_ret
        exact ⟨rfl, (Below.refl _ _).alloc (Nat.le_refl _) _⟩
      · rw [if_neg (by omega)]
        go_enter Tryz.func5, Tryz.ntmps5
        go_wp2_with fail
        refine (szIntS_any _ lo hi _ d.i _ (sa _) hl hl').mono ?_
        rw [if_neg (by omega)]
        rintro e w1 ⟨rfl, rfl⟩
        go_wp2_with fail
        refine (szIntS_any _ lo hi _ d.o _ (sb _) (by omega) (by omega)).mono ?_
        rw [if_neg (by omega)]
        rintro e w1 ⟨rfl, rfl⟩
        go_wp2_with fail
        refine (szIntS_any _ lo hi _ d.v _ (sc _) (by omega) (by omega)).mono ?_
        rw [if_neg (by omega)]
        rintro e w1 ⟨rfl, rfl⟩
        go_wp2
        go_ret
        exact ⟨ret_int (by omega), (Below.refl _ _).alloc (Nat.le_refl _) _⟩

theorem memD_eq {d e : MemD} : (d = e) = (d.i = e.i ∧ d.o = e.o ∧ d.v = e.v) := by
  cases d; cases e; simp

set_option maxHeartbeats 400000 in
theorem eqMem_any (w : World) (lo hi lo' hi' : Nat) (m m' : Value) (d e : MemD) (h : MI w lo hi m d) (h' : MI w lo' hi' m' e) (hhi : hi ≤ w.heap.size) (hhi' : hi' ≤ w.heap.size) :
    Calls Tryz.prog 11 #[m, m'] w fun en w' => en = .returned (.bool (decide (d = e))) ∧ Below w.heap.size w w' := by
  obtain ⟨a, b, c, rfl, ha, hb, hc⟩ := h
  obtain ⟨a', b', c', rfl, ha', hb', hc'⟩ := h'
  have b2 := fun o o' => ((Below.refl w.heap.size w).alloc (Nat.le_refl _) o).alloc (by simp) o'
  have bm := fun o o' (m : Nat) => below_drewN (b2 o o') m
  have sa := fun o o' m => ha.below (bm o o' m) hhi
  have sb := fun o o' m => hb.below (bm o o' m) hhi
  have sc := fun o o' m => hc.below (bm o o' m) hhi
  have ta := fun o o' m => ha'.below (bm o o' m) hhi'
  have tb := fun o o' m => hb'.below (bm o o' m) hhi'
  have tc := fun o o' m => hc'.below (bm o o' m) hhi'
  clear ha hb hc ha' hb' hc'
  by_cases h1 : d.i = e.i
  · by_cases h2 : d.o = e.o
    · by_cases h3 : d.v = e.v
      · have HE : Hid (decide (d = e) = true) := decide_eq_true (by rw [memD_eq]; exact ⟨h1, h2, h3⟩)
        go_enter Tryz.func11, Tryz.ntmps11
        go_wp2_with fail
        refine (eqIntS_any _ lo hi lo' hi' _ _ d.i e.i (sa _ _ 0) (ta _ _ 0)).mono ?_
        rw [decide_eq_true (by assumption)]
        rintro en w1 ⟨m0, rfl, rfl⟩
        go_wp2_with fail
        refine (eqIntS_any _ lo hi lo' hi' _ _ d.o e.o (sb _ _ _) (tb _ _ _)).mono ?_
        rw [decide_eq_true (by assumption)]
        rintro en w1 ⟨m1, rfl, rfl⟩
        go_wp2_with fail
        refine (eqIntS_any _ lo hi lo' hi' _ _ d.v e.v (sc _ _ _) (tc _ _ _)).mono ?_
        rw [decide_eq_true (by assumption)]
        rintro en w1 ⟨m2, rfl, rfl⟩
        go_wp2
        go_ret
        exact ⟨ret_bool HE.out.symm, bm _ _ _⟩
      · have HE : Hid (decide (d = e) = false) := decide_eq_false (by rw [memD_eq]; intro h; exact h3 h.2.2)
        go_enter Tryz.func11, Tryz.ntmps11
        go_wp2_with fail
        refine (eqIntS_any _ lo hi lo' hi' _ _ d.i e.i (sa _ _ 0) (ta _ _ 0)).mono ?_
        rw [decide_eq_true (by assumption)]
        rintro en w1 ⟨m0, rfl, rfl⟩
        go_wp2_with fail
        refine (eqIntS_any _ lo hi lo' hi' _ _ d.o e.o (sb _ _ _) (tb _ _ _)).mono ?_
        rw [decide_eq_true (by assumption)]
        rintro en w1 ⟨m1, rfl, rfl⟩
        go_wp2_with fail
        refine (eqIntS_any _ lo hi lo' hi' _ _ d.v e.v (sc _ _ _) (tc _ _ _)).mono ?_
        rw [decide_eq_false (by assumption)]
        rintro en w1 ⟨m2, rfl, rfl⟩
        go_wp2
        go_ret
        exact ⟨ret_bool HE.out.symm, bm _ _ _⟩
    · have HE : Hid (decide (d = e) = false) := decide_eq_false (by rw [memD_eq]; intro h; exact h2 h.2.1)
      go_enter Tryz.func11, Tryz.ntmps11
      go_wp2_with fail
      refine (eqIntS_any _ lo hi lo' hi' _ _ d.i e.i (sa _ _ 0) (ta _ _ 0)).mono ?_
      rw [decide_eq_true (by assumption)]
      rintro en w1 ⟨m0, rfl, rfl⟩
      go_wp2_with fail
      refine (eqIntS_any _ lo hi lo' hi' _ _ d.o e.o (sb _ _ _) (tb _ _ _)).mono ?_
      rw [decide_eq_false (by assumption)]
      rintro en w1 ⟨m1, rfl, rfl⟩
      go_wp2
      go_ret
      exact ⟨ret_bool HE.out.symm, bm _ _ _⟩
  · have HE : Hid (decide (d = e) = false) := decide_eq_false (by rw [memD_eq]; intro h; exact h1 h.1)
    go_enter Tryz.func11, Tryz.ntmps11
    go_wp2_with fail
    refine (eqIntS_any _ lo hi lo' hi' _ _ d.i e.i (sa _ _ 0) (ta _ _ 0)).mono ?_
    rw [decide_eq_false (by assumption)]
    rintro en w1 ⟨m0, rfl, rfl⟩
    go_wp2
    go_ret
    exact ⟨ret_bool HE.out.symm, bm _ _ _⟩

theorem Wrote.out {P : Nat → Nat → Prop} {w w' : World} (h : Wrote P w w') {lo hi : Nat} (hP : ∀ b o, P b o → lo ≤ b ∧ b < hi) : Out lo hi w w' :=
  ⟨h.os, h.tape, h.output, by rw [h.size]; exact Nat.le_refl _, fun k _ hk => h.block k fun o hp => by have := hP k o hp; omega⟩

theorem MI.out {w w' : World} {lo hi lo' hi' : Nat} {m : Value} {d : MemD} (h : MI w lo' hi' m d) (ho : Out lo hi w w') (h1 : hi' ≤ w.heap.size) (h2 : hi' ≤ lo ∨ hi ≤ lo') : MI w' lo' hi' m d :=
  h.kept fun k h3 h4 => ho.block k (by omega) (by omega)

theorem MO.out {w w' : World} {lo hi lo' hi' : Nat} {m : Value} {d : MemD} (h : MO w lo' hi' m d) (ho : Out lo hi w w') (h1 : hi' ≤ w.heap.size) (h2 : hi' ≤ lo ∨ hi ≤ lo') : MO w' lo' hi' m d :=
  h.kept fun k h3 h4 => ho.block k (by omega) (by omega)

/-- A memory that was marked. -/
def markD (k : Int) (d : MemD) : MemD := ⟨marks k d.i.length, marks (k + d.i.length) d.o.length, marks (k + d.i.length + d.o.length) d.v.length⟩

set_option maxHeartbeats 1000000 in
theorem markMem_any (w : World) (lo hi : Nat) (m : Value) (d : MemD) (k : Int) (h : MO w lo hi m d) (hhi : hi ≤ w.heap.size) (hn : d.many ≤ 4194304) (hk : 0 ≤ k) (hk' : k ≤ 1000000) :
    Calls Tryz.prog 13 #[m, .int .i64 k] w fun e w' => e = .returned (.int .i64 (k + d.many)) ∧ MO w' lo hi m (markD k d) ∧ Out lo hi w w' := by
  obtain ⟨a, b, c, rfl, ha, hb, hc, ab, ac, bc⟩ := h
  unfold MemD.many at *
  have b1 := fun o => (Below.refl w.heap.size w).alloc (Nat.le_refl _) o
  have sa := fun o => ha.below (b1 o) hhi
  have sb := fun o => hb.below (b1 o) hhi
  have sc := fun o => hc.below (b1 o) hhi
  clear ha hb hc
  go_enter Tryz.func13, Tryz.ntmps13
  go_wp2_with fail
  have A0 := sa (.cells #[a, b, c] 28)
  have B0 := sb (.cells #[a, b, c] 28)
  have C0 := sc (.cells #[a, b, c] 28)
  have D0 := b1 (.cells #[a, b, c] 28)
  clear sa sb sc b1
  refine (markIntS_any _ lo hi a d.i k A0 (by omega) hk (by omega)).mono ?_
  rintro e w1 ⟨rfl, A1, W1⟩
  have F1 : ∀ o, w1.cell? ⟨w.heap.size, o, none⟩ = (w.alloc (.cells #[a, b, c] 28)).cell? ⟨w.heap.size, o, none⟩ := fun o => W1.cell _ _ fun hf => by have := A0.foot hf; omega
  have B1 := B0.wrote W1 (fun x o hf hf' => ab x o hf' hf)
  have C1 := C0.wrote W1 (fun x o hf hf' => ac x o hf' hf)
  have O1 := (out_of_below D0 lo hi).trans (W1.out fun x o hf => A0.foot hf)
  clear A0 B0 C0 D0 W1
  go_wp2_with fail
  refine (markIntS_any _ lo hi b d.o _ B1 (by omega) (by omega) (by omega)).mono ?_
  rintro e w2 ⟨rfl, B2, W2⟩
  have F2 : ∀ o, w2.cell? ⟨w.heap.size, o, none⟩ = w1.cell? ⟨w.heap.size, o, none⟩ := fun o => W2.cell _ _ fun hf => by have := B1.foot hf; omega
  have A2 := A1.wrote W2 (fun x o hf hf' => ab x o (by rwa [marks_length] at hf) hf')
  have C2 := C1.wrote W2 (fun x o hf hf' => bc x o hf' hf)
  have O2 := O1.trans (W2.out fun x o hf => B1.foot hf)
  clear A1 B1 C1 O1 W2
  go_wp2_with fail
  refine (markIntS_any _ lo hi c d.v _ C2 (by omega) (by omega) (by omega)).mono ?_
  rintro e w3 ⟨rfl, C3, W3⟩
  have A3 := A2.wrote W3 (fun x o hf hf' => ac x o (by rwa [marks_length] at hf) hf')
  have B3 := B2.wrote W3 (fun x o hf hf' => bc x o (by rwa [marks_length] at hf) hf')
  have O3 := O2.trans (W3.out fun x o hf => C2.foot hf)
  clear A2 B2 C2 O2 W3
  go_wp2
  go_ret
  refine ⟨ret_int (by omega), ⟨a, b, c, rfl, A3, B3, C3, ?_, ?_, ?_⟩, O3⟩
  · simpa [markD, marks_length] using ab
  · simpa [markD, marks_length] using ac
  · simpa [markD, marks_length] using bc

set_option maxHeartbeats 1000000 in
theorem heldMem_any (w : World) (lo hi : Nat) (m : Value) (d : MemD) (k : Int) (h : MI w lo hi m (markD k d)) (hhi : hi ≤ w.heap.size) (hn : d.many ≤ 4194304) (hk : 0 ≤ k) (hk' : k ≤ 1000000) :
    Calls Tryz.prog 15 #[m, .int .i64 k] w fun e w' => e = .returned (.int .i64 (k + d.many)) ∧ Below w.heap.size w w' := by
  obtain ⟨a, b, c, rfl, ha, hb, hc⟩ := h
  unfold MemD.many at *
  unfold markD at ha hb hc
  have b1 := fun o => (Below.refl w.heap.size w).alloc (Nat.le_refl _) o
  have sa := fun o => ha.below (b1 o) hhi
  have sb := fun o => hb.below (b1 o) hhi
  have sc := fun o => hc.below (b1 o) hhi
  clear ha hb hc
  go_enter Tryz.func15, Tryz.ntmps15
  go_wp2_with fail
  refine (heldIntS_any _ lo hi a d.i.length k (sa _) (by omega) (by omega) (by omega)).mono ?_
  rintro e w1 ⟨rfl, rfl⟩
  go_wp2_with fail
  refine (heldIntS_any _ lo hi b d.o.length _ (sb _) (by omega) (by omega) (by omega)).mono ?_
  rintro e w1 ⟨rfl, rfl⟩
  go_wp2_with fail
  refine (heldIntS_any _ lo hi c d.v.length _ (sc _) (by omega) (by omega) (by omega)).mono ?_
  rintro e w1 ⟨rfl, rfl⟩
  go_wp2
  go_ret
  exact ⟨ret_int (by omega), b1 _⟩

end Go.Proofs.YtdlcdllmhacaaaaGreatDoor

/-
  What chapter 2's models (package spec) answer: places and memories.
-/
namespace Go.Proofs.YtdlcdllmhacaaaaGreatDoor
open Go.ChangeShapes Go.WideShapes Go.ChangeAt Go.RowKit
set_option linter.unusedVariables false

/-- Numbers are right. -/
def listOk (xs : List Int) : Bool := decide (xs.length = 6) && xs.all fun x => cutZ x == x

def memOk (d : MemD) : Bool := listOk d.i && listOk d.o && listOk d.v

theorem all_take_succ {xs : List Int} {k : Nat} {x : Int} {f : Int → Bool} (h : (xs.take k).all f = true) (hx : xs[k]? = some x) (hf : f x = true) : (xs.take (k + 1)).all f = true := by
  rw [List.take_add_one, hx]; simp [h, hf]

theorem listOk_false {xs : List Int} {k : Nat} {x : Int} (hx : xs[k]? = some x) (hf : (cutZ x == x) = false) : listOk xs = false := by
  unfold listOk
  have : xs.all (fun x => cutZ x == x) = false := by
    rw [Bool.eq_false_iff]
    intro h
    have := List.all_eq_true.mp h x (List.mem_of_getElem? hx)
    rw [hf] at this; cases this
  rw [this, Bool.and_false]

set_option maxHeartbeats 400000 in
theorem l2List_any (w : World) (lo hi : Nat) (v : Value) (xs : List Int) (h : SI w lo hi v xs) :
    Calls Tryz.prog 43 #[v] w fun e w' => ∃ m, e = .returned (.bool (listOk xs)) ∧ w' = w.drewN m := by
  obtain ⟨a, cap, rfl, h1, h2, h3⟩ := h
  unfold maxLen at h2
  go_enter Tryz.func43, Tryz.ntmps43
  go_wp2
  go_loopw [3] (fun i wr => ∃ k m : Nat, k ≤ xs.length ∧ i = .int .i64 k ∧ wr = w.drewN m ∧ (xs.take k).all (fun x => cutZ x == x) = true) (fun i _ => xs.length - (intOf i).toNat)
  case atStart => exact ⟨0, 0, Nat.zero_le _, rfl, rfl, rfl⟩
  case round =>
    obtain ⟨k, m, hk, rfl, hwr, htk⟩ := hrel
    have HT : Hid ((xs.take k).all (fun x => cutZ x == x) = true) := htk
    have HW : Hid (wr = w.drewN m) := hwr
    clear htk hwr
    by_cases hlt : k < xs.length
    · obtain ⟨x, hx⟩ : ∃ x, xs[k]? = some x := ⟨xs[k], List.getElem?_eq_getElem hlt⟩
      rcases h3 with h0 | ⟨b, off, rfl, _, _, hc⟩
      · rw [h0] at hlt; simp at hlt
      have c1 : wr.cell? ⟨b, off + k, none⟩ = some (.int .i64 x) := by rw [HW.out]; exact hc k x hx
      have HX : Hid (xs[k]? = some x) := hx
      clear hx hc
      by_cases hxy : (cutZ x == x) = true
      · go_wp2_with fail
        go_quiet ((go_at_call 68; exact Calls.quiet_of_same (sCut_any _ _)))
        go_wp2
        go_roundw
        case rel => exact ⟨k + 1, m + nq, by omega, by go_num, by rw [HW.out]; simp, all_take_succ HT.out HX.out hxy⟩
        case measure => simp [intOf]; omega
      · have hxy' : (cutZ x == x) = false := by simpa using hxy
        clear hxy
        go_wp2_with fail
        go_quiet ((go_at_call 68; exact Calls.quiet_of_same (sCut_any _ _)))
        go_wp2
        go_ret
        exact ⟨m + nq, ret_bool (listOk_false HX.out hxy').symm, by rw [HW.out]; simp⟩
    · go_wp2
      go_ret
      refine ⟨m, ret_bool ?_, HW.out⟩
      have ht := HT.out
      rw [List.take_of_length_le (by omega)] at ht
      unfold listOk
      rw [ht, Bool.and_true]
      by_cases e : xs.length = 6
      · simp [e]
      · simp [e]; omega

set_option maxHeartbeats 400000 in
theorem sMemOk_any (w : World) (lo hi : Nat) (m : Value) (d : MemD) (h : MI w lo hi m d) (hhi : hi ≤ w.heap.size) :
    Calls Tryz.prog 21 #[m] w fun e w' => e = .returned (.bool (memOk d)) ∧ Below w.heap.size w w' := by
  obtain ⟨a, b, c, rfl, ha, hb, hc⟩ := h
  have bm := fun o (m : Nat) => below_drewN ((Below.refl w.heap.size w).alloc (Nat.le_refl _) o) m
  have sa := fun o m => ha.below (bm o m) hhi
  have sb := fun o m => hb.below (bm o m) hhi
  have sc := fun o m => hc.below (bm o m) hhi
  clear ha hb hc
  unfold memOk
  cases h1 : listOk d.i
  · go_enter Tryz.func21, Tryz.ntmps21
    go_wp2_with fail
    refine (l2List_any _ lo hi _ d.i (sa _ 0)).mono ?_
    rw [h1]
    rintro e w1 ⟨m1, rfl, rfl⟩
    go_wp2
    go_ret
    exact ⟨rfl, bm _ _⟩
  · cases h2 : listOk d.o
    · go_enter Tryz.func21, Tryz.ntmps21
      go_wp2_with fail
      refine (l2List_any _ lo hi _ d.i (sa _ 0)).mono ?_
      rw [h1]
      rintro e w1 ⟨m1, rfl, rfl⟩
      go_wp2_with fail
      refine (l2List_any _ lo hi _ d.o (sb _ _)).mono ?_
      rw [h2]
      rintro e w1 ⟨m2, rfl, rfl⟩
      go_wp2
      go_ret
      exact ⟨rfl, bm _ _⟩
    · go_enter Tryz.func21, Tryz.ntmps21
      go_wp2_with fail
      refine (l2List_any _ lo hi _ d.i (sa _ 0)).mono ?_
      rw [h1]
      rintro e w1 ⟨m1, rfl, rfl⟩
      go_wp2_with fail
      refine (l2List_any _ lo hi _ d.o (sb _ _)).mono ?_
      rw [h2]
      rintro e w1 ⟨m2, rfl, rfl⟩
      go_wp2_with fail
      refine (l2List_any _ lo hi _ d.v (sc _ _)).mono ?_
      rintro e w1 ⟨m3, rfl, rfl⟩
      go_wp2
      go_ret
      exact ⟨by simp, bm _ _⟩



/-- The list of a kind. -/
def memList (d : MemD) (k : Int) : List Int := if k = 1 then d.i else if k = 2 then d.o else d.v

/-- The number at a place. -/
def memGet (d : MemD) (a : AddrD) : Int := if memOk d && addrOk a then ((memList d a.kind)[a.at_.toNat]?).getD 0 else 0

theorem memOk_len {d : MemD} (h : memOk d = true) (k : Int) : (memList d k).length = 6 := by
  simp [memOk, listOk] at h
  unfold memList
  split
  · omega
  · split <;> omega

set_option maxHeartbeats 400000 in
theorem l2Get_any (w : World) (lo hi : Nat) (m : Value) (d : MemD) (a : AddrD) (h : MI w lo hi m d) (hhi : hi ≤ w.heap.size) (hd : memOk d = true) (ha : addrOk a = true) :
    Calls Tryz.prog 71 #[m, a.val] w fun e w' => e = .returned (.int .i64 (((memList d a.kind)[a.at_.toNat]?).getD 0)) ∧ Below w.heap.size w w' := by
  obtain ⟨x, y, z, rfl, hx, hy, hz⟩ := h
  obtain ⟨k, at_⟩ := a
  obtain ⟨k1, k2, k3, k4⟩ := addrOk_bd ha
  simp only at k1 k2 k3 k4
  have b2 := fun o o' => ((Below.refl w.heap.size w).alloc (Nat.le_refl _) o).alloc (by simp) o'
  have hl := memOk_len hd k
  obtain ⟨n, rfl⟩ : ∃ n : Nat, at_ = (n : Int) := ⟨at_.toNat, by omega⟩
  obtain ⟨r, hr⟩ : ∃ r, (memList d k)[n]? = some r := ⟨(memList d k)[n]'(by omega), List.getElem?_eq_getElem (by omega)⟩
  have HR : Hid ((((memList d k)[(n : Int).toNat]?).getD 0) = r) := by show (((memList d k)[n]?).getD 0) = r; rw [hr]; rfl
  show Calls Tryz.prog 71 #[_, AddrD.val ⟨k, n⟩] w fun e w' => e = .returned (.int .i64 (((memList d k)[(n : Int).toNat]?).getD 0)) ∧ Below w.heap.size w w'
  rw [HR.out]
  unfold AddrD.val
  clear HR hd ha
  have pick : ∀ {v : Value} {xs : List Int}, SI w lo hi v xs → xs[n]? = some r → xs.length = 6 → ∃ b off cap, v = .slice (some ⟨b, off, none⟩) 6 cap ∧ 6 ≤ cap ∧ cap ≤ maxLen ∧ b < w.heap.size ∧ w.cell? ⟨b, off + n, none⟩ = some (.int .i64 r) := by
    intro v xs hs hn hlen
    obtain ⟨a, cap, rfl, h1, h2, h3⟩ := hs
    rcases h3 with rfl | ⟨b, off, rfl, _, hb, hc⟩
    · simp at hlen
    · exact ⟨b, off, cap, by rw [hlen], by omega, h2, by omega, hc n r hn⟩
  unfold memList at hr hl
  by_cases e1 : k = 1
  · subst e1
    rw [if_pos rfl] at hr hl
    obtain ⟨b, off, cap, rfl, h6, h7, hb, hc⟩ := pick hx hr hl
    clear pick hx hy hz hr
    unfold maxLen at h7
    have hbs : b < w.heap.size + 1 := by omega
    go_enter Tryz.func71, Tryz.ntmps71
    go_wp2
    go_ret
    exact ⟨rfl, b2 _ _⟩
  · by_cases e2 : k = 2
    · subst e2
      rw [if_neg (by omega), if_pos rfl] at hr hl
      obtain ⟨b, off, cap, rfl, h6, h7, hb, hc⟩ := pick hy hr hl
      clear pick hx hy hz hr e1
      unfold maxLen at h7
      have hbs : b < w.heap.size + 1 := by omega
      go_enter Tryz.func71, Tryz.ntmps71
      go_wp2
      go_ret
      exact ⟨rfl, b2 _ _⟩
    · obtain rfl : k = 3 := by omega
      rw [if_neg (by omega), if_neg (by omega)] at hr hl
      obtain ⟨b, off, cap, rfl, h6, h7, hb, hc⟩ := pick hz hr hl
      clear pick hx hy hz hr e1 e2
      unfold maxLen at h7
      have hbs : b < w.heap.size + 1 := by omega
      go_enter Tryz.func71, Tryz.ntmps71
      go_wp2
      go_ret
      exact ⟨rfl, b2 _ _⟩

/-- The value is a memory's: three values. -/
theorem MI.agg {w : World} {lo hi : Nat} {m : Value} {d : MemD} (h : MI w lo hi m d) : ∃ a b c, m = .agg #[a, b, c] := by
  obtain ⟨a, b, c, hm, _⟩ := h; exact ⟨a, b, c, hm⟩

end Go.Proofs.YtdlcdllmhacaaaaGreatDoor

/-
  Variables of a law in memory, and what is stored there.
-/
namespace Go.Proofs.YtdlcdllmhacaaaaGreatDoor
open Go.ChangeShapes Go.WideShapes Go.ChangeAt Go.RowKit
set_option linter.unusedVariables false

/-- Three cells of one block are written. -/
theorem wrote3 (u : World) (B : Nat) (x y z : Value) : Wrote (fun b _ => b = B) u (((u.setCell ⟨B, 0, none⟩ x).setCell ⟨B, 1, none⟩ y).setCell ⟨B, 2, none⟩ z) :=
  Wrote.setCell (P := fun b _ => b = B) (Wrote.setCell (P := fun b _ => b = B) (Wrote.setCell (P := fun b _ => b = B) (Wrote.refl _ _) rfl x) rfl y) rfl z

theorem cells3 {u : World} {B : Nat} (h : ∀ k, k < 3 → (u.cell? ⟨B, k, none⟩).isSome = true) (x y z : Value) :
    (((u.setCell ⟨B, 0, none⟩ x).setCell ⟨B, 1, none⟩ y).setCell ⟨B, 2, none⟩ z).cell? ⟨B, 0, none⟩ = some x ∧
    (((u.setCell ⟨B, 0, none⟩ x).setCell ⟨B, 1, none⟩ y).setCell ⟨B, 2, none⟩ z).cell? ⟨B, 1, none⟩ = some y ∧
    (((u.setCell ⟨B, 0, none⟩ x).setCell ⟨B, 1, none⟩ y).setCell ⟨B, 2, none⟩ z).cell? ⟨B, 2, none⟩ = some z := by
  obtain ⟨y0, s0⟩ := Option.isSome_iff_exists.mp (h 0 (by omega))
  obtain ⟨y1, s1⟩ := Option.isSome_iff_exists.mp (h 1 (by omega))
  obtain ⟨y2, s2⟩ := Option.isSome_iff_exists.mp (h 2 (by omega))
  refine ⟨?_, ?_, ?_⟩
  · rw [cell_set_other _ (Or.inr (by omega)), cell_set_other _ (Or.inr (by omega))]; exact World.cell?_setCell_same _ _ _ s0
  · rw [cell_set_other _ (Or.inr (by omega))]; exact World.cell?_setCell_same _ _ _ (by rw [cell_set_other _ (Or.inr (by omega))]; exact s1)
  · exact World.cell?_setCell_same _ _ _ (by rw [cell_set_other _ (Or.inr (by omega)), cell_set_other _ (Or.inr (by omega))]; exact s2)

/-- A variable of three cells. -/
structure Box3 (w : World) (B : Nat) (x y z : Value) : Prop where
  c0 : w.cell? ⟨B, 0, none⟩ = some x
  c1 : w.cell? ⟨B, 1, none⟩ = some y
  c2 : w.cell? ⟨B, 2, none⟩ = some z

theorem Box3.below {w w' : World} {B n : Nat} {x y z : Value} (h : Box3 w B x y z) (hb : Below n w w') (hB : B < n) : Box3 w' B x y z :=
  ⟨by rw [hb.cell (p := ⟨B, 0, none⟩) hB]; exact h.c0, by rw [hb.cell (p := ⟨B, 1, none⟩) hB]; exact h.c1, by rw [hb.cell (p := ⟨B, 2, none⟩) hB]; exact h.c2⟩

theorem box3_new (w : World) (x y z : Value) (t : TypeId) : Box3 (w.alloc (.cells #[x, y, z] t)) w.heap.size x y z :=
  ⟨World.cell?_alloc_new _ _ _ _, World.cell?_alloc_new _ _ _ _, World.cell?_alloc_new _ _ _ _⟩

/-- A variable of two cells. -/
structure Box2 (w : World) (B : Nat) (x y : Value) : Prop where
  c0 : w.cell? ⟨B, 0, none⟩ = some x
  c1 : w.cell? ⟨B, 1, none⟩ = some y

theorem Box2.below {w w' : World} {B n : Nat} {x y : Value} (h : Box2 w B x y) (hb : Below n w w') (hB : B < n) : Box2 w' B x y :=
  ⟨by rw [hb.cell (p := ⟨B, 0, none⟩) hB]; exact h.c0, by rw [hb.cell (p := ⟨B, 1, none⟩) hB]; exact h.c1⟩

theorem MO.keptR {d : MemD} : ∀ (u u' : World) (lo hi : Nat) (v : Value), (∀ k, lo ≤ k → k < hi → u'.heap[k]? = u.heap[k]?) → MO u lo hi v d → MO u' lo hi v d :=
  fun _ _ _ _ _ hk h => h.kept hk

/-- What is stored into a variable of three cells: the variable holds it, and all else stays. -/
theorem store3 {u : World} {B lo hi : Nat} {x y z : Value} {d : MemD} {w0 : World} (hg : Grow w0 u) (hB0 : w0.heap.size ≤ B) (hB : B < u.heap.size) (hz : Zero 3 u B) (ho : MO u lo hi (.agg #[x, y, z]) d) (hd : B < lo ∨ hi ≤ B) :
    ∃ u1, ((u.setCell ⟨B, 0, none⟩ x).setCell ⟨B, 1, none⟩ y).setCell ⟨B, 2, none⟩ z = u1 ∧ Grow w0 u1 ∧ Box3 u1 B x y z ∧ MO u1 lo hi (.agg #[x, y, z]) d ∧ u1.heap.size = u.heap.size := by
  have hw := wrote3 u B x y z
  have hc := cells3 (fun k hk => (hz k hk).1) x y z
  exact ⟨_, rfl, hg.trans (hw.below fun b o e => by omega), ⟨hc.1, hc.2.1, hc.2.2⟩, ho.kept fun k h1 h2 => hw.block k (fun o e => by omega), hw.size⟩

theorem Box3.out {w w' : World} {B lo hi : Nat} {x y z : Value} (h : Box3 w B x y z) (ho : Out lo hi w w') (h1 : B < w.heap.size) (h2 : B < lo ∨ hi ≤ B) : Box3 w' B x y z := by
  have hk := ho.block B h1 h2
  exact ⟨by rw [World.cell?_of_block (w := w) hk]; exact h.c0, by rw [World.cell?_of_block (w := w) hk]; exact h.c1, by rw [World.cell?_of_block (w := w) hk]; exact h.c2⟩

theorem Box2.out {w w' : World} {B lo hi : Nat} {x y : Value} (h : Box2 w B x y) (ho : Out lo hi w w') (h1 : B < w.heap.size) (h2 : B < lo ∨ hi ≤ B) : Box2 w' B x y := by
  have hk := ho.block B h1 h2
  exact ⟨by rw [World.cell?_of_block (w := w) hk]; exact h.c0, by rw [World.cell?_of_block (w := w) hk]; exact h.c1⟩

theorem zero3_new (u : World) (x y z : Value) (t : TypeId) : Zero 3 (u.alloc (.cells #[x, y, z] t)) u.heap.size := fun k hk => by
  rw [World.cell?_alloc_new, World.frozen?_alloc_new]
  match k, hk with
  | 0, _ => exact ⟨rfl, rfl⟩
  | 1, _ => exact ⟨rfl, rfl⟩
  | 2, _ => exact ⟨rfl, rfl⟩

end Go.Proofs.YtdlcdllmhacaaaaGreatDoor
