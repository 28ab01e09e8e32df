/-
  impl.cellsOf at any memory; impl.MemSame.
-/
import Derived.Test.YtaoiookfmgpmkaaImplD
import Derived.Test.YtaoiookfmgpmkaaImplA
import Derived.Test.YtaoiookfmgpmkaaMemSpec
namespace Go.Proofs.Ytaoiookfmgpmkaa
open Go.ChangeShapes Go.WideShapes Go.ChangeAt Go.RowKit
set_option linter.unusedVariables false
set_option maxRecDepth 100000

theorem fits_len {d : MemD} (h : fits d = true) : d.i.length = 6 ∧ d.o.length = 6 ∧ d.v.length = 6 := by
  simp [fits] at h; omega

/-- What cellsOf copies. -/
def cellG (d : MemD) : Nat → Int := if fits d then cellF d else fun _ => 0

theorem Box18.wrote {u u' : World} {B B' : Nat} {g : Nat → Int} (h : Box18 u B g) (hw : Wrote (fun b o => b = B') u u') (hne : B ≠ B') : Box18 u' B g := fun j hj => by
  rw [hw.cell _ _ hne]; exact h j hj

theorem Box3.wrote {u u' : World} {B B' : Nat} {x y z : Value} (h : Box3 u B x y z) (hw : Wrote (fun b o => b = B') u u') (hne : B ≠ B') : Box3 u' B x y z :=
  ⟨by rw [hw.cell _ _ hne]; exact h.c0, by rw [hw.cell _ _ hne]; exact h.c1, by rw [hw.cell _ _ hne]; exact h.c2⟩

theorem Box2.wrote {u u' : World} {B B' : Nat} {x y : Value} (h : Box2 u B x y) (hw : Wrote (fun b o => b = B') u u') (hne : B ≠ B') : Box2 u' B x y :=
  ⟨by rw [hw.cell _ _ hne]; exact h.c0, by rw [hw.cell _ _ hne]; exact h.c1⟩

theorem cellsOf_any (w : World) (lo hi : Nat) (m : Value) (d : MemD) (h : MI w lo hi m d) (hhi : hi ≤ w.heap.size) :
    Calls Try.prog 65 #[m] w fun e w' => e = .returned (.tuple #[cv (cellG d), .bool (fits d)]) ∧ Below w.heap.size w w' := by
  unfold cellG
  cases hf : fits d with
  | false => exact cellsOf_no w lo hi m d h hf
  | true =>
    obtain ⟨h1, h2, h3⟩ := fits_len hf
    obtain ⟨e1, e2, e3⟩ := cellF_i h1 h2 h3
    obtain ⟨a, b, c, rfl, ha, hb, hc⟩ := h
    rw [e1] at ha
    rw [e2] at hb
    rw [e3] at hc
    obtain ⟨p1, o1, q1, rfl, k1, c0, c1, c2, c3, c4, c5⟩ := si_six ha
    obtain ⟨p2, o2, q2, rfl, k2, d0, d1, d2, d3, d4, d5⟩ := si_six hb
    obtain ⟨p3, o3, q3, rfl, k3, f0, f1, f2, f3, f4, f5⟩ := si_six hc
    exact cellsOf_six w (cellF d) p1 p2 p3 o1 o2 o3 q1 q2 q3 (by omega) (by omega) (by omega) c0 c1 c2 c3 c4 c5 d0 d1 d2 d3 d4 d5 f0 f1 f2 f3 f4 f5

theorem sameF_of {f g : Nat → Int} : sameF f g = true ↔ memOf f = memOf g := by
  unfold sameF
  constructor
  · intro h
    have hj : ∀ j, j < 18 → f j = g j := fun j hj => by
      have := List.all_eq_true.mp h j (List.mem_range.mpr hj)
      simpa using this
    unfold memOf
    rw [hj 0 (by omega), hj 1 (by omega), hj 2 (by omega), hj 3 (by omega), hj 4 (by omega), hj 5 (by omega), hj 6 (by omega), hj 7 (by omega), hj 8 (by omega), hj 9 (by omega), hj 10 (by omega), hj 11 (by omega), hj 12 (by omega), hj 13 (by omega), hj 14 (by omega), hj 15 (by omega), hj 16 (by omega), hj 17 (by omega)]
  · intro h
    unfold memOf at h
    simp only [MemD.mk.injEq, List.cons.injEq, and_true] at h
    obtain ⟨⟨h0, h1, h2, h3, h4, h5⟩, ⟨h6, h7, h8, h9, h10, h11⟩, h12, h13, h14, h15, h16, h17⟩ := h
    simp [List.range, List.range.loop, h0, h1, h2, h3, h4, h5, h6, h7, h8, h9, h10, h11, h12, h13, h14, h15, h16, h17]

theorem same_fits {d e : MemD} (hd : fits d = true) (he : fits e = true) : sameF (cellF d) (cellF e) = decide (d = e) := by
  obtain ⟨h1, h2, h3⟩ := fits_len hd
  obtain ⟨k1, k2, k3⟩ := fits_len he
  have hs := sameF_of (f := cellF d) (g := cellF e)
  rw [memOf_cellF h1 h2 h3, memOf_cellF k1 k2 k3] at hs
  cases hq : sameF (cellF d) (cellF e) with
  | true => exact (decide_eq_true (hs.mp hq)).symm
  | false => exact (decide_eq_false fun h => by rw [hs.mpr h] at hq; cases hq).symm

set_option maxHeartbeats 4000000 in
theorem iMemSame_any (w : World) (m m' : Value) (lo hi : Nat) (d : MemD) (lo' hi' : Nat) (e : MemD) (h : MI w lo hi m d) (h' : MI w lo' hi' m' e) (hhi : hi ≤ w.heap.size) (hhi' : hi' ≤ w.heap.size) :
    Calls Try.prog 32 #[m, m'] w fun en w' => en = .returned (.bool (decide (d = e))) ∧ Below w.heap.size w w' := by
  have H := h
  have H' := h'
  obtain ⟨a, b, c, rfl, ha, hb, hc⟩ := h
  obtain ⟨a', b', c', rfl, ha', hb', hc'⟩ := h'
  have b2 := fun o o' => ((Below.refl w.heap.size w).alloc (Nat.le_refl _) o).alloc (by simp) o'
  go_enter Try.func32, Try.ntmps32
  go_wp2_with fail
  obtain ⟨u0, hu0, G0, X0, Y0, S0⟩ : ∃ u0, (w.alloc (.cells #[a, b, c] 57)).alloc (.cells #[a', b', c'] 57) = u0 ∧ Below w.heap.size w u0 ∧ Box3 u0 w.heap.size a b c ∧ Box3 u0 (w.heap.size + 1) a' b' c' ∧ u0.heap.size = w.heap.size + 2 :=
    ⟨_, rfl, b2 _ _, ⟨World.cell?_alloc2_first _ _ _ _, World.cell?_alloc2_first _ _ _ _, World.cell?_alloc2_first _ _ _ _⟩, by have := box3_new (w.alloc (.cells #[a, b, c] 57)) a' b' c' 57; simpa using this, by simp⟩
  rw [hu0]
  clear hu0 b2
  refine (cellsOf_any _ lo hi _ d (H.below G0 hhi) (by omega)).mono ?_
  rintro e1 u1 ⟨rfl, g1⟩
  have S1 := g1.size
  have G1 := G0.trans (g1.mono (by omega))
  have X1 := X0.below g1 (by omega)
  have Y1 := Y0.below g1 (by omega)
  clear g1 X0 Y0 G0
  go_wp2_with (refine wpList_alloc18 rfl rfl ?_)
  intro u2 g2 z2 s2
  go_wp2_with (refine wpList_store18 rfl _ _ rfl rfl rfl (by assumption) ?_)
  intro u3 W3 V3 Z3
  have G3 := (G1.trans (g2.mono (by omega))).trans (W3.below fun b o e => by omega)
  have X3 := (X1.below g2 (by omega)).wrote W3 (by omega)
  have Y3 := (Y1.below g2 (by omega)).wrote W3 (by omega)
  have S3 := W3.size
  clear g2 z2 W3 Z3 X1 Y1 G1
  obtain ⟨y0, y1, y2⟩ := Y3
  go_wp2_with fail
  refine (cellsOf_any _ lo' hi' _ e (H'.below G3 hhi') (by omega)).mono ?_
  rintro e1 u4 ⟨rfl, g4⟩
  have S4 := g4.size
  have G4 := G3.trans (g4.mono (by omega))
  have X4 := X3.below g4 (by omega)
  have Y4 : Box3 u4 (w.heap.size + 1) a' b' c' := (Box3.mk y0 y1 y2).below g4 (by omega)
  have V4 := V3.below g4 (by omega)
  clear g4 X3 y0 y1 y2 G3 V3
  go_wp2_with (refine wpList_alloc18 rfl rfl ?_)
  intro u5 g5 z5 s5
  go_wp2_with (refine wpList_store18 rfl _ _ rfl rfl rfl (by assumption) ?_)
  intro u6 W6 V6 Z6
  have G6 := (G4.trans (g5.mono (by omega))).trans (W6.below fun b o e => by omega)
  have X6 := (X4.below g5 (by omega)).wrote W6 (by omega)
  have Y6 := (Y4.below g5 (by omega)).wrote W6 (by omega)
  have V36 := (V4.below g5 (by omega)).wrote W6 (by omega)
  have S6 := W6.size
  clear g5 z5 W6 Z6 X4 Y4 G4 V4
  cases hd : fits d with
  | true =>
    cases he : fits e with
    | true =>
      have hg := guard_cells
      have hq := eql_cells
      have e1 : cellG d = cellF d := by unfold cellG; rw [hd]; rfl
      have e2 : cellG e = cellF e := by unfold cellG; rw [he]; rfl
      have hs : sameF (cellG d) (cellG e) = decide (d = e) := by rw [e1, e2]; exact same_fits hd he
      clear X6 Y6 e1 e2
      go_wp2_with (refine wpList_load18 rfl _ rfl rfl (by assumption) ?_)
      go_ret
      exact ⟨rfl, G6⟩
    | false =>
      obtain ⟨x0, x1, x2⟩ := X6
      obtain ⟨y0, y1, y2⟩ := Y6
      have bm := fun (m : Nat) => below_drewN G6 m
      have sa := fun m => ha.below (bm m) hhi
      have sb := fun m => hb.below (bm m) hhi
      have sc := fun m => hc.below (bm m) hhi
      have ta := fun m => ha'.below (bm m) hhi'
      have tb := fun m => hb'.below (bm m) hhi'
      have tc := fun m => hc'.below (bm m) hhi'
      clear ha hb hc ha' hb' hc' H H' V36 V6
      by_cases h1 : d.i = e.i
      · by_cases h2 : d.o = e.o
        · by_cases h3 : d.v = e.v
          · have HE : Hid (decide (d = e) = true) := decide_eq_true (by rw [memD_eq]; exact ⟨h1, h2, h3⟩)
            go_wp2_with fail
            refine (iEqual_any _ lo hi lo' hi' _ _ d.i e.i (sa 0) (ta 0)).mono ?_
            rw [decide_eq_true (by assumption)]
            rintro en w1 ⟨m0, rfl, rfl⟩
            go_wp2_with fail
            refine (iEqual_any _ lo hi lo' hi' _ _ d.o e.o (sb _) (tb _)).mono ?_
            rw [decide_eq_true (by assumption)]
            rintro en w1 ⟨m1, rfl, rfl⟩
            go_wp2_with fail
            refine (iEqual_any _ lo hi lo' hi' _ _ d.v e.v (sc _) (tc _)).mono ?_
            rw [decide_eq_true (by assumption)]
            rintro en w1 ⟨m2, rfl, rfl⟩
            go_wp2
            go_ret
            exact ⟨ret_bool HE.out.symm, bm _⟩
          · have HE : Hid (decide (d = e) = false) := decide_eq_false (by rw [memD_eq]; intro h; exact h3 h.2.2)
            go_wp2_with fail
            refine (iEqual_any _ lo hi lo' hi' _ _ d.i e.i (sa 0) (ta 0)).mono ?_
            rw [decide_eq_true (by assumption)]
            rintro en w1 ⟨m0, rfl, rfl⟩
            go_wp2_with fail
            refine (iEqual_any _ lo hi lo' hi' _ _ d.o e.o (sb _) (tb _)).mono ?_
            rw [decide_eq_true (by assumption)]
            rintro en w1 ⟨m1, rfl, rfl⟩
            go_wp2_with fail
            refine (iEqual_any _ lo hi lo' hi' _ _ d.v e.v (sc _) (tc _)).mono ?_
            rw [decide_eq_false (by assumption)]
            rintro en w1 ⟨m2, rfl, rfl⟩
            go_wp2
            go_ret
            exact ⟨ret_bool HE.out.symm, bm _⟩
        · have HE : Hid (decide (d = e) = false) := decide_eq_false (by rw [memD_eq]; intro h; exact h2 h.2.1)
          go_wp2_with fail
          refine (iEqual_any _ lo hi lo' hi' _ _ d.i e.i (sa 0) (ta 0)).mono ?_
          rw [decide_eq_true (by assumption)]
          rintro en w1 ⟨m0, rfl, rfl⟩
          go_wp2_with fail
          refine (iEqual_any _ lo hi lo' hi' _ _ d.o e.o (sb _) (tb _)).mono ?_
          rw [decide_eq_false (by assumption)]
          rintro en w1 ⟨m1, rfl, rfl⟩
          go_wp2
          go_ret
          exact ⟨ret_bool HE.out.symm, bm _⟩
      · have HE : Hid (decide (d = e) = false) := decide_eq_false (by rw [memD_eq]; intro h; exact h1 h.1)
        go_wp2_with fail
        refine (iEqual_any _ lo hi lo' hi' _ _ d.i e.i (sa 0) (ta 0)).mono ?_
        rw [decide_eq_false (by assumption)]
        rintro en w1 ⟨m0, rfl, rfl⟩
        go_wp2
        go_ret
        exact ⟨ret_bool HE.out.symm, bm _⟩
  | false =>
    obtain ⟨x0, x1, x2⟩ := X6
    obtain ⟨y0, y1, y2⟩ := Y6
    have bm := fun (m : Nat) => below_drewN G6 m
    have sa := fun m => ha.below (bm m) hhi
    have sb := fun m => hb.below (bm m) hhi
    have sc := fun m => hc.below (bm m) hhi
    have ta := fun m => ha'.below (bm m) hhi'
    have tb := fun m => hb'.below (bm m) hhi'
    have tc := fun m => hc'.below (bm m) hhi'
    clear ha hb hc ha' hb' hc' H H' V36 V6
    by_cases h1 : d.i = e.i
    · by_cases h2 : d.o = e.o
      · by_cases h3 : d.v = e.v
        · have HE : Hid (decide (d = e) = true) := decide_eq_true (by rw [memD_eq]; exact ⟨h1, h2, h3⟩)
          go_wp2_with fail
          refine (iEqual_any _ lo hi lo' hi' _ _ d.i e.i (sa 0) (ta 0)).mono ?_
          rw [decide_eq_true (by assumption)]
          rintro en w1 ⟨m0, rfl, rfl⟩
          go_wp2_with fail
          refine (iEqual_any _ lo hi lo' hi' _ _ d.o e.o (sb _) (tb _)).mono ?_
          rw [decide_eq_true (by assumption)]
          rintro en w1 ⟨m1, rfl, rfl⟩
          go_wp2_with fail
          refine (iEqual_any _ lo hi lo' hi' _ _ d.v e.v (sc _) (tc _)).mono ?_
          rw [decide_eq_true (by assumption)]
          rintro en w1 ⟨m2, rfl, rfl⟩
          go_wp2
          go_ret
          exact ⟨ret_bool HE.out.symm, bm _⟩
        · have HE : Hid (decide (d = e) = false) := decide_eq_false (by rw [memD_eq]; intro h; exact h3 h.2.2)
          go_wp2_with fail
          refine (iEqual_any _ lo hi lo' hi' _ _ d.i e.i (sa 0) (ta 0)).mono ?_
          rw [decide_eq_true (by assumption)]
          rintro en w1 ⟨m0, rfl, rfl⟩
          go_wp2_with fail
          refine (iEqual_any _ lo hi lo' hi' _ _ d.o e.o (sb _) (tb _)).mono ?_
          rw [decide_eq_true (by assumption)]
          rintro en w1 ⟨m1, rfl, rfl⟩
          go_wp2_with fail
          refine (iEqual_any _ lo hi lo' hi' _ _ d.v e.v (sc _) (tc _)).mono ?_
          rw [decide_eq_false (by assumption)]
          rintro en w1 ⟨m2, rfl, rfl⟩
          go_wp2
          go_ret
          exact ⟨ret_bool HE.out.symm, bm _⟩
      · have HE : Hid (decide (d = e) = false) := decide_eq_false (by rw [memD_eq]; intro h; exact h2 h.2.1)
        go_wp2_with fail
        refine (iEqual_any _ lo hi lo' hi' _ _ d.i e.i (sa 0) (ta 0)).mono ?_
        rw [decide_eq_true (by assumption)]
        rintro en w1 ⟨m0, rfl, rfl⟩
        go_wp2_with fail
        refine (iEqual_any _ lo hi lo' hi' _ _ d.o e.o (sb _) (tb _)).mono ?_
        rw [decide_eq_false (by assumption)]
        rintro en w1 ⟨m1, rfl, rfl⟩
        go_wp2
        go_ret
        exact ⟨ret_bool HE.out.symm, bm _⟩
    · have HE : Hid (decide (d = e) = false) := decide_eq_false (by rw [memD_eq]; intro h; exact h1 h.1)
      go_wp2_with fail
      refine (iEqual_any _ lo hi lo' hi' _ _ d.i e.i (sa 0) (ta 0)).mono ?_
      rw [decide_eq_false (by assumption)]
      rintro en w1 ⟨m0, rfl, rfl⟩
      go_wp2
      go_ret
      exact ⟨ret_bool HE.out.symm, bm _⟩
end Go.Proofs.Ytaoiookfmgpmkaa
