import Derived.Test.YtokphdpaghkakaaGreatM1
import Derived.Test.YtokphdpaghkakaaGreatBase
import Derived.Test.YtokphdpaghkakaaGreatM3

/-
  Memories (three lists of numbers), and what the laws' helpers do with them: szMem, eqMem, toMem, markMem, heldMem.
-/
namespace Go.Proofs.YtokphdpaghkakaaGreat
open Go.ChangeShapes Go.WideShapes Go.ChangeAt Go.RowKit
set_option linter.unusedVariables false

/-- A memory's numbers. -/
structure MemD where
  i : List Int
  o : List Int
  v : List Int
deriving DecidableEq

/-- A memory value reads as these numbers. -/
def MI (w : World) (lo hi : Nat) (m : Value) (d : MemD) : Prop :=
  ∃ a b c, m = .agg #[a, b, c] ∧ SI w lo hi a d.i ∧ SI w lo hi b d.o ∧ SI w lo hi c d.v

/-- No cell is of both. -/
def Apart (v : Value) (n : Nat) (v' : Value) (n' : Nat) : Prop := ∀ b o, Foot v n b o → ¬ Foot v' n' b o

/-- A memory value owns these numbers, each list apart from the others. -/
def MO (w : World) (lo hi : Nat) (m : Value) (d : MemD) : Prop :=
  ∃ a b c, m = .agg #[a, b, c] ∧ OI w lo hi a d.i ∧ OI w lo hi b d.o ∧ OI w lo hi c d.v ∧
    Apart a d.i.length b d.o.length ∧ Apart a d.i.length c d.v.length ∧ Apart b d.o.length c d.v.length

theorem MO.mi {w : World} {lo hi : Nat} {m : Value} {d : MemD} (h : MO w lo hi m d) : MI w lo hi m d := by
  obtain ⟨a, b, c, hm, h1, h2, h3, _⟩ := h
  exact ⟨a, b, c, hm, h1.si, h2.si, h3.si⟩

theorem MI.kept {w w' : World} {lo hi : Nat} {m : Value} {d : MemD} (h : MI w lo hi m d) (hk : ∀ k, lo ≤ k → k < hi → w'.heap[k]? = w.heap[k]?) : MI w' lo hi m d := by
  obtain ⟨a, b, c, hm, h1, h2, h3⟩ := h
  exact ⟨a, b, c, hm, h1.kept hk, h2.kept hk, h3.kept hk⟩

theorem MI.below {w w' : World} {lo hi n : Nat} {m : Value} {d : MemD} (h : MI w lo hi m d) (hb : Below n w w') (hn : hi ≤ n) : MI w' lo hi m d :=
  h.kept fun k _ hk => hb.block k (by omega)

theorem MO.kept {w w' : World} {lo hi : Nat} {m : Value} {d : MemD} (h : MO w lo hi m d) (hk : ∀ k, lo ≤ k → k < hi → w'.heap[k]? = w.heap[k]?) : MO w' lo hi m d := by
  obtain ⟨a, b, c, hm, h1, h2, h3, h4⟩ := h
  exact ⟨a, b, c, hm, h1.kept hk, h2.kept hk, h3.kept hk, h4⟩

theorem MO.below {w w' : World} {lo hi n : Nat} {m : Value} {d : MemD} (h : MO w lo hi m d) (hb : Below n w w') (hn : hi ≤ n) : MO w' lo hi m d :=
  h.kept fun k _ hk => hb.block k (by omega)

theorem OI.foot {w : World} {lo hi : Nat} {v : Value} {xs : List Int} (h : OI w lo hi v xs) {b o : Nat} (hf : Foot v xs.length b o) : lo ≤ b ∧ b < hi := by
  obtain ⟨g, off, l, cap, hv, rfl, _, _⟩ := hf
  rcases h with ⟨rfl, a, cap', rfl, _⟩ | ⟨g', off', cap', hv', _, _, h3, h4, _⟩
  · simp at *; omega
  · rw [hv] at hv'; simp at hv'; omega

theorem apart_of {w w' : World} {lo hi lo' hi' : Nat} {v v' : Value} {xs ys : List Int} (h : OI w lo hi v xs) (h' : OI w' lo' hi' v' ys) (hl : hi ≤ lo') : Apart v xs.length v' ys.length := by
  intro b o hf hf'
  have := h.foot hf
  have := h'.foot hf'
  omega

theorem SI.shape {w : World} {lo hi : Nat} {v : Value} {xs : List Int} (h : SI w lo hi v xs) : ∃ a cap, v = .slice a xs.length cap := by
  obtain ⟨a, cap, hv, _⟩ := h; exact ⟨a, cap, hv⟩

set_option maxHeartbeats 1000000 in
theorem toMem_any (w : World) (lo hi : Nat) (m : Value) (d : MemD) (h : MI w lo hi m d) (hhi : hi ≤ w.heap.size)
    (hn : d.i.length + d.o.length + d.v.length ≤ 1048576) :
    Calls Tryz.prog 13 #[m] w fun e w' => ∃ m', e = .returned m' ∧ MO w' w.heap.size w'.heap.size m' d ∧ Below w.heap.size w w' := by
  obtain ⟨a, b, c, rfl, ha, hb, hc⟩ := h
  obtain ⟨aa, ca, rfl⟩ := ha.shape
  obtain ⟨ab, cb, rfl⟩ := hb.shape
  obtain ⟨ac, cc, rfl⟩ := hc.shape
  have hb3 := below_alloc3 w
  go_enter Tryz.func13, Tryz.ntmps13
  go_wp2_with fail
  refine (toIntS_any _ lo hi _ d.i (ha.below (hb3 _ _ _) hhi) (by simp; omega) (by omega)).mono ?_
  rintro e w1 ⟨v1, rfl, ho1, hb1⟩
  obtain ⟨a1, c1, rfl⟩ := ho1.si.shape
  obtain ⟨hc1, hf1⟩ := bcell hb1
  simp only [World.size_alloc] at hb1 ho1 hc1 hf1
  have bw1 : Below w.heap.size w w1 := (hb3 _ _ _).trans (hb1.mono (by omega))
  obtain ⟨p1, p2, p3⟩ : w.heap.size < w1.heap.size ∧ w.heap.size + 1 < w1.heap.size ∧ w.heap.size + 1 + 1 < w1.heap.size := by have := hb1.size; simp at this; omega
  clear hb1 hb3
  go_wp2_with fail
  have bs2 : Below w.heap.size w (w1.setCell ⟨w.heap.size + 1 + 1, 0, none⟩ (.slice a1 d.i.length c1)) := bw1.setCell (by show _ ≤ w.heap.size + 1 + 1; omega) _
  have ho1' : OI (w1.setCell ⟨w.heap.size + 1 + 1, 0, none⟩ (.slice a1 d.i.length c1)) (w.heap.size + 1 + 1 + 1) w1.heap.size (.slice a1 d.i.length c1) d.i :=
    ho1.kept fun k h1 h2 => Below.heap_setCell _ _ _ _ (by show k ≠ w.heap.size + 1 + 1; omega)
  refine (toIntS_any _ lo hi _ d.o (hb.below bs2 hhi) (by simp; omega) (by omega)).mono ?_
  rintro e w2 ⟨v2, rfl, ho2, hb2⟩
  obtain ⟨a2, c2, rfl⟩ := ho2.si.shape
  obtain ⟨hc2, hf2⟩ := bcell hb2
  have hsz2 : (w1.setCell ⟨w.heap.size + 1 + 1, 0, none⟩ (.slice a1 d.i.length c1)).heap.size = w1.heap.size := by simp [World.setCell]
  rw [hsz2] at hb2 ho2 hc2 hf2
  have bw2 : Below w.heap.size w w2 := bs2.trans (hb2.mono (by omega))
  have ho1b : OI w2 (w.heap.size + 1 + 1 + 1) w1.heap.size (.slice a1 d.i.length c1) d.i := ho1'.below hb2 (Nat.le_refl _)
  have q := hb2.size
  rw [hsz2] at q
  obtain ⟨q1, q2, q3⟩ : w.heap.size < w2.heap.size ∧ w.heap.size + 1 < w2.heap.size ∧ w.heap.size + 1 + 1 < w2.heap.size := by omega
  clear hb2 hsz2 bs2 ho1' ho1 bw1
  go_wp2_with fail
  have bs3 : Below w.heap.size w (w2.setCell ⟨w.heap.size + 1 + 1, 1, none⟩ (.slice a2 d.o.length c2)) := bw2.setCell (by show _ ≤ w.heap.size + 1 + 1; omega) _
  have ho1c : OI (w2.setCell ⟨w.heap.size + 1 + 1, 1, none⟩ (.slice a2 d.o.length c2)) (w.heap.size + 1 + 1 + 1) w1.heap.size (.slice a1 d.i.length c1) d.i :=
    ho1b.kept fun k h1 h2 => Below.heap_setCell _ _ _ _ (by show k ≠ w.heap.size + 1 + 1; omega)
  have ho2c : OI (w2.setCell ⟨w.heap.size + 1 + 1, 1, none⟩ (.slice a2 d.o.length c2)) w1.heap.size w2.heap.size (.slice a2 d.o.length c2) d.o :=
    ho2.kept fun k h1 h2 => Below.heap_setCell _ _ _ _ (by show k ≠ w.heap.size + 1 + 1; omega)
  refine (toIntS_any _ lo hi _ d.v (hc.below bs3 hhi) (by simp; omega) (by omega)).mono ?_
  rintro e w3 ⟨v3, rfl, ho3, hb3⟩
  obtain ⟨a3, c3, rfl⟩ := ho3.si.shape
  obtain ⟨hc3, hf3⟩ := bcell hb3
  have hsz3 : (w2.setCell ⟨w.heap.size + 1 + 1, 1, none⟩ (.slice a2 d.o.length c2)).heap.size = w2.heap.size := by simp [World.setCell]
  rw [hsz3] at hb3 ho3 hc3 hf3
  have bw3 : Below w.heap.size w w3 := bs3.trans (hb3.mono (by omega))
  have ho1d : OI w3 (w.heap.size + 1 + 1 + 1) w1.heap.size (.slice a1 d.i.length c1) d.i := ho1c.below hb3 (by omega)
  have ho2d : OI w3 w1.heap.size w2.heap.size (.slice a2 d.o.length c2) d.o := ho2c.below hb3 (by omega)
  have r := hb3.size
  rw [hsz3] at r
  obtain ⟨r1, r2, r3⟩ : w.heap.size < w3.heap.size ∧ w.heap.size + 1 < w3.heap.size ∧ w.heap.size + 1 + 1 < w3.heap.size := by omega
  clear hb3 hsz3 bs3 ho1c ho2c ho1b ho2 bw2
  go_wp2
  have hk : ∀ (x1 x2 x3 x4 : Value) (k : Nat), w.heap.size + 1 + 1 + 1 ≤ k → ((((w3.setCell ⟨w.heap.size + 1 + 1, 2, none⟩ x1).setCell ⟨w.heap.size + 1, 0, none⟩ x2).setCell ⟨w.heap.size + 1, 1, none⟩ x3).setCell ⟨w.heap.size + 1, 2, none⟩ x4).heap[k]? = w3.heap[k]? := by
    intro x1 x2 x3 x4 k hk
    rw [Below.heap_setCell _ _ _ _ (by show k ≠ w.heap.size + 1; omega), Below.heap_setCell _ _ _ _ (by show k ≠ w.heap.size + 1; omega), Below.heap_setCell _ _ _ _ (by show k ≠ w.heap.size + 1; omega), Below.heap_setCell _ _ _ _ (by show k ≠ w.heap.size + 1 + 1; omega)]
  have hsz : ∀ (x1 x2 x3 x4 : Value), ((((w3.setCell ⟨w.heap.size + 1 + 1, 2, none⟩ x1).setCell ⟨w.heap.size + 1, 0, none⟩ x2).setCell ⟨w.heap.size + 1, 1, none⟩ x3).setCell ⟨w.heap.size + 1, 2, none⟩ x4).heap.size = w3.heap.size := by
    intro x1 x2 x3 x4; simp [World.setCell]
  refine bodyPost_ret (v := .agg #[.slice a1 d.i.length c1, .slice a2 d.o.length c2, .slice a3 d.v.length c3]) (by simp [results, Tryz.results13, go_sem, hc3, hc2, hc1, q2, p2]) rfl ⟨_, rfl, ?_, ?_⟩
  · refine ⟨_, _, _, rfl, ?_, ?_, ?_, apart_of ho1d ho2d (Nat.le_refl _), apart_of ho1d ho3 (by omega), apart_of ho2d ho3 (Nat.le_refl _)⟩
    · exact (ho1d.kept fun k h1 h2 => hk _ _ _ _ k h1).wide (by omega) (by rw [hsz]; omega)
    · exact (ho2d.kept fun k h1 h2 => hk _ _ _ _ k (by omega)).wide (by omega) (by rw [hsz]; omega)
    · exact (ho3.kept fun k h1 h2 => hk _ _ _ _ k (by omega)).wide (by omega) (by rw [hsz]; omega)
  · exact (((bw3.setCell (by show _ ≤ w.heap.size + 1 + 1; omega) _).setCell (by show _ ≤ w.heap.size + 1; omega) _).setCell (by show _ ≤ w.heap.size + 1; omega) _).setCell (by show _ ≤ w.heap.size + 1; omega) _

/-- How many numbers there are in a memory. -/
def MemD.many (d : MemD) : Nat := d.i.length + d.o.length + d.v.length

set_option maxHeartbeats 400000 in
theorem szMem_any (w : World) (lo hi : Nat) (m : Value) (d : MemD) (left : Int) (h : MI w lo hi m d) (hhi : hi ≤ w.heap.size) (hl : 0 ≤ left) (hl' : left ≤ 1048576) :
    Calls Tryz.prog 9 #[m, .int .i64 left] w fun e w' => e = .returned (.int .i64 (if left < d.many then -1 else left - d.many)) ∧ Below w.heap.size w w' := by
  obtain ⟨a, b, c, rfl, ha, hb, hc⟩ := h
  have sa := fun o => ha.below (w' := w.alloc o) ((Below.refl _ _).alloc (Nat.le_refl _) o) hhi
  have sb := fun o => hb.below (w' := w.alloc o) ((Below.refl _ _).alloc (Nat.le_refl _) o) hhi
  have sc := fun o => hc.below (w' := w.alloc o) ((Below.refl _ _).alloc (Nat.le_refl _) o) hhi
  unfold MemD.many
  by_cases h1 : left < d.i.length
  · rw [if_pos (by omega)]
    go_enter Tryz.func9, Tryz.ntmps9
    go_wp2_with fail
    refine (szIntS_any _ lo hi _ d.i _ (sa _) hl hl').mono ?_
    rw [if_pos (by omega)]
    rintro e w1 ⟨rfl, rfl⟩
    go_wp2
    go_ret
    exact ⟨rfl, (Below.refl _ _).alloc (Nat.le_refl _) _⟩
  · by_cases h2 : left - d.i.length < d.o.length
    · rw [if_pos (by omega)]
      go_enter Tryz.func9, Tryz.ntmps9
      go_wp2_with fail
      refine (szIntS_any _ lo hi _ d.i _ (sa _) hl hl').mono ?_
      rw [if_neg (by omega)]
      rintro e w1 ⟨rfl, rfl⟩
      go_wp2_with fail
      refine (szIntS_any _ lo hi _ d.o _ (sb _) (by omega) (by omega)).mono ?_
      rw [if_pos (by omega)]
      rintro e w1 ⟨rfl, rfl⟩
      go_wp2
      go_ret
      exact ⟨rfl, (Below.refl _ _).alloc (Nat.le_refl _) _⟩
    · by_cases h3 : left - d.i.length - d.o.length < d.v.length
      · rw [if_pos (by omega)]
        go_enter Tryz.func9, Tryz.ntmps9
        go_wp2_with fail
        refine (szIntS_any _ lo hi _ d.i _ (sa _) hl hl').mono ?_
        rw [if_neg (by omega)]
        rintro e w1 ⟨rfl, rfl⟩
        go_wp2_with fail
        refine (szIntS_any _ lo hi _ d.o _ (sb _) (by omega) (by omega)).mono ?_
        rw [if_neg (by omega)]
        rintro e w1 ⟨rfl, rfl⟩
        go_wp2_with fail
        refine (szIntS_any _ lo hi _ d.v _ (sc _) (by omega) (by omega)).mono ?_
        rw [if_pos (by omega)]
        rintro e w1 ⟨rfl, rfl⟩
        go_wp2
        go_ret
        exact ⟨rfl, (Below.refl _ _).alloc (Nat.le_refl _) _⟩
      · rw [if_neg (by omega)]
        go_enter Tryz.func9, Tryz.ntmps9
        go_wp2_with fail
        refine (szIntS_any _ lo hi _ d.i _ (sa _) hl hl').mono ?_
        rw [if_neg (by omega)]
        rintro e w1 ⟨rfl, rfl⟩
        go_wp2_with fail
        refine (szIntS_any _ lo hi _ d.o _ (sb _) (by omega) (by omega)).mono ?_
        rw [if_neg (by omega)]
        rintro e w1 ⟨rfl, rfl⟩
        go_wp2_with fail
        refine (szIntS_any _ lo hi _ d.v _ (sc _) (by omega) (by omega)).mono ?_
        rw [if_neg (by omega)]
        rintro e w1 ⟨rfl, rfl⟩
        go_wp2
        go_ret
        exact ⟨ret_int (by omega), (Below.refl _ _).alloc (Nat.le_refl _) _⟩

theorem memD_eq {d e : MemD} : (d = e) = (d.i = e.i ∧ d.o = e.o ∧ d.v = e.v) := by
  cases d; cases e; simp

set_option maxHeartbeats 400000 in
theorem eqMem_any (w : World) (lo hi lo' hi' : Nat) (m m' : Value) (d e : MemD) (h : MI w lo hi m d) (h' : MI w lo' hi' m' e) (hhi : hi ≤ w.heap.size) (hhi' : hi' ≤ w.heap.size) :
    Calls Tryz.prog 18 #[m, m'] w fun en w' => en = .returned (.bool (decide (d = e))) ∧ Below w.heap.size w w' := by
  obtain ⟨a, b, c, rfl, ha, hb, hc⟩ := h
  obtain ⟨a', b', c', rfl, ha', hb', hc'⟩ := h'
  have b2 := fun o o' => ((Below.refl w.heap.size w).alloc (Nat.le_refl _) o).alloc (by simp) o'
  have bm := fun o o' (m : Nat) => below_drewN (b2 o o') m
  have sa := fun o o' m => ha.below (bm o o' m) hhi
  have sb := fun o o' m => hb.below (bm o o' m) hhi
  have sc := fun o o' m => hc.below (bm o o' m) hhi
  have ta := fun o o' m => ha'.below (bm o o' m) hhi'
  have tb := fun o o' m => hb'.below (bm o o' m) hhi'
  have tc := fun o o' m => hc'.below (bm o o' m) hhi'
  clear ha hb hc ha' hb' hc'
  by_cases h1 : d.i = e.i
  · by_cases h2 : d.o = e.o
    · by_cases h3 : d.v = e.v
      · have HE : Hid (decide (d = e) = true) := decide_eq_true (by rw [memD_eq]; exact ⟨h1, h2, h3⟩)
        go_enter Tryz.func18, Tryz.ntmps18
        go_wp2_with fail
        refine (eqIntS_any _ lo hi lo' hi' _ _ d.i e.i (sa _ _ 0) (ta _ _ 0)).mono ?_
        rw [decide_eq_true (by assumption)]
        rintro en w1 ⟨m0, rfl, rfl⟩
        go_wp2_with fail
        refine (eqIntS_any _ lo hi lo' hi' _ _ d.o e.o (sb _ _ _) (tb _ _ _)).mono ?_
        rw [decide_eq_true (by assumption)]
        rintro en w1 ⟨m1, rfl, rfl⟩
        go_wp2_with fail
        refine (eqIntS_any _ lo hi lo' hi' _ _ d.v e.v (sc _ _ _) (tc _ _ _)).mono ?_
        rw [decide_eq_true (by assumption)]
        rintro en w1 ⟨m2, rfl, rfl⟩
        go_wp2
        go_ret
        exact ⟨ret_bool HE.out.symm, bm _ _ _⟩
      · have HE : Hid (decide (d = e) = false) := decide_eq_false (by rw [memD_eq]; intro h; exact h3 h.2.2)
        go_enter Tryz.func18, Tryz.ntmps18
        go_wp2_with fail
        refine (eqIntS_any _ lo hi lo' hi' _ _ d.i e.i (sa _ _ 0) (ta _ _ 0)).mono ?_
        rw [decide_eq_true (by assumption)]
        rintro en w1 ⟨m0, rfl, rfl⟩
        go_wp2_with fail
        refine (eqIntS_any _ lo hi lo' hi' _ _ d.o e.o (sb _ _ _) (tb _ _ _)).mono ?_
        rw [decide_eq_true (by assumption)]
        rintro en w1 ⟨m1, rfl, rfl⟩
        go_wp2_with fail
        refine (eqIntS_any _ lo hi lo' hi' _ _ d.v e.v (sc _ _ _) (tc _ _ _)).mono ?_
        rw [decide_eq_false (by assumption)]
        rintro en w1 ⟨m2, rfl, rfl⟩
        go_wp2
        go_ret
        exact ⟨ret_bool HE.out.symm, bm _ _ _⟩
    · have HE : Hid (decide (d = e) = false) := decide_eq_false (by rw [memD_eq]; intro h; exact h2 h.2.1)
      go_enter Tryz.func18, Tryz.ntmps18
      go_wp2_with fail
      refine (eqIntS_any _ lo hi lo' hi' _ _ d.i e.i (sa _ _ 0) (ta _ _ 0)).mono ?_
      rw [decide_eq_true (by assumption)]
      rintro en w1 ⟨m0, rfl, rfl⟩
      go_wp2_with fail
      refine (eqIntS_any _ lo hi lo' hi' _ _ d.o e.o (sb _ _ _) (tb _ _ _)).mono ?_
      rw [decide_eq_false (by assumption)]
      rintro en w1 ⟨m1, rfl, rfl⟩
      go_wp2
      go_ret
      exact ⟨ret_bool HE.out.symm, bm _ _ _⟩
  · have HE : Hid (decide (d = e) = false) := decide_eq_false (by rw [memD_eq]; intro h; exact h1 h.1)
    go_enter Tryz.func18, Tryz.ntmps18
    go_wp2_with fail
    refine (eqIntS_any _ lo hi lo' hi' _ _ d.i e.i (sa _ _ 0) (ta _ _ 0)).mono ?_
    rw [decide_eq_false (by assumption)]
    rintro en w1 ⟨m0, rfl, rfl⟩
    go_wp2
    go_ret
    exact ⟨ret_bool HE.out.symm, bm _ _ _⟩

theorem Wrote.out {P : Nat → Nat → Prop} {w w' : World} (h : Wrote P w w') {lo hi : Nat} (hP : ∀ b o, P b o → lo ≤ b ∧ b < hi) : Out lo hi w w' :=
  ⟨h.os, h.tape, h.output, by rw [h.size]; exact Nat.le_refl _, fun k _ hk => h.block k fun o hp => by have := hP k o hp; omega⟩

theorem MI.out {w w' : World} {lo hi lo' hi' : Nat} {m : Value} {d : MemD} (h : MI w lo' hi' m d) (ho : Out lo hi w w') (h1 : hi' ≤ w.heap.size) (h2 : hi' ≤ lo ∨ hi ≤ lo') : MI w' lo' hi' m d :=
  h.kept fun k h3 h4 => ho.block k (by omega) (by omega)

theorem MO.out {w w' : World} {lo hi lo' hi' : Nat} {m : Value} {d : MemD} (h : MO w lo' hi' m d) (ho : Out lo hi w w') (h1 : hi' ≤ w.heap.size) (h2 : hi' ≤ lo ∨ hi ≤ lo') : MO w' lo' hi' m d :=
  h.kept fun k h3 h4 => ho.block k (by omega) (by omega)

/-- A memory that was marked. -/
def markD (k : Int) (d : MemD) : MemD := ⟨marks k d.i.length, marks (k + d.i.length) d.o.length, marks (k + d.i.length + d.o.length) d.v.length⟩

set_option maxHeartbeats 1000000 in
theorem markMem_any (w : World) (lo hi : Nat) (m : Value) (d : MemD) (k : Int) (h : MO w lo hi m d) (hhi : hi ≤ w.heap.size) (hn : d.many ≤ 4194304) (hk : 0 ≤ k) (hk' : k ≤ 1000000) :
    Calls Tryz.prog 21 #[m, .int .i64 k] w fun e w' => e = .returned (.int .i64 (k + d.many)) ∧ MO w' lo hi m (markD k d) ∧ Out lo hi w w' := by
  obtain ⟨a, b, c, rfl, ha, hb, hc, ab, ac, bc⟩ := h
  unfold MemD.many at *
  have b1 := fun o => (Below.refl w.heap.size w).alloc (Nat.le_refl _) o
  have sa := fun o => ha.below (b1 o) hhi
  have sb := fun o => hb.below (b1 o) hhi
  have sc := fun o => hc.below (b1 o) hhi
  clear ha hb hc
  go_enter Tryz.func21, Tryz.ntmps21
  go_wp2_with fail
  have A0 := sa (.cells #[a, b, c] 43)
  have B0 := sb (.cells #[a, b, c] 43)
  have C0 := sc (.cells #[a, b, c] 43)
  have D0 := b1 (.cells #[a, b, c] 43)
  clear sa sb sc b1
  refine (markIntS_any _ lo hi a d.i k A0 (by omega) hk (by omega)).mono ?_
  rintro e w1 ⟨rfl, A1, W1⟩
  have F1 : ∀ o, w1.cell? ⟨w.heap.size, o, none⟩ = (w.alloc (.cells #[a, b, c] 43)).cell? ⟨w.heap.size, o, none⟩ := fun o => W1.cell _ _ fun hf => by have := A0.foot hf; omega
  have B1 := B0.wrote W1 (fun x o hf hf' => ab x o hf' hf)
  have C1 := C0.wrote W1 (fun x o hf hf' => ac x o hf' hf)
  have O1 := (out_of_below D0 lo hi).trans (W1.out fun x o hf => A0.foot hf)
  clear A0 B0 C0 D0 W1
  go_wp2_with fail
  refine (markIntS_any _ lo hi b d.o _ B1 (by omega) (by omega) (by omega)).mono ?_
  rintro e w2 ⟨rfl, B2, W2⟩
  have F2 : ∀ o, w2.cell? ⟨w.heap.size, o, none⟩ = w1.cell? ⟨w.heap.size, o, none⟩ := fun o => W2.cell _ _ fun hf => by have := B1.foot hf; omega
  have A2 := A1.wrote W2 (fun x o hf hf' => ab x o (by rwa [marks_length] at hf) hf')
  have C2 := C1.wrote W2 (fun x o hf hf' => bc x o hf' hf)
  have O2 := O1.trans (W2.out fun x o hf => B1.foot hf)
  clear A1 B1 C1 O1 W2
  go_wp2_with fail
  refine (markIntS_any _ lo hi c d.v _ C2 (by omega) (by omega) (by omega)).mono ?_
  rintro e w3 ⟨rfl, C3, W3⟩
  have A3 := A2.wrote W3 (fun x o hf hf' => ac x o (by rwa [marks_length] at hf) hf')
  have B3 := B2.wrote W3 (fun x o hf hf' => bc x o (by rwa [marks_length] at hf) hf')
  have O3 := O2.trans (W3.out fun x o hf => C2.foot hf)
  clear A2 B2 C2 O2 W3
  go_wp2
  go_ret
  refine ⟨ret_int (by omega), ⟨a, b, c, rfl, A3, B3, C3, ?_, ?_, ?_⟩, O3⟩
  · simpa [markD, marks_length] using ab
  · simpa [markD, marks_length] using ac
  · simpa [markD, marks_length] using bc

set_option maxHeartbeats 1000000 in
theorem heldMem_any (w : World) (lo hi : Nat) (m : Value) (d : MemD) (k : Int) (h : MI w lo hi m (markD k d)) (hhi : hi ≤ w.heap.size) (hn : d.many ≤ 4194304) (hk : 0 ≤ k) (hk' : k ≤ 1000000) :
    Calls Tryz.prog 27 #[m, .int .i64 k] w fun e w' => e = .returned (.int .i64 (k + d.many)) ∧ Below w.heap.size w w' := by
  obtain ⟨a, b, c, rfl, ha, hb, hc⟩ := h
  unfold MemD.many at *
  unfold markD at ha hb hc
  have b1 := fun o => (Below.refl w.heap.size w).alloc (Nat.le_refl _) o
  have sa := fun o => ha.below (b1 o) hhi
  have sb := fun o => hb.below (b1 o) hhi
  have sc := fun o => hc.below (b1 o) hhi
  clear ha hb hc
  go_enter Tryz.func27, Tryz.ntmps27
  go_wp2_with fail
  refine (heldIntS_any _ lo hi a d.i.length k (sa _) (by omega) (by omega) (by omega)).mono ?_
  rintro e w1 ⟨rfl, rfl⟩
  go_wp2_with fail
  refine (heldIntS_any _ lo hi b d.o.length _ (sb _) (by omega) (by omega) (by omega)).mono ?_
  rintro e w1 ⟨rfl, rfl⟩
  go_wp2_with fail
  refine (heldIntS_any _ lo hi c d.v.length _ (sc _) (by omega) (by omega) (by omega)).mono ?_
  rintro e w1 ⟨rfl, rfl⟩
  go_wp2
  go_ret
  exact ⟨ret_int (by omega), b1 _⟩

end Go.Proofs.YtokphdpaghkakaaGreat

/-
  What chapter 2's models (package spec) answer: places and memories.
-/
namespace Go.Proofs.YtokphdpaghkakaaGreat
open Go.ChangeShapes Go.WideShapes Go.ChangeAt Go.RowKit
set_option linter.unusedVariables false

/-- Numbers are right. -/
def listOk (xs : List Int) : Bool := decide (xs.length = 6) && xs.all fun x => cutZ x == x

def memOk (d : MemD) : Bool := listOk d.i && listOk d.o && listOk d.v

theorem all_take_succ {xs : List Int} {k : Nat} {x : Int} {f : Int → Bool} (h : (xs.take k).all f = true) (hx : xs[k]? = some x) (hf : f x = true) : (xs.take (k + 1)).all f = true := by
  rw [List.take_add_one, hx]; simp [h, hf]

theorem listOk_false {xs : List Int} {k : Nat} {x : Int} (hx : xs[k]? = some x) (hf : (cutZ x == x) = false) : listOk xs = false := by
  unfold listOk
  have : xs.all (fun x => cutZ x == x) = false := by
    rw [Bool.eq_false_iff]
    intro h
    have := List.all_eq_true.mp h x (List.mem_of_getElem? hx)
    rw [hf] at this; cases this
  rw [this, Bool.and_false]

set_option maxHeartbeats 400000 in
theorem l2List_any (w : World) (lo hi : Nat) (v : Value) (xs : List Int) (h : SI w lo hi v xs) :
    Calls Tryz.prog 68 #[v] w fun e w' => ∃ m, e = .returned (.bool (listOk xs)) ∧ w' = w.drewN m := by
  obtain ⟨a, cap, rfl, h1, h2, h3⟩ := h
  unfold maxLen at h2
  go_enter Tryz.func68, Tryz.ntmps68
  go_wp2
  go_loopw [3] (fun i wr => ∃ k m : Nat, k ≤ xs.length ∧ i = .int .i64 k ∧ wr = w.drewN m ∧ (xs.take k).all (fun x => cutZ x == x) = true) (fun i _ => xs.length - (intOf i).toNat)
  case atStart => exact ⟨0, 0, Nat.zero_le _, rfl, rfl, rfl⟩
  case round =>
    obtain ⟨k, m, hk, rfl, hwr, htk⟩ := hrel
    have HT : Hid ((xs.take k).all (fun x => cutZ x == x) = true) := htk
    have HW : Hid (wr = w.drewN m) := hwr
    clear htk hwr
    by_cases hlt : k < xs.length
    · obtain ⟨x, hx⟩ : ∃ x, xs[k]? = some x := ⟨xs[k], List.getElem?_eq_getElem hlt⟩
      rcases h3 with h0 | ⟨b, off, rfl, _, _, hc⟩
      · rw [h0] at hlt; simp at hlt
      have c1 : wr.cell? ⟨b, off + k, none⟩ = some (.int .i64 x) := by rw [HW.out]; exact hc k x hx
      have HX : Hid (xs[k]? = some x) := hx
      clear hx hc
      by_cases hxy : (cutZ x == x) = true
      · go_wp2_with fail
        go_quiet ((go_at_call 106; exact Calls.quiet_of_same (sCut_any _ _)))
        go_wp2
        go_roundw
        case rel => exact ⟨k + 1, m + nq, by omega, by go_num, by rw [HW.out]; simp, all_take_succ HT.out HX.out hxy⟩
        case measure => simp [intOf]; omega
      · have hxy' : (cutZ x == x) = false := by simpa using hxy
        clear hxy
        go_wp2_with fail
        go_quiet ((go_at_call 106; exact Calls.quiet_of_same (sCut_any _ _)))
        go_wp2
        go_ret
        exact ⟨m + nq, ret_bool (listOk_false HX.out hxy').symm, by rw [HW.out]; simp⟩
    · go_wp2
      go_ret
      refine ⟨m, ret_bool ?_, HW.out⟩
      have ht := HT.out
      rw [List.take_of_length_le (by omega)] at ht
      unfold listOk
      rw [ht, Bool.and_true]
      by_cases e : xs.length = 6
      · simp [e]
      · simp [e]; omega

set_option maxHeartbeats 400000 in
theorem sMemOk_any (w : World) (lo hi : Nat) (m : Value) (d : MemD) (h : MI w lo hi m d) (hhi : hi ≤ w.heap.size) :
    Calls Tryz.prog 30 #[m] w fun e w' => e = .returned (.bool (memOk d)) ∧ Below w.heap.size w w' := by
  obtain ⟨a, b, c, rfl, ha, hb, hc⟩ := h
  have bm := fun o (m : Nat) => below_drewN ((Below.refl w.heap.size w).alloc (Nat.le_refl _) o) m
  have sa := fun o m => ha.below (bm o m) hhi
  have sb := fun o m => hb.below (bm o m) hhi
  have sc := fun o m => hc.below (bm o m) hhi
  clear ha hb hc
  unfold memOk
  cases h1 : listOk d.i
  · go_enter Tryz.func30, Tryz.ntmps30
    go_wp2_with fail
    refine (l2List_any _ lo hi _ d.i (sa _ 0)).mono ?_
    rw [h1]
    rintro e w1 ⟨m1, rfl, rfl⟩
    go_wp2
    go_ret
    exact ⟨rfl, bm _ _⟩
  · cases h2 : listOk d.o
    · go_enter Tryz.func30, Tryz.ntmps30
      go_wp2_with fail
      refine (l2List_any _ lo hi _ d.i (sa _ 0)).mono ?_
      rw [h1]
      rintro e w1 ⟨m1, rfl, rfl⟩
      go_wp2_with fail
      refine (l2List_any _ lo hi _ d.o (sb _ _)).mono ?_
      rw [h2]
      rintro e w1 ⟨m2, rfl, rfl⟩
      go_wp2
      go_ret
      exact ⟨rfl, bm _ _⟩
    · go_enter Tryz.func30, Tryz.ntmps30
      go_wp2_with fail
      refine (l2List_any _ lo hi _ d.i (sa _ 0)).mono ?_
      rw [h1]
      rintro e w1 ⟨m1, rfl, rfl⟩
      go_wp2_with fail
      refine (l2List_any _ lo hi _ d.o (sb _ _)).mono ?_
      rw [h2]
      rintro e w1 ⟨m2, rfl, rfl⟩
      go_wp2_with fail
      refine (l2List_any _ lo hi _ d.v (sc _ _)).mono ?_
      rintro e w1 ⟨m3, rfl, rfl⟩
      go_wp2
      go_ret
      exact ⟨by simp, bm _ _⟩



/-- The list of a kind. -/
def memList (d : MemD) (k : Int) : List Int := if k = 1 then d.i else if k = 2 then d.o else d.v

/-- The number at a place. -/
def memGet (d : MemD) (a : AddrD) : Int := if memOk d && addrOk a then ((memList d a.kind)[a.at_.toNat]?).getD 0 else 0

theorem memOk_len {d : MemD} (h : memOk d = true) (k : Int) : (memList d k).length = 6 := by
  simp [memOk, listOk] at h
  unfold memList
  split
  · omega
  · split <;> omega

set_option maxHeartbeats 400000 in
theorem l2Get_any (w : World) (lo hi : Nat) (m : Value) (d : MemD) (a : AddrD) (h : MI w lo hi m d) (hhi : hi ≤ w.heap.size) (hd : memOk d = true) (ha : addrOk a = true) :
    Calls Tryz.prog 111 #[m, a.val] w fun e w' => e = .returned (.int .i64 (((memList d a.kind)[a.at_.toNat]?).getD 0)) ∧ Below w.heap.size w w' := by
  obtain ⟨x, y, z, rfl, hx, hy, hz⟩ := h
  obtain ⟨k, at_⟩ := a
  obtain ⟨k1, k2, k3, k4⟩ := addrOk_bd ha
  simp only at k1 k2 k3 k4
  have b2 := fun o o' => ((Below.refl w.heap.size w).alloc (Nat.le_refl _) o).alloc (by simp) o'
  have hl := memOk_len hd k
  obtain ⟨n, rfl⟩ : ∃ n : Nat, at_ = (n : Int) := ⟨at_.toNat, by omega⟩
  obtain ⟨r, hr⟩ : ∃ r, (memList d k)[n]? = some r := ⟨(memList d k)[n]'(by omega), List.getElem?_eq_getElem (by omega)⟩
  have HR : Hid ((((memList d k)[(n : Int).toNat]?).getD 0) = r) := by show (((memList d k)[n]?).getD 0) = r; rw [hr]; rfl
  show Calls Tryz.prog 111 #[_, AddrD.val ⟨k, n⟩] w fun e w' => e = .returned (.int .i64 (((memList d k)[(n : Int).toNat]?).getD 0)) ∧ Below w.heap.size w w'
  rw [HR.out]
  unfold AddrD.val
  clear HR hd ha
  have pick : ∀ {v : Value} {xs : List Int}, SI w lo hi v xs → xs[n]? = some r → xs.length = 6 → ∃ b off cap, v = .slice (some ⟨b, off, none⟩) 6 cap ∧ 6 ≤ cap ∧ cap ≤ maxLen ∧ b < w.heap.size ∧ w.cell? ⟨b, off + n, none⟩ = some (.int .i64 r) := by
    intro v xs hs hn hlen
    obtain ⟨a, cap, rfl, h1, h2, h3⟩ := hs
    rcases h3 with rfl | ⟨b, off, rfl, _, hb, hc⟩
    · simp at hlen
    · exact ⟨b, off, cap, by rw [hlen], by omega, h2, by omega, hc n r hn⟩
  unfold memList at hr hl
  by_cases e1 : k = 1
  · subst e1
    rw [if_pos rfl] at hr hl
    obtain ⟨b, off, cap, rfl, h6, h7, hb, hc⟩ := pick hx hr hl
    clear pick hx hy hz hr
    unfold maxLen at h7
    have hbs : b < w.heap.size + 1 := by omega
    go_enter Tryz.func111, Tryz.ntmps111
    go_wp2
    go_ret
    exact ⟨rfl, b2 _ _⟩
  · by_cases e2 : k = 2
    · subst e2
      rw [if_neg (by omega), if_pos rfl] at hr hl
      obtain ⟨b, off, cap, rfl, h6, h7, hb, hc⟩ := pick hy hr hl
      clear pick hx hy hz hr e1
      unfold maxLen at h7
      have hbs : b < w.heap.size + 1 := by omega
      go_enter Tryz.func111, Tryz.ntmps111
      go_wp2
      go_ret
      exact ⟨rfl, b2 _ _⟩
    · obtain rfl : k = 3 := by omega
      rw [if_neg (by omega), if_neg (by omega)] at hr hl
      obtain ⟨b, off, cap, rfl, h6, h7, hb, hc⟩ := pick hz hr hl
      clear pick hx hy hz hr e1 e2
      unfold maxLen at h7
      have hbs : b < w.heap.size + 1 := by omega
      go_enter Tryz.func111, Tryz.ntmps111
      go_wp2
      go_ret
      exact ⟨rfl, b2 _ _⟩

/-- The value is a memory's: three values. -/
theorem MI.agg {w : World} {lo hi : Nat} {m : Value} {d : MemD} (h : MI w lo hi m d) : ∃ a b c, m = .agg #[a, b, c] := by
  obtain ⟨a, b, c, hm, _⟩ := h; exact ⟨a, b, c, hm⟩

end Go.Proofs.YtokphdpaghkakaaGreat

/-
  Variables of a law in memory, and what is stored there.
-/
namespace Go.Proofs.YtokphdpaghkakaaGreat
open Go.ChangeShapes Go.WideShapes Go.ChangeAt Go.RowKit
set_option linter.unusedVariables false

/-- Three cells of one block are written. -/
theorem wrote3 (u : World) (B : Nat) (x y z : Value) : Wrote (fun b _ => b = B) u (((u.setCell ⟨B, 0, none⟩ x).setCell ⟨B, 1, none⟩ y).setCell ⟨B, 2, none⟩ z) :=
  Wrote.setCell (P := fun b _ => b = B) (Wrote.setCell (P := fun b _ => b = B) (Wrote.setCell (P := fun b _ => b = B) (Wrote.refl _ _) rfl x) rfl y) rfl z

theorem cells3 {u : World} {B : Nat} (h : ∀ k, k < 3 → (u.cell? ⟨B, k, none⟩).isSome = true) (x y z : Value) :
    (((u.setCell ⟨B, 0, none⟩ x).setCell ⟨B, 1, none⟩ y).setCell ⟨B, 2, none⟩ z).cell? ⟨B, 0, none⟩ = some x ∧
    (((u.setCell ⟨B, 0, none⟩ x).setCell ⟨B, 1, none⟩ y).setCell ⟨B, 2, none⟩ z).cell? ⟨B, 1, none⟩ = some y ∧
    (((u.setCell ⟨B, 0, none⟩ x).setCell ⟨B, 1, none⟩ y).setCell ⟨B, 2, none⟩ z).cell? ⟨B, 2, none⟩ = some z := by
  obtain ⟨y0, s0⟩ := Option.isSome_iff_exists.mp (h 0 (by omega))
  obtain ⟨y1, s1⟩ := Option.isSome_iff_exists.mp (h 1 (by omega))
  obtain ⟨y2, s2⟩ := Option.isSome_iff_exists.mp (h 2 (by omega))
  refine ⟨?_, ?_, ?_⟩
  · rw [cell_set_other _ (Or.inr (by omega)), cell_set_other _ (Or.inr (by omega))]; exact World.cell?_setCell_same _ _ _ s0
  · rw [cell_set_other _ (Or.inr (by omega))]; exact World.cell?_setCell_same _ _ _ (by rw [cell_set_other _ (Or.inr (by omega))]; exact s1)
  · exact World.cell?_setCell_same _ _ _ (by rw [cell_set_other _ (Or.inr (by omega)), cell_set_other _ (Or.inr (by omega))]; exact s2)

/-- A variable of three cells. -/
structure Box3 (w : World) (B : Nat) (x y z : Value) : Prop where
  c0 : w.cell? ⟨B, 0, none⟩ = some x
  c1 : w.cell? ⟨B, 1, none⟩ = some y
  c2 : w.cell? ⟨B, 2, none⟩ = some z

theorem Box3.below {w w' : World} {B n : Nat} {x y z : Value} (h : Box3 w B x y z) (hb : Below n w w') (hB : B < n) : Box3 w' B x y z :=
  ⟨by rw [hb.cell (p := ⟨B, 0, none⟩) hB]; exact h.c0, by rw [hb.cell (p := ⟨B, 1, none⟩) hB]; exact h.c1, by rw [hb.cell (p := ⟨B, 2, none⟩) hB]; exact h.c2⟩

theorem box3_new (w : World) (x y z : Value) (t : TypeId) : Box3 (w.alloc (.cells #[x, y, z] t)) w.heap.size x y z :=
  ⟨World.cell?_alloc_new _ _ _ _, World.cell?_alloc_new _ _ _ _, World.cell?_alloc_new _ _ _ _⟩

/-- A variable of two cells. -/
structure Box2 (w : World) (B : Nat) (x y : Value) : Prop where
  c0 : w.cell? ⟨B, 0, none⟩ = some x
  c1 : w.cell? ⟨B, 1, none⟩ = some y

theorem Box2.below {w w' : World} {B n : Nat} {x y : Value} (h : Box2 w B x y) (hb : Below n w w') (hB : B < n) : Box2 w' B x y :=
  ⟨by rw [hb.cell (p := ⟨B, 0, none⟩) hB]; exact h.c0, by rw [hb.cell (p := ⟨B, 1, none⟩) hB]; exact h.c1⟩

theorem MO.keptR {d : MemD} : ∀ (u u' : World) (lo hi : Nat) (v : Value), (∀ k, lo ≤ k → k < hi → u'.heap[k]? = u.heap[k]?) → MO u lo hi v d → MO u' lo hi v d :=
  fun _ _ _ _ _ hk h => h.kept hk

/-- What is stored into a variable of three cells: the variable holds it, and all else stays. -/
theorem store3 {u : World} {B lo hi : Nat} {x y z : Value} {d : MemD} {w0 : World} (hg : Grow w0 u) (hB0 : w0.heap.size ≤ B) (hB : B < u.heap.size) (hz : Zero 3 u B) (ho : MO u lo hi (.agg #[x, y, z]) d) (hd : B < lo ∨ hi ≤ B) :
    ∃ u1, ((u.setCell ⟨B, 0, none⟩ x).setCell ⟨B, 1, none⟩ y).setCell ⟨B, 2, none⟩ z = u1 ∧ Grow w0 u1 ∧ Box3 u1 B x y z ∧ MO u1 lo hi (.agg #[x, y, z]) d ∧ u1.heap.size = u.heap.size := by
  have hw := wrote3 u B x y z
  have hc := cells3 (fun k hk => (hz k hk).1) x y z
  exact ⟨_, rfl, hg.trans (hw.below fun b o e => by omega), ⟨hc.1, hc.2.1, hc.2.2⟩, ho.kept fun k h1 h2 => hw.block k (fun o e => by omega), hw.size⟩

theorem Box3.out {w w' : World} {B lo hi : Nat} {x y z : Value} (h : Box3 w B x y z) (ho : Out lo hi w w') (h1 : B < w.heap.size) (h2 : B < lo ∨ hi ≤ B) : Box3 w' B x y z := by
  have hk := ho.block B h1 h2
  exact ⟨by rw [World.cell?_of_block (w := w) hk]; exact h.c0, by rw [World.cell?_of_block (w := w) hk]; exact h.c1, by rw [World.cell?_of_block (w := w) hk]; exact h.c2⟩

theorem Box2.out {w w' : World} {B lo hi : Nat} {x y : Value} (h : Box2 w B x y) (ho : Out lo hi w w') (h1 : B < w.heap.size) (h2 : B < lo ∨ hi ≤ B) : Box2 w' B x y := by
  have hk := ho.block B h1 h2
  exact ⟨by rw [World.cell?_of_block (w := w) hk]; exact h.c0, by rw [World.cell?_of_block (w := w) hk]; exact h.c1⟩

theorem zero3_new (u : World) (x y z : Value) (t : TypeId) : Zero 3 (u.alloc (.cells #[x, y, z] t)) u.heap.size := fun k hk => by
  rw [World.cell?_alloc_new, World.frozen?_alloc_new]
  match k, hk with
  | 0, _ => exact ⟨rfl, rfl⟩
  | 1, _ => exact ⟨rfl, rfl⟩
  | 2, _ => exact ⟨rfl, rfl⟩

end Go.Proofs.YtokphdpaghkakaaGreat

/-
  What two numbers come to, by a kind: the model's.
-/
namespace Go.Proofs.YtokphdpaghkakaaGreat
open Go.ChangeShapes Go.WideShapes Go.ChangeAt Go.RowKit
set_option linter.unusedVariables false

/-- 1, if something is so, else 0. -/
def isZ (b : Bool) : Int := if b then 1 else 0

/-- What two numbers come to, by a kind. -/
def twoZ (k a b : Int) : Int :=
  if k = 3 then cutZ (cutZ a + cutZ b) else if k = 4 then cutZ (cutZ a - cutZ b) else if k = 5 then cutZ (cutZ a * cutZ b)
  else if k = 6 then isZ (decide (a < b)) else if k = 7 then isZ (a == b) else if k = 8 then isZ ((a != 0) && (b != 0)) else isZ ((a != 0) || (b != 0))

theorem sIs_any (b : Bool) (w : World) : Calls Tryz.prog 90 #[.bool b] w fun e w' => e = .returned (.int .i64 (isZ b)) ∧ w' = w := by
  cases b
  · go_enter Tryz.func90, Tryz.ntmps90
    go_wp2
    go_ret
    exact ⟨rfl, rfl⟩
  · go_enter Tryz.func90, Tryz.ntmps90
    go_wp2
    go_ret
    exact ⟨rfl, rfl⟩

theorem sOn_any (n : Int) (w : World) : Calls Tryz.prog 74 #[.int .i64 n] w fun e w' => e = .returned (.bool (n != 0)) ∧ w' = w := by
  go_enter Tryz.func74, Tryz.ntmps74
  go_wp2
  go_ret
  exact ⟨rfl, rfl⟩

set_option maxHeartbeats 4000000 in
theorem l3Two_any (k a b : Int) (w : World) : Calls Tryz.prog 112 #[.int .i64 k, .int .i64 a, .int .i64 b] w fun e w' => e = .returned (.int .i64 (twoZ k a b)) ∧ w' = w := by
  unfold twoZ
  by_cases h3 : k = 3
  · subst h3
    go_enter Tryz.func112, Tryz.ntmps112
    go_wp2_with fail
    refine (sAdd_any a b _).mono ?_
    rintro e w1 ⟨rfl, rfl⟩
    go_wp2
    go_ret
    exact ⟨rfl, rfl⟩
  rw [if_neg h3]
  have e3 : (k == 3) = false := by simpa using h3
  by_cases h4 : k = 4
  · subst h4
    go_enter Tryz.func112, Tryz.ntmps112
    go_wp2_with fail
    refine (sSub_any a b _).mono ?_
    rintro e w1 ⟨rfl, rfl⟩
    go_wp2
    go_ret
    exact ⟨rfl, rfl⟩
  rw [if_neg h4]
  have e4 : (k == 4) = false := by simpa using h4
  by_cases h5 : k = 5
  · subst h5
    go_enter Tryz.func112, Tryz.ntmps112
    go_wp2_with fail
    refine (sMul_any a b _).mono ?_
    rintro e w1 ⟨rfl, rfl⟩
    go_wp2
    go_ret
    exact ⟨rfl, rfl⟩
  rw [if_neg h5]
  have e5 : (k == 5) = false := by simpa using h5
  by_cases h6 : k = 6
  · subst h6
    go_enter Tryz.func112, Tryz.ntmps112
    go_wp2_with fail
    refine (sIs_any _ _).mono ?_
    rintro e w1 ⟨rfl, rfl⟩
    go_wp2
    go_ret
    exact ⟨rfl, rfl⟩
  rw [if_neg h6]
  have e6 : (k == 6) = false := by simpa using h6
  by_cases h7 : k = 7
  · subst h7
    go_enter Tryz.func112, Tryz.ntmps112
    go_wp2_with fail
    refine (sIs_any _ _).mono ?_
    rintro e w1 ⟨rfl, rfl⟩
    go_wp2
    go_ret
    exact ⟨rfl, rfl⟩
  rw [if_neg h7]
  have e7 : (k == 7) = false := by simpa using h7
  by_cases h8 : k = 8
  · subst h8
    go_enter Tryz.func112, Tryz.ntmps112
    go_wp2_with fail
    refine (sOn_any a _).mono ?_
    rintro e w1 ⟨rfl, rfl⟩
    cases ha : (a != 0) with
    | true =>
      go_wp2_with fail
      refine (sOn_any b _).mono ?_
      rintro e w1 ⟨rfl, rfl⟩
      go_wp2_with fail
      refine (sIs_any _ _).mono ?_
      rintro e w1 ⟨rfl, rfl⟩
      go_wp2
      go_ret
      exact ⟨by simp, rfl⟩
    | false =>
      go_wp2_with fail
      refine (sIs_any _ _).mono ?_
      rintro e w1 ⟨rfl, rfl⟩
      go_wp2
      go_ret
      exact ⟨by simp, rfl⟩
  rw [if_neg h8]
  have e8 : (k == 8) = false := by simpa using h8
  clear h3 h4 h5 h6 h7 h8
  go_enter Tryz.func112, Tryz.ntmps112
  go_wp2_with fail
  refine (sOn_any a _).mono ?_
  rintro e w1 ⟨rfl, rfl⟩
  cases ha : (a != 0) with
  | true =>
    go_wp2_with fail
    refine (sIs_any _ _).mono ?_
    rintro e w1 ⟨rfl, rfl⟩
    go_wp2
    go_ret
    exact ⟨by simp [ha], rfl⟩
  | false =>
    go_wp2_with fail
    refine (sOn_any b _).mono ?_
    rintro e w1 ⟨rfl, rfl⟩
    go_wp2_with fail
    refine (sIs_any _ _).mono ?_
    rintro e w1 ⟨rfl, rfl⟩
    go_wp2
    go_ret
    exact ⟨by simp [ha], rfl⟩
end Go.Proofs.YtokphdpaghkakaaGreat
