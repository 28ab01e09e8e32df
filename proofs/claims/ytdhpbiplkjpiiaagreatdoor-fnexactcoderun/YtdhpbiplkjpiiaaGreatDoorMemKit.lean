/-
  Memories (three lists of numbers), and what the laws' helpers do with them: szMem, eqMem, toMem, markMem, heldMem.
-/
import Derived.Test.YtdhpbiplkjpiiaaGreatDoorQC6
import Derived.Test.YtdhpbiplkjpiiaaGreatDoorAddrKit
import Derived.Test.YtdhpbiplkjpiiaaGreatDoorOutKit
namespace Go.Proofs.YtdhpbiplkjpiiaaGreatDoor
open Go.ChangeShapes Go.WideShapes Go.ChangeAt Go.RowKit
set_option linter.unusedVariables false

/-- A memory's numbers. -/
structure MemD where
  i : List Int
  o : List Int
  v : List Int
deriving DecidableEq

/-- A memory value reads as these numbers. -/
def MI (w : World) (lo hi : Nat) (m : Value) (d : MemD) : Prop :=
  ∃ a b c, m = .agg #[a, b, c] ∧ SI w lo hi a d.i ∧ SI w lo hi b d.o ∧ SI w lo hi c d.v

/-- No cell is of both. -/
def Apart (v : Value) (n : Nat) (v' : Value) (n' : Nat) : Prop := ∀ b o, Foot v n b o → ¬ Foot v' n' b o

/-- A memory value owns these numbers, each list apart from the others. -/
def MO (w : World) (lo hi : Nat) (m : Value) (d : MemD) : Prop :=
  ∃ a b c, m = .agg #[a, b, c] ∧ OI w lo hi a d.i ∧ OI w lo hi b d.o ∧ OI w lo hi c d.v ∧
    Apart a d.i.length b d.o.length ∧ Apart a d.i.length c d.v.length ∧ Apart b d.o.length c d.v.length

theorem MO.mi {w : World} {lo hi : Nat} {m : Value} {d : MemD} (h : MO w lo hi m d) : MI w lo hi m d := by
  obtain ⟨a, b, c, hm, h1, h2, h3, _⟩ := h
  exact ⟨a, b, c, hm, h1.si, h2.si, h3.si⟩

theorem MI.kept {w w' : World} {lo hi : Nat} {m : Value} {d : MemD} (h : MI w lo hi m d) (hk : ∀ k, lo ≤ k → k < hi → w'.heap[k]? = w.heap[k]?) : MI w' lo hi m d := by
  obtain ⟨a, b, c, hm, h1, h2, h3⟩ := h
  exact ⟨a, b, c, hm, h1.kept hk, h2.kept hk, h3.kept hk⟩

theorem MI.below {w w' : World} {lo hi n : Nat} {m : Value} {d : MemD} (h : MI w lo hi m d) (hb : Below n w w') (hn : hi ≤ n) : MI w' lo hi m d :=
  h.kept fun k _ hk => hb.block k (by omega)

theorem MO.kept {w w' : World} {lo hi : Nat} {m : Value} {d : MemD} (h : MO w lo hi m d) (hk : ∀ k, lo ≤ k → k < hi → w'.heap[k]? = w.heap[k]?) : MO w' lo hi m d := by
  obtain ⟨a, b, c, hm, h1, h2, h3, h4⟩ := h
  exact ⟨a, b, c, hm, h1.kept hk, h2.kept hk, h3.kept hk, h4⟩

theorem MO.below {w w' : World} {lo hi n : Nat} {m : Value} {d : MemD} (h : MO w lo hi m d) (hb : Below n w w') (hn : hi ≤ n) : MO w' lo hi m d :=
  h.kept fun k _ hk => hb.block k (by omega)

theorem OI.foot {w : World} {lo hi : Nat} {v : Value} {xs : List Int} (h : OI w lo hi v xs) {b o : Nat} (hf : Foot v xs.length b o) : lo ≤ b ∧ b < hi := by
  obtain ⟨g, off, l, cap, hv, rfl, _, _⟩ := hf
  rcases h with ⟨rfl, a, cap', rfl, _⟩ | ⟨g', off', cap', hv', _, _, h3, h4, _⟩
  · simp at *; omega
  · rw [hv] at hv'; simp at hv'; omega

theorem apart_of {w w' : World} {lo hi lo' hi' : Nat} {v v' : Value} {xs ys : List Int} (h : OI w lo hi v xs) (h' : OI w' lo' hi' v' ys) (hl : hi ≤ lo') : Apart v xs.length v' ys.length := by
  intro b o hf hf'
  have := h.foot hf
  have := h'.foot hf'
  omega

theorem SI.shape {w : World} {lo hi : Nat} {v : Value} {xs : List Int} (h : SI w lo hi v xs) : ∃ a cap, v = .slice a xs.length cap := by
  obtain ⟨a, cap, hv, _⟩ := h; exact ⟨a, cap, hv⟩

set_option maxHeartbeats 1000000 in
theorem toMem_any (w : World) (lo hi : Nat) (m : Value) (d : MemD) (h : MI w lo hi m d) (hhi : hi ≤ w.heap.size)
    (hn : d.i.length + d.o.length + d.v.length ≤ 1048576) :
    Calls Tryz.prog 7 #[m] w fun e w' => ∃ m', e = .returned m' ∧ MO w' w.heap.size w'.heap.size m' d ∧ Below w.heap.size w w' := by
  obtain ⟨a, b, c, rfl, ha, hb, hc⟩ := h
  obtain ⟨aa, ca, rfl⟩ := ha.shape
  obtain ⟨ab, cb, rfl⟩ := hb.shape
  obtain ⟨ac, cc, rfl⟩ := hc.shape
  have hb3 := below_alloc3 w
  go_enter Tryz.func7, Tryz.ntmps7
  go_wp2_with fail
  refine (toIntS_any _ lo hi _ d.i (ha.below (hb3 _ _ _) hhi) (by simp; omega) (by omega)).mono ?_
  rintro e w1 ⟨v1, rfl, ho1, hb1⟩
  obtain ⟨a1, c1, rfl⟩ := ho1.si.shape
  obtain ⟨hc1, hf1⟩ := bcell hb1
  simp only [World.size_alloc] at hb1 ho1 hc1 hf1
  have bw1 : Below w.heap.size w w1 := (hb3 _ _ _).trans (hb1.mono (by omega))
  obtain ⟨p1, p2, p3⟩ : w.heap.size < w1.heap.size ∧ w.heap.size + 1 < w1.heap.size ∧ w.heap.size + 1 + 1 < w1.heap.size := by have := hb1.size; simp at this; omega
  clear hb1 hb3
  go_wp2_with fail
  have bs2 : Below w.heap.size w (w1.setCell ⟨w.heap.size + 1 + 1, 0, none⟩ (.slice a1 d.i.length c1)) := bw1.setCell (by show _ ≤ w.heap.size + 1 + 1; omega) _
  have ho1' : OI (w1.setCell ⟨w.heap.size + 1 + 1, 0, none⟩ (.slice a1 d.i.length c1)) (w.heap.size + 1 + 1 + 1) w1.heap.size (.slice a1 d.i.length c1) d.i :=
    ho1.kept fun k h1 h2 => Below.heap_setCell _ _ _ _ (by show k ≠ w.heap.size + 1 + 1; omega)
  refine (toIntS_any _ lo hi _ d.o (hb.below bs2 hhi) (by simp; omega) (by omega)).mono ?_
  rintro e w2 ⟨v2, rfl, ho2, hb2⟩
  obtain ⟨a2, c2, rfl⟩ := ho2.si.shape
  obtain ⟨hc2, hf2⟩ := bcell hb2
  have hsz2 : (w1.setCell ⟨w.heap.size + 1 + 1, 0, none⟩ (.slice a1 d.i.length c1)).heap.size = w1.heap.size := by simp [World.setCell]
  rw [hsz2] at hb2 ho2 hc2 hf2
  have bw2 : Below w.heap.size w w2 := bs2.trans (hb2.mono (by omega))
  have ho1b : OI w2 (w.heap.size + 1 + 1 + 1) w1.heap.size (.slice a1 d.i.length c1) d.i := ho1'.below hb2 (Nat.le_refl _)
  have q := hb2.size
  rw [hsz2] at q
  obtain ⟨q1, q2, q3⟩ : w.heap.size < w2.heap.size ∧ w.heap.size + 1 < w2.heap.size ∧ w.heap.size + 1 + 1 < w2.heap.size := by omega
  clear hb2 hsz2 bs2 ho1' ho1 bw1
  go_wp2_with fail
  have bs3 : Below w.heap.size w (w2.setCell ⟨w.heap.size + 1 + 1, 1, none⟩ (.slice a2 d.o.length c2)) := bw2.setCell (by show _ ≤ w.heap.size + 1 + 1; omega) _
  have ho1c : OI (w2.setCell ⟨w.heap.size + 1 + 1, 1, none⟩ (.slice a2 d.o.length c2)) (w.heap.size + 1 + 1 + 1) w1.heap.size (.slice a1 d.i.length c1) d.i :=
    ho1b.kept fun k h1 h2 => Below.heap_setCell _ _ _ _ (by show k ≠ w.heap.size + 1 + 1; omega)
  have ho2c : OI (w2.setCell ⟨w.heap.size + 1 + 1, 1, none⟩ (.slice a2 d.o.length c2)) w1.heap.size w2.heap.size (.slice a2 d.o.length c2) d.o :=
    ho2.kept fun k h1 h2 => Below.heap_setCell _ _ _ _ (by show k ≠ w.heap.size + 1 + 1; omega)
  refine (toIntS_any _ lo hi _ d.v (hc.below bs3 hhi) (by simp; omega) (by omega)).mono ?_
  rintro e w3 ⟨v3, rfl, ho3, hb3⟩
  obtain ⟨a3, c3, rfl⟩ := ho3.si.shape
  obtain ⟨hc3, hf3⟩ := bcell hb3
  have hsz3 : (w2.setCell ⟨w.heap.size + 1 + 1, 1, none⟩ (.slice a2 d.o.length c2)).heap.size = w2.heap.size := by simp [World.setCell]
  rw [hsz3] at hb3 ho3 hc3 hf3
  have bw3 : Below w.heap.size w w3 := bs3.trans (hb3.mono (by omega))
  have ho1d : OI w3 (w.heap.size + 1 + 1 + 1) w1.heap.size (.slice a1 d.i.length c1) d.i := ho1c.below hb3 (by omega)
  have ho2d : OI w3 w1.heap.size w2.heap.size (.slice a2 d.o.length c2) d.o := ho2c.below hb3 (by omega)
  have r := hb3.size
  rw [hsz3] at r
  obtain ⟨r1, r2, r3⟩ : w.heap.size < w3.heap.size ∧ w.heap.size + 1 < w3.heap.size ∧ w.heap.size + 1 + 1 < w3.heap.size := by omega
  clear hb3 hsz3 bs3 ho1c ho2c ho1b ho2 bw2
  go_wp2
  have hk : ∀ (x1 x2 x3 x4 : Value) (k : Nat), w.heap.size + 1 + 1 + 1 ≤ k → ((((w3.setCell ⟨w.heap.size + 1 + 1, 2, none⟩ x1).setCell ⟨w.heap.size + 1, 0, none⟩ x2).setCell ⟨w.heap.size + 1, 1, none⟩ x3).setCell ⟨w.heap.size + 1, 2, none⟩ x4).heap[k]? = w3.heap[k]? := by
    intro x1 x2 x3 x4 k hk
    rw [Below.heap_setCell _ _ _ _ (by show k ≠ w.heap.size + 1; omega), Below.heap_setCell _ _ _ _ (by show k ≠ w.heap.size + 1; omega), Below.heap_setCell _ _ _ _ (by show k ≠ w.heap.size + 1; omega), Below.heap_setCell _ _ _ _ (by show k ≠ w.heap.size + 1 + 1; omega)]
  have hsz : ∀ (x1 x2 x3 x4 : Value), ((((w3.setCell ⟨w.heap.size + 1 + 1, 2, none⟩ x1).setCell ⟨w.heap.size + 1, 0, none⟩ x2).setCell ⟨w.heap.size + 1, 1, none⟩ x3).setCell ⟨w.heap.size + 1, 2, none⟩ x4).heap.size = w3.heap.size := by
    intro x1 x2 x3 x4; simp [World.setCell]
  refine bodyPost_ret (v := .agg #[.slice a1 d.i.length c1, .slice a2 d.o.length c2, .slice a3 d.v.length c3]) (by simp [results, Tryz.results7, go_sem, hc3, hc2, hc1, q2, p2]) rfl ⟨_, rfl, ?_, ?_⟩
  · refine ⟨_, _, _, rfl, ?_, ?_, ?_, apart_of ho1d ho2d (Nat.le_refl _), apart_of ho1d ho3 (by omega), apart_of ho2d ho3 (Nat.le_refl _)⟩
    · exact (ho1d.kept fun k h1 h2 => hk _ _ _ _ k h1).wide (by omega) (by rw [hsz]; omega)
    · exact (ho2d.kept fun k h1 h2 => hk _ _ _ _ k (by omega)).wide (by omega) (by rw [hsz]; omega)
    · exact (ho3.kept fun k h1 h2 => hk _ _ _ _ k (by omega)).wide (by omega) (by rw [hsz]; omega)
  · exact (((bw3.setCell (by show _ ≤ w.heap.size + 1 + 1; omega) _).setCell (by show _ ≤ w.heap.size + 1; omega) _).setCell (by show _ ≤ w.heap.size + 1; omega) _).setCell (by show _ ≤ w.heap.size + 1; omega) _

/-- How many numbers there are in a memory. -/
def MemD.many (d : MemD) : Nat := d.i.length + d.o.length + d.v.length

set_option maxHeartbeats 400000 in
theorem szMem_any (w : World) (lo hi : Nat) (m : Value) (d : MemD) (left : Int) (h : MI w lo hi m d) (hhi : hi ≤ w.heap.size) (hl : 0 ≤ left) (hl' : left ≤ 1048576) :
    Calls Tryz.prog 4 #[m, .int .i64 left] w fun e w' => e = .returned (.int .i64 (if left < d.many then -1 else left - d.many)) ∧ Below w.heap.size w w' := by
  obtain ⟨a, b, c, rfl, ha, hb, hc⟩ := h
  have sa := fun o => ha.below (w' := w.alloc o) ((Below.refl _ _).alloc (Nat.le_refl _) o) hhi
  have sb := fun o => hb.below (w' := w.alloc o) ((Below.refl _ _).alloc (Nat.le_refl _) o) hhi
  have sc := fun o => hc.below (w' := w.alloc o) ((Below.refl _ _).alloc (Nat.le_refl _) o) hhi
  unfold MemD.many
  by_cases h1 : left < d.i.length
  · rw [if_pos (by omega)]
    go_enter Tryz.func4, Tryz.ntmps4
    go_wp2_with fail
    refine (szIntS_any _ lo hi _ d.i _ (sa _) hl hl').mono ?_
    rw [if_pos (by omega)]
    rintro e w1 ⟨rfl, rfl⟩
    go_wp2
    go_ret
    exact ⟨rfl, (Below.refl _ _).alloc (Nat.le_refl _) _⟩
  · by_cases h2 : left - d.i.length < d.o.length
    · rw [if_pos (by omega)]
      go_enter Tryz.func4, Tryz.ntmps4
      go_wp2_with fail
      refine (szIntS_any _ lo hi _ d.i _ (sa _) hl hl').mono ?_
      rw [if_neg (by omega)]
      rintro e w1 ⟨rfl, rfl⟩
      go_wp2_with fail
      refine (szIntS_any _ lo hi _ d.o _ (sb _) (by omega) (by omega)).mono ?_
      rw [if_pos (by omega)]
      rintro e w1 ⟨rfl, rfl⟩
      go_wp2
      go_ret
      exact ⟨rfl, (Below.refl _ _).alloc (Nat.le_refl _) _⟩
    · by_cases h3 : left - d.i.length - d.o.length < d.v.length
      · rw [if_pos (by omega)]
        go_enter Tryz.func4, Tryz.ntmps4
        go_wp2_with fail
        refine (szIntS_any _ lo hi _ d.i _ (sa _) hl hl').mono ?_
        rw [if_neg (by omega)]
        rintro e w1 ⟨rfl, rfl⟩
        go_wp2_with fail
        refine (szIntS_any _ lo hi _ d.o _ (sb _) (by omega) (by omega)).mono ?_
        rw [if_neg (by omega)]
        rintro e w1 ⟨rfl, rfl⟩
        go_wp2_with fail
        refine (szIntS_any _ lo hi _ d.v _ (sc _) (by omega) (by omega)).mono ?_
        rw [if_pos (by omega)]
        rintro e w1 ⟨rfl, rfl⟩
        go_wp2
        go_ret
        exact ⟨rfl, (Below.refl _ _).alloc (Nat.le_refl _) _⟩
      · rw [if_neg (by omega)]
        go_enter Tryz.func4, Tryz.ntmps4
        go_wp2_with fail
        refine (szIntS_any _ lo hi _ d.i _ (sa _) hl hl').mono ?_
        rw [if_neg (by omega)]
        rintro e w1 ⟨rfl, rfl⟩
        go_wp2_with fail
        refine (szIntS_any _ lo hi _ d.o _ (sb _) (by omega) (by omega)).mono ?_
        rw [if_neg (by omega)]
        rintro e w1 ⟨rfl, rfl⟩
        go_wp2_with fail
        refine (szIntS_any _ lo hi _ d.v _ (sc _) (by omega) (by omega)).mono ?_
        rw [if_neg (by omega)]
        rintro e w1 ⟨rfl, rfl⟩
        go_wp2
        go_ret
        exact ⟨ret_int (by omega), (Below.refl _ _).alloc (Nat.le_refl _) _⟩

theorem memD_eq {d e : MemD} : (d = e) = (d.i = e.i ∧ d.o = e.o ∧ d.v = e.v) := by
  cases d; cases e; simp

set_option maxHeartbeats 400000 in
theorem eqMem_any (w : World) (lo hi lo' hi' : Nat) (m m' : Value) (d e : MemD) (h : MI w lo hi m d) (h' : MI w lo' hi' m' e) (hhi : hi ≤ w.heap.size) (hhi' : hi' ≤ w.heap.size) :
    Calls Tryz.prog 10 #[m, m'] w fun en w' => en = .returned (.bool (decide (d = e))) ∧ Below w.heap.size w w' := by
  obtain ⟨a, b, c, rfl, ha, hb, hc⟩ := h
  obtain ⟨a', b', c', rfl, ha', hb', hc'⟩ := h'
  have b2 := fun o o' => ((Below.refl w.heap.size w).alloc (Nat.le_refl _) o).alloc (by simp) o'
  have bm := fun o o' (m : Nat) => below_drewN (b2 o o') m
  have sa := fun o o' m => ha.below (bm o o' m) hhi
  have sb := fun o o' m => hb.below (bm o o' m) hhi
  have sc := fun o o' m => hc.below (bm o o' m) hhi
  have ta := fun o o' m => ha'.below (bm o o' m) hhi'
  have tb := fun o o' m => hb'.below (bm o o' m) hhi'
  have tc := fun o o' m => hc'.below (bm o o' m) hhi'
  clear ha hb hc ha' hb' hc'
  by_cases h1 : d.i = e.i
  · by_cases h2 : d.o = e.o
    · by_cases h3 : d.v = e.v
      · have HE : Hid (decide (d = e) = true) := decide_eq_true (by rw [memD_eq]; exact ⟨h1, h2, h3⟩)
        go_enter Tryz.func10, Tryz.ntmps10
        go_wp2_with fail
        refine (eqIntS_any _ lo hi lo' hi' _ _ d.i e.i (sa _ _ 0) (ta _ _ 0)).mono ?_
        rw [decide_eq_true (by assumption)]
        rintro en w1 ⟨m0, rfl, rfl⟩
        go_wp2_with fail
        refine (eqIntS_any _ lo hi lo' hi' _ _ d.o e.o (sb _ _ _) (tb _ _ _)).mono ?_
        rw [decide_eq_true (by assumption)]
        rintro en w1 ⟨m1, rfl, rfl⟩
        go_wp2_with fail
        refine (eqIntS_any _ lo hi lo' hi' _ _ d.v e.v (sc _ _ _) (tc _ _ _)).mono ?_
        rw [decide_eq_true (by assumption)]
        rintro en w1 ⟨m2, rfl, rfl⟩
        go_wp2
        go_ret
        exact ⟨ret_bool HE.out.symm, bm _ _ _⟩
      · have HE : Hid (decide (d = e) = false) := decide_eq_false (by rw [memD_eq]; intro h; exact h3 h.2.2)
        go_enter Tryz.func10, Tryz.ntmps10
        go_wp2_with fail
        refine (eqIntS_any _ lo hi lo' hi' _ _ d.i e.i (sa _ _ 0) (ta _ _ 0)).mono ?_
        rw [decide_eq_true (by assumption)]
        rintro en w1 ⟨m0, rfl, rfl⟩
        go_wp2_with fail
        refine (eqIntS_any _ lo hi lo' hi' _ _ d.o e.o (sb _ _ _) (tb _ _ _)).mono ?_
        rw [decide_eq_true (by assumption)]
        rintro en w1 ⟨m1, rfl, rfl⟩
        go_wp2_with fail
        refine (eqIntS_any _ lo hi lo' hi' _ _ d.v e.v (sc _ _ _) (tc _ _ _)).mono ?_
        rw [decide_eq_false (by assumption)]
        rintro en w1 ⟨m2, rfl, rfl⟩
        go_wp2
        go_ret
        exact ⟨ret_bool HE.out.symm, bm _ _ _⟩
    · have HE : Hid (decide (d = e) = false) := decide_eq_false (by rw [memD_eq]; intro h; exact h2 h.2.1)
      go_enter Tryz.func10, Tryz.ntmps10
      go_wp2_with fail
      refine (eqIntS_any _ lo hi lo' hi' _ _ d.i e.i (sa _ _ 0) (ta _ _ 0)).mono ?_
      rw [decide_eq_true (by assumption)]
      rintro en w1 ⟨m0, rfl, rfl⟩
      go_wp2_with fail
      refine (eqIntS_any _ lo hi lo' hi' _ _ d.o e.o (sb _ _ _) (tb _ _ _)).mono ?_
      rw [decide_eq_false (by assumption)]
      rintro en w1 ⟨m1, rfl, rfl⟩
      go_wp2
      go_ret
      exact ⟨ret_bool HE.out.symm, bm _ _ _⟩
  · have HE : Hid (decide (d = e) = false) := decide_eq_false (by rw [memD_eq]; intro h; exact h1 h.1)
    go_enter Tryz.func10, Tryz.ntmps10
    go_wp2_with fail
    refine (eqIntS_any _ lo hi lo' hi' _ _ d.i e.i (sa _ _ 0) (ta _ _ 0)).mono ?_
    rw [decide_eq_false (by assumption)]
    rintro en w1 ⟨m0, rfl, rfl⟩
    go_wp2
    go_ret
    exact ⟨ret_bool HE.out.symm, bm _ _ _⟩

theorem Wrote.out {P : Nat → Nat → Prop} {w w' : World} (h : Wrote P w w') {lo hi : Nat} (hP : ∀ b o, P b o → lo ≤ b ∧ b < hi) : Out lo hi w w' :=
  ⟨h.os, h.tape, h.output, by rw [h.size]; exact Nat.le_refl _, fun k _ hk => h.block k fun o hp => by have := hP k o hp; omega⟩

theorem MI.out {w w' : World} {lo hi lo' hi' : Nat} {m : Value} {d : MemD} (h : MI w lo' hi' m d) (ho : Out lo hi w w') (h1 : hi' ≤ w.heap.size) (h2 : hi' ≤ lo ∨ hi ≤ lo') : MI w' lo' hi' m d :=
  h.kept fun k h3 h4 => ho.block k (by omega) (by omega)

theorem MO.out {w w' : World} {lo hi lo' hi' : Nat} {m : Value} {d : MemD} (h : MO w lo' hi' m d) (ho : Out lo hi w w') (h1 : hi' ≤ w.heap.size) (h2 : hi' ≤ lo ∨ hi ≤ lo') : MO w' lo' hi' m d :=
  h.kept fun k h3 h4 => ho.block k (by omega) (by omega)

/-- A memory that was marked. -/
def markD (k : Int) (d : MemD) : MemD := ⟨marks k d.i.length, marks (k + d.i.length) d.o.length, marks (k + d.i.length + d.o.length) d.v.length⟩

set_option maxHeartbeats 1000000 in
theorem markMem_any (w : World) (lo hi : Nat) (m : Value) (d : MemD) (k : Int) (h : MO w lo hi m d) (hhi : hi ≤ w.heap.size) (hn : d.many ≤ 4194304) (hk : 0 ≤ k) (hk' : k ≤ 1000000) :
    Calls Tryz.prog 12 #[m, .int .i64 k] w fun e w' => e = .returned (.int .i64 (k + d.many)) ∧ MO w' lo hi m (markD k d) ∧ Out lo hi w w' := by
  obtain ⟨a, b, c, rfl, ha, hb, hc, ab, ac, bc⟩ := h
  unfold MemD.many at *
  have b1 := fun o => (Below.refl w.heap.size w).alloc (Nat.le_refl _) o
  have sa := fun o => ha.below (b1 o) hhi
  have sb := fun o => hb.below (b1 o) hhi
  have sc := fun o => hc.below (b1 o) hhi
  clear ha hb hc
  go_enter Tryz.func12, Tryz.ntmps12
  go_wp2_with fail
  have A0 := sa (.cells #[a, b, c] 28)
  have B0 := sb (.cells #[a, b, c] 28)
  have C0 := sc (.cells #[a, b, c] 28)
  have D0 := b1 (.cells #[a, b, c] 28)
  clear sa sb sc b1
  refine (markIntS_any _ lo hi a d.i k A0 (by omega) hk (by omega)).mono ?_
  rintro e w1 ⟨rfl, A1, W1⟩
  have F1 : ∀ o, w1.cell? ⟨w.heap.size, o, none⟩ = (w.alloc (.cells #[a, b, c] 28)).cell? ⟨w.heap.size, o, none⟩ := fun o => W1.cell _ _ fun hf => by have := A0.foot hf; omega
  have B1 := B0.wrote W1 (fun x o hf hf' => ab x o hf' hf)
  have C1 := C0.wrote W1 (fun x o hf hf' => ac x o hf' hf)
  have O1 := (out_of_below D0 lo hi).trans (W1.out fun x o hf => A0.foot hf)
  clear A0 B0 C0 D0 W1
  go_wp2_with fail
  refine (markIntS_any _ lo hi b d.o _ B1 (by omega) (by omega) (by omega)).mono ?_
  rintro e w2 ⟨rfl, B2, W2⟩
  have F2 : ∀ o, w2.cell? ⟨w.heap.size, o, none⟩ = w1.cell? ⟨w.heap.size, o, none⟩ := fun o => W2.cell _ _ fun hf => by have := B1.foot hf; omega
  have A2 := A1.wrote W2 (fun x o hf hf' => ab x o (by rwa [marks_length] at hf) hf')
  have C2 := C1.wrote W2 (fun x o hf hf' => bc x o hf' hf)
  have O2 := O1.trans (W2.out fun x o hf => B1.foot hf)
  clear A1 B1 C1 O1 W2
  go_wp2_with fail
  refine (markIntS_any _ lo hi c d.v _ C2 (by omega) (by omega) (by omega)).mono ?_
  rintro e w3 ⟨rfl, C3, W3⟩
  have A3 := A2.wrote W3 (fun x o hf hf' => ac x o (by rwa [marks_length] at hf) hf')
  have B3 := B2.wrote W3 (fun x o hf hf' => bc x o (by rwa [marks_length] at hf) hf')
  have O3 := O2.trans (W3.out fun x o hf => C2.foot hf)
  clear A2 B2 C2 O2 W3
  go_wp2
  go_ret
  refine ⟨ret_int (by omega), ⟨a, b, c, rfl, A3, B3, C3, ?_, ?_, ?_⟩, O3⟩
  · simpa [markD, marks_length] using ab
  · simpa [markD, marks_length] using ac
  · simpa [markD, marks_length] using bc

set_option maxHeartbeats 1000000 in
theorem heldMem_any (w : World) (lo hi : Nat) (m : Value) (d : MemD) (k : Int) (h : MI w lo hi m (markD k d)) (hhi : hi ≤ w.heap.size) (hn : d.many ≤ 4194304) (hk : 0 ≤ k) (hk' : k ≤ 1000000) :
    Calls Tryz.prog 14 #[m, .int .i64 k] w fun e w' => e = .returned (.int .i64 (k + d.many)) ∧ Below w.heap.size w w' := by
  obtain ⟨a, b, c, rfl, ha, hb, hc⟩ := h
  unfold MemD.many at *
  unfold markD at ha hb hc
  have b1 := fun o => (Below.refl w.heap.size w).alloc (Nat.le_refl _) o
  have sa := fun o => ha.below (b1 o) hhi
  have sb := fun o => hb.below (b1 o) hhi
  have sc := fun o => hc.below (b1 o) hhi
  clear ha hb hc
  go_enter Tryz.func14, Tryz.ntmps14
  go_wp2_with fail
  refine (heldIntS_any _ lo hi a d.i.length k (sa _) (by omega) (by omega) (by omega)).mono ?_
  rintro e w1 ⟨rfl, rfl⟩
  go_wp2_with fail
  refine (heldIntS_any _ lo hi b d.o.length _ (sb _) (by omega) (by omega) (by omega)).mono ?_
  rintro e w1 ⟨rfl, rfl⟩
  go_wp2_with fail
  refine (heldIntS_any _ lo hi c d.v.length _ (sc _) (by omega) (by omega) (by omega)).mono ?_
  rintro e w1 ⟨rfl, rfl⟩
  go_wp2
  go_ret
  exact ⟨ret_int (by omega), b1 _⟩

end Go.Proofs.YtdhpbiplkjpiiaaGreatDoor
