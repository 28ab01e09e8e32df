import Derived.Test.YtaoiookfmgpmkaaGreatDoorQM1
import Derived.Test.YtaoiookfmgpmkaaGreatDoorQM3

/-
 Memories (three lists of numbers), and what the laws' helpers do with them: szMem, eqMem, toMem, markMem, heldMem.
-/
namespace Go.Proofs.YtaoiookfmgpmkaaGreatDoor
open Go.ChangeShapes Go.WideShapes Go.ChangeAt Go.RowKit
set_option linter.unusedVariables false

structure MemD where
 i : List Int
 o : List Int
 v : List Int
deriving DecidableEq

def MI (w : World) (lo hi : Nat) (m : Value) (d : MemD) : Prop :=
 ∃ a b c, m = .agg #[a, b, c] ∧ SI w lo hi a d.i ∧ SI w lo hi b d.o ∧ SI w lo hi c d.v

def Apart (v : Value) (n : Nat) (v' : Value) (n' : Nat) : Prop := ∀ b o, Foot v n b o → ¬ Foot v' n' b o

def MO (w : World) (lo hi : Nat) (m : Value) (d : MemD) : Prop :=
 ∃ a b c, m = .agg #[a, b, c] ∧ OI w lo hi a d.i ∧ OI w lo hi b d.o ∧ OI w lo hi c d.v ∧
  Apart a d.i.length b d.o.length ∧ Apart a d.i.length c d.v.length ∧ Apart b d.o.length c d.v.length

theorem MO.mi {w : World} {lo hi : Nat} {m : Value} {d : MemD} (h : MO w lo hi m d) : MI w lo hi m d := by
 obtain ⟨a, b, c, hm, h1, h2, h3, _⟩ := h
 exact ⟨a, b, c, hm, h1.si, h2.si, h3.si⟩

theorem MI.kept {w w' : World} {lo hi : Nat} {m : Value} {d : MemD} (h : MI w lo hi m d) (hk : ∀ k, lo ≤ k → k < hi → w'.heap[k]? = w.heap[k]?) : MI w' lo hi m d := by
 obtain ⟨a, b, c, hm, h1, h2, h3⟩ := h
 exact ⟨a, b, c, hm, h1.kept hk, h2.kept hk, h3.kept hk⟩

theorem MI.below {w w' : World} {lo hi n : Nat} {m : Value} {d : MemD} (h : MI w lo hi m d) (hb : Below n w w') (hn : hi ≤ n) : MI w' lo hi m d :=
 h.kept fun k _ hk => hb.block k (by omega)

theorem MO.kept {w w' : World} {lo hi : Nat} {m : Value} {d : MemD} (h : MO w lo hi m d) (hk : ∀ k, lo ≤ k → k < hi → w'.heap[k]? = w.heap[k]?) : MO w' lo hi m d := by
 obtain ⟨a, b, c, hm, h1, h2, h3, h4⟩ := h
 exact ⟨a, b, c, hm, h1.kept hk, h2.kept hk, h3.kept hk, h4⟩

theorem MO.below {w w' : World} {lo hi n : Nat} {m : Value} {d : MemD} (h : MO w lo hi m d) (hb : Below n w w') (hn : hi ≤ n) : MO w' lo hi m d :=
 h.kept fun k _ hk => hb.block k (by omega)

theorem OI.foot {w : World} {lo hi : Nat} {v : Value} {xs : List Int} (h : OI w lo hi v xs) {b o : Nat} (hf : Foot v xs.length b o) : lo ≤ b ∧ b < hi := by
 obtain ⟨g, off, l, cap, hv, rfl, _, _⟩ := hf
 rcases h with ⟨rfl, a, cap', rfl, _⟩ | ⟨g', off', cap', hv', _, _, h3, h4, _⟩
 ·simp at *; omega
 ·rw [hv] at hv'; simp at hv'; omega

theorem apart_of {w w' : World} {lo hi lo' hi' : Nat} {v v' : Value} {xs ys : List Int} (h : OI w lo hi v xs) (h' : OI w' lo' hi' v' ys) (hl : hi ≤ lo') : Apart v xs.length v' ys.length := by
 intro b o hf hf'
 have := h.foot hf
 have := h'.foot hf'
 omega

theorem SI.shape {w : World} {lo hi : Nat} {v : Value} {xs : List Int} (h : SI w lo hi v xs) : ∃ a cap, v = .slice a xs.length cap := by
 obtain ⟨a, cap, hv, _⟩ := h; exact ⟨a, cap, hv⟩

set_option maxHeartbeats 1000000 in
theorem toMem_any (w : World) (lo hi : Nat) (m : Value) (d : MemD) (h : MI w lo hi m d) (hhi : hi ≤ w.heap.size)
  (hn : d.i.length + d.o.length + d.v.length ≤ 1048576) :
  Calls Tryz.prog 35 #[m] w fun e w' => ∃ m', e = .returned m' ∧ MO w' w.heap.size w'.heap.size m' d ∧ Below w.heap.size w w' := by
 obtain ⟨a, b, c, rfl, ha, hb, hc⟩ := h
 obtain ⟨aa, ca, rfl⟩ := ha.shape
 obtain ⟨ab, cb, rfl⟩ := hb.shape
 obtain ⟨ac, cc, rfl⟩ := hc.shape
 have hb3 := below_alloc3 w
 go_enter Tryz.func35, Tryz.ntmps35
 go_wp2_with fail
 refine (toIntS_any _ lo hi _ d.i (ha.below (hb3 _ _ _) hhi) (by simp; omega) (by omega)).mono ?_
 rintro e w1 ⟨v1, rfl, ho1, hb1⟩
 obtain ⟨a1, c1, rfl⟩ := ho1.si.shape
 obtain ⟨hc1, hf1⟩ := bcell hb1
 simp only [World.size_alloc] at hb1 ho1 hc1 hf1
 have bw1 : Below w.heap.size w w1 := (hb3 _ _ _).trans (hb1.mono (by omega))
 obtain ⟨p1, p2, p3⟩ : w.heap.size < w1.heap.size ∧ w.heap.size + 1 < w1.heap.size ∧ w.heap.size + 1 + 1 < w1.heap.size := by have := hb1.size; simp at this; omega
 clear hb1 hb3
 go_wp2_with fail
 have bs2 : Below w.heap.size w (w1.setCell ⟨w.heap.size + 1 + 1, 0, none⟩ (.slice a1 d.i.length c1)) := bw1.setCell (by show _ ≤ w.heap.size + 1 + 1; omega) _
 have ho1' : OI (w1.setCell ⟨w.heap.size + 1 + 1, 0, none⟩ (.slice a1 d.i.length c1)) (w.heap.size + 1 + 1 + 1) w1.heap.size (.slice a1 d.i.length c1) d.i :=
  ho1.kept fun k h1 h2 => Below.heap_setCell _ _ _ _ (by show k ≠ w.heap.size + 1 + 1; omega)
 refine (toIntS_any _ lo hi _ d.o (hb.below bs2 hhi) (by simp; omega) (by omega)).mono ?_
 rintro e w2 ⟨v2, rfl, ho2, hb2⟩
 obtain ⟨a2, c2, rfl⟩ := ho2.si.shape
 obtain ⟨hc2, hf2⟩ := bcell hb2
 have hsz2 : (w1.setCell ⟨w.heap.size + 1 + 1, 0, none⟩ (.slice a1 d.i.length c1)).heap.size = w1.heap.size := by simp [World.setCell]
 rw [hsz2] at hb2 ho2 hc2 hf2
 have bw2 : Below w.heap.size w w2 := bs2.trans (hb2.mono (by omega))
 have ho1b : OI w2 (w.heap.size + 1 + 1 + 1) w1.heap.size (.slice a1 d.i.length c1) d.i := ho1'.below hb2 (Nat.le_refl _)
 have q := hb2.size
 rw [hsz2] at q
 obtain ⟨q1, q2, q3⟩ : w.heap.size < w2.heap.size ∧ w.heap.size + 1 < w2.heap.size ∧ w.heap.size + 1 + 1 < w2.heap.size := by omega
 clear hb2 hsz2 bs2 ho1' ho1 bw1
 go_wp2_with fail
 have bs3 : Below w.heap.size w (w2.setCell ⟨w.heap.size + 1 + 1, 1, none⟩ (.slice a2 d.o.length c2)) := bw2.setCell (by show _ ≤ w.heap.size + 1 + 1; omega) _
 have ho1c : OI (w2.setCell ⟨w.heap.size + 1 + 1, 1, none⟩ (.slice a2 d.o.length c2)) (w.heap.size + 1 + 1 + 1) w1.heap.size (.slice a1 d.i.length c1) d.i :=
  ho1b.kept fun k h1 h2 => Below.heap_setCell _ _ _ _ (by show k ≠ w.heap.size + 1 + 1; omega)
 have ho2c : OI (w2.setCell ⟨w.heap.size + 1 + 1, 1, none⟩ (.slice a2 d.o.length c2)) w1.heap.size w2.heap.size (.slice a2 d.o.length c2) d.o :=
  ho2.kept fun k h1 h2 => Below.heap_setCell _ _ _ _ (by show k ≠ w.heap.size + 1 + 1; omega)
 refine (toIntS_any _ lo hi _ d.v (hc.below bs3 hhi) (by simp; omega) (by omega)).mono ?_
 rintro e w3 ⟨v3, rfl, ho3, hb3⟩
 obtain ⟨a3, c3, rfl⟩ := ho3.si.shape
 obtain ⟨hc3, hf3⟩ := bcell hb3
 have hsz3 : (w2.setCell ⟨w.heap.size + 1 + 1, 1, none⟩ (.slice a2 d.o.length c2)).heap.size = w2.heap.size := by simp [World.setCell]
 rw [hsz3] at hb3 ho3 hc3 hf3
 have bw3 : Below w.heap.size w w3 := bs3.trans (hb3.mono (by omega))
 have ho1d : OI w3 (w.heap.size + 1 + 1 + 1) w1.heap.size (.slice a1 d.i.length c1) d.i := ho1c.below hb3 (by omega)
 have ho2d : OI w3 w1.heap.size w2.heap.size (.slice a2 d.o.length c2) d.o := ho2c.below hb3 (by omega)
 have r := hb3.size
 rw [hsz3] at r
 obtain ⟨r1, r2, r3⟩ : w.heap.size < w3.heap.size ∧ w.heap.size + 1 < w3.heap.size ∧ w.heap.size + 1 + 1 < w3.heap.size := by omega
 clear hb3 hsz3 bs3 ho1c ho2c ho1b ho2 bw2
 go_wp2
 have hk : ∀ (x1 x2 x3 x4 : Value) (k : Nat), w.heap.size + 1 + 1 + 1 ≤ k → ((((w3.setCell ⟨w.heap.size + 1 + 1, 2, none⟩ x1).setCell ⟨w.heap.size + 1, 0, none⟩ x2).setCell ⟨w.heap.size + 1, 1, none⟩ x3).setCell ⟨w.heap.size + 1, 2, none⟩ x4).heap[k]? = w3.heap[k]? := by
  intro x1 x2 x3 x4 k hk
  rw [Below.heap_setCell _ _ _ _ (by show k ≠ w.heap.size + 1; omega), Below.heap_setCell _ _ _ _ (by show k ≠ w.heap.size + 1; omega), Below.heap_setCell _ _ _ _ (by show k ≠ w.heap.size + 1; omega), Below.heap_setCell _ _ _ _ (by show k ≠ w.heap.size + 1 + 1; omega)]
 have hsz : ∀ (x1 x2 x3 x4 : Value), ((((w3.setCell ⟨w.heap.size + 1 + 1, 2, none⟩ x1).setCell ⟨w.heap.size + 1, 0, none⟩ x2).setCell ⟨w.heap.size + 1, 1, none⟩ x3).setCell ⟨w.heap.size + 1, 2, none⟩ x4).heap.size = w3.heap.size := by
  intro x1 x2 x3 x4; simp [World.setCell]
 refine bodyPost_ret (v := .agg #[.slice a1 d.i.length c1, .slice a2 d.o.length c2, .slice a3 d.v.length c3]) (by simp [results, Tryz.results35, go_sem, hc3, hc2, hc1, q2, p2]) rfl ⟨_, rfl, ?_, ?_⟩
 ·refine ⟨_, _, _, rfl, ?_, ?_, ?_, apart_of ho1d ho2d (Nat.le_refl _), apart_of ho1d ho3 (by omega), apart_of ho2d ho3 (Nat.le_refl _)⟩
  ·exact (ho1d.kept fun k h1 h2 => hk _ _ _ _ k h1).wide (by omega) (by rw [hsz]; omega)
  ·exact (ho2d.kept fun k h1 h2 => hk _ _ _ _ k (by omega)).wide (by omega) (by rw [hsz]; omega)
  ·exact (ho3.kept fun k h1 h2 => hk _ _ _ _ k (by omega)).wide (by omega) (by rw [hsz]; omega)
 ·exact (((bw3.setCell (by show _ ≤ w.heap.size + 1 + 1; omega) _).setCell (by show _ ≤ w.heap.size + 1; omega) _).setCell (by show _ ≤ w.heap.size + 1; omega) _).setCell (by show _ ≤ w.heap.size + 1; omega) _

def MemD.many (d : MemD) : Nat := d.i.length + d.o.length + d.v.length

set_option maxHeartbeats 400000 in
theorem szMem_any (w : World) (lo hi : Nat) (m : Value) (d : MemD) (left : Int) (h : MI w lo hi m d) (hhi : hi ≤ w.heap.size) (hl : 0 ≤ left) (hl' : left ≤ 1048576) :
  Calls Tryz.prog 32 #[m, .int .i64 left] w fun e w' => e = .returned (.int .i64 (if left < d.many then -1 else left - d.many)) ∧ Below w.heap.size w w' := by
 obtain ⟨a, b, c, rfl, ha, hb, hc⟩ := h
 have sa := fun o => ha.below (w' := w.alloc o) ((Below.refl _ _).alloc (Nat.le_refl _) o) hhi
 have sb := fun o => hb.below (w' := w.alloc o) ((Below.refl _ _).alloc (Nat.le_refl _) o) hhi
 have sc := fun o => hc.below (w' := w.alloc o) ((Below.refl _ _).alloc (Nat.le_refl _) o) hhi
 unfold MemD.many
 by_cases h1 : left < d.i.length
 ·rw [if_pos (by omega)]
  go_enter Tryz.func32, Tryz.ntmps32
  go_wp2_with fail
  refine (szIntS_any _ lo hi _ d.i _ (sa _) hl hl').mono ?_
  rw [if_pos (by omega)]
  rintro e w1 ⟨rfl, rfl⟩
  go_wp2
  go_ret
  exact ⟨rfl, (Below.refl _ _).alloc (Nat.le_refl _) _⟩
 ·by_cases h2 : left - d.i.length < d.o.length
  ·rw [if_pos (by omega)]
   go_enter Tryz.func32, Tryz.ntmps32
   go_wp2_with fail
   refine (szIntS_any _ lo hi _ d.i _ (sa _) hl hl').mono ?_
   rw [if_neg (by omega)]
   rintro e w1 ⟨rfl, rfl⟩
   go_wp2_with fail
   refine (szIntS_any _ lo hi _ d.o _ (sb _) (by omega) (by omega)).mono ?_
   rw [if_pos (by omega)]
   rintro e w1 ⟨rfl, rfl⟩
   go_wp2
   go_ret
   exact ⟨rfl, (Below.refl _ _).alloc (Nat.le_refl _) _⟩
  ·by_cases h3 : left - d.i.length - d.o.length < d.v.length
   ·rw [if_pos (by omega)]
    go_enter Tryz.func32, Tryz.ntmps32
    go_wp2_with fail
    refine (szIntS_any _ lo hi _ d.i _ (sa _) hl hl').mono ?_
    rw [if_neg (by omega)]
    rintro e w1 ⟨rfl, rfl⟩
    go_wp2_with fail
    refine (szIntS_any _ lo hi _ d.o _ (sb _) (by omega) (by omega)).mono ?_
    rw [if_neg (by omega)]
    rintro e w1 ⟨rfl, rfl⟩
    go_wp2_with fail
    refine (szIntS_any _ lo hi _ d.v _ (sc _) (by omega) (by omega)).mono ?_
    rw [if_pos (by omega)]
    rintro e w1 ⟨rfl, rfl⟩
    go_wp2
    go_ret
    exact ⟨rfl, (Below.refl _ _).alloc (Nat.le_refl _) _⟩
   ·rw [if_neg (by omega)]
    go_enter Tryz.func32, Tryz.ntmps32
    go_wp2_with fail
    refine (szIntS_any _ lo hi _ d.i _ (sa _) hl hl').mono ?_
    rw [if_neg (by omega)]
    rintro e w1 ⟨rfl, rfl⟩
    go_wp2_with fail
    refine (szIntS_any _ lo hi _ d.o _ (sb _) (by omega) (by omega)).mono ?_
    rw [if_neg (by omega)]
    rintro e w1 ⟨rfl, rfl⟩
    go_wp2_with fail
    refine (szIntS_any _ lo hi _ d.v _ (sc _) (by omega) (by omega)).mono ?_
    rw [if_neg (by omega)]
    rintro e w1 ⟨rfl, rfl⟩
    go_wp2
    go_ret
    exact ⟨ret_int (by omega), (Below.refl _ _).alloc (Nat.le_refl _) _⟩

theorem memD_eq {d e : MemD} : (d = e) = (d.i = e.i ∧ d.o = e.o ∧ d.v = e.v) := by
 cases d; cases e; simp

set_option maxHeartbeats 400000 in
theorem eqMem_any (w : World) (lo hi lo' hi' : Nat) (m m' : Value) (d e : MemD) (h : MI w lo hi m d) (h' : MI w lo' hi' m' e) (hhi : hi ≤ w.heap.size) (hhi' : hi' ≤ w.heap.size) :
  Calls Tryz.prog 38 #[m, m'] w fun en w' => en = .returned (.bool (decide (d = e))) ∧ Below w.heap.size w w' := by
 obtain ⟨a, b, c, rfl, ha, hb, hc⟩ := h
 obtain ⟨a', b', c', rfl, ha', hb', hc'⟩ := h'
 have b2 := fun o o' => ((Below.refl w.heap.size w).alloc (Nat.le_refl _) o).alloc (by simp) o'
 have bm := fun o o' (m : Nat) => below_drewN (b2 o o') m
 have sa := fun o o' m => ha.below (bm o o' m) hhi
 have sb := fun o o' m => hb.below (bm o o' m) hhi
 have sc := fun o o' m => hc.below (bm o o' m) hhi
 have ta := fun o o' m => ha'.below (bm o o' m) hhi'
 have tb := fun o o' m => hb'.below (bm o o' m) hhi'
 have tc := fun o o' m => hc'.below (bm o o' m) hhi'
 clear ha hb hc ha' hb' hc'
 by_cases h1 : d.i = e.i
 ·by_cases h2 : d.o = e.o
  ·by_cases h3 : d.v = e.v
   ·have HE : Hid (decide (d = e) = true) := decide_eq_true (by rw [memD_eq]; exact ⟨h1, h2, h3⟩)
    go_enter Tryz.func38, Tryz.ntmps38
    go_wp2_with fail
    refine (eqIntS_any _ lo hi lo' hi' _ _ d.i e.i (sa _ _ 0) (ta _ _ 0)).mono ?_
    rw [decide_eq_true (by assumption)]
    rintro en w1 ⟨m0, rfl, rfl⟩
    go_wp2_with fail
    refine (eqIntS_any _ lo hi lo' hi' _ _ d.o e.o (sb _ _ _) (tb _ _ _)).mono ?_
    rw [decide_eq_true (by assumption)]
    rintro en w1 ⟨m1, rfl, rfl⟩
    go_wp2_with fail
    refine (eqIntS_any _ lo hi lo' hi' _ _ d.v e.v (sc _ _ _) (tc _ _ _)).mono ?_
    rw [decide_eq_true (by assumption)]
    rintro en w1 ⟨m2, rfl, rfl⟩
    go_wp2
    go_ret
    exact ⟨ret_bool HE.out.symm, bm _ _ _⟩
   ·have HE : Hid (decide (d = e) = false) := decide_eq_false (by rw [memD_eq]; intro h; exact h3 h.2.2)
    go_enter Tryz.func38, Tryz.ntmps38
    go_wp2_with fail
    refine (eqIntS_any _ lo hi lo' hi' _ _ d.i e.i (sa _ _ 0) (ta _ _ 0)).mono ?_
    rw [decide_eq_true (by assumption)]
    rintro en w1 ⟨m0, rfl, rfl⟩
    go_wp2_with fail
    refine (eqIntS_any _ lo hi lo' hi' _ _ d.o e.o (sb _ _ _) (tb _ _ _)).mono ?_
    rw [decide_eq_true (by assumption)]
    rintro en w1 ⟨m1, rfl, rfl⟩
    go_wp2_with fail
    refine (eqIntS_any _ lo hi lo' hi' _ _ d.v e.v (sc _ _ _) (tc _ _ _)).mono ?_
    rw [decide_eq_false (by assumption)]
    rintro en w1 ⟨m2, rfl, rfl⟩
    go_wp2
    go_ret
    exact ⟨ret_bool HE.out.symm, bm _ _ _⟩
  ·have HE : Hid (decide (d = e) = false) := decide_eq_false (by rw [memD_eq]; intro h; exact h2 h.2.1)
   go_enter Tryz.func38, Tryz.ntmps38
   go_wp2_with fail
   refine (eqIntS_any _ lo hi lo' hi' _ _ d.i e.i (sa _ _ 0) (ta _ _ 0)).mono ?_
   rw [decide_eq_true (by assumption)]
   rintro en w1 ⟨m0, rfl, rfl⟩
   go_wp2_with fail
   refine (eqIntS_any _ lo hi lo' hi' _ _ d.o e.o (sb _ _ _) (tb _ _ _)).mono ?_
   rw [decide_eq_false (by assumption)]
   rintro en w1 ⟨m1, rfl, rfl⟩
   go_wp2
   go_ret
   exact ⟨ret_bool HE.out.symm, bm _ _ _⟩
 ·have HE : Hid (decide (d = e) = false) := decide_eq_false (by rw [memD_eq]; intro h; exact h1 h.1)
  go_enter Tryz.func38, Tryz.ntmps38
  go_wp2_with fail
  refine (eqIntS_any _ lo hi lo' hi' _ _ d.i e.i (sa _ _ 0) (ta _ _ 0)).mono ?_
  rw [decide_eq_false (by assumption)]
  rintro en w1 ⟨m0, rfl, rfl⟩
  go_wp2
  go_ret
  exact ⟨ret_bool HE.out.symm, bm _ _ _⟩

theorem Wrote.out {P : Nat → Nat → Prop} {w w' : World} (h : Wrote P w w') {lo hi : Nat} (hP : ∀ b o, P b o → lo ≤ b ∧ b < hi) : Out lo hi w w' :=
 ⟨h.os, h.tape, h.output, by rw [h.size]; exact Nat.le_refl _, fun k _ hk => h.block k fun o hp => by have := hP k o hp; omega⟩

theorem MI.out {w w' : World} {lo hi lo' hi' : Nat} {m : Value} {d : MemD} (h : MI w lo' hi' m d) (ho : Out lo hi w w') (h1 : hi' ≤ w.heap.size) (h2 : hi' ≤ lo ∨ hi ≤ lo') : MI w' lo' hi' m d :=
 h.kept fun k h3 h4 => ho.block k (by omega) (by omega)

theorem MO.out {w w' : World} {lo hi lo' hi' : Nat} {m : Value} {d : MemD} (h : MO w lo' hi' m d) (ho : Out lo hi w w') (h1 : hi' ≤ w.heap.size) (h2 : hi' ≤ lo ∨ hi ≤ lo') : MO w' lo' hi' m d :=
 h.kept fun k h3 h4 => ho.block k (by omega) (by omega)

end Go.Proofs.YtaoiookfmgpmkaaGreatDoor

/-
 Controllers, as data and in memory: PI, one that can be read; PO, one that is owned. (Written by our generator gen_plc.py.)
-/
namespace Go.Proofs.YtaoiookfmgpmkaaGreatDoor
open Go.ChangeShapes Go.WideShapes Go.ChangeAt Go.RowKit
set_option linter.unusedVariables false
set_option linter.unusedSimpArgs false
set_option maxRecDepth 100000

structure PlcD where
 prog : List StmtD
 net : NetD
 chart : ChartD
 st : StateD
 marks : MarksD
 mem : MemD
 fault : Bool
 scans : Int

def PlcD.many (p : PlcD) : Nat := sizeL p.prog + p.net.many + p.chart.many + p.st.many + p.marks.many + p.mem.many

def plcC (p : PlcD) (s a b c d e f g h i j k : Value) : List Value := [s, a, b, .int .i64 p.chart.steps, c, d, e, f, g, h, i, j, k, .bool p.fault, .int .i64 p.scans]

structure PlcR (w : World) (lo hi : Nat) (p : PlcD) (s a b c d e f g h i j k : Value) : Prop where
 prog : SR w lo hi (s) p.prog
 net : NI w lo hi (.agg #[a, b]) p.net
 chart : HIc w lo hi (.agg #[.int .i64 p.chart.steps, c, d]) p.chart
 st : StR w lo hi (.agg #[e, f]) p.st
 marks : MkR w lo hi (.agg #[g, h]) p.marks
 mem : MI w lo hi (.agg #[i, j, k]) p.mem

def PI (w : World) (lo hi : Nat) (v : Value) (p : PlcD) : Prop := ∃ s a b c d e f g h i j k, v = .agg (plcC p s a b c d e f g h i j k).toArray ∧ PlcR w lo hi p s a b c d e f g h i j k

structure PlcO (w : World) (lo hi : Nat) (l u : Nat → Nat) (p : PlcD) (s a b c d e f g h i j k : Value) : Prop where
 prog : SO w (l 0) (u 0) (s) p.prog
 net : NOw w (l 1) (u 1) (.agg #[a, b]) p.net
 chart : HOc w (l 2) (u 2) (.agg #[.int .i64 p.chart.steps, c, d]) p.chart
 st : StO w (l 3) (u 3) (.agg #[e, f]) p.st
 marks : MkO w (l 4) (u 4) (.agg #[g, h]) p.marks
 mem : MO w (l 5) (u 5) (.agg #[i, j, k]) p.mem
 rng : ∀ i, i < 6 → lo ≤ l i ∧ u i ≤ hi
 apart : ∀ i, i < 6 → ∀ j, j < 6 → i ≠ j → u i ≤ l j ∨ u j ≤ l i

def PO (w : World) (lo hi : Nat) (v : Value) (p : PlcD) : Prop := ∃ l u s a b c d e f g h i j k, v = .agg (plcC p s a b c d e f g h i j k).toArray ∧ PlcO w lo hi l u p s a b c d e f g h i j k

theorem six {P : Nat → Prop} (h0 : P 0) (h1 : P 1) (h2 : P 2) (h3 : P 3) (h4 : P 4) (h5 : P 5) : ∀ i, i < 6 → P i := by
 intro i hi
 match i, hi with
 | 0, _ => exact h0
 | 1, _ => exact h1
 | 2, _ => exact h2
 | 3, _ => exact h3
 | 4, _ => exact h4
 | 5, _ => exact h5
 | n + 6, h => exact absurd h (by omega)

theorem MI.wideP {w : World} {lo hi lo' hi' : Nat} {m : Value} {d : MemD} (h : MI w lo hi m d) (h1 : lo' ≤ lo) (h2 : hi ≤ hi') : MI w lo' hi' m d := by
 obtain ⟨a, b, c, hv, p, q, r⟩ := h; exact ⟨a, b, c, hv, p.wide h1 h2, q.wide h1 h2, r.wide h1 h2⟩
theorem StR.wideP {w : World} {lo hi lo' hi' : Nat} {m : Value} {d : StateD} (h : StR w lo hi m d) (h1 : lo' ≤ lo) (h2 : hi ≤ hi') : StR w lo' hi' m d := by
 obtain ⟨a, b, hv, p, q⟩ := h; exact ⟨a, b, hv, p.wide h1 h2, q.wide h1 h2⟩
theorem MkR.wideP {w : World} {lo hi lo' hi' : Nat} {m : Value} {d : MarksD} (h : MkR w lo hi m d) (h1 : lo' ≤ lo) (h2 : hi ≤ hi') : MkR w lo' hi' m d := by
 obtain ⟨a, b, hv, p, q⟩ := h; exact ⟨a, b, hv, p.wide h1 h2, q.wide h1 h2⟩
theorem HIc.wideP {w : World} {lo hi lo' hi' : Nat} {m : Value} {d : ChartD} (h : HIc w lo hi m d) (h1 : lo' ≤ lo) (h2 : hi ≤ hi') : HIc w lo' hi' m d := by
 obtain ⟨a, b, hv, p, q⟩ := h; exact ⟨a, b, hv, p.wide h1 h2, q.wide h1 h2⟩

theorem PlcR.under {w w' : World} {lo hi n : Nat} {p : PlcD} {s a b c d e f g h i j k : Value} (x : PlcR w lo hi p s a b c d e f g h i j k) (hb : Below n w w') (hn : hi ≤ n) : PlcR w' lo hi p s a b c d e f g h i j k :=
 ⟨x.prog.under hb hn, x.net.under hb hn, x.chart.under hb hn, x.st.under hb hn, x.marks.under hb hn, x.mem.below hb hn⟩
theorem PI.under {w w' : World} {lo hi n : Nat} {v : Value} {p : PlcD} (x : PI w lo hi v p) (hb : Below n w w') (hn : hi ≤ n) : PI w' lo hi v p := by
 obtain ⟨s, a, b, c, d, e, f, g, h, i, j, k, hv, H⟩ := x; exact ⟨s, a, b, c, d, e, f, g, h, i, j, k, hv, H.under hb hn⟩
theorem PI.below {w w' : World} {lo hi n : Nat} {v : Value} {p : PlcD} (x : PI w lo hi v p) (hb : Below n w w') (hn : hi ≤ n) : PI w' lo hi v p := x.under hb hn
theorem PlcO.kept {w w' : World} {lo hi : Nat} {l u : Nat → Nat} {p : PlcD} {s a b c d e f g h i j k : Value} (x : PlcO w lo hi l u p s a b c d e f g h i j k) (hk : ∀ y, lo ≤ y → y < hi → w'.heap[y]? = w.heap[y]?) : PlcO w' lo hi l u p s a b c d e f g h i j k := by
 have r0 := x.rng 0 (by omega); have r1 := x.rng 1 (by omega); have r2 := x.rng 2 (by omega); have r3 := x.rng 3 (by omega); have r4 := x.rng 4 (by omega); have r5 := x.rng 5 (by omega)
 exact ⟨x.prog.kept fun y q1 q2 => hk y (by omega) (by omega), x.net.kept fun y q1 q2 => hk y (by omega) (by omega), x.chart.kept fun y q1 q2 => hk y (by omega) (by omega), x.st.kept_ fun y q1 q2 => hk y (by omega) (by omega), x.marks.kept_ fun y q1 q2 => hk y (by omega) (by omega), x.mem.kept fun y q1 q2 => hk y (by omega) (by omega), x.rng, x.apart⟩
theorem PO.kept {w w' : World} {lo hi : Nat} {v : Value} {p : PlcD} (x : PO w lo hi v p) (hk : ∀ y, lo ≤ y → y < hi → w'.heap[y]? = w.heap[y]?) : PO w' lo hi v p := by
 obtain ⟨l, u, s, a, b, c, d, e, f, g, h, i, j, k, hv, H⟩ := x; exact ⟨l, u, s, a, b, c, d, e, f, g, h, i, j, k, hv, H.kept hk⟩
theorem PO.below {w w' : World} {lo hi n : Nat} {v : Value} {p : PlcD} (x : PO w lo hi v p) (hb : Below n w w') (hn : hi ≤ n) : PO w' lo hi v p := x.kept fun y _ hy => hb.block y (by omega)
theorem PlcO.wide {w : World} {lo hi lo' hi' : Nat} {l u : Nat → Nat} {p : PlcD} {s a b c d e f g h i j k : Value} (x : PlcO w lo hi l u p s a b c d e f g h i j k) (h1 : lo' ≤ lo) (h2 : hi ≤ hi') : PlcO w lo' hi' l u p s a b c d e f g h i j k :=
 ⟨x.prog, x.net, x.chart, x.st, x.marks, x.mem, fun i hi => by have := x.rng i hi; omega, x.apart⟩
theorem PO.wide {w : World} {lo hi lo' hi' : Nat} {v : Value} {p : PlcD} (x : PO w lo hi v p) (h1 : lo' ≤ lo) (h2 : hi ≤ hi') : PO w lo' hi' v p := by
 obtain ⟨l, u, s, a, b, c, d, e, f, g, h, i, j, k, hv, H⟩ := x; exact ⟨l, u, s, a, b, c, d, e, f, g, h, i, j, k, hv, H.wide h1 h2⟩
theorem PlcO.r {w : World} {lo hi : Nat} {l u : Nat → Nat} {p : PlcD} {s a b c d e f g h i j k : Value} (x : PlcO w lo hi l u p s a b c d e f g h i j k) : PlcR w lo hi p s a b c d e f g h i j k := by
 have r0 := x.rng 0 (by omega); have r1 := x.rng 1 (by omega); have r2 := x.rng 2 (by omega); have r3 := x.rng 3 (by omega); have r4 := x.rng 4 (by omega); have r5 := x.rng 5 (by omega)
 exact ⟨x.prog.sr.wide r0.1 r0.2, x.net.ni.wide r1.1 r1.2, x.chart.hi.wideP r2.1 r2.2, x.st.r.wideP r3.1 r3.2, x.marks.r.wideP r4.1 r4.2, x.mem.mi.wideP r5.1 r5.2⟩
theorem PO.r {w : World} {lo hi : Nat} {v : Value} {p : PlcD} (x : PO w lo hi v p) : PI w lo hi v p := by
 obtain ⟨l, u, s, a, b, c, d, e, f, g, h, i, j, k, hv, H⟩ := x; exact ⟨s, a, b, c, d, e, f, g, h, i, j, k, hv, H.r⟩
theorem PI.shape {w : World} {lo hi : Nat} {v : Value} {p : PlcD} (x : PI w lo hi v p) : ∃ s a b c d e f g h i j k, v = .agg (plcC p s a b c d e f g h i j k).toArray := by
 obtain ⟨s, a, b, c, d, e, f, g, h, i, j, k, hv, _⟩ := x; exact ⟨s, a, b, c, d, e, f, g, h, i, j, k, hv⟩
end Go.Proofs.YtaoiookfmgpmkaaGreatDoor

/-
 szExpr, szExprS: the laws' helpers that count parts.
-/
namespace Go.Proofs.YtaoiookfmgpmkaaGreatDoor
open Go.ChangeShapes Go.WideShapes Go.ChangeAt Go.RowKit
set_option linter.unusedVariables false

theorem many_rest (es : List ExprD) (j : Nat) (hj : j ≤ es.length) : manyL (es.take j) + (es.length - j) ≤ manyL es := by
 have h := manyL_append (es.take j) (es.drop j)
 rw [List.take_append_drop] at h
 have h2 := length_le_manyL (es.drop j)
 rw [List.length_drop] at h2
 omega

theorem take_le_many (es : List ExprD) (j : Nat) (hj : j ≤ es.length) : j ≤ manyL (es.take j) := by
 have h2 := length_le_manyL (es.take j)
 rw [List.length_take] at h2
 omega

def SzS (n : Nat) : Prop := ∀ (w : World) (lo hi : Nat) (v : Value) (es : List ExprD) (left : Int), manyL es ≤ n → KR w lo hi v es → hi ≤ w.heap.size → 0 ≤ left → left ≤ 1048576 →
 Calls Tryz.prog 205 #[v, .int .i64 left] w fun e w' => e = .returned (.int .i64 (if left < manyL es then -1 else left - manyL es)) ∧ Below w.heap.size w w'

theorem szExpr_of {n : Nat} (H : SzS n) (w : World) (lo hi : Nat) (k m a t : Int) (s : Value) (es : List ExprD) (left : Int) (hn : manyL es ≤ n) (h : KR w lo hi s es) (hhi : hi ≤ w.heap.size) (h1 : 0 ≤ left) (h2 : left ≤ 1048576) :
  Calls Tryz.prog 133 #[.agg #[.int .i64 k, .int .i64 m, .int .i64 a, .int .i64 t, s], .int .i64 left] w fun e w' => e = .returned (.int .i64 (if left < manyL es then -1 else left - manyL es)) ∧ Below w.heap.size w w' := by
 have b1 := fun o => (Below.refl w.heap.size w).alloc (Nat.le_refl _) o
 by_cases hl : left < manyL es
 ·rw [if_pos hl]
  go_enter Tryz.func133, Tryz.ntmps133
  go_wp2_with fail
  refine (H _ lo hi s es left hn (h.under (b1 _) hhi) (by simp; omega) h1 h2).mono ?_
  rw [if_pos hl]
  rintro e w1 ⟨rfl, g1⟩
  have G1 := below_two (b1 _) g1
  clear g1 h
  go_wp2
  go_ret
  exact ⟨rfl, G1⟩
 ·rw [if_neg hl]
  go_enter Tryz.func133, Tryz.ntmps133
  go_wp2_with fail
  refine (H _ lo hi s es left hn (h.under (b1 _) hhi) (by simp; omega) h1 h2).mono ?_
  rw [if_neg (by omega)]
  rintro e w1 ⟨rfl, g1⟩
  have G1 := below_two (b1 _) g1
  have hp : ¬ (left - (manyL es : Int) < 0) := by omega
  clear g1 h
  go_wp2
  go_ret
  exact ⟨rfl, G1⟩

set_option maxHeartbeats 1000000 in
theorem szExprS_step {n : Nat} (H : ∀ m, m < n → SzS m) : SzS n := by
 intro w lo hi v es left hn h hhi h1 h2
 obtain ⟨ad, cap, rfl, hc1, hc2⟩ := h.shape
 have hmx : es.length ≤ 9223372036854775807 := by unfold maxLen at hc2; omega
 have hlm := length_le_manyL es
 obtain ⟨r, hr0⟩ : ∃ r : Int, (if left < (manyL es : Int) then -1 else left - (manyL es : Int)) = r := ⟨_, rfl⟩
 rw [hr0]
 have HA : Hid ((if left < (manyL es : Int) then -1 else left - (manyL es : Int)) = r) := hr0
 clear hr0
 by_cases hl : left - es.length < 0
 ·obtain rfl : r = -1 := by have := HA.out; rw [if_pos (by omega)] at this; exact this.symm
  clear HA
  have HK : Hid (KR w lo hi (.slice ad es.length cap) es) := h
  clear h
  go_enter Tryz.func205, Tryz.ntmps205
  go_wp2
  go_ret
  exact ⟨rfl, Below.refl _ _⟩
 ·have HK : Hid (KR w lo hi (.slice ad es.length cap) es) := h
  have HM : Hid (es.length ≤ manyL es) := hlm
  clear h hlm
  go_enter Tryz.func205, Tryz.ntmps205
  go_wp2_with fail
  go_loopw [1, 5] (fun l i wr => ∃ j : Nat, j ≤ es.length ∧ l = .int .i64 (left - es.length - (manyL (es.take j) - j)) ∧ 0 ≤ left - es.length - ((manyL (es.take j) : Int) - j) ∧ i = .int .i64 j ∧ Below w.heap.size w wr) (fun _ i _ => es.length - (intOf i).toNat)
  case atStart => exact ⟨0, Nat.zero_le _, by simp [manyL], by simp [manyL]; omega, rfl, Below.refl _ _⟩
  case round =>
   obtain ⟨j, hj, rfl, hnn, rfl, hb⟩ := hrel
   by_cases hlt : j < es.length
   ·obtain ⟨e, he⟩ : ∃ e, es[j]? = some e := ⟨es[j], List.getElem?_eq_getElem hlt⟩
    obtain ⟨b, off, cap', s, hv, hb1, hb2, h5, hk⟩ := HK.out.at_ he
    simp only [Value.slice.injEq, true_and] at hv
    obtain ⟨rfl, rfl⟩ := hv
    obtain ⟨c0, c1, c2, c3, c4⟩ := h5
    have hkl := kid_lt he
    have hsuc := manyL_take_succ he
    have hrest := many_rest es (j + 1) hlt
    have hE := manyE_eq e
    have htk := take_le_many es j hj
    obtain ⟨q, hq⟩ : ∃ q : Int, left - es.length - ((manyL (es.take j) : Int) - j) = q := ⟨_, rfl⟩
    rw [hq] at hnn ⊢
    have hz := szExpr_of (n := manyL e.kids) (H _ (by omega)) wr lo hi e.k e.n e.ak e.at_ s e.kids q (Nat.le_refl _) (hk.under hb hhi) (Nat.le_trans hhi hb.size) hnn (by omega)
    rw [← hb.cell (p := ⟨b, off + j * 5, none⟩) (by show b < _; omega)] at c0
    rw [← hb.cell (p := ⟨b, off + j * 5 + 1, none⟩) (by show b < _; omega)] at c1
    rw [← hb.cell (p := ⟨b, off + j * 5 + 2, none⟩) (by show b < _; omega)] at c2
    rw [← hb.cell (p := ⟨b, off + j * 5 + 3, none⟩) (by show b < _; omega)] at c3
    rw [← hb.cell (p := ⟨b, off + j * 5 + 4, none⟩) (by show b < _; omega)] at c4
    clear hk
    by_cases hr : q < manyL e.kids
    ·rw [if_pos hr] at hz
     have HR : Hid (left < manyL es) := by show left < (manyL es : Int); omega
     clear hsuc hrest hE htk hkl hq
     go_wp2_with fail
     refine hz.mono ?_
     rintro e1 w1 ⟨rfl, g1⟩
     have G1 := hb.trans (g1.mono hb.size)
     clear g1 c0 c1 c2 c3 c4
     go_wp2
     go_ret
     exact ⟨ret_int (by have := HA.out; rw [if_pos HR.out] at this; exact this), G1⟩
    ·rw [if_neg hr] at hz
     have HQ : Hid (q - manyL e.kids = left - es.length - ((manyL (es.take (j + 1)) : Int) - ((j + 1 : Nat) : Int))) := by show q - (manyL e.kids : Int) = _; omega
     have hr' : ¬ (q - (manyL e.kids : Int) < 0) := by omega
     clear hsuc hrest hE htk hkl hq
     go_wp2_with fail
     refine hz.mono ?_
     rintro e1 w1 ⟨rfl, g1⟩
     have G1 := hb.trans (g1.mono hb.size)
     clear g1 c0 c1 c2 c3 c4
     go_wp2
     go_roundw
     case rel => exact ⟨j + 1, by omega, by rw [HQ.out], by rw [← HQ.out]; omega, by go_num, G1⟩
     case measure => simp [intOf]; omega
   ·obtain rfl : j = es.length := by omega
    rw [List.take_length] at hnn ⊢
    have HR : Hid (left - es.length - ((manyL es : Int) - es.length) = r) := by show _ = _; rw [← HA.out, if_neg (by omega)]; omega
    obtain ⟨q, hq⟩ : ∃ q : Int, left - es.length - ((manyL es : Int) - es.length) = q := ⟨_, rfl⟩
    rw [hq] at HR hnn ⊢
    clear hq
    go_wp2
    go_ret
    exact ⟨ret_int HR.out, hb⟩

theorem szS (n : Nat) : SzS n := by
 induction n using Nat.strongRecOn with
 | ind n ih => exact szExprS_step ih

theorem szExpr_any (w : World) (lo hi : Nat) (v : Value) (e : ExprD) (left : Int) (h : ER w lo hi v e) (hhi : hi ≤ w.heap.size) (h1 : 0 ≤ left) (h2 : left ≤ 1048576) :
  Calls Tryz.prog 133 #[v, .int .i64 left] w fun en w' => en = .returned (.int .i64 (if left < manyL e.kids then -1 else left - manyL e.kids)) ∧ Below w.heap.size w w' := by
 obtain ⟨s, rfl, hk⟩ := h
 exact szExpr_of (szS _) w lo hi _ _ _ _ s e.kids left (Nat.le_refl _) hk hhi h1 h2
end Go.Proofs.YtaoiookfmgpmkaaGreatDoor

/-
 szStmt, szStmtS: the laws' helpers that count what there is.
-/
namespace Go.Proofs.YtaoiookfmgpmkaaGreatDoor
open Go.ChangeShapes Go.WideShapes Go.ChangeAt Go.RowKit
set_option linter.unusedVariables false

def SzT (n : Nat) : Prop := ∀ (w : World) (lo hi : Nat) (v : Value) (ss : List StmtD) (left : Int), sizeL ss ≤ n → SR w lo hi v ss → hi ≤ w.heap.size → 0 ≤ left → left ≤ 1048576 →
 Calls Tryz.prog 8 #[v, .int .i64 left] w fun e w' => e = .returned (.int .i64 (if left < sizeL ss then -1 else left - sizeL ss)) ∧ Below w.heap.size w w'

set_option maxHeartbeats 1000000 in
theorem szStmt_of {n : Nat} (H : ∀ m, m < n → SzT m) (w : World) (lo hi : Nat) (s : StmtD) (x y z : Value) (left : Int) (hn : sizeL s.th < n ∧ sizeL s.el < n) (hx : KR w lo hi x s.e.kids) (hy : SR w lo hi y s.th) (hz : SR w lo hi z s.el) (hhi : hi ≤ w.heap.size) (h1 : 0 ≤ left) (h2 : left ≤ 1048576) :
  Calls Tryz.prog 49 #[stmtV s x y z, .int .i64 left] w fun e w' => e = .returned (.int .i64 (if left < (manyL s.e.kids + sizeL s.th + sizeL s.el : Nat) then -1 else left - (manyL s.e.kids + sizeL s.th + sizeL s.el : Nat))) ∧ Below w.heap.size w w' := by
 obtain ⟨r, hr⟩ : ∃ r : Int, (if left < ((manyL s.e.kids + sizeL s.th + sizeL s.el : Nat) : Int) then -1 else left - ((manyL s.e.kids + sizeL s.th + sizeL s.el : Nat) : Int)) = r := ⟨_, rfl⟩
 rw [hr]
 have HR : Hid ((if left < ((manyL s.e.kids + sizeL s.th + sizeL s.el : Nat) : Int) then -1 else left - ((manyL s.e.kids + sizeL s.th + sizeL s.el : Nat) : Int)) = r) := hr
 clear hr
 have HX : Hid (KR w lo hi x s.e.kids ∧ SR w lo hi y s.th ∧ SR w lo hi z s.el) := ⟨hx, hy, hz⟩
 obtain ⟨ax, cx, rfl, _, _⟩ := hx.shape
 obtain ⟨ay, cy, rfl, _, _⟩ := hy.shape
 obtain ⟨az, cz, rfl, _, _⟩ := hz.shape
 clear hx hy hz
 unfold stmtV
 go_enter Tryz.func49, Tryz.ntmps49
 go_wp2_with fail
 obtain ⟨u0, hu0, G0, T0, S0⟩ : ∃ u0, w.alloc (.cells #[.int .i64 s.k, .int .i64 s.tk, .int .i64 s.ta, .int .i64 s.e.k, .int .i64 s.e.n, .int .i64 s.e.ak, .int .i64 s.e.at_, .slice ax s.e.kids.length cx, .slice ay s.th.length cy, .slice az s.el.length cz] 106) = u0 ∧ Below w.heap.size w u0 ∧ TenW u0 w.heap.size (.int .i64 s.k) (.int .i64 s.tk) (.int .i64 s.ta) (.int .i64 s.e.k) (.int .i64 s.e.n) (.int .i64 s.e.ak) (.int .i64 s.e.at_) (.slice ax s.e.kids.length cx) (.slice ay s.th.length cy) (.slice az s.el.length cz) ∧ u0.heap.size = w.heap.size + 1 :=
  ⟨_, rfl, (Below.refl w.heap.size w).alloc (Nat.le_refl _) _, tenW_new _ _ _ _ _ _ _ _ _ _ _ _, by simp⟩
 rw [hu0]
 clear hu0
 refine (szExpr_any _ lo hi _ s.e left ⟨_, rfl, HX.out.1.under G0 hhi⟩ (by omega) h1 h2).mono ?_
 by_cases q1 : left < (manyL s.e.kids : Int)
 ·rw [if_pos q1]
  rintro e1 u1 ⟨rfl, g1⟩
  have G1 := G0.trans (g1.mono (by omega))
  have HF : Hid (r = -1) := by show r = -1; rw [← HR.out, if_pos (by omega)]
  clear g1 T0 HR
  go_wp2
  go_ret
  exact ⟨ret_int HF.out.symm, G1⟩
 rw [if_neg q1]
 rintro e1 u1 ⟨rfl, g1⟩
 have S1 := g1.size
 have G1 := G0.trans (g1.mono (by omega))
 have T1 := T0.under g1 (by omega)
 obtain ⟨l1, hl1⟩ : ∃ l1 : Int, left - (manyL s.e.kids : Int) = l1 := ⟨_, rfl⟩
 rw [hl1]
 have p1 : ¬ (l1 < 0) := by omega
 have c8 := T1.c8
 clear g1 T0 G0
 go_wp2_with fail
 refine (H _ hn.1 _ lo hi _ s.th l1 (Nat.le_refl _) (HX.out.2.1.under G1 hhi) (by omega) (by omega) (by omega)).mono ?_
 by_cases q2 : l1 < (sizeL s.th : Int)
 ·rw [if_pos q2]
  rintro e2 u2 ⟨rfl, g2⟩
  have G2 := G1.trans (g2.mono (by omega))
  have HF : Hid (r = -1) := by show r = -1; rw [← HR.out, if_pos (by omega)]
  clear g2 T1 HR c8
  go_wp2
  go_ret
  exact ⟨ret_int HF.out.symm, G2⟩
 rw [if_neg q2]
 rintro e2 u2 ⟨rfl, g2⟩
 have S2 := g2.size
 have G2 := G1.trans (g2.mono (by omega))
 have T2 := T1.under g2 (by omega)
 obtain ⟨l2, hl2⟩ : ∃ l2 : Int, l1 - (sizeL s.th : Int) = l2 := ⟨_, rfl⟩
 rw [hl2]
 have p2 : ¬ (l2 < 0) := by omega
 have c9 := T2.c9
 clear g2 T1 G1 c8
 go_wp2_with fail
 refine (H _ hn.2 _ lo hi _ s.el l2 (Nat.le_refl _) (HX.out.2.2.under G2 hhi) (by omega) (by omega) (by omega)).mono ?_
 by_cases q3 : l2 < (sizeL s.el : Int)
 ·rw [if_pos q3]
  rintro e3 u3 ⟨rfl, g3⟩
  have G3 := G2.trans (g3.mono (by omega))
  have HF : Hid (r = -1) := by show r = -1; rw [← HR.out, if_pos (by omega)]
  clear g3 T2 HR c9
  go_wp2
  go_ret
  exact ⟨ret_int HF.out.symm, G3⟩
 rw [if_neg q3]
 rintro e3 u3 ⟨rfl, g3⟩
 have G3 := G2.trans (g3.mono (by omega))
 have HF : Hid (l2 - (sizeL s.el : Int) = r) := by show _ = r; rw [← HR.out, if_neg (by omega)]; omega
 have p3 : ¬ (l2 - (sizeL s.el : Int) < 0) := by omega
 obtain ⟨l3, hl3⟩ : ∃ l3 : Int, l2 - (sizeL s.el : Int) = l3 := ⟨_, rfl⟩
 rw [hl3] at HF p3 ⊢
 clear g3 T2 HR c9 hl3
 go_wp2
 go_ret
 exact ⟨ret_int HF.out, G3⟩

set_option maxHeartbeats 1000000 in
theorem szStmtS_step {n : Nat} (H : ∀ m, m < n → SzT m) : SzT n := by
 intro w lo hi v ss left hn h hhi h1 h2
 obtain ⟨ad, cap, rfl, hc1, hc2⟩ := h.shape
 have hmx : ss.length ≤ 9223372036854775807 := by unfold maxLen at hc2; omega
 have hlm := length_le_sizeL ss
 obtain ⟨r, hr0⟩ : ∃ r : Int, (if left < (sizeL ss : Int) then -1 else left - (sizeL ss : Int)) = r := ⟨_, rfl⟩
 rw [hr0]
 have HA : Hid ((if left < (sizeL ss : Int) then -1 else left - (sizeL ss : Int)) = r) := hr0
 clear hr0
 have HK : Hid (SR w lo hi (.slice ad ss.length cap) ss) := h
 clear h
 by_cases hl : left - ss.length < 0
 ·obtain rfl : r = -1 := by have := HA.out; rw [if_pos (by omega)] at this; exact this.symm
  clear HA
  go_enter Tryz.func8, Tryz.ntmps8
  go_wp2
  go_ret
  exact ⟨rfl, Below.refl _ _⟩
 ·have HM : Hid (ss.length ≤ sizeL ss) := hlm
  clear hlm
  go_enter Tryz.func8, Tryz.ntmps8
  go_wp2_with fail
  go_loopw [1, 5] (fun l i wr => ∃ j : Nat, j ≤ ss.length ∧ l = .int .i64 (left - ss.length - (sizeL (ss.take j) - j)) ∧ 0 ≤ left - ss.length - ((sizeL (ss.take j) : Int) - j) ∧ i = .int .i64 j ∧ Below w.heap.size w wr) (fun _ i _ => ss.length - (intOf i).toNat)
  case atStart => exact ⟨0, Nat.zero_le _, by simp [sizeL], by simp [sizeL]; omega, rfl, Below.refl _ _⟩
  case round =>
   obtain ⟨j, hj, rfl, hnn, rfl, hb⟩ := hrel
   by_cases hlt : j < ss.length
   ·obtain ⟨s, hs⟩ : ∃ s, ss[j]? = some s := ⟨ss[j], List.getElem?_eq_getElem hlt⟩
    obtain ⟨b, off, cap', x, y, z, hv, hb1, hb2, h5, hkx, hky, hkz⟩ := HK.out.at_ hs
    simp only [Value.slice.injEq, true_and] at hv
    obtain ⟨rfl, rfl⟩ := hv
    obtain ⟨c0, c1, c2, c3, c4, c5, c6, c7, c8, c9⟩ := h5.kept (hb.block b (by omega))
    have hkl := stmt_lt hs
    have hsuc := sizeL_take_succ hs
    have hrest := size_rest ss (j + 1) hlt
    have hE := sizeS_eq s
    have htk := take_le_size ss j hj
    obtain ⟨q, hq⟩ : ∃ q : Int, left - ss.length - ((sizeL (ss.take j) : Int) - j) = q := ⟨_, rfl⟩
    rw [hq] at hnn ⊢
    have hz := szStmt_of (n := n) H wr lo hi s x y z q (by omega) (hkx.under hb hhi) (hky.under hb hhi) (hkz.under hb hhi) (Nat.le_trans hhi hb.size) hnn (by omega)
    obtain ⟨M, hM⟩ : ∃ M, manyL s.e.kids + sizeL s.th + sizeL s.el = M := ⟨_, rfl⟩
    rw [hM] at hz hkl hE
    unfold stmtV at hz
    clear hkx hky hkz hM
    by_cases hr : q < (M : Int)
    ·rw [if_pos hr] at hz
     have HR : Hid (left < sizeL ss) := by show left < (sizeL ss : Int); omega
     clear hsuc hrest hE htk hkl hq
     go_wp2_with fail
     refine hz.mono ?_
     rintro e1 w1 ⟨rfl, g1⟩
     have G1 := hb.trans (g1.mono hb.size)
     clear g1 c0 c1 c2 c3 c4 c5 c6 c7 c8 c9
     go_wp2
     go_ret
     exact ⟨ret_int (by have := HA.out; rw [if_pos HR.out] at this; exact this), G1⟩
    ·rw [if_neg hr] at hz
     have HQ : Hid (q - M = left - ss.length - ((sizeL (ss.take (j + 1)) : Int) - ((j + 1 : Nat) : Int))) := by show q - (M : Int) = _; omega
     have hr' : ¬ (q - (M : Int) < 0) := by omega
     clear hsuc hrest hE htk hkl hq
     go_wp2_with fail
     refine hz.mono ?_
     rintro e1 w1 ⟨rfl, g1⟩
     have G1 := hb.trans (g1.mono hb.size)
     clear g1 c0 c1 c2 c3 c4 c5 c6 c7 c8 c9
     go_wp2
     go_roundw
     case rel => exact ⟨j + 1, by omega, by rw [HQ.out], by rw [← HQ.out]; omega, by go_num, G1⟩
     case measure => simp [intOf]; omega
   ·obtain rfl : j = ss.length := by omega
    rw [List.take_length] at hnn ⊢
    have HR : Hid (left - ss.length - ((sizeL ss : Int) - ss.length) = r) := by show _ = _; rw [← HA.out, if_neg (by omega)]; omega
    obtain ⟨q, hq⟩ : ∃ q : Int, left - ss.length - ((sizeL ss : Int) - ss.length) = q := ⟨_, rfl⟩
    rw [hq] at HR hnn ⊢
    clear hq
    go_wp2
    go_ret
    exact ⟨ret_int HR.out, hb⟩

theorem szT (n : Nat) : SzT n := by
 induction n using Nat.strongRecOn with
 | ind n ih => exact szStmtS_step ih

theorem szStmtS_any (w : World) (lo hi : Nat) (v : Value) (ss : List StmtD) (left : Int) (h : SR w lo hi v ss) (hhi : hi ≤ w.heap.size) (h1 : 0 ≤ left) (h2 : left ≤ 1048576) :
  Calls Tryz.prog 8 #[v, .int .i64 left] w fun e w' => e = .returned (.int .i64 (if left < sizeL ss then -1 else left - sizeL ss)) ∧ Below w.heap.size w w' :=
 szT _ w lo hi v ss left (Nat.le_refl _) h hhi h1 h2
end Go.Proofs.YtaoiookfmgpmkaaGreatDoor
