import Derived.Test.YtaoiookfmgpmkaaGreatDoorQM9
import Derived.Test.YtaoiookfmgpmkaaGreatDoorQM4
import Derived.Test.YtaoiookfmgpmkaaGreatDoorQM1

/-
 What chapter 2's models (package spec) answer: places and memories.
-/
namespace Go.Proofs.YtaoiookfmgpmkaaGreatDoor
open Go.ChangeShapes Go.WideShapes Go.ChangeAt Go.RowKit
set_option linter.unusedVariables false

def listOk (xs : List Int) : Bool := decide (xs.length = 6) && xs.all fun x => cutZ x == x

def memOk (d : MemD) : Bool := listOk d.i && listOk d.o && listOk d.v

theorem all_take_succ {xs : List Int} {k : Nat} {x : Int} {f : Int → Bool} (h : (xs.take k).all f = true) (hx : xs[k]? = some x) (hf : f x = true) : (xs.take (k + 1)).all f = true := by
 rw [List.take_add_one, hx]; simp [h, hf]

theorem listOk_false {xs : List Int} {k : Nat} {x : Int} (hx : xs[k]? = some x) (hf : (cutZ x == x) = false) : listOk xs = false := by
 unfold listOk
 have : xs.all (fun x => cutZ x == x) = false := by
  rw [Bool.eq_false_iff]
  intro h
  have := List.all_eq_true.mp h x (List.mem_of_getElem? hx)
  rw [hf] at this; cases this
 rw [this, Bool.and_false]

set_option maxHeartbeats 400000 in
theorem l2List_any (w : World) (lo hi : Nat) (v : Value) (xs : List Int) (h : SI w lo hi v xs) :
  Calls Tryz.prog 171 #[v] w fun e w' => ∃ m, e = .returned (.bool (listOk xs)) ∧ w' = w.drewN m := by
 obtain ⟨a, cap, rfl, h1, h2, h3⟩ := h
 unfold maxLen at h2
 go_enter Tryz.func171, Tryz.ntmps171
 go_wp2
 go_loopw [3] (fun i wr => ∃ k m : Nat, k ≤ xs.length ∧ i = .int .i64 k ∧ wr = w.drewN m ∧ (xs.take k).all (fun x => cutZ x == x) = true) (fun i _ => xs.length - (intOf i).toNat)
 case atStart => exact ⟨0, 0, Nat.zero_le _, rfl, rfl, rfl⟩
 case round =>
  obtain ⟨k, m, hk, rfl, hwr, htk⟩ := hrel
  have HT : Hid ((xs.take k).all (fun x => cutZ x == x) = true) := htk
  have HW : Hid (wr = w.drewN m) := hwr
  clear htk hwr
  by_cases hlt : k < xs.length
  ·obtain ⟨x, hx⟩ : ∃ x, xs[k]? = some x := ⟨xs[k], List.getElem?_eq_getElem hlt⟩
   rcases h3 with h0 | ⟨b, off, rfl, _, _, hc⟩
   ·rw [h0] at hlt; simp at hlt
   have c1 : wr.cell? ⟨b, off + k, none⟩ = some (.int .i64 x) := by rw [HW.out]; exact hc k x hx
   have HX : Hid (xs[k]? = some x) := hx
   clear hx hc
   by_cases hxy : (cutZ x == x) = true
   ·go_wp2_with fail
    go_quiet ((go_at_call 224; exact Calls.quiet_of_same (sCut_any _ _)))
    go_wp2
    go_roundw
    case rel => exact ⟨k + 1, m + nq, by omega, by go_num, by rw [HW.out]; simp, all_take_succ HT.out HX.out hxy⟩
    case measure => simp [intOf]; omega
   ·have hxy' : (cutZ x == x) = false := by simpa using hxy
    clear hxy
    go_wp2_with fail
    go_quiet ((go_at_call 224; exact Calls.quiet_of_same (sCut_any _ _)))
    go_wp2
    go_ret
    exact ⟨m + nq, ret_bool (listOk_false HX.out hxy').symm, by rw [HW.out]; simp⟩
  ·go_wp2
   go_ret
   refine ⟨m, ret_bool ?_, HW.out⟩
   have ht := HT.out
   rw [List.take_of_length_le (by omega)] at ht
   unfold listOk
   rw [ht, Bool.and_true]
   by_cases e : xs.length = 6
   ·simp [e]
   ·simp [e]; omega

set_option maxHeartbeats 400000 in
theorem sMemOk_any (w : World) (lo hi : Nat) (m : Value) (d : MemD) (h : MI w lo hi m d) (hhi : hi ≤ w.heap.size) :
  Calls Tryz.prog 92 #[m] w fun e w' => e = .returned (.bool (memOk d)) ∧ Below w.heap.size w w' := by
 obtain ⟨a, b, c, rfl, ha, hb, hc⟩ := h
 have bm := fun o (m : Nat) => below_drewN ((Below.refl w.heap.size w).alloc (Nat.le_refl _) o) m
 have sa := fun o m => ha.below (bm o m) hhi
 have sb := fun o m => hb.below (bm o m) hhi
 have sc := fun o m => hc.below (bm o m) hhi
 clear ha hb hc
 unfold memOk
 cases h1 : listOk d.i
 ·go_enter Tryz.func92, Tryz.ntmps92
  go_wp2_with fail
  refine (l2List_any _ lo hi _ d.i (sa _ 0)).mono ?_
  rw [h1]
  rintro e w1 ⟨m1, rfl, rfl⟩
  go_wp2
  go_ret
  exact ⟨rfl, bm _ _⟩
 ·cases h2 : listOk d.o
  ·go_enter Tryz.func92, Tryz.ntmps92
   go_wp2_with fail
   refine (l2List_any _ lo hi _ d.i (sa _ 0)).mono ?_
   rw [h1]
   rintro e w1 ⟨m1, rfl, rfl⟩
   go_wp2_with fail
   refine (l2List_any _ lo hi _ d.o (sb _ _)).mono ?_
   rw [h2]
   rintro e w1 ⟨m2, rfl, rfl⟩
   go_wp2
   go_ret
   exact ⟨rfl, bm _ _⟩
  ·go_enter Tryz.func92, Tryz.ntmps92
   go_wp2_with fail
   refine (l2List_any _ lo hi _ d.i (sa _ 0)).mono ?_
   rw [h1]
   rintro e w1 ⟨m1, rfl, rfl⟩
   go_wp2_with fail
   refine (l2List_any _ lo hi _ d.o (sb _ _)).mono ?_
   rw [h2]
   rintro e w1 ⟨m2, rfl, rfl⟩
   go_wp2_with fail
   refine (l2List_any _ lo hi _ d.v (sc _ _)).mono ?_
   rintro e w1 ⟨m3, rfl, rfl⟩
   go_wp2
   go_ret
   exact ⟨by simp, bm _ _⟩

theorem MI.agg {w : World} {lo hi : Nat} {m : Value} {d : MemD} (h : MI w lo hi m d) : ∃ a b c, m = .agg #[a, b, c] := by
 obtain ⟨a, b, c, hm, _⟩ := h; exact ⟨a, b, c, hm⟩

end Go.Proofs.YtaoiookfmgpmkaaGreatDoor

/-
 Instructions (Ins) as data, and how lists of them lie in memory: NR: lists that can be read; NO: lists that are owned.
-/
namespace Go.Proofs.YtaoiookfmgpmkaaGreatDoor
open Go.ChangeShapes Go.WideShapes Go.ChangeAt Go.RowKit
set_option linter.unusedVariables false

structure InsD where
 op : Int
 n : Int
 ak : Int
 at_ : Int
deriving DecidableEq

def InsD.val (p : InsD) : Value := .agg #[.int .i64 p.op, .int .i64 p.n, .int .i64 p.ak, .int .i64 p.at_]

structure CellI (w : World) (b o : Nat) (p : InsD) : Prop where
 c0 : w.cell? ⟨b, o, none⟩ = some (.int .i64 p.op)
 c1 : w.cell? ⟨b, o + 1, none⟩ = some (.int .i64 p.n)
 c2 : w.cell? ⟨b, o + 2, none⟩ = some (.int .i64 p.ak)
 c3 : w.cell? ⟨b, o + 3, none⟩ = some (.int .i64 p.at_)

theorem CellI.kept {w w' : World} {b o : Nat} {p : InsD} (h : CellI w b o p) (hk : w'.heap[b]? = w.heap[b]?) : CellI w' b o p :=
 ⟨by rw [World.cell?_of_block (w := w) hk]; exact h.c0, by rw [World.cell?_of_block (w := w) hk]; exact h.c1, by rw [World.cell?_of_block (w := w) hk]; exact h.c2, by rw [World.cell?_of_block (w := w) hk]; exact h.c3⟩

def NR (w : World) (lo hi : Nat) (v : Value) (ps : List InsD) : Prop :=
 ∃ ad cap, v = .slice ad ps.length cap ∧ ps.length ≤ cap ∧ cap ≤ maxLen ∧
  (ps = [] ∨ ∃ b off, ad = some ⟨b, off, none⟩ ∧ lo ≤ b ∧ b < hi ∧ ∀ i p, ps[i]? = some p → CellI w b (off + i * 4) p)

def NO (w : World) (lo hi : Nat) (v : Value) (ps : List InsD) : Prop :=
 ps = [] ∧ (∃ ad cap, v = .slice ad 0 cap ∧ cap ≤ maxLen) ∨
 ∃ b off cap, v = .slice (some ⟨b, off, none⟩) ps.length cap ∧ ps.length ≤ cap ∧ cap ≤ maxLen ∧ lo ≤ b ∧ b < hi ∧ (∀ i p, ps[i]? = some p → CellI w b (off + i * 4) p) ∧ ∀ o, w.frozen? ⟨b, off + o, none⟩ = false

theorem NR.shape {w : World} {lo hi : Nat} {v : Value} {ps : List InsD} (h : NR w lo hi v ps) : ∃ ad cap, v = .slice ad ps.length cap ∧ ps.length ≤ cap ∧ cap ≤ maxLen := by
 obtain ⟨ad, cap, hv, h1, h2, _⟩ := h; exact ⟨ad, cap, hv, h1, h2⟩

theorem NR.at_ {w : World} {lo hi : Nat} {v : Value} {ps : List InsD} (h : NR w lo hi v ps) {i : Nat} {p : InsD} (hi' : ps[i]? = some p) :
  ∃ b off cap, v = .slice (some ⟨b, off, none⟩) ps.length cap ∧ lo ≤ b ∧ b < hi ∧ CellI w b (off + i * 4) p := by
 obtain ⟨ad, cap, hv, h1, h2, h3⟩ := h
 rcases h3 with rfl | ⟨b, off, rfl, h3, h4, hc⟩
 ·simp at hi'
 ·exact ⟨b, off, cap, hv, h3, h4, hc i p hi'⟩

theorem NR.kept {w w' : World} {lo hi : Nat} {v : Value} {ps : List InsD} (h : NR w lo hi v ps) (hk : ∀ k, lo ≤ k → k < hi → w'.heap[k]? = w.heap[k]?) : NR w' lo hi v ps := by
 obtain ⟨ad, cap, hv, h1, h2, h3⟩ := h
 refine ⟨ad, cap, hv, h1, h2, h3.imp id ?_⟩
 rintro ⟨b, off, ha, h3, h4, hc⟩
 exact ⟨b, off, ha, h3, h4, fun i p hp => (hc i p hp).kept (hk b h3 h4)⟩

theorem NR.under {w w' : World} {lo hi n : Nat} {v : Value} {ps : List InsD} (h : NR w lo hi v ps) (hb : Below n w w') (hn : hi ≤ n) : NR w' lo hi v ps :=
 h.kept fun k _ hk => hb.block k (by omega)

theorem NR.wide {w : World} {lo hi lo' hi' : Nat} {v : Value} {ps : List InsD} (h : NR w lo hi v ps) (hl : lo' ≤ lo) (hh : hi ≤ hi') : NR w lo' hi' v ps := by
 obtain ⟨ad, cap, hv, h1, h2, h3⟩ := h
 refine ⟨ad, cap, hv, h1, h2, h3.imp id ?_⟩
 rintro ⟨b, off, ha, h3, h4, hc⟩
 exact ⟨b, off, ha, by omega, by omega, hc⟩

theorem NO.nr {w : World} {lo hi : Nat} {v : Value} {ps : List InsD} (h : NO w lo hi v ps) : NR w lo hi v ps := by
 rcases h with ⟨rfl, ad, cap, rfl, hm⟩ | ⟨b, off, cap, hv, h1, h2, h3, h4, h5, _⟩
 ·exact ⟨ad, cap, rfl, Nat.zero_le _, hm, .inl rfl⟩
 ·exact ⟨_, cap, hv, h1, h2, .inr ⟨b, off, rfl, h3, h4, h5⟩⟩

theorem NO.kept {w w' : World} {lo hi : Nat} {v : Value} {ps : List InsD} (h : NO w lo hi v ps) (hk : ∀ k, lo ≤ k → k < hi → w'.heap[k]? = w.heap[k]?) : NO w' lo hi v ps := by
 rcases h with h | ⟨b, off, cap, hv, h1, h2, h3, h4, h5, h6⟩
 ·exact .inl h
 ·exact .inr ⟨b, off, cap, hv, h1, h2, h3, h4, fun i p hp => (h5 i p hp).kept (hk b h3 h4), fun o => by rw [World.frozen?_of_block (w := w) (hk b h3 h4)]; exact h6 o⟩

theorem NO.under {w w' : World} {lo hi n : Nat} {v : Value} {ps : List InsD} (h : NO w lo hi v ps) (hb : Below n w w') (hn : hi ≤ n) : NO w' lo hi v ps :=
 h.kept fun k _ hk => hb.block k (by omega)

theorem NO.wide {w : World} {lo hi lo' hi' : Nat} {v : Value} {ps : List InsD} (h : NO w lo hi v ps) (hl : lo' ≤ lo) (hh : hi ≤ hi') : NO w lo' hi' v ps := by
 rcases h with h | ⟨b, off, cap, hv, h1, h2, h3, h4, h5, h6⟩
 ·exact .inl h
 ·exact .inr ⟨b, off, cap, hv, h1, h2, by omega, by omega, h5, h6⟩

structure FourI (u : World) (V : Nat) (p : InsD) : Prop where
 c : CellI u V 0 p
 f : ∀ o, u.frozen? ⟨V, o, none⟩ = false

theorem fourI_new (u : World) (p : InsD) (ty : TypeId) : FourI (u.alloc (.cells #[.int .i64 p.op, .int .i64 p.n, .int .i64 p.ak, .int .i64 p.at_] ty)) u.heap.size p :=
 ⟨⟨World.cell?_alloc_new _ _ _ _, World.cell?_alloc_new _ _ _ _, World.cell?_alloc_new _ _ _ _, World.cell?_alloc_new _ _ _ _⟩, fun o => World.frozen?_alloc_new _ _ _ _⟩

theorem CellI.below {w w' : World} {b o n : Nat} {p : InsD} (h : CellI w b o p) (hb : Below n w w') (hn : b < n) : CellI w' b o p := h.kept (hb.block b hn)

end Go.Proofs.YtaoiookfmgpmkaaGreatDoor

/-
 Code as data: whether it is right, and how many numbers are held ahead of each place.
-/
namespace Go.Proofs.YtaoiookfmgpmkaaGreatDoor
open Go.RowKit
set_option linter.unusedVariables false

def noAddr (p : InsD) : Bool := (p.ak == 0) && (p.at_ == 0)

def fitI (p : InsD) (i n : Nat) : Bool :=
 if p.op = 1 then noAddr p && (cutZ p.n == p.n)
 else if p.op = 2 then addrOk ⟨p.ak, p.at_⟩ && (p.n == 0)
 else if p.op = 3 then addrOk ⟨p.ak, p.at_⟩ && ((p.ak != 1) && (p.n == 0))
 else if p.op = 4 then noAddr p && (decide (3 ≤ p.n) && decide (p.n ≤ 9))
 else if p.op = 5 then noAddr p && (p.n == 0)
 else if p.op = 6 ∨ p.op = 7 then noAddr p && (decide ((i : Int) < p.n) && decide (p.n ≤ (n : Int)))
 else if p.op = 8 then noAddr p && (decide (0 ≤ p.n) && decide (p.n < (i : Int)))
 else false

def goesI (p : InsD) : Bool := (p.op == 6) || ((p.op == 7) || (p.op == 8))
def fallsI (p : InsD) : Bool := (p.op != 7) && (p.op != 8)

def byI (p : InsD) : Int := if p.op = 1 ∨ p.op = 2 then 1 else if p.op = 3 ∨ p.op = 6 then -1 else if p.op = 4 then -1 else 0
def needI (p : InsD) : Int := if p.op = 3 ∨ p.op = 6 then 1 else if p.op = 4 then 2 else if p.op = 5 then 1 else 0

structure Flow (ps : List InsD) (D : Nat → Int) : Prop where
 many : ps.length ≤ 400
 first : D 0 = 0
 last : D ps.length = 0
 fit : ∀ i p, ps[i]? = some p → fitI p i ps.length = true
 need : ∀ i p, ps[i]? = some p → needI p ≤ D i
 room : ∀ i p, ps[i]? = some p → D i + byI p ≤ 12
 goes : ∀ i p, ps[i]? = some p → goesI p = true → D p.n.toNat = D i + byI p
 falls : ∀ i p, ps[i]? = some p → fallsI p = true → D (i + 1) = D i + byI p
 most : ∀ j, D j ≤ 12

end Go.Proofs.YtaoiookfmgpmkaaGreatDoor
