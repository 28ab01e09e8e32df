/-
  What the models of MemPut (package spec) answer: a memory in new memory, one number put in.
-/
import Derived.Test.YtdhmioelmcdflaaMemSpec
import Derived.Test.YtdhmioelmcdflaaAppend
import Derived.Test.YtdhmioelmcdflaaLawKit
import Derived.Deep.RegionWith
namespace Go.Proofs.Ytdhmioelmcdflaa
open Go.ChangeShapes Go.WideShapes Go.ChangeAt Go.RowKit
set_option linter.unusedVariables false

theorem listed_set {L : Array Bool} {i j : Nat} (h : (L.setIfInBounds i true).getD j true = true) (hne : i ≠ j) : L.getD j true = true := by
  rwa [getD_set_ne true hne] at h

theorem oi_apart_new {u u' : World} {lo hi : Nat} {v v' : Value} {xs ys : List Int} (h : OI u lo u.heap.size v xs) (h' : OI u' u.heap.size hi v' ys) : Apart v xs.length v' ys.length :=
  apart_of h h' (Nat.le_refl _)

theorem Apart.symm {v v' : Value} {n n' : Nat} (h : Apart v n v' n') : Apart v' n' v n := fun b o h1 h2 => h b o h2 h1

/-- What holds of the slots of l2Copy's region together. -/
structure CopyJ (d : MemD) (B : Nat) (L : Array Bool) (a : Act) (u : World) : Prop where
  io : L.getD 3 true = true → L.getD 7 true = true → Apart (a.tmps.getD 6 undef) d.i.length (a.tmps.getD 10 undef) d.o.length
  iv : L.getD 3 true = true → L.getD 11 true = true → Apart (a.tmps.getD 6 undef) d.i.length (a.tmps.getD 14 undef) d.v.length
  ov : L.getD 7 true = true → L.getD 11 true = true → Apart (a.tmps.getD 10 undef) d.o.length (a.tmps.getD 14 undef) d.v.length
  built : L.getD 12 true = true → L.getD 3 true = true ∧ L.getD 7 true = true ∧ L.getD 11 true = true ∧ a.tmps.getD 15 undef = .agg #[a.tmps.getD 6 undef, a.tmps.getD 10 undef, a.tmps.getD 14 undef]
  room : ∀ k, k < 3 → (u.cell? ⟨B, k, none⟩).isSome = true ∧ u.frozen? ⟨B, k, none⟩ = false
  stored : L.getD 13 true = true → L.getD 12 true = true ∧ u.cell? ⟨B, 0, none⟩ = some (a.tmps.getD 6 undef) ∧ u.cell? ⟨B, 1, none⟩ = some (a.tmps.getD 10 undef) ∧ u.cell? ⟨B, 2, none⟩ = some (a.tmps.getD 14 undef)

theorem CopyJ.other {d : MemD} {B : Nat} {L : Array Bool} {a : Act} {u u' : World} (h : CopyJ d B L a u) (i d' : Nat) (v : Value)
    (i3 : i ≠ 3) (i7 : i ≠ 7) (i11 : i ≠ 11) (i12 : i ≠ 12) (i13 : i ≠ 13) (d6 : d' ≠ 6) (d10 : d' ≠ 10) (d14 : d' ≠ 14) (d15 : d' ≠ 15) (hB : B < u.heap.size) (hb : Below u.heap.size u u') :
    CopyJ d B (L.setIfInBounds i true) (a.put (some d') v) u' := by
  have hroom : ∀ k, k < 3 → (u'.cell? ⟨B, k, none⟩).isSome = true ∧ u'.frozen? ⟨B, k, none⟩ = false := fun k hk => by
    rw [hb.cell (p := ⟨B, k, none⟩) hB, hb.frozen (p := ⟨B, k, none⟩) hB]; exact h.room k hk
  refine ⟨?_, ?_, ?_, ?_, hroom, ?_⟩ <;>
    simp only [getD_set_ne true i3, getD_set_ne true i7, getD_set_ne true i11, getD_set_ne true i12, getD_set_ne true i13, getD_put_ne _ _ _ _ d6, getD_put_ne _ _ _ _ d10, getD_put_ne _ _ _ _ d14, getD_put_ne _ _ _ _ d15]
  · exact h.io
  · exact h.iv
  · exact h.ov
  · exact h.built
  · intro h13
    obtain ⟨h1, h2, h3, h4⟩ := h.stored h13
    exact ⟨h1, by rw [hb.cell (p := ⟨B, 0, none⟩) hB]; exact h2, by rw [hb.cell (p := ⟨B, 1, none⟩) hB]; exact h3, by rw [hb.cell (p := ⟨B, 2, none⟩) hB]; exact h4⟩


/-- What holds of the slots of MemPut's last region together. -/
structure PutJ (d d' : MemD) (B n0 : Nat) (L : Array Bool) (a : Act) (u : World) : Prop where
  room : ∀ k, k < 3 → (u.cell? ⟨B, k, none⟩).isSome = true ∧ u.frozen? ⟨B, k, none⟩ = false
  copy : L.getD 1 true = true → L.getD 4 true = false → ∃ h, h ≤ u.heap.size ∧ MO u n0 h (a.tmps.getD 17 undef) d
  put : L.getD 4 true = true → L.getD 1 true = true ∧ ∃ h, h ≤ u.heap.size ∧ MO u n0 h (a.tmps.getD 20 undef) d'
  stored : L.getD 5 true = true → L.getD 4 true = true ∧ ∃ x y z, a.tmps.getD 20 undef = .agg #[x, y, z] ∧ u.cell? ⟨B, 0, none⟩ = some x ∧ u.cell? ⟨B, 1, none⟩ = some y ∧ u.cell? ⟨B, 2, none⟩ = some z

theorem PutJ.other {d d' : MemD} {B n0 : Nat} {L : Array Bool} {a : Act} {u : World} (h : PutJ d d' B n0 L a u) (i : Nat) (t : Tmp) (v : Value)
    (i1 : i ≠ 1) (i4 : i ≠ 4) (i5 : i ≠ 5) (t17 : t ≠ 17) (t20 : t ≠ 20) : PutJ d d' B n0 (L.setIfInBounds i true) (a.put (some t) v) u := by
  refine ⟨h.room, ?_, ?_, ?_⟩ <;> simp only [getD_set_ne true i1, getD_set_ne true i4, getD_set_ne true i5, getD_put_ne _ _ _ _ t17, getD_put_ne _ _ _ _ t20]
  · exact h.copy
  · exact h.put
  · exact h.stored

theorem getD_set_same4 {L : Array Bool} {i : Nat} (hL : L.getD i true = false) (_h : True) : (L.setIfInBounds i true).getD i true = true := by
  have hi : i < L.size := by
    rcases Nat.lt_or_ge i L.size with h' | h'
    · exact h'
    · simp [Array.getElem?_eq_none h'] at hL
  simp [hi]

theorem oi_nil (w : World) (lo hi : Nat) : OI w lo hi (.slice none 0 0) [] := .inl ⟨rfl, none, 0, rfl, Nat.zero_le _⟩
theorem apart_nil (v v' : Value) (n : Nat) : Apart v 0 v' n := fun b o ⟨_, _, _, _, _, _, h1, h2⟩ => by omega

theorem box3_first (w : World) (c : Array Value) (t : TypeId) (o2 o3 : Obj) (i : Nat) : (((w.alloc (.cells c t)).alloc o2).alloc o3).cell? ⟨w.heap.size, i, none⟩ = c[i]? := by
  rw [World.cell?_alloc_lt _ _ ⟨w.heap.size, i, none⟩ (by simp; omega)]; exact World.cell?_alloc2_first c t o2 i

theorem box3_second (w : World) (o1 : Obj) (c : Array Value) (t : TypeId) (o3 : Obj) (i : Nat) : (((w.alloc o1).alloc (.cells c t)).alloc o3).cell? ⟨w.heap.size + 1, i, none⟩ = c[i]? := by
  rw [World.cell?_alloc_lt _ _ ⟨w.heap.size + 1, i, none⟩ (by simp)]; exact World.cell?_alloc2_new o1 c t i

theorem box3_third (w : World) (o1 o2 : Obj) (c : Array Value) (t : TypeId) (i : Nat) : (((w.alloc o1).alloc o2).alloc (.cells c t)).cell? ⟨w.heap.size + 1 + 1, i, none⟩ = c[i]? ∧ (((w.alloc o1).alloc o2).alloc (.cells c t)).frozen? ⟨w.heap.size + 1 + 1, i, none⟩ = false := by
  have h1 := World.cell?_alloc2_new (w := w.alloc o1) o2 c t i
  have h2 := World.frozen?_alloc2_new (w := w.alloc o1) o2 c t i
  rw [World.size_alloc] at h1 h2
  exact ⟨h1, h2⟩

theorem OI.through {w W0 u w'' : World} {P : Nat → Nat → Prop} {lo hi : Nat} {v : Value} {xs : List Int} (h : OI w lo hi v xs) (hhi : hi ≤ w.heap.size) (b : Below w.heap.size w W0) (hR : Wrote P W0 u) (hP : ∀ b o, Foot v xs.length b o → ¬ P b o)
    (hk : ∀ k, k < w.heap.size → w''.heap[k]? = u.heap[k]?) : OI w'' lo hi v xs :=
  ((h.below b hhi).wrote hR hP).kept fun k _ h => hk k (by omega)

theorem CI.below {w w' : World} {n b off : Nat} {xs : List Int} (h : CI w b off xs) (hb : Below n w w') (hn : b < n) : CI w' b off xs := fun i x hx => by
  rw [hb.cell (p := ⟨b, off + i, none⟩) hn]; exact h i x hx

/-- A list of six that is owned. -/
theorem OI.six {w : World} {lo hi : Nat} {v : Value} {xs : List Int} (h : OI w lo hi v xs) (hl : xs.length = 6) :
    ∃ g off cap, v = .slice (some ⟨g, off, none⟩) 6 cap ∧ 6 ≤ cap ∧ cap ≤ maxLen ∧ lo ≤ g ∧ g < hi ∧ CI w g off xs ∧ ∀ i, w.frozen? ⟨g, off + i, none⟩ = false := by
  rcases h with ⟨rfl, _⟩ | ⟨g, off, cap, hv, h1, h2, h3, h4, h5, h6⟩
  · simp at hl
  · exact ⟨g, off, cap, by rw [hv, hl], by omega, h2, h3, h4, h5, h6⟩

/-- One number of a list that is owned is written. -/
theorem OI.put {w w' : World} {lo hi : Nat} {xs : List Int} {g off cap j : Nat} {x : Int} (h : CI w g off xs) (hf : ∀ i, w.frozen? ⟨g, off + i, none⟩ = false) (hw : Wrote (fun b o => b = g ∧ o = off + j) w w') (hc : w'.cell? ⟨g, off + j, none⟩ = some (.int .i64 x))
    (hl : xs.length = 6) (h6 : 6 ≤ cap) (hm : cap ≤ maxLen) (h1 : lo ≤ g) (h2 : g < hi) : OI w' lo hi (.slice (some ⟨g, off, none⟩) 6 cap) (xs.set j x) := by
  refine .inr ⟨g, off, cap, by rw [List.length_set, hl], by rw [List.length_set, hl]; exact h6, hm, h1, h2, fun i y hy => ?_, fun i => by rw [hw.frozen]; exact hf i⟩
  by_cases e : i = j
  · subst e
    have hi : i < xs.length := by have := (List.getElem?_eq_some_iff.mp hy).1; rwa [List.length_set] at this
    rw [List.getElem?_set_self hi] at hy
    cases hy
    exact hc
  · rw [List.getElem?_set_ne (fun h => e h.symm)] at hy
    rw [hw.cell g (off + i) (by omega)]
    exact h i y hy

/-- A number put at a place. -/
def memSet (d : MemD) (a : AddrD) (n : Int) : MemD :=
  if a.kind = 2 then { d with o := d.o.set a.at_.toNat (cutZ n) } else if a.kind = 3 then { d with v := d.v.set a.at_.toNat (cutZ n) } else d

def memPut (d : MemD) (a : AddrD) (n : Int) : MemD := if memOk d then (if addrOk a then memSet d a n else d) else ⟨[], [], []⟩


theorem memPut_many (d : MemD) (a : AddrD) (n : Int) : (memPut d a n).many ≤ d.many := by
  unfold memPut
  split
  · split
    · unfold memSet
      split
      · simp [MemD.many]
      · split
        · simp [MemD.many]
        · exact Nat.le_refl _
    · exact Nat.le_refl _
  · simp [MemD.many]

end Go.Proofs.Ytdhmioelmcdflaa
