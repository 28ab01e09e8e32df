import Derived.Test.YtdhpbiplkjpiiaaGreatDoorMemKit
import Derived.Test.YtdhpbiplkjpiiaaGreatDoorLawKit
import Derived.Test.YtdhpbiplkjpiiaaGreatDoorImplB
import Derived.Test.YtdhpbiplkjpiiaaGreatDoorDag2
import Derived.Laws.Cover3
import Derived.Laws.StructEq
import Derived.ChangeKeysEq
import Derived.Laws.ResultCell
import Derived.Laws.IdiomCopy

/-
  A region that draws its order and makes a memory: three lists, each by a call that makes new memory, built into a struct and stored at its end.
-/
namespace Go.Proofs.YtdhpbiplkjpiiaaGreatDoor
open Go.ChangeShapes Go.WideShapes Go.ChangeAt Go.RowKit
set_option linter.unusedVariables false

/-- The operation waits for that other one. -/
def needsB (ops : Array Oper) (i j : Nat) : Bool := ((ops[i]?).map fun o => o.after.any fun e => Region.binds .any e && e.on == j).getD false

theorem needs_of {ops : Array Oper} {i j : Nat} (h : needsB ops i j = true) {o : Oper} (ho : ops[i]? = some o) {L : Array Bool} (he : ∀ e ∈ o.after, Region.binds .any e = true → L.getD e.on true = true) : L.getD j true = true := by
  simp only [needsB, ho, Option.map_some, Option.getD_some] at h
  obtain ⟨e, hm, h2⟩ := Array.any_eq_true'.mp h
  simp at h2
  rw [← h2.2]
  exact he e hm h2.1

theorem OI.grow {u u' : World} {lo : Nat} {v : Value} {xs : List Int} (h : OI u lo u.heap.size v xs) (hg : Grow u u') : OI u' lo u'.heap.size v xs :=
  (h.below hg (Nat.le_refl _)).wide (Nat.le_refl _) hg.size

theorem MO.grow {u u' : World} {lo : Nat} {v : Value} {d : MemD} (h : MO u lo u.heap.size v d) (hg : Grow u u') : MO u' lo u'.heap.size v d := by
  obtain ⟨a, b, c, hm, h1, h2, h3, h4⟩ := h
  exact ⟨a, b, c, hm, h1.grow hg, h2.grow hg, h3.grow hg, h4⟩

/-- What holds of the slots of three lists together. -/
structure Mem3J (d : MemD) (n0 i1 i2 i3 iB : Nat) (r1 r2 r3 rB : Tmp) (L : Array Bool) (a : Act) (u : World) : Prop where
  o1 : L.getD i1 true = true → OI u n0 u.heap.size (a.tmps.getD r1 undef) d.i
  o2 : L.getD i2 true = true → OI u n0 u.heap.size (a.tmps.getD r2 undef) d.o
  o3 : L.getD i3 true = true → OI u n0 u.heap.size (a.tmps.getD r3 undef) d.v
  p12 : L.getD i1 true = true → L.getD i2 true = true → Apart (a.tmps.getD r1 undef) d.i.length (a.tmps.getD r2 undef) d.o.length
  p13 : L.getD i1 true = true → L.getD i3 true = true → Apart (a.tmps.getD r1 undef) d.i.length (a.tmps.getD r3 undef) d.v.length
  p23 : L.getD i2 true = true → L.getD i3 true = true → Apart (a.tmps.getD r2 undef) d.o.length (a.tmps.getD r3 undef) d.v.length
  b : L.getD iB true = true → MO u n0 u.heap.size (a.tmps.getD rB undef) d

theorem apart_symm {v v' : Value} {n n' : Nat} (h : Apart v n v' n') : Apart v' n' v n := fun b o h1 h2 => h b o h2 h1

section
variable {P : Program} {ops : Array Oper} {Q : Exit → Act → World → Prop} {a0 : Act} {w0 : World} {Φ : Nat → Value → World → Prop}

theorem wp_region_mem3 {id : Nat} (n i1 i2 i3 iB : Nat) (on o1 o2 o3 oB : Oper) (r1 r2 r3 rB : Tmp) (d : MemD)
    (hn : ops.size = n + 1) (hon : ops[n]? = some on) (hlast : lastB ops n = true)
    (h1 : ops[i1]? = some o1) (h2 : ops[i2]? = some o2) (h3 : ops[i3]? = some o3) (hB : ops[iB]? = some oB)
    (d1 : o1.dst = some r1) (d2 : o2.dst = some r2) (d3 : o3.dst = some r3) (dB : oB.dst = some rB)
    (hlt : i1 < i2 ∧ i2 < i3 ∧ i3 < iB ∧ iB < n) (hs : r1 < a0.tmps.size ∧ r2 < a0.tmps.size ∧ r3 < a0.tmps.size ∧ rB < a0.tmps.size)
    (hneed : (needsB ops iB i1 && needsB ops iB i2 && needsB ops iB i3) = true)
    (hm : P.follows .mixedOrders = true) (hback : backB ops = true) (hown : ownSlotsB ops = true)
    (stab : ∀ j v w w', Grow w w' → Φ j v w → Φ j v w')
    (step : ∀ (i : Nat) (o : Oper), ops[i]? = some o → i < n → i ≠ i1 → i ≠ i2 → i ≠ i3 → i ≠ iB → ∀ (a : Act) (u : World), Frames ops a0 a → Grow w0 u →
      (∀ e ∈ o.after, Region.binds .any e = true → ∀ oj, ops[e.on]? = some oj → Φ e.on (slotOf oj a) u) →
      ∀ K' : Act → World → Prop, (∀ v u', Grow u u' → Φ i (slotOf o (a.put o.dst v)) u' → K' (a.put o.dst v) u') →
        if Region.wanted o (yielded ops a.tmps) = true then Oper.wp P o a u K' Q else K' (a.put o.dst undef) u)
    (step1 : ∀ (a : Act) (u : World), Frames ops a0 a → Grow w0 u → (∀ e ∈ o1.after, Region.binds .any e = true → ∀ oj, ops[e.on]? = some oj → Φ e.on (slotOf oj a) u) →
      ∀ K' : Act → World → Prop, (∀ v u', Grow u u' → OI u' u.heap.size u'.heap.size v d.i → K' (a.put o1.dst v) u') →
        if Region.wanted o1 (yielded ops a.tmps) = true then Oper.wp P o1 a u K' Q else K' (a.put o1.dst undef) u)
    (step2 : ∀ (a : Act) (u : World), Frames ops a0 a → Grow w0 u → (∀ e ∈ o2.after, Region.binds .any e = true → ∀ oj, ops[e.on]? = some oj → Φ e.on (slotOf oj a) u) →
      ∀ K' : Act → World → Prop, (∀ v u', Grow u u' → OI u' u.heap.size u'.heap.size v d.o → K' (a.put o2.dst v) u') →
        if Region.wanted o2 (yielded ops a.tmps) = true then Oper.wp P o2 a u K' Q else K' (a.put o2.dst undef) u)
    (step3 : ∀ (a : Act) (u : World), Frames ops a0 a → Grow w0 u → (∀ e ∈ o3.after, Region.binds .any e = true → ∀ oj, ops[e.on]? = some oj → Φ e.on (slotOf oj a) u) →
      ∀ K' : Act → World → Prop, (∀ v u', Grow u u' → OI u' u.heap.size u'.heap.size v d.v → K' (a.put o3.dst v) u') →
        if Region.wanted o3 (yielded ops a.tmps) = true then Oper.wp P o3 a u K' Q else K' (a.put o3.dst undef) u)
    (stepB : ∀ (a : Act) (u : World) (p1 p2 p3 : Option Go.Addr) (c1 c2 c3 : Nat), Frames ops a0 a → a.tmps[r1]?.getD undef = .slice p1 d.i.length c1 → a.tmps[r2]?.getD undef = .slice p2 d.o.length c2 → a.tmps[r3]?.getD undef = .slice p3 d.v.length c3 →
      ∀ K' : Act → World → Prop, K' (a.put oB.dst (.agg #[.slice p1 d.i.length c1, .slice p2 d.o.length c2, .slice p3 d.v.length c3])) u →
        if Region.wanted oB (yielded ops a.tmps) = true then Oper.wp P oB a u K' Q else K' (a.put oB.dst undef) u)
    (hΦ : ∀ v u, Φ i1 v u ∧ Φ i2 v u ∧ Φ i3 v u ∧ Φ iB v u)
    (fin : ∀ (a : Act) (u : World), Frames ops a0 a → Grow w0 u → MO u w0.heap.size u.heap.size (a.tmps.getD rB undef) d → (∀ (j : Nat) (oj : Oper), j < n → ops[j]? = some oj → Φ j (slotOf oj a) u) →
      ∀ K' : Act → World → Prop, (∀ a' w', Q .normal a' w' → K' a' w') → if Region.wanted on (yielded ops a.tmps) = true then Oper.wp P on a u K' Q else K' (a.put on.dst undef) u) :
    (Code.region id ops true).wp P Q a0 w0 := by
  have hg0 : ∀ u, Grow w0.drew u → Grow w0 u := fun u h => (Below.drew (Below.refl _ _)).trans h
  obtain ⟨l12, l23, l3B, lBn⟩ := hlt
  obtain ⟨s1, s2, s3, sB⟩ := hs
  simp only [Bool.and_eq_true] at hneed
  obtain ⟨⟨n1, n2⟩, n3⟩ := hneed
  have e12 : r1 ≠ r2 := fun e => ownSlots hown h1 h2 (by omega) d1 (by rw [d2, e])
  have e13 : r1 ≠ r3 := fun e => ownSlots hown h1 h3 (by omega) d1 (by rw [d3, e])
  have e23 : r2 ≠ r3 := fun e => ownSlots hown h2 h3 (by omega) d2 (by rw [d3, e])
  have e1B : r1 ≠ rB := fun e => ownSlots hown h1 hB (by omega) d1 (by rw [dB, e])
  have e2B : r2 ≠ rB := fun e => ownSlots hown h2 hB (by omega) d2 (by rw [dB, e])
  have e3B : r3 ≠ rB := fun e => ownSlots hown h3 hB (by omega) d3 (by rw [dB, e])
  refine wp_region_last (R := Grow) (Φ := Φ) (J := Mem3J d w0.heap.size i1 i2 i3 iB r1 r2 r3 rB) n on hn hon hlast hm hback hown (Below.refl _ _) grow_trans stab ?_ ?_ ?_
  · have g : ∀ i, i < n + 1 → (Array.replicate ops.size false).getD i true = false := fun i hi => by simp [hn, hi]
    refine ⟨fun h => ?_, fun h => ?_, fun h => ?_, fun h => ?_, fun h => ?_, fun h => ?_, fun h => ?_⟩
    · rw [g i1 (by omega)] at h; cases h
    · rw [g i2 (by omega)] at h; cases h
    · rw [g i3 (by omega)] at h; cases h
    · rw [g i1 (by omega)] at h; cases h
    · rw [g i1 (by omega)] at h; cases h
    · rw [g i2 (by omega)] at h; cases h
    · rw [g iB (by omega)] at h; cases h
  · intro i o ho hin L a u hf hr hsz hL hp he hj K' hK
    have hus : w0.heap.size ≤ u.heap.size := hr.size
    have t1 : r1 < a.tmps.size := by rw [hf.size]; exact s1
    have t2 : r2 < a.tmps.size := by rw [hf.size]; exact s2
    have t3 : r3 < a.tmps.size := by rw [hf.size]; exact s3
    have tB : rB < a.tmps.size := by rw [hf.size]; exact sB
    by_cases E1 : i = i1
    · subst E1
      rw [h1] at ho; cases ho
      refine step1 a u hf (hg0 u hr) (fun e h1 h2 oj hoj => hp _ oj hoj (he e h1 h2)) K' fun v u' hg hv => hK _ _ hg (hΦ _ _).1 ?_
      rw [d1]
      refine ⟨fun _ => ?_, fun h => ?_, fun h => ?_, fun _ h => ?_, fun _ h => ?_, fun h h' => ?_, fun h => ?_⟩
      · rw [getD_put_self _ _ _ t1]; exact hv.wide hus (Nat.le_refl _)
      · rw [getD_set_ne true (by omega)] at h; rw [getD_put_ne _ _ _ _ e12]; exact (hj.o2 h).grow hg
      · rw [getD_set_ne true (by omega)] at h; rw [getD_put_ne _ _ _ _ e13]; exact (hj.o3 h).grow hg
      · rw [getD_set_ne true (by omega)] at h; rw [getD_put_self _ _ _ t1, getD_put_ne _ _ _ _ e12]; exact apart_symm (apart_of (hj.o2 h) hv (Nat.le_refl _))
      · rw [getD_set_ne true (by omega)] at h; rw [getD_put_self _ _ _ t1, getD_put_ne _ _ _ _ e13]; exact apart_symm (apart_of (hj.o3 h) hv (Nat.le_refl _))
      · rw [getD_set_ne true (by omega)] at h h'; rw [getD_put_ne _ _ _ _ e12, getD_put_ne _ _ _ _ e13]; exact hj.p23 h h'
      · rw [getD_set_ne true (by omega)] at h; rw [getD_put_ne _ _ _ _ e1B]; exact (hj.b h).grow hg
    by_cases E2 : i = i2
    · subst E2
      rw [h2] at ho; cases ho
      refine step2 a u hf (hg0 u hr) (fun e h1 h2 oj hoj => hp _ oj hoj (he e h1 h2)) K' fun v u' hg hv => hK _ _ hg (hΦ _ _).2.1 ?_
      rw [d2]
      refine ⟨fun h => ?_, fun _ => ?_, fun h => ?_, fun h _ => ?_, fun h h' => ?_, fun _ h => ?_, fun h => ?_⟩
      · rw [getD_set_ne true (by omega)] at h; rw [getD_put_ne _ _ _ _ e12.symm]; exact (hj.o1 h).grow hg
      · rw [getD_put_self _ _ _ t2]; exact hv.wide hus (Nat.le_refl _)
      · rw [getD_set_ne true (by omega)] at h; rw [getD_put_ne _ _ _ _ e23]; exact (hj.o3 h).grow hg
      · rw [getD_set_ne true (by omega)] at h; rw [getD_put_self _ _ _ t2, getD_put_ne _ _ _ _ e12.symm]; exact apart_of (hj.o1 h) hv (Nat.le_refl _)
      · rw [getD_set_ne true (by omega)] at h h'; rw [getD_put_ne _ _ _ _ e12.symm, getD_put_ne _ _ _ _ e23]; exact hj.p13 h h'
      · rw [getD_set_ne true (by omega)] at h; rw [getD_put_self _ _ _ t2, getD_put_ne _ _ _ _ e23]; exact apart_symm (apart_of (hj.o3 h) hv (Nat.le_refl _))
      · rw [getD_set_ne true (by omega)] at h; rw [getD_put_ne _ _ _ _ e2B]; exact (hj.b h).grow hg
    by_cases E3 : i = i3
    · subst E3
      rw [h3] at ho; cases ho
      refine step3 a u hf (hg0 u hr) (fun e h1 h2 oj hoj => hp _ oj hoj (he e h1 h2)) K' fun v u' hg hv => hK _ _ hg (hΦ _ _).2.2.1 ?_
      rw [d3]
      refine ⟨fun h => ?_, fun h => ?_, fun _ => ?_, fun h h' => ?_, fun h _ => ?_, fun h _ => ?_, fun h => ?_⟩
      · rw [getD_set_ne true (by omega)] at h; rw [getD_put_ne _ _ _ _ e13.symm]; exact (hj.o1 h).grow hg
      · rw [getD_set_ne true (by omega)] at h; rw [getD_put_ne _ _ _ _ e23.symm]; exact (hj.o2 h).grow hg
      · rw [getD_put_self _ _ _ t3]; exact hv.wide hus (Nat.le_refl _)
      · rw [getD_set_ne true (by omega)] at h h'; rw [getD_put_ne _ _ _ _ e13.symm, getD_put_ne _ _ _ _ e23.symm]; exact hj.p12 h h'
      · rw [getD_set_ne true (by omega)] at h; rw [getD_put_self _ _ _ t3, getD_put_ne _ _ _ _ e13.symm]; exact apart_of (hj.o1 h) hv (Nat.le_refl _)
      · rw [getD_set_ne true (by omega)] at h; rw [getD_put_self _ _ _ t3, getD_put_ne _ _ _ _ e23.symm]; exact apart_of (hj.o2 h) hv (Nat.le_refl _)
      · rw [getD_set_ne true (by omega)] at h; rw [getD_put_ne _ _ _ _ e3B]; exact (hj.b h).grow hg
    by_cases EB : i = iB
    · subst EB
      rw [hB] at ho; cases ho
      have L1 := needs_of n1 hB he
      have L2 := needs_of n2 hB he
      have L3 := needs_of n3 hB he
      have q1 := hj.o1 L1
      have q2 := hj.o2 L2
      have q3 := hj.o3 L3
      have q12 := hj.p12 L1 L2
      have q13 := hj.p13 L1 L3
      have q23 := hj.p23 L2 L3
      obtain ⟨p1, c1, f1⟩ := q1.si.shape
      obtain ⟨p2, c2, f2⟩ := q2.si.shape
      obtain ⟨p3, c3, f3⟩ := q3.si.shape
      have f1' : a.tmps[r1]?.getD undef = .slice p1 d.i.length c1 := by rw [← f1]; exact (Array.getD_eq_getD_getElem? ..).symm
      have f2' : a.tmps[r2]?.getD undef = .slice p2 d.o.length c2 := by rw [← f2]; exact (Array.getD_eq_getD_getElem? ..).symm
      have f3' : a.tmps[r3]?.getD undef = .slice p3 d.v.length c3 := by rw [← f3]; exact (Array.getD_eq_getD_getElem? ..).symm
      refine stepB a u p1 p2 p3 c1 c2 c3 hf f1' f2' f3' K' (hK _ _ (Below.refl _ _) (hΦ _ _).2.2.2 ?_)
      rw [dB]
      have g1 := getD_put_ne a rB r1 (.agg #[.slice p1 d.i.length c1, .slice p2 d.o.length c2, .slice p3 d.v.length c3]) e1B.symm
      have g2 := getD_put_ne a rB r2 (.agg #[.slice p1 d.i.length c1, .slice p2 d.o.length c2, .slice p3 d.v.length c3]) e2B.symm
      have g3 := getD_put_ne a rB r3 (.agg #[.slice p1 d.i.length c1, .slice p2 d.o.length c2, .slice p3 d.v.length c3]) e3B.symm
      refine ⟨fun _ => ?_, fun _ => ?_, fun _ => ?_, fun _ _ => ?_, fun _ _ => ?_, fun _ _ => ?_, fun _ => ?_⟩
      · rw [g1]; exact q1
      · rw [g2]; exact q2
      · rw [g3]; exact q3
      · rw [g1, g2]; exact q12
      · rw [g1, g3]; exact q13
      · rw [g2, g3]; exact q23
      · rw [getD_put_self _ _ _ tB]
        exact ⟨_, _, _, rfl, f1 ▸ q1, f2 ▸ q2, f3 ▸ q3, f1 ▸ f2 ▸ q12, f1 ▸ f3 ▸ q13, f2 ▸ f3 ▸ q23⟩
    · refine step i o ho hin E1 E2 E3 EB a u hf (hg0 u hr) (fun e h1 h2 oj hoj => hp _ oj hoj (he e h1 h2)) K' fun v u' hg hphi => hK v u' hg hphi ?_
      have hsp : ∀ t, (∃ j oj, ops[j]? = some oj ∧ oj.dst = some t ∧ i ≠ j) → (a.put o.dst v).tmps.getD t undef = a.tmps.getD t undef := by
        rintro t ⟨j, oj, hj, hd, hne⟩
        cases hdo : o.dst with
        | none => rfl
        | some d => exact getD_put_ne _ _ _ _ (fun e => ownSlots hown ho hj hne hdo (by rw [hd, e]))
      have g1 := hsp r1 ⟨i1, o1, h1, d1, E1⟩
      have g2 := hsp r2 ⟨i2, o2, h2, d2, E2⟩
      have g3 := hsp r3 ⟨i3, o3, h3, d3, E3⟩
      have gB := hsp rB ⟨iB, oB, hB, dB, EB⟩
      have k1 := getD_set_ne (listed := L) true E1
      have k2 := getD_set_ne (listed := L) true E2
      have k3 := getD_set_ne (listed := L) true E3
      have kB := getD_set_ne (listed := L) true EB
      refine ⟨?_, ?_, ?_, ?_, ?_, ?_, ?_⟩
      · rw [k1, g1]; exact fun h => (hj.o1 h).grow hg
      · rw [k2, g2]; exact fun h => (hj.o2 h).grow hg
      · rw [k3, g3]; exact fun h => (hj.o3 h).grow hg
      · rw [k1, k2, g1, g2]; exact hj.p12
      · rw [k1, k3, g1, g3]; exact hj.p13
      · rw [k2, k3, g2, g3]; exact hj.p23
      · rw [kB, gB]; exact fun h => (hj.b h).grow hg
  · intro L a u hf hr hp hj K' hK
    exact fin a u hf (hg0 u hr) (hj.b (hp iB oB lBn hB).1) (fun j oj h5 h6 => (hp j oj h5 h6).2) K' hK
end
end Go.Proofs.YtdhpbiplkjpiiaaGreatDoor

/-
  A memory in three arrays (impl.cells), copied out into three new lists; a memory of zeros, of the program and of the model.
-/
namespace Go.Proofs.YtdhpbiplkjpiiaaGreatDoor
open Go.ChangeShapes Go.WideShapes Go.ChangeAt Go.RowKit
set_option linter.unusedVariables false
set_option maxRecDepth 100000

/-- The value of three arrays of six numbers. -/
def cv (f : Nat → Int) : Value := .agg #[.int .i64 (f 0), .int .i64 (f 1), .int .i64 (f 2), .int .i64 (f 3), .int .i64 (f 4), .int .i64 (f 5), .int .i64 (f 6), .int .i64 (f 7), .int .i64 (f 8), .int .i64 (f 9), .int .i64 (f 10), .int .i64 (f 11), .int .i64 (f 12), .int .i64 (f 13), .int .i64 (f 14), .int .i64 (f 15), .int .i64 (f 16), .int .i64 (f 17)]

def memOf (f : Nat → Int) : MemD := ⟨[f 0, f 1, f 2, f 3, f 4, f 5], [f 6, f 7, f 8, f 9, f 10, f 11], [f 12, f 13, f 14, f 15, f 16, f 17]⟩

theorem ci6 {u : World} {B off : Nat} {x0 x1 x2 x3 x4 x5 : Int} (h : ∀ j, j < 6 → u.cell? ⟨B, off + j, none⟩ = some (.int .i64 ([x0, x1, x2, x3, x4, x5].getD j 0))) : CI u B off [x0, x1, x2, x3, x4, x5] := by
  intro i x hx
  have hi : i < 6 := (List.getElem?_eq_some_iff.mp hx).1
  rw [h i hi]
  simp [List.getD, hx]

theorem six_ne (x0 x1 x2 x3 x4 x5 : Int) : [x0, x1, x2, x3, x4, x5] ≠ [] := by simp

set_option maxHeartbeats 4000000 in
theorem cellsMem_any (w : World) (f : Nat → Int) :
    Calls Tryz.prog 24 #[cv f] w fun e w' => ∃ m', e = .returned m' ∧ MO w' w.heap.size w'.heap.size m' (memOf f) ∧ Below w.heap.size w w' := by
  unfold cv
  go_enter Tryz.func24, Tryz.ntmps24
  go_wp2_with fail
  obtain ⟨u0, hu0, B0, C0, Z0, S0⟩ : ∃ u0, (w.alloc (.cells #[.int .i64 (f 0), .int .i64 (f 1), .int .i64 (f 2), .int .i64 (f 3), .int .i64 (f 4), .int .i64 (f 5), .int .i64 (f 6), .int .i64 (f 7), .int .i64 (f 8), .int .i64 (f 9), .int .i64 (f 10), .int .i64 (f 11), .int .i64 (f 12), .int .i64 (f 13), .int .i64 (f 14), .int .i64 (f 15), .int .i64 (f 16), .int .i64 (f 17)] 54)).alloc (.cells #[.slice none 0 0, .slice none 0 0, .slice none 0 0] 28) = u0 ∧ Below w.heap.size w u0 ∧
      (∀ j v, (#[.int .i64 (f 0), .int .i64 (f 1), .int .i64 (f 2), .int .i64 (f 3), .int .i64 (f 4), .int .i64 (f 5), .int .i64 (f 6), .int .i64 (f 7), .int .i64 (f 8), .int .i64 (f 9), .int .i64 (f 10), .int .i64 (f 11), .int .i64 (f 12), .int .i64 (f 13), .int .i64 (f 14), .int .i64 (f 15), .int .i64 (f 16), .int .i64 (f 17)] : Array Value)[j]? = some v → u0.cell? ⟨w.heap.size, j, none⟩ = some v) ∧ Zero 3 u0 (w.heap.size + 1) ∧ u0.heap.size = w.heap.size + 2 :=
    ⟨_, rfl, ((Below.refl _ _).alloc (Nat.le_refl _) _).alloc (by simp) _, fun j v hv => by rw [World.cell?_alloc2_first]; exact hv, by have := zero3_new (w.alloc (.cells #[.int .i64 (f 0), .int .i64 (f 1), .int .i64 (f 2), .int .i64 (f 3), .int .i64 (f 4), .int .i64 (f 5), .int .i64 (f 6), .int .i64 (f 7), .int .i64 (f 8), .int .i64 (f 9), .int .i64 (f 10), .int .i64 (f 11), .int .i64 (f 12), .int .i64 (f 13), .int .i64 (f 14), .int .i64 (f 15), .int .i64 (f 16), .int .i64 (f 17)] 54)) (.slice none 0 0) (.slice none 0 0) (.slice none 0 0) 28; simpa using this, by simp⟩
  rw [hu0]
  clear hu0
  refine wp_region_mem3 (Φ := fun j v u => match j with
      | 0 => v = .pointer (some ⟨w.heap.size, 0, none⟩)
      | 3 => v = .pointer (some ⟨w.heap.size, 6, none⟩)
      | 6 => v = .pointer (some ⟨w.heap.size, 12, none⟩)
      | 1 => v = .slice (some ⟨w.heap.size, 0, none⟩) 6 6
      | 4 => v = .slice (some ⟨w.heap.size, 6, none⟩) 6 6
      | 7 => v = .slice (some ⟨w.heap.size, 12, none⟩) 6 6
      | _ => True) 10 2 5 8 9 _ _ _ _ _ 5 8 11 12 (memOf f) rfl rfl (by kernel_rfl) rfl rfl rfl rfl rfl rfl rfl rfl (by omega) (by simp) (by kernel_rfl) (by kernel_rfl) (by kernel_rfl) (by kernel_rfl) ?_ ?_ ?_ ?_ ?_ ?_ ?_ ?_
  · intro j v u u' hr
    match j with
    | 0 | 1 | 2 | 3 | 4 | 5 | 6 | 7 | 8 | _ + 9 => exact fun h => h
  · intro i o ho hin n2 n5 n8 n9 a u hf hr he K' hK
    have hsz' : a.tmps.size = 13 := hf.size
    have putat : ∀ (t : Nat) (v : Value), t < a.tmps.size → (a.put (some t) v).tmps.getD t undef = v := fun t v ht => by
      show (a.tmps.setIfInBounds t v).getD t undef = v
      simp [ht]
    rcases i with _ | _ | _ | _ | _ | _ | _ | _ | _ | _ | i
    · obtain rfl := Option.some.inj ho
      clear he
      have f1 : a.tmps.getD 1 undef = .pointer (some ⟨w.heap.size, 0, none⟩) := hf.at_ 1 (by kernel_rfl)
      go_simp
      exact hK _ _ (Below.refl _ _) (putat 3 _ (by omega))
    · obtain rfl := Option.some.inj ho
      have f1 : a.tmps.getD 3 undef = .pointer (some ⟨w.heap.size, 0, none⟩) := he _ (Array.mem_of_getElem? (i := 0) rfl) (by kernel_rfl) _ rfl
      clear he
      go_simp
      exact hK _ _ (Below.refl _ _) (putat 4 _ (by omega))
    · exact absurd rfl n2
    · obtain rfl := Option.some.inj ho
      clear he
      have f1 : a.tmps.getD 1 undef = .pointer (some ⟨w.heap.size, 0, none⟩) := hf.at_ 1 (by kernel_rfl)
      go_simp
      exact hK _ _ (Below.refl _ _) (putat 6 _ (by omega))
    · obtain rfl := Option.some.inj ho
      have f1 : a.tmps.getD 6 undef = .pointer (some ⟨w.heap.size, 6, none⟩) := he _ (Array.mem_of_getElem? (i := 0) rfl) (by kernel_rfl) _ rfl
      clear he
      go_simp
      exact hK _ _ (Below.refl _ _) (putat 7 _ (by omega))
    · exact absurd rfl n5
    · obtain rfl := Option.some.inj ho
      clear he
      have f1 : a.tmps.getD 1 undef = .pointer (some ⟨w.heap.size, 0, none⟩) := hf.at_ 1 (by kernel_rfl)
      go_simp
      exact hK _ _ (Below.refl _ _) (putat 9 _ (by omega))
    · obtain rfl := Option.some.inj ho
      have f1 : a.tmps.getD 9 undef = .pointer (some ⟨w.heap.size, 12, none⟩) := he _ (Array.mem_of_getElem? (i := 0) rfl) (by kernel_rfl) _ rfl
      clear he
      go_simp
      exact hK _ _ (Below.refl _ _) (putat 10 _ (by omega))
    · exact absurd rfl n8
    · exact absurd rfl n9
    · exact absurd hin (by omega)
  · intro a u hf hr he K' hK
    have f1 : a.tmps.getD 4 undef = .slice (some ⟨w.heap.size, 0, none⟩) 6 6 := he _ (Array.mem_of_getElem? (i := 0) rfl) (by kernel_rfl) _ rfl
    clear he
    have hc : CI u w.heap.size 0 [f 0, f 1, f 2, f 3, f 4, f 5] := ci6 fun j hj => by
      rw [hr.cell (p := ⟨w.heap.size, 0 + j, none⟩) (by show w.heap.size < u0.heap.size; omega)]
      refine C0 _ _ ?_
      match j, hj with
      | 0, _ | 1, _ | 2, _ | 3, _ | 4, _ | 5, _ => rfl
    go_simp
    refine (iClone_any u w.heap.size 0 6 [f 0, f 1, f 2, f 3, f 4, f 5] (six_ne _ _ _ _ _ _) (by simp) hc).mono ?_
    rintro e w1 ⟨v', rfl, ho, hb⟩
    exact hK _ _ hb ho
  · intro a u hf hr he K' hK
    have f1 : a.tmps.getD 7 undef = .slice (some ⟨w.heap.size, 6, none⟩) 6 6 := he _ (Array.mem_of_getElem? (i := 0) rfl) (by kernel_rfl) _ rfl
    clear he
    have hc : CI u w.heap.size 6 [f 6, f 7, f 8, f 9, f 10, f 11] := ci6 fun j hj => by
      rw [hr.cell (p := ⟨w.heap.size, 6 + j, none⟩) (by show w.heap.size < u0.heap.size; omega)]
      refine C0 _ _ ?_
      match j, hj with
      | 0, _ | 1, _ | 2, _ | 3, _ | 4, _ | 5, _ => rfl
    go_simp
    refine (iClone_any u w.heap.size 6 6 [f 6, f 7, f 8, f 9, f 10, f 11] (six_ne _ _ _ _ _ _) (by simp) hc).mono ?_
    rintro e w1 ⟨v', rfl, ho, hb⟩
    exact hK _ _ hb ho
  · intro a u hf hr he K' hK
    have f1 : a.tmps.getD 10 undef = .slice (some ⟨w.heap.size, 12, none⟩) 6 6 := he _ (Array.mem_of_getElem? (i := 0) rfl) (by kernel_rfl) _ rfl
    clear he
    have hc : CI u w.heap.size 12 [f 12, f 13, f 14, f 15, f 16, f 17] := ci6 fun j hj => by
      rw [hr.cell (p := ⟨w.heap.size, 12 + j, none⟩) (by show w.heap.size < u0.heap.size; omega)]
      refine C0 _ _ ?_
      match j, hj with
      | 0, _ | 1, _ | 2, _ | 3, _ | 4, _ | 5, _ => rfl
    go_simp
    refine (iClone_any u w.heap.size 12 6 [f 12, f 13, f 14, f 15, f 16, f 17] (six_ne _ _ _ _ _ _) (by simp) hc).mono ?_
    rintro e w1 ⟨v', rfl, ho, hb⟩
    exact hK _ _ hb ho
  · intro a u p1 p2 p3 c1 c2 c3 hf e1 e2 e3 K' hK
    go_simp
    exact hK
  · exact fun v u => ⟨trivial, trivial, trivial, trivial⟩
  · intro a u hf hr hm hp K' hK
    have f1 : a.tmps.getD 2 undef = .pointer (some ⟨w.heap.size + 1, 0, none⟩) := hf.at_ 2 (by kernel_rfl)
    have hm0 := hm
    obtain ⟨qa, qb, qc, e1, k1, k2, k3⟩ := hm.mi
    obtain ⟨pa, ca, rfl⟩ := k1.shape
    obtain ⟨pb, cb, rfl⟩ := k2.shape
    obtain ⟨pc, cc, rfl⟩ := k3.shape
    clear k1 k2 k3 hm
    rw [e1] at hm0
    have hzz := Z0.grow hr (by omega)
    have hBs : w.heap.size + 1 < u.heap.size := by have := hr.size; omega
    obtain ⟨u1, hu1, G1, X1, M1, S1⟩ := store3 (w0 := w) (B0.trans (hr.mono (by omega))) (by omega) hBs hzz hm0 (.inl (by omega))
    obtain ⟨z0, zf0⟩ := hzz 0 (by omega)
    obtain ⟨z1, zf1⟩ := hzz 1 (by omega)
    obtain ⟨z2, zf2⟩ := hzz 2 (by omega)
    obtain ⟨x0, y0⟩ := Option.isSome_iff_exists.mp z0
    obtain ⟨x1, y1⟩ := Option.isSome_iff_exists.mp z1
    obtain ⟨x2, y2⟩ := Option.isSome_iff_exists.mp z2
    have e1' : a.tmps.getD 12 undef = .agg #[.slice pa (memOf f).i.length ca, .slice pb (memOf f).o.length cb, .slice pc (memOf f).v.length cc] := e1
    have fd : a.defers = [] := hf.defers
    clear hp
    go_simp
    refine hK _ _ ?_
    obtain ⟨s0, s1, s2⟩ := X1
    have HM : Hid (MO u1 w.heap.size u1.heap.size (.agg #[.slice pa (memOf f).i.length ca, .slice pb (memOf f).o.length cb, .slice pc (memOf f).v.length cc]) (memOf f)) := by
      obtain ⟨a1, a2, a3, em, g1, g2, g3, g4⟩ := M1
      exact ⟨a1, a2, a3, em, g1.wide (by omega) (by omega), g2.wide (by omega) (by omega), g3.wide (by omega) (by omega), g4⟩
    clear hu1 M1 hm0 e1 e1' y0 y1 y2 z0 z1 z2 zf0 zf1 zf2 hK hf
    go_wp2
    rw [Array.getD_eq_getD_getElem?] at f1
    exact bodyPost_ret (v := .agg #[.slice pa (memOf f).i.length ca, .slice pb (memOf f).o.length cb, .slice pc (memOf f).v.length cc]) (by simp [results, Tryz.results24, go_sem, f1, s0, s1, s2]) fd ⟨_, rfl, HM.out, G1⟩

/-- A memory of zeros. -/
def memZero : MemD := memOf fun _ => 0


theorem oi_made (u : World) (t : TypeId) : OI (u.alloc (.cells #[.int .i64 0, .int .i64 0, .int .i64 0, .int .i64 0, .int .i64 0, .int .i64 0] t)) u.heap.size (u.heap.size + 1) (.slice (some ⟨u.heap.size, 0, none⟩) 6 6) [0, 0, 0, 0, 0, 0] := by
  refine .inr ⟨u.heap.size, 0, 6, rfl, by simp, by unfold maxLen; omega, Nat.le_refl _, by omega, ci6 fun j hj => ?_, fun i => ?_⟩
  · rw [World.cell?_alloc_new]
    match j, hj with
    | 0, _ | 1, _ | 2, _ | 3, _ | 4, _ | 5, _ => rfl
  · exact World.frozen?_alloc_new _ _ _ _

theorem zeros6 : Array.map (fun x => (Value.int IntKind.i64 0).cells[x % (Value.int IntKind.i64 0).cells.size]!) (Array.range (6 * 1)) = #[.int .i64 0, .int .i64 0, .int .i64 0, .int .i64 0, .int .i64 0, .int .i64 0] := by
  first
    | kernel_rfl
    | (simp [Value.cells]; rfl)

end Go.Proofs.YtdhpbiplkjpiiaaGreatDoor

/-
  Memory in three arrays of six numbers (impl.cells), as a variable of eighteen cells: read, stored.
-/
namespace Go.Proofs.YtdhpbiplkjpiiaaGreatDoor
open Go.ChangeShapes Go.WideShapes Go.ChangeAt Go.RowKit
set_option linter.unusedVariables false
set_option maxRecDepth 100000

/-- A variable of eighteen numbers. -/
def Box18 (u : World) (B : Nat) (g : Nat → Int) : Prop := ∀ j, j < 18 → u.cell? ⟨B, j, none⟩ = some (.int .i64 (g j))

theorem Box18.all {u : World} {B : Nat} {g : Nat → Int} (h : Box18 u B g) : u.cell? ⟨B, 0, none⟩ = some (.int .i64 (g 0)) ∧ u.cell? ⟨B, 1, none⟩ = some (.int .i64 (g 1)) ∧ u.cell? ⟨B, 2, none⟩ = some (.int .i64 (g 2)) ∧ u.cell? ⟨B, 3, none⟩ = some (.int .i64 (g 3)) ∧ u.cell? ⟨B, 4, none⟩ = some (.int .i64 (g 4)) ∧ u.cell? ⟨B, 5, none⟩ = some (.int .i64 (g 5)) ∧ u.cell? ⟨B, 6, none⟩ = some (.int .i64 (g 6)) ∧ u.cell? ⟨B, 7, none⟩ = some (.int .i64 (g 7)) ∧ u.cell? ⟨B, 8, none⟩ = some (.int .i64 (g 8)) ∧ u.cell? ⟨B, 9, none⟩ = some (.int .i64 (g 9)) ∧ u.cell? ⟨B, 10, none⟩ = some (.int .i64 (g 10)) ∧ u.cell? ⟨B, 11, none⟩ = some (.int .i64 (g 11)) ∧ u.cell? ⟨B, 12, none⟩ = some (.int .i64 (g 12)) ∧ u.cell? ⟨B, 13, none⟩ = some (.int .i64 (g 13)) ∧ u.cell? ⟨B, 14, none⟩ = some (.int .i64 (g 14)) ∧ u.cell? ⟨B, 15, none⟩ = some (.int .i64 (g 15)) ∧ u.cell? ⟨B, 16, none⟩ = some (.int .i64 (g 16)) ∧ u.cell? ⟨B, 17, none⟩ = some (.int .i64 (g 17)) :=
  ⟨h 0 (by omega), h 1 (by omega), h 2 (by omega), h 3 (by omega), h 4 (by omega), h 5 (by omega), h 6 (by omega), h 7 (by omega), h 8 (by omega), h 9 (by omega), h 10 (by omega), h 11 (by omega), h 12 (by omega), h 13 (by omega), h 14 (by omega), h 15 (by omega), h 16 (by omega), h 17 (by omega)⟩

theorem Zero.all18 {u : World} {B : Nat} (h : Zero 18 u B) : (∃ x : Nat → Value, u.cell? ⟨B, 0, none⟩ = some (x 0) ∧ u.cell? ⟨B, 1, none⟩ = some (x 1) ∧ u.cell? ⟨B, 2, none⟩ = some (x 2) ∧ u.cell? ⟨B, 3, none⟩ = some (x 3) ∧ u.cell? ⟨B, 4, none⟩ = some (x 4) ∧ u.cell? ⟨B, 5, none⟩ = some (x 5) ∧ u.cell? ⟨B, 6, none⟩ = some (x 6) ∧ u.cell? ⟨B, 7, none⟩ = some (x 7) ∧ u.cell? ⟨B, 8, none⟩ = some (x 8) ∧ u.cell? ⟨B, 9, none⟩ = some (x 9) ∧ u.cell? ⟨B, 10, none⟩ = some (x 10) ∧ u.cell? ⟨B, 11, none⟩ = some (x 11) ∧ u.cell? ⟨B, 12, none⟩ = some (x 12) ∧ u.cell? ⟨B, 13, none⟩ = some (x 13) ∧ u.cell? ⟨B, 14, none⟩ = some (x 14) ∧ u.cell? ⟨B, 15, none⟩ = some (x 15) ∧ u.cell? ⟨B, 16, none⟩ = some (x 16) ∧ u.cell? ⟨B, 17, none⟩ = some (x 17)) ∧ u.frozen? ⟨B, 0, none⟩ = false ∧ u.frozen? ⟨B, 1, none⟩ = false ∧ u.frozen? ⟨B, 2, none⟩ = false ∧ u.frozen? ⟨B, 3, none⟩ = false ∧ u.frozen? ⟨B, 4, none⟩ = false ∧ u.frozen? ⟨B, 5, none⟩ = false ∧ u.frozen? ⟨B, 6, none⟩ = false ∧ u.frozen? ⟨B, 7, none⟩ = false ∧ u.frozen? ⟨B, 8, none⟩ = false ∧ u.frozen? ⟨B, 9, none⟩ = false ∧ u.frozen? ⟨B, 10, none⟩ = false ∧ u.frozen? ⟨B, 11, none⟩ = false ∧ u.frozen? ⟨B, 12, none⟩ = false ∧ u.frozen? ⟨B, 13, none⟩ = false ∧ u.frozen? ⟨B, 14, none⟩ = false ∧ u.frozen? ⟨B, 15, none⟩ = false ∧ u.frozen? ⟨B, 16, none⟩ = false ∧ u.frozen? ⟨B, 17, none⟩ = false := by
  have hx : ∀ j, ∃ x, j < 18 → u.cell? ⟨B, j, none⟩ = some x := fun j => by
    by_cases hj : j < 18
    · obtain ⟨x, hx⟩ := Option.isSome_iff_exists.mp (h j hj).1
      exact ⟨x, fun _ => hx⟩
    · exact ⟨.bool false, fun h => absurd h hj⟩
  refine ⟨⟨fun j => Classical.choose (hx j), Classical.choose_spec (hx 0) (by omega), Classical.choose_spec (hx 1) (by omega), Classical.choose_spec (hx 2) (by omega), Classical.choose_spec (hx 3) (by omega), Classical.choose_spec (hx 4) (by omega), Classical.choose_spec (hx 5) (by omega), Classical.choose_spec (hx 6) (by omega), Classical.choose_spec (hx 7) (by omega), Classical.choose_spec (hx 8) (by omega), Classical.choose_spec (hx 9) (by omega), Classical.choose_spec (hx 10) (by omega), Classical.choose_spec (hx 11) (by omega), Classical.choose_spec (hx 12) (by omega), Classical.choose_spec (hx 13) (by omega), Classical.choose_spec (hx 14) (by omega), Classical.choose_spec (hx 15) (by omega), Classical.choose_spec (hx 16) (by omega), Classical.choose_spec (hx 17) (by omega)⟩, (h 0 (by omega)).2, (h 1 (by omega)).2, (h 2 (by omega)).2, (h 3 (by omega)).2, (h 4 (by omega)).2, (h 5 (by omega)).2, (h 6 (by omega)).2, (h 7 (by omega)).2, (h 8 (by omega)).2, (h 9 (by omega)).2, (h 10 (by omega)).2, (h 11 (by omega)).2, (h 12 (by omega)).2, (h 13 (by omega)).2, (h 14 (by omega)).2, (h 15 (by omega)).2, (h 16 (by omega)).2, (h 17 (by omega)).2⟩

theorem Box18.below {u u' : World} {B n : Nat} {g : Nat → Int} (h : Box18 u B g) (hb : Below n u u') (hB : B < n) : Box18 u' B g := fun j hj => by
  rw [hb.cell (p := ⟨B, j, none⟩) hB]; exact h j hj

theorem Box18.zero {u : World} {B : Nat} {g : Nat → Int} (h : Box18 u B g) (hf : ∀ j, j < 18 → u.frozen? ⟨B, j, none⟩ = false) : Zero 18 u B := fun j hj => ⟨by rw [h j hj]; rfl, hf j hj⟩

theorem box18_new (u : World) (f : Nat → Int) (t : TypeId) : Box18 (u.alloc (.cells #[.int .i64 (f 0), .int .i64 (f 1), .int .i64 (f 2), .int .i64 (f 3), .int .i64 (f 4), .int .i64 (f 5), .int .i64 (f 6), .int .i64 (f 7), .int .i64 (f 8), .int .i64 (f 9), .int .i64 (f 10), .int .i64 (f 11), .int .i64 (f 12), .int .i64 (f 13), .int .i64 (f 14), .int .i64 (f 15), .int .i64 (f 16), .int .i64 (f 17)] t)) u.heap.size f := fun j hj => by
  rw [World.cell?_alloc_new]
  rcases j with _ | _ | _ | _ | _ | _ | _ | _ | _ | _ | _ | _ | _ | _ | _ | _ | _ | _ | j
  · rfl
  · rfl
  · rfl
  · rfl
  · rfl
  · rfl
  · rfl
  · rfl
  · rfl
  · rfl
  · rfl
  · rfl
  · rfl
  · rfl
  · rfl
  · rfl
  · rfl
  · rfl
  · omega

theorem zero18_new (u : World) (f : Nat → Int) (t : TypeId) : Zero 18 (u.alloc (.cells #[.int .i64 (f 0), .int .i64 (f 1), .int .i64 (f 2), .int .i64 (f 3), .int .i64 (f 4), .int .i64 (f 5), .int .i64 (f 6), .int .i64 (f 7), .int .i64 (f 8), .int .i64 (f 9), .int .i64 (f 10), .int .i64 (f 11), .int .i64 (f 12), .int .i64 (f 13), .int .i64 (f 14), .int .i64 (f 15), .int .i64 (f 16), .int .i64 (f 17)] t)) u.heap.size :=
  (box18_new u f t).zero fun j hj => World.frozen?_alloc_new _ _ _ _

/-- Numbers stored one behind another. -/
def setAll (u : World) (B : Nat) (f : Nat → Int) : Nat → World
  | 0 => u
  | n + 1 => (setAll u B f n).setCell ⟨B, n, none⟩ (.int .i64 (f n))

theorem setAll_wrote (u : World) (B : Nat) (f : Nat → Int) : ∀ n, Wrote (fun b o => b = B) u (setAll u B f n)
  | 0 => Wrote.refl _ _
  | n + 1 => (setAll_wrote u B f n).setCell (P := fun b o => b = B) (b := B) (o := n) rfl _

theorem setAll_cell {u : World} {B : Nat} {f : Nat → Int} : ∀ n, (∀ j, j < n → (u.cell? ⟨B, j, none⟩).isSome = true) →
    (∀ j, j < n → (setAll u B f n).cell? ⟨B, j, none⟩ = some (.int .i64 (f j))) ∧ ∀ j, n ≤ j → (setAll u B f n).cell? ⟨B, j, none⟩ = u.cell? ⟨B, j, none⟩
  | 0, _ => ⟨fun j hj => by omega, fun _ _ => rfl⟩
  | n + 1, h => by
    obtain ⟨h1, h2⟩ := setAll_cell (f := f) n fun j hj => h j (by omega)
    refine ⟨fun j hj => ?_, fun j hj => ?_⟩
    · by_cases e : j = n
      · subst e
        obtain ⟨x, hx⟩ := Option.isSome_iff_exists.mp (h j (by omega))
        exact World.cell?_setCell_same _ _ _ (by rw [h2 j (Nat.le_refl _)]; exact hx)
      · show ((setAll u B f n).setCell ⟨B, n, none⟩ _).cell? ⟨B, j, none⟩ = _
        rw [cell_set_other _ (.inr e)]
        exact h1 j (by omega)
    · show ((setAll u B f n).setCell ⟨B, n, none⟩ _).cell? ⟨B, j, none⟩ = _
      rw [cell_set_other _ (.inr (by omega))]
      exact h2 j (by omega)

theorem store18 {u : World} {B : Nat} (f : Nat → Int) (hz : Zero 18 u B) :
    ∃ u1, (((((((((((((((((u.setCell ⟨B, 0, none⟩ (.int .i64 (f 0))).setCell ⟨B, 1, none⟩ (.int .i64 (f 1))).setCell ⟨B, 2, none⟩ (.int .i64 (f 2))).setCell ⟨B, 3, none⟩ (.int .i64 (f 3))).setCell ⟨B, 4, none⟩ (.int .i64 (f 4))).setCell ⟨B, 5, none⟩ (.int .i64 (f 5))).setCell ⟨B, 6, none⟩ (.int .i64 (f 6))).setCell ⟨B, 7, none⟩ (.int .i64 (f 7))).setCell ⟨B, 8, none⟩ (.int .i64 (f 8))).setCell ⟨B, 9, none⟩ (.int .i64 (f 9))).setCell ⟨B, 10, none⟩ (.int .i64 (f 10))).setCell ⟨B, 11, none⟩ (.int .i64 (f 11))).setCell ⟨B, 12, none⟩ (.int .i64 (f 12))).setCell ⟨B, 13, none⟩ (.int .i64 (f 13))).setCell ⟨B, 14, none⟩ (.int .i64 (f 14))).setCell ⟨B, 15, none⟩ (.int .i64 (f 15))).setCell ⟨B, 16, none⟩ (.int .i64 (f 16))).setCell ⟨B, 17, none⟩ (.int .i64 (f 17)) = u1 ∧ Wrote (fun b o => b = B) u u1 ∧ Box18 u1 B f :=
  ⟨setAll u B f 18, rfl, setAll_wrote u B f 18, (setAll_cell 18 fun j hj => (hz j hj).1).1⟩

/-- The numbers of a memory, one behind another. -/
def cellF (d : MemD) (j : Nat) : Int := ((d.i ++ d.o ++ d.v)[j]?).getD 0

theorem six_of {xs : List Int} (h : xs.length = 6) : ∃ x0 x1 x2 x3 x4 x5, xs = [x0, x1, x2, x3, x4, x5] := by
  match xs, h with
  | [x0, x1, x2, x3, x4, x5], _ => exact ⟨x0, x1, x2, x3, x4, x5, rfl⟩

theorem memOf_cellF {d : MemD} (h1 : d.i.length = 6) (h2 : d.o.length = 6) (h3 : d.v.length = 6) : memOf (cellF d) = d := by
  obtain ⟨i, o, v⟩ := d
  obtain ⟨a0, a1, a2, a3, a4, a5, rfl⟩ := six_of h1
  obtain ⟨b0, b1, b2, b3, b4, b5, rfl⟩ := six_of h2
  obtain ⟨c0, c1, c2, c3, c4, c5, rfl⟩ := six_of h3
  rfl

theorem cellF_i {d : MemD} (h1 : d.i.length = 6) (h2 : d.o.length = 6) (h3 : d.v.length = 6) : d.i = [cellF d 0, cellF d 1, cellF d 2, cellF d 3, cellF d 4, cellF d 5] ∧ d.o = [cellF d 6, cellF d 7, cellF d 8, cellF d 9, cellF d 10, cellF d 11] ∧ d.v = [cellF d 12, cellF d 13, cellF d 14, cellF d 15, cellF d 16, cellF d 17] := by
  have h := memOf_cellF h1 h2 h3
  exact ⟨congrArg MemD.i h.symm, congrArg MemD.o h.symm, congrArg MemD.v h.symm⟩

/-- What a slice of six numbers is. -/
theorem si_six {w : World} {lo hi : Nat} {v : Value} {x0 x1 x2 x3 x4 x5 : Int} (h : SI w lo hi v [x0, x1, x2, x3, x4, x5]) :
    ∃ b off cap, v = .slice (some ⟨b, off, none⟩) 6 cap ∧ b < hi ∧ w.cell? ⟨b, off, none⟩ = some (.int .i64 x0) ∧ w.cell? ⟨b, off + 1, none⟩ = some (.int .i64 x1) ∧ w.cell? ⟨b, off + 2, none⟩ = some (.int .i64 x2) ∧ w.cell? ⟨b, off + 3, none⟩ = some (.int .i64 x3) ∧ w.cell? ⟨b, off + 4, none⟩ = some (.int .i64 x4) ∧ w.cell? ⟨b, off + 5, none⟩ = some (.int .i64 x5) := by
  obtain ⟨a, cap, rfl, h1, h2, h3⟩ := h
  rcases h3 with h0 | ⟨b, off, rfl, _, hb, hc⟩
  · cases h0
  · exact ⟨b, off, cap, rfl, hb, hc 0 x0 rfl, hc 1 x1 rfl, hc 2 x2 rfl, hc 3 x3 rfl, hc 4 x4 rfl, hc 5 x5 rfl⟩

def fits (d : MemD) : Bool := decide (d.i.length = 6) && decide (d.o.length = 6) && decide (d.v.length = 6)

end Go.Proofs.YtdhpbiplkjpiiaaGreatDoor

/-
  Steps of a walk over variables of eighteen numbers (impl.cells): boxed, made, loaded, stored, compared.
-/
namespace Go.Proofs.YtdhpbiplkjpiiaaGreatDoor
open Go.ChangeShapes Go.WideShapes Go.ChangeAt Go.RowKit
set_option linter.unusedVariables false
set_option maxRecDepth 100000

/-- The cells of three arrays of six numbers. -/
def cl (f : Nat → Int) : List Value := (List.range 18).map fun j => .int .i64 (f j)

theorem cv_cl (f : Nat → Int) : cv f = .agg (cl f).toArray := rfl
theorem cv_cells (f : Nat → Int) : (cv f).cells = (cl f).toArray := rfl
theorem cl_length (f : Nat → Int) : (cl f).length = 18 := rfl
theorem cl_at {f : Nat → Int} {j : Nat} (h : j < 18) : (cl f)[j]? = some (.int .i64 (f j)) := by simp [cl, h]

theorem addr_add (B j : Nat) : (⟨B, 0, none⟩ : Go.Addr).add j = ⟨B, j, none⟩ := by unfold Go.Addr.add; split <;> simp_all

theorem run_loadVar18 {w : World} {B : Nat} {g : Nat → Int} (h : Box18 w B g) : (loadVar 54 ⟨B, 0, none⟩).run Tryz.prog w = .ok (cv g) w := by
  have hl := run_loadCells_list (P := Tryz.prog) w ⟨B, 0, none⟩ (cl g) (fun j v hv => by
    have hj : j < 18 := by have := (List.getElem?_eq_some_iff.mp hv).1; rwa [cl_length] at this
    rw [cl_at hj] at hv
    rw [addr_add, h j hj]
    exact hv)
  rw [cl_length] at hl
  simp only [loadVar, Sem.run_bind, Tryz.isAgg54, Tryz.sizeOf54, Result.andThen_ok, if_true, hl, Sem.run_pure]
  rfl

theorem setCells_setAll (w : World) (B : Nat) (f : Nat → Int) : w.setCells B 0 (cl f) = setAll w B f 18 := rfl

theorem run_storeVar18 {w : World} {B : Nat} (f : Nat → Int) (h : Zero 18 w B) : (storeVar 54 ⟨B, 0, none⟩ (cv f)).run Tryz.prog w = .ok () (setAll w B f 18) := by
  have hs := run_storeCells_cells (P := Tryz.prog) B 0 (cl f) 0 w (fun j hj => by rw [cl_length] at hj; simpa using (h j hj).1) (fun j hj => by rw [cl_length] at hj; simpa using (h j hj).2) (fun v hv => by
    obtain ⟨j, _, rfl⟩ := List.mem_map.mp hv; rfl)
  have e1 : (cv f).cells.size = 18 := rfl
  have e2 : (cv f).cells.toList = cl f := rfl
  simp only [storeVar, Sem.run_bind, Tryz.sizeOf54, Result.andThen_ok, e1, e2]
  simp only [ne_eq, not_true_eq_false, if_false, hs]
  rfl

section
variable {ops : Array Oper} {rest : List Oper} {o : Oper} {a : Act} {Q : Exit → Act → World → Prop} {K : Act → World → Prop} {w : World}

theorem wp_load18 (p : Operand) (hop : o.op = Op.load 54 p) {B : Nat} {g : Nat → Int} (hp : a.eval p = .pointer (some ⟨B, 0, none⟩)) (hb : Box18 w B g)
    (hK : K (a.put o.dst (cv g)) w) : o.wp Tryz.prog a w K Q := by
  unfold Oper.wp
  simp only [execOp, hop, hp, Instr.loadAt, Instr.sureAddr, Sem.run_bind, Sem.run_pure, Result.andThen_ok, run_loadVar18 hb]
  exact hK

theorem wp_store18 (p v : Operand) (hop : o.op = Op.store 54 p v) {B : Nat} {f : Nat → Int} (hp : a.eval p = .pointer (some ⟨B, 0, none⟩)) (hv : a.eval v = cv f) (hz : Zero 18 w B)
    (hK : ∀ u1, Wrote (fun b o => b = B) w u1 → Box18 u1 B f → Zero 18 u1 B → K (a.put o.dst undef) u1) : o.wp Tryz.prog a w K Q := by
  unfold Oper.wp
  simp only [execOp, hop, hp, hv, Instr.storeAt, Instr.sureAddr, Sem.run_bind, Sem.run_pure, Result.andThen_ok, run_storeVar18 f hz]
  have hW := setAll_wrote w B f 18
  have hX := (setAll_cell (u := w) (B := B) (f := f) 18 fun j hj => (hz j hj).1).1
  exact hK _ hW hX (Box18.zero hX fun j hj => by rw [hW.frozen]; exact (hz j hj).2)

theorem wp_box18 (x : Operand) (hop : o.op = Op.box 54 x) {f : Nat → Int} (hx : a.eval x = cv f)
    (hK : ∀ u1, Grow w u1 → Box18 u1 w.heap.size f → Zero 18 u1 w.heap.size → u1.heap.size = w.heap.size + 1 → K (a.put o.dst (.pointer (some ⟨w.heap.size, 0, none⟩))) u1) : o.wp Tryz.prog a w K Q := by
  have h := hK (w.alloc (.cells (cl f).toArray 54)) ((Below.refl _ _).alloc (Nat.le_refl _) _) (box18_new w f 54) (zero18_new w f 54) (by simp)
  unfold Oper.wp
  simp only [execOp, hop, hx, Instr.box, newVar, cv_cells]
  simp [newRow, Result.andThen]
  exact h

theorem wp_alloc18 (hop : o.op = Op.alloc 54)
    (hK : ∀ u1, Grow w u1 → Zero 18 u1 w.heap.size → u1.heap.size = w.heap.size + 1 → K (a.put o.dst (.pointer (some ⟨w.heap.size, 0, none⟩))) u1) : o.wp Tryz.prog a w K Q := by
  have h := hK (w.alloc (.cells (cl fun _ => 0).toArray 54)) ((Below.refl _ _).alloc (Nat.le_refl _) _) (zero18_new w (fun _ => 0) 54) (by simp)
  unfold Oper.wp
  simp [execOp, hop, go_sem]
  exact h

theorem wpList_load18 (hg : o.guard = none) (p : Operand) (hop : o.op = Op.load 54 p) {B : Nat} {g : Nat → Int} (hp : a.eval p = .pointer (some ⟨B, 0, none⟩)) (hb : Box18 w B g)
    (hK : wpList Tryz.prog ops Q rest (a.put o.dst (cv g)) w) : wpList Tryz.prog ops Q (o :: rest) a w :=
  wpList_plain hg fun K hK' => wp_load18 p hop hp hb (hK' _ _ hK)

theorem wpList_store18 (hg : o.guard = none) (p v : Operand) (hop : o.op = Op.store 54 p v) {B : Nat} {f : Nat → Int} (hp : a.eval p = .pointer (some ⟨B, 0, none⟩)) (hv : a.eval v = cv f) (hz : Zero 18 w B)
    (hK : Hid (∀ u1, Wrote (fun b o => b = B) w u1 → Box18 u1 B f → Zero 18 u1 B → wpList Tryz.prog ops Q rest (a.put o.dst undef) u1)) : wpList Tryz.prog ops Q (o :: rest) a w :=
  wpList_plain hg fun K hK' => wp_store18 p v hop hp hv hz fun u1 h1 h2 h3 => hK' _ _ (hK.out u1 h1 h2 h3)

theorem wpList_box18 (hg : o.guard = none) (x : Operand) (hop : o.op = Op.box 54 x) {f : Nat → Int} (hx : a.eval x = cv f)
    (hK : Hid (∀ u1, Grow w u1 → Box18 u1 w.heap.size f → Zero 18 u1 w.heap.size → u1.heap.size = w.heap.size + 1 → wpList Tryz.prog ops Q rest (a.put o.dst (.pointer (some ⟨w.heap.size, 0, none⟩))) u1)) : wpList Tryz.prog ops Q (o :: rest) a w :=
  wpList_plain hg fun K hK' => wp_box18 x hop hx fun u1 h1 h2 h3 h4 => hK' _ _ (hK.out u1 h1 h2 h3 h4)

theorem wpList_alloc18 (hg : o.guard = none) (hop : o.op = Op.alloc 54)
    (hK : Hid (∀ u1, Grow w u1 → Zero 18 u1 w.heap.size → u1.heap.size = w.heap.size + 1 → wpList Tryz.prog ops Q rest (a.put o.dst (.pointer (some ⟨w.heap.size, 0, none⟩))) u1)) : wpList Tryz.prog ops Q (o :: rest) a w :=
  wpList_plain hg fun K hK' => wp_alloc18 hop fun u1 h1 h2 h3 => hK' _ _ (hK.out u1 h1 h2 h3)
end

/-- The same numbers. -/
def sameF (f g : Nat → Int) : Bool := (List.range 18).all fun j => f j == g j

theorem eq_int (d : Nat) (x y : Int) (w : World) : (Op.equalIn (d + 1) 3 (.int .i64 x) (.int .i64 y)).run Tryz.prog w = .ok (x == y) w := run_equalIn_int w d 3 .i64 .i64 x y Tryz.underlying3

set_option maxHeartbeats 4000000 in
theorem eq_six (d : Nat) (x0 x1 x2 x3 x4 x5 y0 y1 y2 y3 y4 y5 : Int) (w : World) :
    (Op.equalIn (d + 2) 52 (.agg #[.int .i64 x0, .int .i64 x1, .int .i64 x2, .int .i64 x3, .int .i64 x4, .int .i64 x5]) (.agg #[.int .i64 y0, .int .i64 y1, .int .i64 y2, .int .i64 y3, .int .i64 y4, .int .i64 y5])).run Tryz.prog w = .ok ((x0 == y0) && (x1 == y1) && (x2 == y2) && (x3 == y3) && (x4 == y4) && (x5 == y5)) w := by
  obtain ⟨i0, hi0, hz0, hz1, hz2⟩ := info_parts info_int
  have hc : Tryz.prog.cellsOf 3 = 1 := by kernel_rfl
  rw [run_equalIn_array w (d + 1) _ _ Tryz.underlying52 hi0, hc]
  have h := eq_int d
  have a3 := Tryz.isAgg3
  simp only [List.range, List.range.loop, Op.eqItems, part, Sem.run_bind, a3, Result.andThen_ok]
  simp [h]
  cases h0 : (x0 == y0) <;> cases h1 : (x1 == y1) <;> cases h2 : (x2 == y2) <;> cases h3 : (x3 == y3) <;> cases h4 : (x4 == y4) <;> cases h5 : (x5 == y5) <;> simp_all

set_option maxHeartbeats 4000000 in
theorem eq_cells (f g : Nat → Int) (w : World) : (Op.equalIn 10000 54 (cv f) (cv g)).run Tryz.prog w = .ok (sameF f g) w := by
  unfold cv
  rw [show (10000 : Nat) = 9999 + 1 from rfl, run_equalIn_agg w 9999 54 _ _ (by kernel_rfl) (by kernel_rfl)]
  simp only [Program.fieldsOf, Tryz.underlying54]
  have h := eq_six 9997
  have a46 := Tryz.isAgg52
  have z46 := Tryz.sizeOf52
  simp [Op.eqFields, part, a46, z46, h]
  have hs : sameF f g = decide (f 0 = g 0 ∧ f 1 = g 1 ∧ f 2 = g 2 ∧ f 3 = g 3 ∧ f 4 = g 4 ∧ f 5 = g 5 ∧ f 6 = g 6 ∧ f 7 = g 7 ∧ f 8 = g 8 ∧ f 9 = g 9 ∧ f 10 = g 10 ∧ f 11 = g 11 ∧ f 12 = g 12 ∧ f 13 = g 13 ∧ f 14 = g 14 ∧ f 15 = g 15 ∧ f 16 = g 16 ∧ f 17 = g 17) := by
    simp [sameF, List.range, List.range.loop, Bool.decide_and]
    rfl
  rw [hs]
  split
  · rename_i hn
    congr 1
    symm
    refine decide_eq_false ?_
    rintro ⟨h0, h1, h2, h3, h4, h5, h6, h7, h8, h9, h10, h11, h12, h13, h14, h15, h16, h17⟩
    exact hn h0 h1 h2 h3 h4 h5
  · rename_i k1
    split
    · rename_i hn
      congr 1
      symm
      refine decide_eq_false ?_
      rintro ⟨h0, h1, h2, h3, h4, h5, h6, h7, h8, h9, h10, h11, h12, h13, h14, h15, h16, h17⟩
      exact hn h6 h7 h8 h9 h10 h11
    · rename_i k2
      split
      · rename_i hn
        congr 1
        symm
        refine decide_eq_false ?_
        rintro ⟨h0, h1, h2, h3, h4, h5, h6, h7, h8, h9, h10, h11, h12, h13, h14, h15, h16, h17⟩
        exact hn h12 h13 h14 h15 h16 h17
      · rename_i k3
        congr 1
        symm
        refine decide_eq_true ?_
        simp only [Classical.not_imp, Classical.not_not] at k1 k2 k3
        obtain ⟨a0, a1, a2, a3, a4, a5⟩ := k1
        obtain ⟨b0, b1, b2, b3, b4, b5⟩ := k2
        obtain ⟨c0, c1, c2, c3, c4, c5⟩ := k3
        exact ⟨a0, a1, a2, a3, a4, a5, b0, b1, b2, b3, b4, b5, c0, c1, c2, c3, c4, c5⟩

theorem eql_cells (f g : Nat → Int) (w : World) : Sem.run Tryz.prog (binOp .eql 54 (cv f) (cv g)) w = .ok (.bool (sameF f g)) w := by
  have h := eq_cells f g w
  rw [cv_cl, cv_cl] at *
  rw [run_eql_struct, h]
  rfl

theorem neq_cells (f g : Nat → Int) (w : World) : Sem.run Tryz.prog (binOp .neq 54 (cv f) (cv g)) w = .ok (.bool (!sameF f g)) w := by
  have h := eq_cells f g w
  rw [cv_cl, cv_cl] at *
  rw [run_neq_struct, h]
  rfl

theorem guard_cells (op : BinOp) (x y : Operand) (f g : Nat → Int) (w : World) : Sem.run Tryz.prog (eqGuard op 54 x y (cv f) (cv g)) w = .ok () w := by
  rw [cv_cl, cv_cl]
  exact run_eqGuard_agg w op 54 x y _ _ (by kernel_rfl)
end Go.Proofs.YtdhpbiplkjpiiaaGreatDoor
