/-
  A region that draws its order and makes a memory: three lists, each by a call that makes new memory, built into a struct and stored at its end.
-/
import Derived.Test.YtaoiookfmgpmkaaGreatDoorMemKit
import Derived.Test.YtaoiookfmgpmkaaGreatDoorLawKit
namespace Go.Proofs.YtaoiookfmgpmkaaGreatDoor
open Go.ChangeShapes Go.WideShapes Go.ChangeAt Go.RowKit
set_option linter.unusedVariables false

/-- The operation waits for that other one. -/
def needsB (ops : Array Oper) (i j : Nat) : Bool := ((ops[i]?).map fun o => o.after.any fun e => Region.binds .any e && e.on == j).getD false

theorem needs_of {ops : Array Oper} {i j : Nat} (h : needsB ops i j = true) {o : Oper} (ho : ops[i]? = some o) {L : Array Bool} (he : ∀ e ∈ o.after, Region.binds .any e = true → L.getD e.on true = true) : L.getD j true = true := by
  simp only [needsB, ho, Option.map_some, Option.getD_some] at h
  obtain ⟨e, hm, h2⟩ := Array.any_eq_true'.mp h
  simp at h2
  rw [← h2.2]
  exact he e hm h2.1

theorem OI.grow {u u' : World} {lo : Nat} {v : Value} {xs : List Int} (h : OI u lo u.heap.size v xs) (hg : Grow u u') : OI u' lo u'.heap.size v xs :=
  (h.below hg (Nat.le_refl _)).wide (Nat.le_refl _) hg.size

theorem MO.grow {u u' : World} {lo : Nat} {v : Value} {d : MemD} (h : MO u lo u.heap.size v d) (hg : Grow u u') : MO u' lo u'.heap.size v d := by
  obtain ⟨a, b, c, hm, h1, h2, h3, h4⟩ := h
  exact ⟨a, b, c, hm, h1.grow hg, h2.grow hg, h3.grow hg, h4⟩

/-- What holds of the slots of three lists together. -/
structure Mem3J (d : MemD) (n0 i1 i2 i3 iB : Nat) (r1 r2 r3 rB : Tmp) (L : Array Bool) (a : Act) (u : World) : Prop where
  o1 : L.getD i1 true = true → OI u n0 u.heap.size (a.tmps.getD r1 undef) d.i
  o2 : L.getD i2 true = true → OI u n0 u.heap.size (a.tmps.getD r2 undef) d.o
  o3 : L.getD i3 true = true → OI u n0 u.heap.size (a.tmps.getD r3 undef) d.v
  p12 : L.getD i1 true = true → L.getD i2 true = true → Apart (a.tmps.getD r1 undef) d.i.length (a.tmps.getD r2 undef) d.o.length
  p13 : L.getD i1 true = true → L.getD i3 true = true → Apart (a.tmps.getD r1 undef) d.i.length (a.tmps.getD r3 undef) d.v.length
  p23 : L.getD i2 true = true → L.getD i3 true = true → Apart (a.tmps.getD r2 undef) d.o.length (a.tmps.getD r3 undef) d.v.length
  b : L.getD iB true = true → MO u n0 u.heap.size (a.tmps.getD rB undef) d

theorem apart_symm {v v' : Value} {n n' : Nat} (h : Apart v n v' n') : Apart v' n' v n := fun b o h1 h2 => h b o h2 h1

section
variable {P : Program} {ops : Array Oper} {Q : Exit → Act → World → Prop} {a0 : Act} {w0 : World} {Φ : Nat → Value → World → Prop}

theorem wp_region_mem3 {id : Nat} (n i1 i2 i3 iB : Nat) (on o1 o2 o3 oB : Oper) (r1 r2 r3 rB : Tmp) (d : MemD)
    (hn : ops.size = n + 1) (hon : ops[n]? = some on) (hlast : lastB ops n = true)
    (h1 : ops[i1]? = some o1) (h2 : ops[i2]? = some o2) (h3 : ops[i3]? = some o3) (hB : ops[iB]? = some oB)
    (d1 : o1.dst = some r1) (d2 : o2.dst = some r2) (d3 : o3.dst = some r3) (dB : oB.dst = some rB)
    (hlt : i1 < i2 ∧ i2 < i3 ∧ i3 < iB ∧ iB < n) (hs : r1 < a0.tmps.size ∧ r2 < a0.tmps.size ∧ r3 < a0.tmps.size ∧ rB < a0.tmps.size)
    (hneed : (needsB ops iB i1 && needsB ops iB i2 && needsB ops iB i3) = true)
    (hm : P.follows .mixedOrders = true) (hback : backB ops = true) (hown : ownSlotsB ops = true)
    (stab : ∀ j v w w', Grow w w' → Φ j v w → Φ j v w')
    (step : ∀ (i : Nat) (o : Oper), ops[i]? = some o → i < n → i ≠ i1 → i ≠ i2 → i ≠ i3 → i ≠ iB → ∀ (a : Act) (u : World), Frames ops a0 a → Grow w0 u →
      (∀ e ∈ o.after, Region.binds .any e = true → ∀ oj, ops[e.on]? = some oj → Φ e.on (slotOf oj a) u) →
      ∀ K' : Act → World → Prop, (∀ v u', Grow u u' → Φ i (slotOf o (a.put o.dst v)) u' → K' (a.put o.dst v) u') →
        if Region.wanted o (yielded ops a.tmps) = true then Oper.wp P o a u K' Q else K' (a.put o.dst undef) u)
    (step1 : ∀ (a : Act) (u : World), Frames ops a0 a → Grow w0 u → (∀ e ∈ o1.after, Region.binds .any e = true → ∀ oj, ops[e.on]? = some oj → Φ e.on (slotOf oj a) u) →
      ∀ K' : Act → World → Prop, (∀ v u', Grow u u' → OI u' u.heap.size u'.heap.size v d.i → K' (a.put o1.dst v) u') →
        if Region.wanted o1 (yielded ops a.tmps) = true then Oper.wp P o1 a u K' Q else K' (a.put o1.dst undef) u)
    (step2 : ∀ (a : Act) (u : World), Frames ops a0 a → Grow w0 u → (∀ e ∈ o2.after, Region.binds .any e = true → ∀ oj, ops[e.on]? = some oj → Φ e.on (slotOf oj a) u) →
      ∀ K' : Act → World → Prop, (∀ v u', Grow u u' → OI u' u.heap.size u'.heap.size v d.o → K' (a.put o2.dst v) u') →
        if Region.wanted o2 (yielded ops a.tmps) = true then Oper.wp P o2 a u K' Q else K' (a.put o2.dst undef) u)
    (step3 : ∀ (a : Act) (u : World), Frames ops a0 a → Grow w0 u → (∀ e ∈ o3.after, Region.binds .any e = true → ∀ oj, ops[e.on]? = some oj → Φ e.on (slotOf oj a) u) →
      ∀ K' : Act → World → Prop, (∀ v u', Grow u u' → OI u' u.heap.size u'.heap.size v d.v → K' (a.put o3.dst v) u') →
        if Region.wanted o3 (yielded ops a.tmps) = true then Oper.wp P o3 a u K' Q else K' (a.put o3.dst undef) u)
    (stepB : ∀ (a : Act) (u : World) (p1 p2 p3 : Option Go.Addr) (c1 c2 c3 : Nat), Frames ops a0 a → a.tmps[r1]?.getD undef = .slice p1 d.i.length c1 → a.tmps[r2]?.getD undef = .slice p2 d.o.length c2 → a.tmps[r3]?.getD undef = .slice p3 d.v.length c3 →
      ∀ K' : Act → World → Prop, K' (a.put oB.dst (.agg #[.slice p1 d.i.length c1, .slice p2 d.o.length c2, .slice p3 d.v.length c3])) u →
        if Region.wanted oB (yielded ops a.tmps) = true then Oper.wp P oB a u K' Q else K' (a.put oB.dst undef) u)
    (hΦ : ∀ v u, Φ i1 v u ∧ Φ i2 v u ∧ Φ i3 v u ∧ Φ iB v u)
    (fin : ∀ (a : Act) (u : World), Frames ops a0 a → Grow w0 u → MO u w0.heap.size u.heap.size (a.tmps.getD rB undef) d → (∀ (j : Nat) (oj : Oper), j < n → ops[j]? = some oj → Φ j (slotOf oj a) u) →
      ∀ K' : Act → World → Prop, (∀ a' w', Q .normal a' w' → K' a' w') → if Region.wanted on (yielded ops a.tmps) = true then Oper.wp P on a u K' Q else K' (a.put on.dst undef) u) :
    (Code.region id ops true).wp P Q a0 w0 := by
  have hg0 : ∀ u, Grow w0.drew u → Grow w0 u := fun u h => (Below.drew (Below.refl _ _)).trans h
  obtain ⟨l12, l23, l3B, lBn⟩ := hlt
  obtain ⟨s1, s2, s3, sB⟩ := hs
  simp only [Bool.and_eq_true] at hneed
  obtain ⟨⟨n1, n2⟩, n3⟩ := hneed
  have e12 : r1 ≠ r2 := fun e => ownSlots hown h1 h2 (by omega) d1 (by rw [d2, e])
  have e13 : r1 ≠ r3 := fun e => ownSlots hown h1 h3 (by omega) d1 (by rw [d3, e])
  have e23 : r2 ≠ r3 := fun e => ownSlots hown h2 h3 (by omega) d2 (by rw [d3, e])
  have e1B : r1 ≠ rB := fun e => ownSlots hown h1 hB (by omega) d1 (by rw [dB, e])
  have e2B : r2 ≠ rB := fun e => ownSlots hown h2 hB (by omega) d2 (by rw [dB, e])
  have e3B : r3 ≠ rB := fun e => ownSlots hown h3 hB (by omega) d3 (by rw [dB, e])
  refine wp_region_last (R := Grow) (Φ := Φ) (J := Mem3J d w0.heap.size i1 i2 i3 iB r1 r2 r3 rB) n on hn hon hlast hm hback hown (Below.refl _ _) grow_trans stab ?_ ?_ ?_
  · have g : ∀ i, i < n + 1 → (Array.replicate ops.size false).getD i true = false := fun i hi => by simp [hn, hi]
    refine ⟨fun h => ?_, fun h => ?_, fun h => ?_, fun h => ?_, fun h => ?_, fun h => ?_, fun h => ?_⟩
    · rw [g i1 (by omega)] at h; cases h
    · rw [g i2 (by omega)] at h; cases h
    · rw [g i3 (by omega)] at h; cases h
    · rw [g i1 (by omega)] at h; cases h
    · rw [g i1 (by omega)] at h; cases h
    · rw [g i2 (by omega)] at h; cases h
    · rw [g iB (by omega)] at h; cases h
  · intro i o ho hin L a u hf hr hsz hL hp he hj K' hK
    have hus : w0.heap.size ≤ u.heap.size := hr.size
    have t1 : r1 < a.tmps.size := by rw [hf.size]; exact s1
    have t2 : r2 < a.tmps.size := by rw [hf.size]; exact s2
    have t3 : r3 < a.tmps.size := by rw [hf.size]; exact s3
    have tB : rB < a.tmps.size := by rw [hf.size]; exact sB
    by_cases E1 : i = i1
    · subst E1
      rw [h1] at ho; cases ho
      refine step1 a u hf (hg0 u hr) (fun e h1 h2 oj hoj => hp _ oj hoj (he e h1 h2)) K' fun v u' hg hv => hK _ _ hg (hΦ _ _).1 ?_
      rw [d1]
      refine ⟨fun _ => ?_, fun h => ?_, fun h => ?_, fun _ h => ?_, fun _ h => ?_, fun h h' => ?_, fun h => ?_⟩
      · rw [getD_put_self _ _ _ t1]; exact hv.wide hus (Nat.le_refl _)
      · rw [getD_set_ne true (by omega)] at h; rw [getD_put_ne _ _ _ _ e12]; exact (hj.o2 h).grow hg
      · rw [getD_set_ne true (by omega)] at h; rw [getD_put_ne _ _ _ _ e13]; exact (hj.o3 h).grow hg
      · rw [getD_set_ne true (by omega)] at h; rw [getD_put_self _ _ _ t1, getD_put_ne _ _ _ _ e12]; exact apart_symm (apart_of (hj.o2 h) hv (Nat.le_refl _))
      · rw [getD_set_ne true (by omega)] at h; rw [getD_put_self _ _ _ t1, getD_put_ne _ _ _ _ e13]; exact apart_symm (apart_of (hj.o3 h) hv (Nat.le_refl _))
      · rw [getD_set_ne true (by omega)] at h h'; rw [getD_put_ne _ _ _ _ e12, getD_put_ne _ _ _ _ e13]; exact hj.p23 h h'
      · rw [getD_set_ne true (by omega)] at h; rw [getD_put_ne _ _ _ _ e1B]; exact (hj.b h).grow hg
    by_cases E2 : i = i2
    · subst E2
      rw [h2] at ho; cases ho
      refine step2 a u hf (hg0 u hr) (fun e h1 h2 oj hoj => hp _ oj hoj (he e h1 h2)) K' fun v u' hg hv => hK _ _ hg (hΦ _ _).2.1 ?_
      rw [d2]
      refine ⟨fun h => ?_, fun _ => ?_, fun h => ?_, fun h _ => ?_, fun h h' => ?_, fun _ h => ?_, fun h => ?_⟩
      · rw [getD_set_ne true (by omega)] at h; rw [getD_put_ne _ _ _ _ e12.symm]; exact (hj.o1 h).grow hg
      · rw [getD_put_self _ _ _ t2]; exact hv.wide hus (Nat.le_refl _)
      · rw [getD_set_ne true (by omega)] at h; rw [getD_put_ne _ _ _ _ e23]; exact (hj.o3 h).grow hg
      · rw [getD_set_ne true (by omega)] at h; rw [getD_put_self _ _ _ t2, getD_put_ne _ _ _ _ e12.symm]; exact apart_of (hj.o1 h) hv (Nat.le_refl _)
      · rw [getD_set_ne true (by omega)] at h h'; rw [getD_put_ne _ _ _ _ e12.symm, getD_put_ne _ _ _ _ e23]; exact hj.p13 h h'
      · rw [getD_set_ne true (by omega)] at h; rw [getD_put_self _ _ _ t2, getD_put_ne _ _ _ _ e23]; exact apart_symm (apart_of (hj.o3 h) hv (Nat.le_refl _))
      · rw [getD_set_ne true (by omega)] at h; rw [getD_put_ne _ _ _ _ e2B]; exact (hj.b h).grow hg
    by_cases E3 : i = i3
    · subst E3
      rw [h3] at ho; cases ho
      refine step3 a u hf (hg0 u hr) (fun e h1 h2 oj hoj => hp _ oj hoj (he e h1 h2)) K' fun v u' hg hv => hK _ _ hg (hΦ _ _).2.2.1 ?_
      rw [d3]
      refine ⟨fun h => ?_, fun h => ?_, fun _ => ?_, fun h h' => ?_, fun h _ => ?_, fun h _ => ?_, fun h => ?_⟩
      · rw [getD_set_ne true (by omega)] at h; rw [getD_put_ne _ _ _ _ e13.symm]; exact (hj.o1 h).grow hg
      · rw [getD_set_ne true (by omega)] at h; rw [getD_put_ne _ _ _ _ e23.symm]; exact (hj.o2 h).grow hg
      · rw [getD_put_self _ _ _ t3]; exact hv.wide hus (Nat.le_refl _)
      · rw [getD_set_ne true (by omega)] at h h'; rw [getD_put_ne _ _ _ _ e13.symm, getD_put_ne _ _ _ _ e23.symm]; exact hj.p12 h h'
      · rw [getD_set_ne true (by omega)] at h; rw [getD_put_self _ _ _ t3, getD_put_ne _ _ _ _ e13.symm]; exact apart_of (hj.o1 h) hv (Nat.le_refl _)
      · rw [getD_set_ne true (by omega)] at h; rw [getD_put_self _ _ _ t3, getD_put_ne _ _ _ _ e23.symm]; exact apart_of (hj.o2 h) hv (Nat.le_refl _)
      · rw [getD_set_ne true (by omega)] at h; rw [getD_put_ne _ _ _ _ e3B]; exact (hj.b h).grow hg
    by_cases EB : i = iB
    · subst EB
      rw [hB] at ho; cases ho
      have L1 := needs_of n1 hB he
      have L2 := needs_of n2 hB he
      have L3 := needs_of n3 hB he
      have q1 := hj.o1 L1
      have q2 := hj.o2 L2
      have q3 := hj.o3 L3
      have q12 := hj.p12 L1 L2
      have q13 := hj.p13 L1 L3
      have q23 := hj.p23 L2 L3
      obtain ⟨p1, c1, f1⟩ := q1.si.shape
      obtain ⟨p2, c2, f2⟩ := q2.si.shape
      obtain ⟨p3, c3, f3⟩ := q3.si.shape
      have f1' : a.tmps[r1]?.getD undef = .slice p1 d.i.length c1 := by rw [← f1]; exact (Array.getD_eq_getD_getElem? ..).symm
      have f2' : a.tmps[r2]?.getD undef = .slice p2 d.o.length c2 := by rw [← f2]; exact (Array.getD_eq_getD_getElem? ..).symm
      have f3' : a.tmps[r3]?.getD undef = .slice p3 d.v.length c3 := by rw [← f3]; exact (Array.getD_eq_getD_getElem? ..).symm
      refine stepB a u p1 p2 p3 c1 c2 c3 hf f1' f2' f3' K' (hK _ _ (Below.refl _ _) (hΦ _ _).2.2.2 ?_)
      rw [dB]
      have g1 := getD_put_ne a rB r1 (.agg #[.slice p1 d.i.length c1, .slice p2 d.o.length c2, .slice p3 d.v.length c3]) e1B.symm
      have g2 := getD_put_ne a rB r2 (.agg #[.slice p1 d.i.length c1, .slice p2 d.o.length c2, .slice p3 d.v.length c3]) e2B.symm
      have g3 := getD_put_ne a rB r3 (.agg #[.slice p1 d.i.length c1, .slice p2 d.o.length c2, .slice p3 d.v.length c3]) e3B.symm
      refine ⟨fun _ => ?_, fun _ => ?_, fun _ => ?_, fun _ _ => ?_, fun _ _ => ?_, fun _ _ => ?_, fun _ => ?_⟩
      · rw [g1]; exact q1
      · rw [g2]; exact q2
      · rw [g3]; exact q3
      · rw [g1, g2]; exact q12
      · rw [g1, g3]; exact q13
      · rw [g2, g3]; exact q23
      · rw [getD_put_self _ _ _ tB]
        exact ⟨_, _, _, rfl, f1 ▸ q1, f2 ▸ q2, f3 ▸ q3, f1 ▸ f2 ▸ q12, f1 ▸ f3 ▸ q13, f2 ▸ f3 ▸ q23⟩
    · refine step i o ho hin E1 E2 E3 EB a u hf (hg0 u hr) (fun e h1 h2 oj hoj => hp _ oj hoj (he e h1 h2)) K' fun v u' hg hphi => hK v u' hg hphi ?_
      have hsp : ∀ t, (∃ j oj, ops[j]? = some oj ∧ oj.dst = some t ∧ i ≠ j) → (a.put o.dst v).tmps.getD t undef = a.tmps.getD t undef := by
        rintro t ⟨j, oj, hj, hd, hne⟩
        cases hdo : o.dst with
        | none => rfl
        | some d => exact getD_put_ne _ _ _ _ (fun e => ownSlots hown ho hj hne hdo (by rw [hd, e]))
      have g1 := hsp r1 ⟨i1, o1, h1, d1, E1⟩
      have g2 := hsp r2 ⟨i2, o2, h2, d2, E2⟩
      have g3 := hsp r3 ⟨i3, o3, h3, d3, E3⟩
      have gB := hsp rB ⟨iB, oB, hB, dB, EB⟩
      have k1 := getD_set_ne (listed := L) true E1
      have k2 := getD_set_ne (listed := L) true E2
      have k3 := getD_set_ne (listed := L) true E3
      have kB := getD_set_ne (listed := L) true EB
      refine ⟨?_, ?_, ?_, ?_, ?_, ?_, ?_⟩
      · rw [k1, g1]; exact fun h => (hj.o1 h).grow hg
      · rw [k2, g2]; exact fun h => (hj.o2 h).grow hg
      · rw [k3, g3]; exact fun h => (hj.o3 h).grow hg
      · rw [k1, k2, g1, g2]; exact hj.p12
      · rw [k1, k3, g1, g3]; exact hj.p13
      · rw [k2, k3, g2, g3]; exact hj.p23
      · rw [kB, gB]; exact fun h => (hj.b h).grow hg
  · intro L a u hf hr hp hj K' hK
    exact fin a u hf (hg0 u hr) (hj.b (hp iB oB lBn hB).1) (fun j oj h5 h6 => (hp j oj h5 h6).2) K' hK
end
end Go.Proofs.YtaoiookfmgpmkaaGreatDoor
