/-
  What the models of MemPut (package spec) answer: a memory in new memory, one number put in.
-/
import Derived.Test.YtdhpbiplkjpiiaaGreatDoorMemSpec
import Derived.Test.YtdhpbiplkjpiiaaGreatDoorAppend
import Derived.Test.YtdhpbiplkjpiiaaGreatDoorLawKit
import Derived.Deep.RegionWith
namespace Go.Proofs.YtdhpbiplkjpiiaaGreatDoor
open Go.ChangeShapes Go.WideShapes Go.ChangeAt Go.RowKit
set_option linter.unusedVariables false
set_option maxRecDepth 100000

theorem listed_set {L : Array Bool} {i j : Nat} (h : (L.setIfInBounds i true).getD j true = true) (hne : i ≠ j) : L.getD j true = true := by
  rwa [getD_set_ne true hne] at h

theorem oi_apart_new {u u' : World} {lo hi : Nat} {v v' : Value} {xs ys : List Int} (h : OI u lo u.heap.size v xs) (h' : OI u' u.heap.size hi v' ys) : Apart v xs.length v' ys.length :=
  apart_of h h' (Nat.le_refl _)

theorem Apart.symm {v v' : Value} {n n' : Nat} (h : Apart v n v' n') : Apart v' n' v n := fun b o h1 h2 => h b o h2 h1

/-- What holds of the slots of l2Copy's region together. -/
structure CopyJ (d : MemD) (B : Nat) (L : Array Bool) (a : Act) (u : World) : Prop where
  io : L.getD 3 true = true → L.getD 7 true = true → Apart (a.tmps.getD 6 undef) d.i.length (a.tmps.getD 10 undef) d.o.length
  iv : L.getD 3 true = true → L.getD 11 true = true → Apart (a.tmps.getD 6 undef) d.i.length (a.tmps.getD 14 undef) d.v.length
  ov : L.getD 7 true = true → L.getD 11 true = true → Apart (a.tmps.getD 10 undef) d.o.length (a.tmps.getD 14 undef) d.v.length
  built : L.getD 12 true = true → L.getD 3 true = true ∧ L.getD 7 true = true ∧ L.getD 11 true = true ∧ a.tmps.getD 15 undef = .agg #[a.tmps.getD 6 undef, a.tmps.getD 10 undef, a.tmps.getD 14 undef]
  room : ∀ k, k < 3 → (u.cell? ⟨B, k, none⟩).isSome = true ∧ u.frozen? ⟨B, k, none⟩ = false
  stored : L.getD 13 true = true → L.getD 12 true = true ∧ u.cell? ⟨B, 0, none⟩ = some (a.tmps.getD 6 undef) ∧ u.cell? ⟨B, 1, none⟩ = some (a.tmps.getD 10 undef) ∧ u.cell? ⟨B, 2, none⟩ = some (a.tmps.getD 14 undef)

theorem CopyJ.other {d : MemD} {B : Nat} {L : Array Bool} {a : Act} {u u' : World} (h : CopyJ d B L a u) (i d' : Nat) (v : Value)
    (i3 : i ≠ 3) (i7 : i ≠ 7) (i11 : i ≠ 11) (i12 : i ≠ 12) (i13 : i ≠ 13) (d6 : d' ≠ 6) (d10 : d' ≠ 10) (d14 : d' ≠ 14) (d15 : d' ≠ 15) (hB : B < u.heap.size) (hb : Below u.heap.size u u') :
    CopyJ d B (L.setIfInBounds i true) (a.put (some d') v) u' := by
  have hroom : ∀ k, k < 3 → (u'.cell? ⟨B, k, none⟩).isSome = true ∧ u'.frozen? ⟨B, k, none⟩ = false := fun k hk => by
    rw [hb.cell (p := ⟨B, k, none⟩) hB, hb.frozen (p := ⟨B, k, none⟩) hB]; exact h.room k hk
  refine ⟨?_, ?_, ?_, ?_, hroom, ?_⟩ <;>
    simp only [getD_set_ne true i3, getD_set_ne true i7, getD_set_ne true i11, getD_set_ne true i12, getD_set_ne true i13, getD_put_ne _ _ _ _ d6, getD_put_ne _ _ _ _ d10, getD_put_ne _ _ _ _ d14, getD_put_ne _ _ _ _ d15]
  · exact h.io
  · exact h.iv
  · exact h.ov
  · exact h.built
  · intro h13
    obtain ⟨h1, h2, h3, h4⟩ := h.stored h13
    exact ⟨h1, by rw [hb.cell (p := ⟨B, 0, none⟩) hB]; exact h2, by rw [hb.cell (p := ⟨B, 1, none⟩) hB]; exact h3, by rw [hb.cell (p := ⟨B, 2, none⟩) hB]; exact h4⟩

set_option maxHeartbeats 2000000 in
theorem l2Copy_any (w : World) (lo hi : Nat) (m : Value) (d : MemD) (h : MI w lo hi m d) (hhi : hi ≤ w.heap.size)
    (hn : d.many ≤ 1048576) :
    Calls Tryz.prog 19 #[m] w fun e w' => ∃ m', e = .returned m' ∧ MO w' w.heap.size w'.heap.size m' d ∧ Below w.heap.size w w' := by
  obtain ⟨a, b, c, rfl, ha, hb, hc⟩ := h
  unfold MemD.many at hn
  have b2 := fun o o' => below_drewN (((Below.refl w.heap.size w).alloc (Nat.le_refl _) o).alloc (by simp) o') 1
  go_enter Tryz.func19, Tryz.ntmps19
  go_wp2_with fail
  refine wp_region_dagJ (R := fun u u' => Out (w.heap.size + 1) (w.heap.size + 2) u u')
    (Φ := fun j v u => match j with
      | 0 | 4 | 8 => ∃ x, v = .slice x 0 0
      | 1 => v = .pointer (some ⟨w.heap.size, 0, none⟩)
      | 5 => v = .pointer (some ⟨w.heap.size, 1, none⟩)
      | 9 => v = .pointer (some ⟨w.heap.size, 2, none⟩)
      | 2 => v = a
      | 6 => v = b
      | 10 => v = c
      | 3 => ∃ h, h ≤ u.heap.size ∧ OI u (w.heap.size + 2) h v d.i
      | 7 => ∃ h, h ≤ u.heap.size ∧ OI u (w.heap.size + 2) h v d.o
      | 11 => ∃ h, h ≤ u.heap.size ∧ OI u (w.heap.size + 2) h v d.v
      | 13 => True
      | _ => True)
    (J := CopyJ d (w.heap.size + 1)) (by kernel_rfl) (by kernel_rfl) (by kernel_rfl) ?_ ?_ ?_ ?_ ?_ ?_
  · exact out_of_below (Below.refl _ _) _ _
  · exact fun x y z h1 h2 => h1.trans h2
  · intro j v u u' hr
    match j with
    | 0 | 1 | 2 | 4 | 5 | 6 | 8 | 9 | 10 | 12 | 13 | _ + 14 => exact fun h => h
    | 3 | 7 | 11 => exact fun ⟨h, h1, h2⟩ => ⟨h, Nat.le_trans h1 hr.size, h2.kept fun k h3 h4 => hr.block k (by omega) (.inr h3)⟩
  · refine ⟨fun h => by simp at h, fun h => by simp at h, fun h => by simp at h, fun h => by simp at h, fun k hk => ?_, fun h => by simp at h⟩
    match k, hk with
    | 0, _ => exact ⟨by simp, by simp⟩
    | 1, _ => exact ⟨by simp, by simp⟩
    | 2, _ => exact ⟨by simp, by simp⟩
  · intro i o ho L a' u hf hr hsz hL hp he hj K' hK
    have hsz' : a'.tmps.size = 16 := hf.size
    have putat : ∀ (t : Nat) (v : Value), t < a'.tmps.size → (a'.put (some t) v).tmps.getD t undef = v := fun t v ht => by
      show (a'.tmps.setIfInBounds t v).getD t undef = v
      simp [ht]
    have bw : Below w.heap.size w u := (b2 _ _).trans (hr.below (by omega) (by simp; omega))
    have cellbox : ∀ (off : Nat) (v : Value), (#[a, b, c] : Array Value)[off]? = some v → u.cell? ⟨w.heap.size, off, none⟩ = some v := fun off v hv => by
      rw [World.cell?_of_block (w := _) (hr.block w.heap.size (by simp; omega) (.inl (by omega)))]
      simpa using hv
    have hB : w.heap.size + 1 < u.heap.size := by have := hr.size; simp at this; omega
    rcases i with _ | _ | _ | _ | _ | _ | _ | _ | _ | _ | _ | _ | _ | _ | i
    · obtain rfl := Option.some.inj ho
      clear he
      go_simp
      have hbe := (Below.refl u.heap.size u).alloc (Nat.le_refl _) (.cells #[] 3)
      exact hK _ _ (out_of_below hbe _ _) ⟨_, putat 3 _ (by omega)⟩ (hj.other 0 3 _ (by omega) (by omega) (by omega) (by omega) (by omega) (by omega) (by omega) (by omega) (by omega) hB hbe)
    · obtain rfl := Option.some.inj ho
      clear he
      have f1 : a'.tmps.getD 1 undef = .pointer (some ⟨w.heap.size, 0, none⟩) := hf.at_ 1 (by kernel_rfl)
      go_simp
      exact hK _ _ (out_of_below (Below.refl _ _) _ _) (putat 4 _ (by omega)) (hj.other 1 4 _ (by omega) (by omega) (by omega) (by omega) (by omega) (by omega) (by omega) (by omega) (by omega) hB (Below.refl _ _))
    · obtain rfl := Option.some.inj ho
      have f1 : a'.tmps.getD 4 undef = .pointer (some ⟨w.heap.size, 0, none⟩) := hp 1 _ rfl (he _ (Array.mem_of_getElem? (i := 0) rfl) (by kernel_rfl))
      have f2 : u.cell? ⟨w.heap.size, 0, none⟩ = some a := cellbox 0 a rfl
      clear he
      go_simp
      exact hK _ _ (out_of_below (Below.refl _ _) _ _) (putat 5 _ (by omega)) (hj.other 2 5 _ (by omega) (by omega) (by omega) (by omega) (by omega) (by omega) (by omega) (by omega) (by omega) hB (Below.refl _ _))
    · obtain rfl := Option.some.inj ho
      obtain ⟨y, f1⟩ := hp 0 _ rfl (he _ (Array.mem_of_getElem? (i := 0) rfl) (by kernel_rfl))
      have f2 : a'.tmps.getD 5 undef = a := hp 2 _ rfl (he _ (Array.mem_of_getElem? (i := 1) rfl) (by kernel_rfl))
      refine step_copy rfl (.tmp 3) (.tmp 5) rfl f1 f2 (ha.below bw hhi) (by omega) fun v' u' hoi hbe => ?_
      refine hK _ _ (out_of_below hbe _ _) ⟨u'.heap.size, Nat.le_refl _, by show OI u' _ _ ((a'.put (some 6) v').tmps.getD 6 undef) _; rw [putat 6 _ (by omega)]; exact hoi.wide (by omega) (Nat.le_refl _)⟩ ?_
      show CopyJ d (w.heap.size + 1) (L.setIfInBounds 3 true) (a'.put (some 6) v') u'
      have hno : L.getD 12 true = true → False := fun h12 => by
        have := hj.built h12
        rw [hL] at this
        simp at this
      refine ⟨?_, ?_, ?_, fun h12 => (hno (listed_set h12 (by omega))).elim, fun k hk => by rw [hbe.cell (p := ⟨w.heap.size + 1, k, none⟩) hB, hbe.frozen (p := ⟨w.heap.size + 1, k, none⟩) hB]; exact hj.room k hk, fun h13 => (hno (hj.stored (listed_set h13 (by omega))).1).elim⟩
      · intro h1 h2
        obtain ⟨h, hh, hoi'⟩ := hp 7 _ rfl (listed_set h2 (by omega))
        rw [putat 6 _ (by omega), getD_put_ne a' 6 10 v' (by decide)]
        exact (apart_of hoi' hoi hh).symm
      · intro h1 h2
        obtain ⟨h, hh, hoi'⟩ := hp 11 _ rfl (listed_set h2 (by omega))
        rw [putat 6 _ (by omega), getD_put_ne a' 6 14 v' (by decide)]
        exact (apart_of hoi' hoi hh).symm
      · intro h1 h2
        rw [getD_put_ne a' 6 10 v' (by decide), getD_put_ne a' 6 14 v' (by decide)]
        exact hj.ov (listed_set h1 (by omega)) (listed_set h2 (by omega))
    · obtain rfl := Option.some.inj ho
      clear he
      go_simp
      have hbe := (Below.refl u.heap.size u).alloc (Nat.le_refl _) (.cells #[] 3)
      exact hK _ _ (out_of_below hbe _ _) ⟨_, putat 7 _ (by omega)⟩ (hj.other 4 7 _ (by omega) (by omega) (by omega) (by omega) (by omega) (by omega) (by omega) (by omega) (by omega) hB hbe)
    · obtain rfl := Option.some.inj ho
      clear he
      have f1 : a'.tmps.getD 1 undef = .pointer (some ⟨w.heap.size, 0, none⟩) := hf.at_ 1 (by kernel_rfl)
      go_simp
      exact hK _ _ (out_of_below (Below.refl _ _) _ _) (putat 8 _ (by omega)) (hj.other 5 8 _ (by omega) (by omega) (by omega) (by omega) (by omega) (by omega) (by omega) (by omega) (by omega) hB (Below.refl _ _))
    · obtain rfl := Option.some.inj ho
      have f1 : a'.tmps.getD 8 undef = .pointer (some ⟨w.heap.size, 1, none⟩) := hp 5 _ rfl (he _ (Array.mem_of_getElem? (i := 0) rfl) (by kernel_rfl))
      have f2 : u.cell? ⟨w.heap.size, 1, none⟩ = some b := cellbox 1 b rfl
      clear he
      go_simp
      exact hK _ _ (out_of_below (Below.refl _ _) _ _) (putat 9 _ (by omega)) (hj.other 6 9 _ (by omega) (by omega) (by omega) (by omega) (by omega) (by omega) (by omega) (by omega) (by omega) hB (Below.refl _ _))
    · obtain rfl := Option.some.inj ho
      obtain ⟨y, f1⟩ := hp 4 _ rfl (he _ (Array.mem_of_getElem? (i := 0) rfl) (by kernel_rfl))
      have f2 : a'.tmps.getD 9 undef = b := hp 6 _ rfl (he _ (Array.mem_of_getElem? (i := 1) rfl) (by kernel_rfl))
      refine step_copy rfl (.tmp 7) (.tmp 9) rfl f1 f2 (hb.below bw hhi) (by omega) fun v' u' hoi hbe => ?_
      refine hK _ _ (out_of_below hbe _ _) ⟨u'.heap.size, Nat.le_refl _, by show OI u' _ _ ((a'.put (some 10) v').tmps.getD 10 undef) _; rw [putat 10 _ (by omega)]; exact hoi.wide (by omega) (Nat.le_refl _)⟩ ?_
      show CopyJ d (w.heap.size + 1) (L.setIfInBounds 7 true) (a'.put (some 10) v') u'
      have hno : L.getD 12 true = true → False := fun h12 => by
        have := hj.built h12
        rw [hL] at this
        simp at this
      refine ⟨?_, ?_, ?_, fun h12 => (hno (listed_set h12 (by omega))).elim, fun k hk => by rw [hbe.cell (p := ⟨w.heap.size + 1, k, none⟩) hB, hbe.frozen (p := ⟨w.heap.size + 1, k, none⟩) hB]; exact hj.room k hk, fun h13 => (hno (hj.stored (listed_set h13 (by omega))).1).elim⟩
      · intro h1 h2
        obtain ⟨h, hh, hoi'⟩ := hp 3 _ rfl (listed_set h1 (by omega))
        rw [putat 10 _ (by omega), getD_put_ne a' 10 6 v' (by decide)]
        exact (apart_of hoi' hoi hh)
      · intro h1 h2
        rw [getD_put_ne a' 10 6 v' (by decide), getD_put_ne a' 10 14 v' (by decide)]
        exact hj.iv (listed_set h1 (by omega)) (listed_set h2 (by omega))
      · intro h1 h2
        obtain ⟨h, hh, hoi'⟩ := hp 11 _ rfl (listed_set h2 (by omega))
        rw [putat 10 _ (by omega), getD_put_ne a' 10 14 v' (by decide)]
        exact (apart_of hoi' hoi hh).symm
    · obtain rfl := Option.some.inj ho
      clear he
      go_simp
      have hbe := (Below.refl u.heap.size u).alloc (Nat.le_refl _) (.cells #[] 3)
      exact hK _ _ (out_of_below hbe _ _) ⟨_, putat 11 _ (by omega)⟩ (hj.other 8 11 _ (by omega) (by omega) (by omega) (by omega) (by omega) (by omega) (by omega) (by omega) (by omega) hB hbe)
    · obtain rfl := Option.some.inj ho
      clear he
      have f1 : a'.tmps.getD 1 undef = .pointer (some ⟨w.heap.size, 0, none⟩) := hf.at_ 1 (by kernel_rfl)
      go_simp
      exact hK _ _ (out_of_below (Below.refl _ _) _ _) (putat 12 _ (by omega)) (hj.other 9 12 _ (by omega) (by omega) (by omega) (by omega) (by omega) (by omega) (by omega) (by omega) (by omega) hB (Below.refl _ _))
    · obtain rfl := Option.some.inj ho
      have f1 : a'.tmps.getD 12 undef = .pointer (some ⟨w.heap.size, 2, none⟩) := hp 9 _ rfl (he _ (Array.mem_of_getElem? (i := 0) rfl) (by kernel_rfl))
      have f2 : u.cell? ⟨w.heap.size, 2, none⟩ = some c := cellbox 2 c rfl
      clear he
      go_simp
      exact hK _ _ (out_of_below (Below.refl _ _) _ _) (putat 13 _ (by omega)) (hj.other 10 13 _ (by omega) (by omega) (by omega) (by omega) (by omega) (by omega) (by omega) (by omega) (by omega) hB (Below.refl _ _))
    · obtain rfl := Option.some.inj ho
      obtain ⟨y, f1⟩ := hp 8 _ rfl (he _ (Array.mem_of_getElem? (i := 0) rfl) (by kernel_rfl))
      have f2 : a'.tmps.getD 13 undef = c := hp 10 _ rfl (he _ (Array.mem_of_getElem? (i := 1) rfl) (by kernel_rfl))
      refine step_copy rfl (.tmp 11) (.tmp 13) rfl f1 f2 (hc.below bw hhi) (by omega) fun v' u' hoi hbe => ?_
      refine hK _ _ (out_of_below hbe _ _) ⟨u'.heap.size, Nat.le_refl _, by show OI u' _ _ ((a'.put (some 14) v').tmps.getD 14 undef) _; rw [putat 14 _ (by omega)]; exact hoi.wide (by omega) (Nat.le_refl _)⟩ ?_
      show CopyJ d (w.heap.size + 1) (L.setIfInBounds 11 true) (a'.put (some 14) v') u'
      have hno : L.getD 12 true = true → False := fun h12 => by
        have := hj.built h12
        rw [hL] at this
        simp at this
      refine ⟨?_, ?_, ?_, fun h12 => (hno (listed_set h12 (by omega))).elim, fun k hk => by rw [hbe.cell (p := ⟨w.heap.size + 1, k, none⟩) hB, hbe.frozen (p := ⟨w.heap.size + 1, k, none⟩) hB]; exact hj.room k hk, fun h13 => (hno (hj.stored (listed_set h13 (by omega))).1).elim⟩
      · intro h1 h2
        rw [getD_put_ne a' 14 6 v' (by decide), getD_put_ne a' 14 10 v' (by decide)]
        exact hj.io (listed_set h1 (by omega)) (listed_set h2 (by omega))
      · intro h1 h2
        obtain ⟨h, hh, hoi'⟩ := hp 3 _ rfl (listed_set h1 (by omega))
        rw [putat 14 _ (by omega), getD_put_ne a' 14 6 v' (by decide)]
        exact (apart_of hoi' hoi hh)
      · intro h1 h2
        obtain ⟨h, hh, hoi'⟩ := hp 7 _ rfl (listed_set h1 (by omega))
        rw [putat 14 _ (by omega), getD_put_ne a' 14 10 v' (by decide)]
        exact (apart_of hoi' hoi hh)
    · obtain rfl := Option.some.inj ho
      have l3 := he _ (Array.mem_of_getElem? (i := 0) rfl) (by kernel_rfl)
      have l7 := he _ (Array.mem_of_getElem? (i := 1) rfl) (by kernel_rfl)
      have l11 := he _ (Array.mem_of_getElem? (i := 2) rfl) (by kernel_rfl)
      have l3 : L.getD 3 true = true := l3
      have l7 : L.getD 7 true = true := l7
      have l11 : L.getD 11 true = true := l11
      obtain ⟨_, _, o6⟩ := hp 3 _ rfl l3
      obtain ⟨_, _, o10⟩ := hp 7 _ rfl l7
      obtain ⟨_, _, o14⟩ := hp 11 _ rfl l11
      obtain ⟨p6, c6, e6⟩ := o6.si.shape
      obtain ⟨p10, c10, e10⟩ := o10.si.shape
      obtain ⟨p14, c14, e14⟩ := o14.si.shape
      have e6 : a'.tmps.getD 6 undef = .slice p6 d.i.length c6 := e6
      have e10 : a'.tmps.getD 10 undef = .slice p10 d.o.length c10 := e10
      have e14 : a'.tmps.getD 14 undef = .slice p14 d.v.length c14 := e14
      have HZ : Hid (a'.tmps.size = 16) := hsz'
      have HE6 : Hid (a'.tmps.getD 6 undef = .slice p6 d.i.length c6) := e6
      have HE10 : Hid (a'.tmps.getD 10 undef = .slice p10 d.o.length c10) := e10
      have HE14 : Hid (a'.tmps.getD 14 undef = .slice p14 d.v.length c14) := e14
      rw [Array.getD_eq_getD_getElem?] at e6 e10 e14
      clear he o6 o10 o14 hsz'
      go_simp
      refine hK _ _ (out_of_below (Below.refl _ _) _ _) trivial ?_
      show CopyJ d (w.heap.size + 1) (L.setIfInBounds 12 true) (a'.put (some 15) (.agg #[.slice p6 d.i.length c6, .slice p10 d.o.length c10, .slice p14 d.v.length c14])) u
      have hno : L.getD 13 true = true → False := fun h13 => by
        have := (hj.stored h13).1
        rw [hL] at this; cases this
      refine ⟨?_, ?_, ?_, ?_, hj.room, fun h13 => (hno (listed_set h13 (by omega))).elim⟩
      · rw [getD_put_ne _ _ _ _ (by decide), getD_put_ne _ _ _ _ (by decide)]
        exact fun h1 h2 => hj.io (listed_set h1 (by omega)) (listed_set h2 (by omega))
      · rw [getD_put_ne _ _ _ _ (by decide), getD_put_ne _ _ _ _ (by decide)]
        exact fun h1 h2 => hj.iv (listed_set h1 (by omega)) (listed_set h2 (by omega))
      · rw [getD_put_ne _ _ _ _ (by decide), getD_put_ne _ _ _ _ (by decide)]
        exact fun h1 h2 => hj.ov (listed_set h1 (by omega)) (listed_set h2 (by omega))
      · intro _
        rw [getD_set_ne true (by omega), getD_set_ne true (by omega), getD_set_ne true (by omega), getD_put_ne a' 15 6 _ (by decide), getD_put_ne a' 15 10 _ (by decide), getD_put_ne a' 15 14 _ (by decide), HE6.out, HE10.out, HE14.out]
        exact ⟨l3, l7, l11, putat 15 _ (by rw [HZ.out]; omega)⟩
    · obtain rfl := Option.some.inj ho
      have l12 : L.getD 12 true = true := he _ (Array.mem_of_getElem? (i := 0) rfl) (by kernel_rfl)
      obtain ⟨l3, l7, l11, e15⟩ := hj.built l12
      obtain ⟨_, _, o6⟩ := hp 3 _ rfl l3
      obtain ⟨_, _, o10⟩ := hp 7 _ rfl l7
      obtain ⟨_, _, o14⟩ := hp 11 _ rfl l11
      obtain ⟨p6, c6, e6⟩ := o6.si.shape
      obtain ⟨p10, c10, e10⟩ := o10.si.shape
      obtain ⟨p14, c14, e14⟩ := o14.si.shape
      have e6 : a'.tmps.getD 6 undef = .slice p6 d.i.length c6 := e6
      have e10 : a'.tmps.getD 10 undef = .slice p10 d.o.length c10 := e10
      have e14 : a'.tmps.getD 14 undef = .slice p14 d.v.length c14 := e14
      rw [e6, e10, e14] at e15
      have HE6 : Hid (a'.tmps.getD 6 undef = .slice p6 d.i.length c6) := e6
      have HE10 : Hid (a'.tmps.getD 10 undef = .slice p10 d.o.length c10) := e10
      have HE14 : Hid (a'.tmps.getD 14 undef = .slice p14 d.v.length c14) := e14
      have f2 : a'.tmps.getD 2 undef = .pointer (some ⟨w.heap.size + 1, 0, none⟩) := hf.at_ 2 (by kernel_rfl)
      have r0 := hj.room 0 (by omega)
      have r1 := hj.room 1 (by omega)
      have r2 := hj.room 2 (by omega)
      obtain ⟨y0, s0⟩ := Option.isSome_iff_exists.mp r0.1
      obtain ⟨y1, s1⟩ := Option.isSome_iff_exists.mp r1.1
      obtain ⟨y2, s2⟩ := Option.isSome_iff_exists.mp r2.1
      have t0 := r0.2
      have t1 := r1.2
      have t2 := r2.2
      clear he o6 o10 o14 r0 r1 r2 e6 e10 e14
      go_simp
      have hroom : ∀ k, k < 3 → (u.cell? ⟨w.heap.size + 1, k, none⟩).isSome = true := fun k hk => (hj.room k hk).1
      have hw3 := wrote3 u (w.heap.size + 1) (.slice p6 d.i.length c6) (.slice p10 d.o.length c10) (.slice p14 d.v.length c14)
      have hc3 := cells3 hroom (.slice p6 d.i.length c6) (.slice p10 d.o.length c10) (.slice p14 d.v.length c14)
      refine hK undef _ (hw3.out fun b o h => by omega) trivial ?_
      show CopyJ d (w.heap.size + 1) (L.setIfInBounds 13 true) a' _
      refine ⟨fun h1 h2 => hj.io (listed_set h1 (by omega)) (listed_set h2 (by omega)), fun h1 h2 => hj.iv (listed_set h1 (by omega)) (listed_set h2 (by omega)), fun h1 h2 => hj.ov (listed_set h1 (by omega)) (listed_set h2 (by omega)), fun h12 => ?_, fun k hk => ⟨?_, by rw [hw3.frozen]; exact (hj.room k hk).2⟩, fun _ => ⟨?_, ?_⟩⟩
      · rw [getD_set_ne true (by omega), getD_set_ne true (by omega), getD_set_ne true (by omega)]
        exact hj.built l12
      · match k, hk with
        | 0, _ => rw [hc3.1]; rfl
        | 1, _ => rw [hc3.2.1]; rfl
        | 2, _ => rw [hc3.2.2]; rfl
      · rw [getD_set_ne true (by omega)]; exact l12
      · rw [HE6.out, HE10.out, HE14.out]; exact hc3
    · exact absurd ho (by simp)
  · intro L a' u hf hr hp hj
    obtain ⟨l13, _⟩ := hp 13 _ rfl
    obtain ⟨l12, s0, s1, s2⟩ := hj.stored l13
    obtain ⟨l3, l7, l11, _⟩ := hj.built l12
    obtain ⟨_, h6, k6, o6⟩ := hp 3 _ rfl
    obtain ⟨_, h10, k10, o10⟩ := hp 7 _ rfl
    obtain ⟨_, h14, k14, o14⟩ := hp 11 _ rfl
    have A1 := hj.io l3 l7
    have A2 := hj.iv l3 l11
    have A3 := hj.ov l7 l11
    have O6 : OI u (w.heap.size + 2) h6 (a'.tmps.getD 6 undef) d.i := o6
    have O10 : OI u (w.heap.size + 2) h10 (a'.tmps.getD 10 undef) d.o := o10
    have O14 : OI u (w.heap.size + 2) h14 (a'.tmps.getD 14 undef) d.v := o14
    have bw : Below w.heap.size w u := (b2 _ _).trans (hr.below (by omega) (by simp; omega))
    have f2 : a'.tmps.getD 2 undef = .pointer (some ⟨w.heap.size + 1, 0, none⟩) := hf.at_ 2 (by kernel_rfl)
    have fd : a'.defers = [] := hf.defers
    generalize a'.tmps.getD 6 undef = x6 at *
    generalize a'.tmps.getD 10 undef = x10 at *
    generalize a'.tmps.getD 14 undef = x14 at *
    obtain ⟨p6, c6, rfl⟩ := O6.si.shape
    obtain ⟨p10, c10, rfl⟩ := O10.si.shape
    obtain ⟨p14, c14, rfl⟩ := O14.si.shape
    have HM : MO u w.heap.size u.heap.size (.agg #[.slice p6 d.i.length c6, .slice p10 d.o.length c10, .slice p14 d.v.length c14]) d :=
      ⟨_, _, _, rfl, O6.wide (by omega) k6, O10.wide (by omega) k10, O14.wide (by omega) k14, A1, A2, A3⟩
    clear o6 o10 o14 O6 O10 O14 A1 A2 A3 hp hj hr hf
    go_wp2
    have f2' := f2
    rw [Array.getD_eq_getD_getElem?] at f2'
    exact bodyPost_ret (v := .agg #[.slice p6 d.i.length c6, .slice p10 d.o.length c10, .slice p14 d.v.length c14]) (by simp [results, Tryz.results19, go_sem, f2', s0, s1, s2]) fd ⟨_, rfl, HM, bw⟩

/-- What holds of the slots of MemPut's last region together. -/
structure PutJ (d d' : MemD) (B n0 : Nat) (L : Array Bool) (a : Act) (u : World) : Prop where
  room : ∀ k, k < 3 → (u.cell? ⟨B, k, none⟩).isSome = true ∧ u.frozen? ⟨B, k, none⟩ = false
  copy : L.getD 1 true = true → L.getD 4 true = false → ∃ h, h ≤ u.heap.size ∧ MO u n0 h (a.tmps.getD 17 undef) d
  put : L.getD 4 true = true → L.getD 1 true = true ∧ ∃ h, h ≤ u.heap.size ∧ MO u n0 h (a.tmps.getD 20 undef) d'
  stored : L.getD 5 true = true → L.getD 4 true = true ∧ ∃ x y z, a.tmps.getD 20 undef = .agg #[x, y, z] ∧ u.cell? ⟨B, 0, none⟩ = some x ∧ u.cell? ⟨B, 1, none⟩ = some y ∧ u.cell? ⟨B, 2, none⟩ = some z

theorem PutJ.other {d d' : MemD} {B n0 : Nat} {L : Array Bool} {a : Act} {u : World} (h : PutJ d d' B n0 L a u) (i : Nat) (t : Tmp) (v : Value)
    (i1 : i ≠ 1) (i4 : i ≠ 4) (i5 : i ≠ 5) (t17 : t ≠ 17) (t20 : t ≠ 20) : PutJ d d' B n0 (L.setIfInBounds i true) (a.put (some t) v) u := by
  refine ⟨h.room, ?_, ?_, ?_⟩ <;> simp only [getD_set_ne true i1, getD_set_ne true i4, getD_set_ne true i5, getD_put_ne _ _ _ _ t17, getD_put_ne _ _ _ _ t20]
  · exact h.copy
  · exact h.put
  · exact h.stored

theorem getD_set_same4 {L : Array Bool} {i : Nat} (hL : L.getD i true = false) (_h : True) : (L.setIfInBounds i true).getD i true = true := by
  have hi : i < L.size := by
    rcases Nat.lt_or_ge i L.size with h' | h'
    · exact h'
    · simp [Array.getElem?_eq_none h'] at hL
  simp [hi]

theorem oi_nil (w : World) (lo hi : Nat) : OI w lo hi (.slice none 0 0) [] := .inl ⟨rfl, none, 0, rfl, Nat.zero_le _⟩
theorem apart_nil (v v' : Value) (n : Nat) : Apart v 0 v' n := fun b o ⟨_, _, _, _, _, _, h1, h2⟩ => by omega

theorem box3_first (w : World) (c : Array Value) (t : TypeId) (o2 o3 : Obj) (i : Nat) : (((w.alloc (.cells c t)).alloc o2).alloc o3).cell? ⟨w.heap.size, i, none⟩ = c[i]? := by
  rw [World.cell?_alloc_lt _ _ ⟨w.heap.size, i, none⟩ (by simp; omega)]; exact World.cell?_alloc2_first c t o2 i

theorem box3_second (w : World) (o1 : Obj) (c : Array Value) (t : TypeId) (o3 : Obj) (i : Nat) : (((w.alloc o1).alloc (.cells c t)).alloc o3).cell? ⟨w.heap.size + 1, i, none⟩ = c[i]? := by
  rw [World.cell?_alloc_lt _ _ ⟨w.heap.size + 1, i, none⟩ (by simp)]; exact World.cell?_alloc2_new o1 c t i

theorem box3_third (w : World) (o1 o2 : Obj) (c : Array Value) (t : TypeId) (i : Nat) : (((w.alloc o1).alloc o2).alloc (.cells c t)).cell? ⟨w.heap.size + 1 + 1, i, none⟩ = c[i]? ∧ (((w.alloc o1).alloc o2).alloc (.cells c t)).frozen? ⟨w.heap.size + 1 + 1, i, none⟩ = false := by
  have h1 := World.cell?_alloc2_new (w := w.alloc o1) o2 c t i
  have h2 := World.frozen?_alloc2_new (w := w.alloc o1) o2 c t i
  rw [World.size_alloc] at h1 h2
  exact ⟨h1, h2⟩

theorem OI.through {w W0 u w'' : World} {P : Nat → Nat → Prop} {lo hi : Nat} {v : Value} {xs : List Int} (h : OI w lo hi v xs) (hhi : hi ≤ w.heap.size) (b : Below w.heap.size w W0) (hR : Wrote P W0 u) (hP : ∀ b o, Foot v xs.length b o → ¬ P b o)
    (hk : ∀ k, k < w.heap.size → w''.heap[k]? = u.heap[k]?) : OI w'' lo hi v xs :=
  ((h.below b hhi).wrote hR hP).kept fun k _ h => hk k (by omega)

theorem CI.below {w w' : World} {n b off : Nat} {xs : List Int} (h : CI w b off xs) (hb : Below n w w') (hn : b < n) : CI w' b off xs := fun i x hx => by
  rw [hb.cell (p := ⟨b, off + i, none⟩) hn]; exact h i x hx

/-- A list of six that is owned. -/
theorem OI.six {w : World} {lo hi : Nat} {v : Value} {xs : List Int} (h : OI w lo hi v xs) (hl : xs.length = 6) :
    ∃ g off cap, v = .slice (some ⟨g, off, none⟩) 6 cap ∧ 6 ≤ cap ∧ cap ≤ maxLen ∧ lo ≤ g ∧ g < hi ∧ CI w g off xs ∧ ∀ i, w.frozen? ⟨g, off + i, none⟩ = false := by
  rcases h with ⟨rfl, _⟩ | ⟨g, off, cap, hv, h1, h2, h3, h4, h5, h6⟩
  · simp at hl
  · exact ⟨g, off, cap, by rw [hv, hl], by omega, h2, h3, h4, h5, h6⟩

/-- One number of a list that is owned is written. -/
theorem OI.put {w w' : World} {lo hi : Nat} {xs : List Int} {g off cap j : Nat} {x : Int} (h : CI w g off xs) (hf : ∀ i, w.frozen? ⟨g, off + i, none⟩ = false) (hw : Wrote (fun b o => b = g ∧ o = off + j) w w') (hc : w'.cell? ⟨g, off + j, none⟩ = some (.int .i64 x))
    (hl : xs.length = 6) (h6 : 6 ≤ cap) (hm : cap ≤ maxLen) (h1 : lo ≤ g) (h2 : g < hi) : OI w' lo hi (.slice (some ⟨g, off, none⟩) 6 cap) (xs.set j x) := by
  refine .inr ⟨g, off, cap, by rw [List.length_set, hl], by rw [List.length_set, hl]; exact h6, hm, h1, h2, fun i y hy => ?_, fun i => by rw [hw.frozen]; exact hf i⟩
  by_cases e : i = j
  · subst e
    have hi : i < xs.length := by have := (List.getElem?_eq_some_iff.mp hy).1; rwa [List.length_set] at this
    rw [List.getElem?_set_self hi] at hy
    cases hy
    exact hc
  · rw [List.getElem?_set_ne (fun h => e h.symm)] at hy
    rw [hw.cell g (off + i) (by omega)]
    exact h i y hy

/-- A number put at a place. -/
def memSet (d : MemD) (a : AddrD) (n : Int) : MemD :=
  if a.kind = 2 then { d with o := d.o.set a.at_.toNat (cutZ n) } else if a.kind = 3 then { d with v := d.v.set a.at_.toNat (cutZ n) } else d

def memPut (d : MemD) (a : AddrD) (n : Int) : MemD := if memOk d then (if addrOk a then memSet d a n else d) else ⟨[], [], []⟩

set_option maxHeartbeats 1000000 in
theorem l2Put_any (w : World) (lo hi : Nat) (m : Value) (d : MemD) (a : AddrD) (n : Int) (h : MO w lo hi m d) (hhi : hi ≤ w.heap.size) (hd : memOk d = true) (ha : addrOk a = true) :
    Calls Tryz.prog 51 #[m, a.val, .int .i64 n] w fun e w' => e = .returned m ∧ MO w' lo hi m (memSet d a n) ∧ Out lo hi w w' := by
  obtain ⟨x, y, z, rfl, hx, hy, hz, A1, A2, A3⟩ := h
  obtain ⟨k, at_⟩ := a
  obtain ⟨k1, k2, k3, k4⟩ := addrOk_bd ha
  simp only at k1 k2 k3 k4
  have hl := memOk_len hd k
  obtain ⟨j, rfl⟩ : ∃ j : Nat, at_ = (j : Int) := ⟨at_.toNat, by omega⟩
  unfold AddrD.val
  unfold memList at hl
  by_cases e1 : k = 1
  · subst e1
    clear hl ha
    obtain ⟨px, cx, rfl⟩ := hx.si.shape
    obtain ⟨py, cy, rfl⟩ := hy.si.shape
    obtain ⟨pz, cz, rfl⟩ := hz.si.shape
    have bw := below_alloc3 w
    have kx := fun o1 o2 o3 => hx.below (bw o1 o2 o3) hhi
    have ky := fun o1 o2 o3 => hy.below (bw o1 o2 o3) hhi
    have kz := fun o1 o2 o3 => hz.below (bw o1 o2 o3) hhi
    clear hx hy hz
    go_enter Tryz.func51, Tryz.ntmps51
    go_wp2
    exact bodyPost_ret (v := .agg #[.slice px d.i.length cx, .slice py d.o.length cy, .slice pz d.v.length cz]) (by simp [results, Tryz.results51, go_sem]) rfl
      ⟨rfl, ⟨_, _, _, rfl, kx _ _ _, ky _ _ _, kz _ _ _, A1, A2, A3⟩, out_of_below (bw _ _ _) _ _⟩
  · by_cases e2 : k = 2
    · subst e2
      rw [if_neg (by omega), if_pos rfl] at hl
      obtain ⟨px, cx, rfl⟩ := hx.si.shape
      obtain ⟨pz, cz, rfl⟩ := hz.si.shape
      obtain ⟨g, off, cap, rfl, h1, h2, h3, h4, h5, h6⟩ := hy.six hl
      obtain ⟨r, hr⟩ : ∃ r, d.o[j]? = some r := ⟨d.o[j]'(by omega), List.getElem?_eq_getElem (by omega)⟩
      have c1 := h5 j r hr
      have f1 := h6 j
      have h2' := h2
      unfold maxLen at h2'
      have hgs : g < w.heap.size := by omega
      have hj6 : (j : Int) < 6 := by omega
      have hj0 : (0 : Int) ≤ (j : Int) := by omega
      have HL : Hid (d.o.length = 6) := hl
      clear hl hr
      go_enter Tryz.func51, Tryz.ntmps51
      go_wp2_with fail
      refine wp_region_dagJ (R := fun u u' => Wrote (fun b o => b = g ∧ o = off + j) u u')
        (Φ := fun i v u => match i with
          | 0 => v = .pointer (some ⟨w.heap.size, 1, none⟩)
          | 1 => v = .slice (some ⟨g, off, none⟩) 6 cap
          | 2 => v = .pointer (some ⟨w.heap.size + 1, 1, none⟩)
          | 3 => v = .int .i64 j
          | 4 => v = .int .i64 n
          | 5 => v = .int .i64 (cutZ n)
          | 6 => v = .pointer (some ⟨g, off + j, none⟩)
          | _ => True)
        (J := fun L a' u => (u.cell? ⟨g, off + j, none⟩).isSome = true ∧ (L.getD 7 true = true → u.cell? ⟨g, off + j, none⟩ = some (.int .i64 (cutZ n)))) (by kernel_rfl) (by kernel_rfl) (by kernel_rfl) ?_ ?_ ?_ ?_ ?_ ?_
      · exact Wrote.refl _ _
      · exact fun a b c h1 h2 => h1.trans h2
      · intro i v u u' hr'
        match i with
        | 0 | 1 | 2 | 3 | 4 | 5 | 6 | _ + 7 => exact fun h => h
      · refine ⟨?_, fun h => by simp at h⟩
        rw [World.cell?_drew, (below_alloc3 w _ _ _).cell (p := ⟨g, off + j, none⟩) hgs, c1]
        rfl
      · intro i o ho L a' u hf hR hsz hL hp he hJ K' hK
        have putat : ∀ (t : Nat) (v : Value), t < a'.tmps.size → (a'.put (some t) v).tmps.getD t undef = v := fun t v ht => by
          show (a'.tmps.setIfInBounds t v).getD t undef = v
          simp [ht]
        have hsz' : a'.tmps.size = 28 := hf.size
        have cb := fun b o (hb : ¬ (b = g ∧ o = off + j)) => hR.cell b o hb
        have cf : u.frozen? ⟨g, off + j, none⟩ = false := by rw [hR.frozen g (off + j), World.frozen?_drew, (below_alloc3 w _ _ _).frozen (p := ⟨g, off + j, none⟩) hgs]; exact f1
        obtain ⟨y0, hy0⟩ := Option.isSome_iff_exists.mp hJ.1
        have jk : ∀ i, i ≠ 7 → (u.cell? ⟨g, off + j, none⟩).isSome = true ∧ ((L.setIfInBounds i true).getD 7 true = true → u.cell? ⟨g, off + j, none⟩ = some (.int .i64 (cutZ n))) := fun i hi => ⟨hJ.1, fun h => hJ.2 (listed_set h hi)⟩
        clear hR
        rcases i with _ | _ | _ | _ | _ | _ | _ | _ | i
        · obtain rfl := Option.some.inj ho
          clear he
          have q1 : a'.tmps.getD 3 undef = .pointer (some ⟨w.heap.size, 0, none⟩) := hf.at_ 3 (by kernel_rfl)
          go_simp
          exact hK _ _ (Wrote.refl _ _) (putat 11 _ (by omega)) (jk 0 (by omega))
        · obtain rfl := Option.some.inj ho
          have q1 : a'.tmps.getD 11 undef = .pointer (some ⟨w.heap.size, 1, none⟩) := hp 0 _ rfl (he _ (Array.mem_of_getElem? (i := 0) rfl) (by kernel_rfl))
          have q2 : u.cell? ⟨w.heap.size, 1, none⟩ = some (.slice (some ⟨g, off, none⟩) 6 cap) := by rw [cb _ _ (by omega)]; exact box3_first w _ _ _ _ _
          clear he
          go_simp
          exact hK _ _ (Wrote.refl _ _) (putat 12 _ (by omega)) (jk 1 (by omega))
        · obtain rfl := Option.some.inj ho
          clear he
          have q1 : a'.tmps.getD 4 undef = .pointer (some ⟨w.heap.size + 1, 0, none⟩) := hf.at_ 4 (by kernel_rfl)
          go_simp
          exact hK _ _ (Wrote.refl _ _) (putat 13 _ (by omega)) (jk 2 (by omega))
        · obtain rfl := Option.some.inj ho
          have q1 : a'.tmps.getD 13 undef = .pointer (some ⟨w.heap.size + 1, 1, none⟩) := hp 2 _ rfl (he _ (Array.mem_of_getElem? (i := 0) rfl) (by kernel_rfl))
          have q2 : u.cell? ⟨w.heap.size + 1, 1, none⟩ = some (.int .i64 j) := by rw [cb _ _ (by omega)]; exact box3_second w _ _ _ _ _
          clear he
          go_simp
          exact hK _ _ (Wrote.refl _ _) (putat 14 _ (by omega)) (jk 3 (by omega))
        · obtain rfl := Option.some.inj ho
          clear he
          have q1 : a'.tmps.getD 2 undef = .int .i64 n := hf.at_ 2 (by kernel_rfl)
          go_simp
          exact hK _ _ (Wrote.refl _ _) (putat 15 _ (by omega)) (jk 4 (by omega))
        · obtain rfl := Option.some.inj ho
          have q1 : a'.tmps.getD 15 undef = .int .i64 n := hp 4 _ rfl (he _ (Array.mem_of_getElem? (i := 0) rfl) (by kernel_rfl))
          clear he
          go_simp
          refine (sCut_any _ _).mono ?_
          rintro e w' ⟨rfl, rfl⟩
          exact hK _ _ (Wrote.refl _ _) (putat 16 _ (by omega)) (jk 5 (by omega))
        · obtain rfl := Option.some.inj ho
          have q1 : a'.tmps.getD 12 undef = .slice (some ⟨g, off, none⟩) 6 cap := hp 1 _ rfl (he _ (Array.mem_of_getElem? (i := 0) rfl) (by kernel_rfl))
          have q2 : a'.tmps.getD 14 undef = .int .i64 j := hp 3 _ rfl (he _ (Array.mem_of_getElem? (i := 1) rfl) (by kernel_rfl))
          clear he
          go_simp
          exact hK _ _ (Wrote.refl _ _) (putat 17 _ (by omega)) (jk 6 (by omega))
        · obtain rfl := Option.some.inj ho
          have q1 : a'.tmps.getD 17 undef = .pointer (some ⟨g, off + j, none⟩) := hp 6 _ rfl (he _ (Array.mem_of_getElem? (i := 0) rfl) (by kernel_rfl))
          have q2 : a'.tmps.getD 16 undef = .int .i64 (cutZ n) := hp 5 _ rfl (he _ (Array.mem_of_getElem? (i := 1) rfl) (by kernel_rfl))
          clear he
          go_simp
          have hsame : (u.setCell ⟨g, off + j, none⟩ (.int .i64 (cutZ n))).cell? ⟨g, off + j, none⟩ = some (.int .i64 (cutZ n)) := World.cell?_setCell_same _ _ _ hy0
          exact hK undef _ (Wrote.setCell (P := fun b o => b = g ∧ o = off + j) (Wrote.refl _ _) ⟨rfl, rfl⟩ _) trivial ⟨by rw [hsame]; rfl, fun _ => hsame⟩
        · exact absurd ho (by simp)
      · intro L a' u hf hR hp hJ
        have q7 := (hp 7 _ rfl).1
        have hcell := hJ.2 q7
        have cb := fun b o (hb : ¬ (b = g ∧ o = off + j)) => hR.cell b o hb
        have m3 : a'.tmps.getD 3 undef = .pointer (some ⟨w.heap.size, 0, none⟩) := hf.at_ 3 (by kernel_rfl)
        have m6 : a'.tmps.getD 6 undef = .pointer (some ⟨w.heap.size + 1 + 1, 0, none⟩) := hf.at_ 6 (by kernel_rfl)
        have md : a'.defers = [] := hf.defers
        have msz : a'.tmps.size = 28 := hf.size
        have z0 : u.cell? ⟨w.heap.size, 0, none⟩ = some (.slice px d.i.length cx) := by rw [cb _ _ (by omega)]; exact box3_first w _ _ _ _ _
        have z1 : u.cell? ⟨w.heap.size, 1, none⟩ = some (.slice (some ⟨g, off, none⟩) 6 cap) := by rw [cb _ _ (by omega)]; exact box3_first w _ _ _ _ _
        have z2 : u.cell? ⟨w.heap.size, 2, none⟩ = some (.slice pz d.v.length cz) := by rw [cb _ _ (by omega)]; exact box3_first w _ _ _ _ _
        have y0 : u.cell? ⟨w.heap.size + 1 + 1, 0, none⟩ = some (.slice none 0 0) := by rw [cb _ _ (by omega)]; exact (box3_third w _ _ _ _ _).1
        have y1 : u.cell? ⟨w.heap.size + 1 + 1, 1, none⟩ = some (.slice none 0 0) := by rw [cb _ _ (by omega)]; exact (box3_third w _ _ _ _ _).1
        have y2 : u.cell? ⟨w.heap.size + 1 + 1, 2, none⟩ = some (.slice none 0 0) := by rw [cb _ _ (by omega)]; exact (box3_third w _ _ _ _ _).1
        have g0 : ∀ k, u.frozen? ⟨w.heap.size + 1 + 1, k, none⟩ = false := fun k => by rw [hR.frozen, World.frozen?_drew]; exact (box3_third w _ _ _ _ _).2
        obtain ⟨f, ea, hfv⟩ := act_lit a' 28 msz
        rw [← hfv] at m3 m6
        rw [md] at ea
        simp only [List.range, List.range.loop, List.map_cons, List.map_nil] at ea
        subst ea
        clear hf hp hJ q7 md msz hfv cb
        have bw := below_alloc3 w (.cells #[.slice px d.i.length cx, .slice (some ⟨g, off, none⟩) 6 cap, .slice pz d.v.length cz] 28) (.cells #[.int .i64 2, .int .i64 j] 45) (.cells #[.slice none 0 0, .slice none 0 0, .slice none 0 0] 28)
        have bw' := Below.drew bw
        have hw3 := wrote3 u (w.heap.size + 1 + 1) (.slice px d.i.length cx) (.slice (some ⟨g, off, none⟩) 6 cap) (.slice pz d.v.length cz)
        have hk : ∀ k, k < w.heap.size → _ := fun k (hk : k < w.heap.size) => hw3.block k (fun o e => by omega)
        have HP : OI _ lo hi (.slice (some ⟨g, off, none⟩) 6 cap) (d.o.set j (cutZ n)) := (OI.put (h5.below bw' hgs) (fun i => by rw [bw'.frozen (p := ⟨g, off + i, none⟩) hgs]; exact h6 i) hR hcell HL.out h1 h2 h3 h4).kept fun k _ hk' => hk k (by omega)
        have ft : Foot (.slice (some ⟨g, off, none⟩) 6 cap) d.o.length g (off + j) := ⟨g, off, _, _, rfl, rfl, by omega, by have := HL.out; omega⟩
        have HX : OI _ lo hi (.slice px d.i.length cx) d.i := hx.through hhi bw' hR (fun b o hf hp => by obtain ⟨rfl, rfl⟩ := hp; exact A1 _ _ hf ft) hk
        have HZ : OI _ lo hi (.slice pz d.v.length cz) d.v := hz.through hhi bw' hR (fun b o hf hp => by obtain ⟨rfl, rfl⟩ := hp; exact A3 _ _ ft hf) hk
        have HO : Out lo hi w _ := ⟨hw3.os.trans (hR.os.trans bw'.os), hw3.tape.trans (hR.tape.trans bw'.tape), hw3.output.trans (hR.output.trans bw'.output), by rw [hw3.size, hR.size]; exact bw'.size,
          fun k hk1 hk2 => (hk k hk1).trans ((hR.block k (fun o e => by omega)).trans (bw'.block k hk1))⟩
        have HM : MO _ lo hi (.agg #[.slice px d.i.length cx, .slice (some ⟨g, off, none⟩) 6 cap, .slice pz d.v.length cz]) (memSet d ⟨2, j⟩ n) := ⟨_, _, _, rfl, HX, HP, HZ, by simpa [memSet] using A1, by simpa [memSet] using A2, by simpa [memSet] using A3⟩
        clear hw3 hk HP ft bw bw' HX HZ
        go_wp2
        exact bodyPost_ret (v := .agg #[.slice px d.i.length cx, .slice (some ⟨g, off, none⟩) 6 cap, .slice pz d.v.length cz]) (by simp [results, Tryz.results51, go_sem, m6, y0, y1, y2]) rfl ⟨rfl, HM, HO⟩
    · obtain rfl : k = 3 := by omega
      rw [if_neg (by omega), if_neg (by omega)] at hl
      obtain ⟨px, cx, rfl⟩ := hx.si.shape
      obtain ⟨py, cy, rfl⟩ := hy.si.shape
      obtain ⟨g, off, cap, rfl, h1, h2, h3, h4, h5, h6⟩ := hz.six hl
      obtain ⟨r, hr⟩ : ∃ r, d.v[j]? = some r := ⟨d.v[j]'(by omega), List.getElem?_eq_getElem (by omega)⟩
      have c1 := h5 j r hr
      have f1 := h6 j
      have h2' := h2
      unfold maxLen at h2'
      have hgs : g < w.heap.size := by omega
      have hj6 : (j : Int) < 6 := by omega
      have hj0 : (0 : Int) ≤ (j : Int) := by omega
      have HL : Hid (d.v.length = 6) := hl
      clear hl hr
      go_enter Tryz.func51, Tryz.ntmps51
      go_wp2_with fail
      refine wp_region_dagJ (R := fun u u' => Wrote (fun b o => b = g ∧ o = off + j) u u')
        (Φ := fun i v u => match i with
          | 0 => v = .pointer (some ⟨w.heap.size, 2, none⟩)
          | 1 => v = .slice (some ⟨g, off, none⟩) 6 cap
          | 2 => v = .pointer (some ⟨w.heap.size + 1, 1, none⟩)
          | 3 => v = .int .i64 j
          | 4 => v = .int .i64 n
          | 5 => v = .int .i64 (cutZ n)
          | 6 => v = .pointer (some ⟨g, off + j, none⟩)
          | _ => True)
        (J := fun L a' u => (u.cell? ⟨g, off + j, none⟩).isSome = true ∧ (L.getD 7 true = true → u.cell? ⟨g, off + j, none⟩ = some (.int .i64 (cutZ n)))) (by kernel_rfl) (by kernel_rfl) (by kernel_rfl) ?_ ?_ ?_ ?_ ?_ ?_
      · exact Wrote.refl _ _
      · exact fun a b c h1 h2 => h1.trans h2
      · intro i v u u' hr'
        match i with
        | 0 | 1 | 2 | 3 | 4 | 5 | 6 | _ + 7 => exact fun h => h
      · refine ⟨?_, fun h => by simp at h⟩
        rw [World.cell?_drew, (below_alloc3 w _ _ _).cell (p := ⟨g, off + j, none⟩) hgs, c1]
        rfl
      · intro i o ho L a' u hf hR hsz hL hp he hJ K' hK
        have putat : ∀ (t : Nat) (v : Value), t < a'.tmps.size → (a'.put (some t) v).tmps.getD t undef = v := fun t v ht => by
          show (a'.tmps.setIfInBounds t v).getD t undef = v
          simp [ht]
        have hsz' : a'.tmps.size = 28 := hf.size
        have cb := fun b o (hb : ¬ (b = g ∧ o = off + j)) => hR.cell b o hb
        have cf : u.frozen? ⟨g, off + j, none⟩ = false := by rw [hR.frozen g (off + j), World.frozen?_drew, (below_alloc3 w _ _ _).frozen (p := ⟨g, off + j, none⟩) hgs]; exact f1
        obtain ⟨y0, hy0⟩ := Option.isSome_iff_exists.mp hJ.1
        have jk : ∀ i, i ≠ 7 → (u.cell? ⟨g, off + j, none⟩).isSome = true ∧ ((L.setIfInBounds i true).getD 7 true = true → u.cell? ⟨g, off + j, none⟩ = some (.int .i64 (cutZ n))) := fun i hi => ⟨hJ.1, fun h => hJ.2 (listed_set h hi)⟩
        clear hR
        rcases i with _ | _ | _ | _ | _ | _ | _ | _ | i
        · obtain rfl := Option.some.inj ho
          clear he
          have q1 : a'.tmps.getD 3 undef = .pointer (some ⟨w.heap.size, 0, none⟩) := hf.at_ 3 (by kernel_rfl)
          go_simp
          exact hK _ _ (Wrote.refl _ _) (putat 20 _ (by omega)) (jk 0 (by omega))
        · obtain rfl := Option.some.inj ho
          have q1 : a'.tmps.getD 20 undef = .pointer (some ⟨w.heap.size, 2, none⟩) := hp 0 _ rfl (he _ (Array.mem_of_getElem? (i := 0) rfl) (by kernel_rfl))
          have q2 : u.cell? ⟨w.heap.size, 2, none⟩ = some (.slice (some ⟨g, off, none⟩) 6 cap) := by rw [cb _ _ (by omega)]; exact box3_first w _ _ _ _ _
          clear he
          go_simp
          exact hK _ _ (Wrote.refl _ _) (putat 21 _ (by omega)) (jk 1 (by omega))
        · obtain rfl := Option.some.inj ho
          clear he
          have q1 : a'.tmps.getD 4 undef = .pointer (some ⟨w.heap.size + 1, 0, none⟩) := hf.at_ 4 (by kernel_rfl)
          go_simp
          exact hK _ _ (Wrote.refl _ _) (putat 22 _ (by omega)) (jk 2 (by omega))
        · obtain rfl := Option.some.inj ho
          have q1 : a'.tmps.getD 22 undef = .pointer (some ⟨w.heap.size + 1, 1, none⟩) := hp 2 _ rfl (he _ (Array.mem_of_getElem? (i := 0) rfl) (by kernel_rfl))
          have q2 : u.cell? ⟨w.heap.size + 1, 1, none⟩ = some (.int .i64 j) := by rw [cb _ _ (by omega)]; exact box3_second w _ _ _ _ _
          clear he
          go_simp
          exact hK _ _ (Wrote.refl _ _) (putat 23 _ (by omega)) (jk 3 (by omega))
        · obtain rfl := Option.some.inj ho
          clear he
          have q1 : a'.tmps.getD 2 undef = .int .i64 n := hf.at_ 2 (by kernel_rfl)
          go_simp
          exact hK _ _ (Wrote.refl _ _) (putat 24 _ (by omega)) (jk 4 (by omega))
        · obtain rfl := Option.some.inj ho
          have q1 : a'.tmps.getD 24 undef = .int .i64 n := hp 4 _ rfl (he _ (Array.mem_of_getElem? (i := 0) rfl) (by kernel_rfl))
          clear he
          go_simp
          refine (sCut_any _ _).mono ?_
          rintro e w' ⟨rfl, rfl⟩
          exact hK _ _ (Wrote.refl _ _) (putat 25 _ (by omega)) (jk 5 (by omega))
        · obtain rfl := Option.some.inj ho
          have q1 : a'.tmps.getD 21 undef = .slice (some ⟨g, off, none⟩) 6 cap := hp 1 _ rfl (he _ (Array.mem_of_getElem? (i := 0) rfl) (by kernel_rfl))
          have q2 : a'.tmps.getD 23 undef = .int .i64 j := hp 3 _ rfl (he _ (Array.mem_of_getElem? (i := 1) rfl) (by kernel_rfl))
          clear he
          go_simp
          exact hK _ _ (Wrote.refl _ _) (putat 26 _ (by omega)) (jk 6 (by omega))
        · obtain rfl := Option.some.inj ho
          have q1 : a'.tmps.getD 26 undef = .pointer (some ⟨g, off + j, none⟩) := hp 6 _ rfl (he _ (Array.mem_of_getElem? (i := 0) rfl) (by kernel_rfl))
          have q2 : a'.tmps.getD 25 undef = .int .i64 (cutZ n) := hp 5 _ rfl (he _ (Array.mem_of_getElem? (i := 1) rfl) (by kernel_rfl))
          clear he
          go_simp
          have hsame : (u.setCell ⟨g, off + j, none⟩ (.int .i64 (cutZ n))).cell? ⟨g, off + j, none⟩ = some (.int .i64 (cutZ n)) := World.cell?_setCell_same _ _ _ hy0
          exact hK undef _ (Wrote.setCell (P := fun b o => b = g ∧ o = off + j) (Wrote.refl _ _) ⟨rfl, rfl⟩ _) trivial ⟨by rw [hsame]; rfl, fun _ => hsame⟩
        · exact absurd ho (by simp)
      · intro L a' u hf hR hp hJ
        have q7 := (hp 7 _ rfl).1
        have hcell := hJ.2 q7
        have cb := fun b o (hb : ¬ (b = g ∧ o = off + j)) => hR.cell b o hb
        have m3 : a'.tmps.getD 3 undef = .pointer (some ⟨w.heap.size, 0, none⟩) := hf.at_ 3 (by kernel_rfl)
        have m6 : a'.tmps.getD 6 undef = .pointer (some ⟨w.heap.size + 1 + 1, 0, none⟩) := hf.at_ 6 (by kernel_rfl)
        have md : a'.defers = [] := hf.defers
        have msz : a'.tmps.size = 28 := hf.size
        have z0 : u.cell? ⟨w.heap.size, 0, none⟩ = some (.slice px d.i.length cx) := by rw [cb _ _ (by omega)]; exact box3_first w _ _ _ _ _
        have z1 : u.cell? ⟨w.heap.size, 1, none⟩ = some (.slice py d.o.length cy) := by rw [cb _ _ (by omega)]; exact box3_first w _ _ _ _ _
        have z2 : u.cell? ⟨w.heap.size, 2, none⟩ = some (.slice (some ⟨g, off, none⟩) 6 cap) := by rw [cb _ _ (by omega)]; exact box3_first w _ _ _ _ _
        have y0 : u.cell? ⟨w.heap.size + 1 + 1, 0, none⟩ = some (.slice none 0 0) := by rw [cb _ _ (by omega)]; exact (box3_third w _ _ _ _ _).1
        have y1 : u.cell? ⟨w.heap.size + 1 + 1, 1, none⟩ = some (.slice none 0 0) := by rw [cb _ _ (by omega)]; exact (box3_third w _ _ _ _ _).1
        have y2 : u.cell? ⟨w.heap.size + 1 + 1, 2, none⟩ = some (.slice none 0 0) := by rw [cb _ _ (by omega)]; exact (box3_third w _ _ _ _ _).1
        have g0 : ∀ k, u.frozen? ⟨w.heap.size + 1 + 1, k, none⟩ = false := fun k => by rw [hR.frozen, World.frozen?_drew]; exact (box3_third w _ _ _ _ _).2
        obtain ⟨f, ea, hfv⟩ := act_lit a' 28 msz
        rw [← hfv] at m3 m6
        rw [md] at ea
        simp only [List.range, List.range.loop, List.map_cons, List.map_nil] at ea
        subst ea
        clear hf hp hJ q7 md msz hfv cb
        have bw := below_alloc3 w (.cells #[.slice px d.i.length cx, .slice py d.o.length cy, .slice (some ⟨g, off, none⟩) 6 cap] 28) (.cells #[.int .i64 3, .int .i64 j] 45) (.cells #[.slice none 0 0, .slice none 0 0, .slice none 0 0] 28)
        have bw' := Below.drew bw
        have hw3 := wrote3 u (w.heap.size + 1 + 1) (.slice px d.i.length cx) (.slice py d.o.length cy) (.slice (some ⟨g, off, none⟩) 6 cap)
        have hk : ∀ k, k < w.heap.size → _ := fun k (hk : k < w.heap.size) => hw3.block k (fun o e => by omega)
        have HP : OI _ lo hi (.slice (some ⟨g, off, none⟩) 6 cap) (d.v.set j (cutZ n)) := (OI.put (h5.below bw' hgs) (fun i => by rw [bw'.frozen (p := ⟨g, off + i, none⟩) hgs]; exact h6 i) hR hcell HL.out h1 h2 h3 h4).kept fun k _ hk' => hk k (by omega)
        have ft : Foot (.slice (some ⟨g, off, none⟩) 6 cap) d.v.length g (off + j) := ⟨g, off, _, _, rfl, rfl, by omega, by have := HL.out; omega⟩
        have HX : OI _ lo hi (.slice px d.i.length cx) d.i := hx.through hhi bw' hR (fun b o hf hp => by obtain ⟨rfl, rfl⟩ := hp; exact A2 _ _ hf ft) hk
        have HY : OI _ lo hi (.slice py d.o.length cy) d.o := hy.through hhi bw' hR (fun b o hf hp => by obtain ⟨rfl, rfl⟩ := hp; exact A3 _ _ hf ft) hk
        have HO : Out lo hi w _ := ⟨hw3.os.trans (hR.os.trans bw'.os), hw3.tape.trans (hR.tape.trans bw'.tape), hw3.output.trans (hR.output.trans bw'.output), by rw [hw3.size, hR.size]; exact bw'.size,
          fun k hk1 hk2 => (hk k hk1).trans ((hR.block k (fun o e => by omega)).trans (bw'.block k hk1))⟩
        have HM : MO _ lo hi (.agg #[.slice px d.i.length cx, .slice py d.o.length cy, .slice (some ⟨g, off, none⟩) 6 cap]) (memSet d ⟨3, j⟩ n) := ⟨_, _, _, rfl, HX, HY, HP, by simpa [memSet] using A1, by simpa [memSet] using A2, by simpa [memSet] using A3⟩
        clear hw3 hk HP ft bw bw' HX HY
        go_wp2
        exact bodyPost_ret (v := .agg #[.slice px d.i.length cx, .slice py d.o.length cy, .slice (some ⟨g, off, none⟩) 6 cap]) (by simp [results, Tryz.results51, go_sem, m6, y0, y1, y2]) rfl ⟨rfl, HM, HO⟩

theorem memPut_many (d : MemD) (a : AddrD) (n : Int) : (memPut d a n).many ≤ d.many := by
  unfold memPut
  split
  · split
    · unfold memSet
      split
      · simp [MemD.many]
      · split
        · simp [MemD.many]
        · exact Nat.le_refl _
    · exact Nat.le_refl _
  · simp [MemD.many]

end Go.Proofs.YtdhpbiplkjpiiaaGreatDoor
