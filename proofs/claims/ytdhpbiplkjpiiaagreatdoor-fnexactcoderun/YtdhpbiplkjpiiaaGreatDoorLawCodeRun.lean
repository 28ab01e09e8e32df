/-
  FnExactCodeRun, walked at every argument. (Written by our generator gen_lawcoderun.py.)
-/
import Derived.Test.YtdhpbiplkjpiiaaGreatDoorCodeRunS
import Derived.Test.YtdhpbiplkjpiiaaGreatDoorMacI
import Derived.Test.YtdhpbiplkjpiiaaGreatDoorInsEq
import Derived.Test.YtdhpbiplkjpiiaaGreatDoorInsMark
import Derived.Test.YtdhpbiplkjpiiaaGreatDoorLawKit
namespace Go.Proofs.YtdhpbiplkjpiiaaGreatDoor
open Go.ChangeShapes Go.WideShapes Go.ChangeAt Go.RowKit
set_option linter.unusedVariables false
set_option maxRecDepth 100000

theorem runs_manyC (d : MemD) (ps : List InsD) (f : Int) : (codeRun d ps f).1.many ≤ 4194304 := by
  unfold codeRun
  split
  · rename_i h
    simp only [Bool.and_eq_true] at h
    obtain ⟨D, hF⟩ := codeOk_flow h.1.1.2
    exact Nat.le_trans (Nat.le_of_eq (memOk_manyR (runC_ok hF (sane_start hF h.1.1.1 f.toNat)).mem)) (by decide)
  · simp [MemD.many]

theorem szInsS_w (w : World) (lo hi : Nat) (v : Value) (ps : List InsD) (left : Int) (h : NR w lo hi v ps) (_hhi : hi ≤ w.heap.size) (hl : 0 ≤ left) (hl' : left ≤ 1048576) :
    Calls Tryz.prog 5 #[v, .int .i64 left] w fun e w' => e = .returned (.int .i64 (if left < ps.length then -1 else left - ps.length)) ∧ Below w.heap.size w w' :=
  (szInsS_any w lo hi v ps left h hl hl').mono fun e w' h => ⟨h.1, by rw [h.2]; exact Below.refl _ _⟩

theorem decide_reflC (d : MemD) : decide (d = d) = true := decide_eq_true rfl

/-- A variable that holds a memory that is owned. -/
structure MVar (u : World) (V lo hi : Nat) (a b c : Value) (d : MemD) : Prop where
  own : MO u lo hi (.agg #[a, b, c]) d
  box : Box3 u V a b c
  le : hi ≤ V
  lt : V < u.heap.size

theorem mvar_new {u : World} {lo hi : Nat} {a b c : Value} {d : MemD} {t : TypeId} (h : MO u lo hi (.agg #[a, b, c]) d) (hh : hi ≤ u.heap.size) : MVar (u.alloc (.cells #[a, b, c] t)) u.heap.size lo hi a b c d :=
  ⟨h.below ((Below.refl _ _).alloc (Nat.le_refl _) _) hh, box3_new _ _ _ _ _, hh, by simp⟩
theorem MVar.below {u u' : World} {V lo hi : Nat} {a b c : Value} {d : MemD} (h : MVar u V lo hi a b c d) (g : Below u.heap.size u u') : MVar u' V lo hi a b c d :=
  ⟨h.own.below g (by have := h.le; have := h.lt; omega), h.box.below g h.lt, h.le, Nat.lt_of_lt_of_le h.lt g.size⟩
theorem MVar.out {u u' : World} {V lo hi lo' hi' : Nat} {a b c : Value} {d : MemD} (h : MVar u V lo hi a b c d) (g : Out lo' hi' u u') (h1 : hi ≤ lo' ∨ hi' ≤ lo) (h2 : V < lo' ∨ hi' ≤ V) : MVar u' V lo hi a b c d :=
  ⟨h.own.kept fun k q1 q2 => g.block k (by have := h.le; have := h.lt; omega) (by omega), h.box.out g h.lt h2, h.le, Nat.lt_of_lt_of_le h.lt g.size⟩
theorem MVar.mark {u u' : World} {V lo hi : Nat} {a b c : Value} {d e : MemD} (h : MVar u V lo hi a b c d) (o : MO u' lo hi (.agg #[a, b, c]) e) (g : Out lo hi u u') : MVar u' V lo hi a b c e :=
  ⟨o, h.box.out g h.lt (.inr h.le), h.le, Nat.lt_of_lt_of_le h.lt g.size⟩

set_option maxHeartbeats 16000000 in
theorem exactCodeRun_walk
    (impl : ∀ (w : World) (lo hi lo' hi' : Nat) (m v : Value) (d : MemD) (ss : List InsD) (f : Int) (ea : Go.Addr), MI w lo hi m d → hi ≤ w.heap.size → NR w lo' hi' v ss → hi' ≤ w.heap.size → ss.length ≤ 1048576 → LongC w ea →
      Calls Tryz.prog 9 #[m, v, .int .i64 f] w fun e w' => ∃ m', e = .returned (.tuple #[m', .int .i64 (codeRun d ss f).2.1, .int .i64 (codeRun d ss f).2.2]) ∧ MO w' w.heap.size w'.heap.size m' (codeRun d ss f).1 ∧ Below w.heap.size w w')
    (w : World) (v0 v1 : Value) (d : MemD) (ss : List InsD) (f : Int) (ea : Go.Addr) (hM : MI w 0 w.heap.size v0 d) (hS : NR w 0 w.heap.size v1 ss) (hL : LongC w ea) :
    Calls Tryz.prog 3 #[v0, v1, .int .i64 f] w fun e w' => e = .returned (.bool true) ∧ Below w.heap.size w w' := by
  obtain ⟨ad, cap, rfl, _, _⟩ := hS.shape
  obtain ⟨xa, xla, xca, xb, xlb, xcb, xc, xlc, xcc, hx⟩ := hM.aggs
  subst hx
  obtain ⟨dS, hdS⟩ : ∃ r, (codeRun d ss f).1 = r := ⟨_, rfl⟩
  obtain ⟨cS, hcS⟩ : ∃ r, (codeRun d ss f).2.1 = r := ⟨_, rfl⟩
  obtain ⟨fS, hfS⟩ : ∃ r, (codeRun d ss f).2.2 = r := ⟨_, rfl⟩
  have HN : Hid (codeRun d ss f = (dS, cS, fS) ∧ dS.many ≤ 4194304) := ⟨by rw [← hdS, ← hcS, ← hfS], by rw [← hdS]; exact runs_manyC d ss f⟩
  clear hdS hcS hfS
  have HA : Hid (MI w 0 w.heap.size (.agg #[.slice xa xla xca, .slice xb xlb xcb, .slice xc xlc xcc]) d ∧ NR w 0 w.heap.size (.slice ad ss.length cap) ss ∧ LongC w ea) := ⟨hM, hS, hL⟩
  clear hM hS hL
  go_enter Tryz.func3, Tryz.ntmps3
  go_wp2_with fail
  obtain ⟨u0, hu0, G, BX, S0⟩ : ∃ u0, w.alloc (.cells #[.slice xa xla xca, .slice xb xlb xcb, .slice xc xlc xcc] 24) = u0 ∧ Below w.heap.size w u0 ∧ Box3 u0 w.heap.size (.slice xa xla xca) (.slice xb xlb xcb) (.slice xc xlc xcc) ∧ u0.heap.size = w.heap.size + 1 :=
    ⟨_, rfl, (Below.refl _ _).alloc (Nat.le_refl _) _, box3_new _ _ _ _ _, by simp⟩
  rw [hu0]
  clear hu0
  refine (szMem_any _ _ _ _ d 1048576 (HA.out.1.below G (Nat.le_refl _)) (by omega) (by omega) (by omega)).mono ?_
  by_cases big1 : (1048576 : Int) < d.many
  · rw [if_pos big1]
    rintro e1 u1 ⟨rfl, g1⟩
    replace G := G.trans (g1.mono (by omega))
    clear BX g1
    go_wp2
    go_ret
    exact ⟨rfl, G⟩
  rw [if_neg big1]
  rintro e1 u1 ⟨rfl, g1⟩
  have s1 := g1.size
  replace G := G.trans (g1.mono (by omega))
  replace BX := BX.below g1 (by omega)
  clear g1
  have np1 : ¬ ((1048576 - (d.many : Int) : Int) < 0) := by omega
  have nm : d.many ≤ 1048576 := by omega
  obtain ⟨L, hLf⟩ : ∃ L : Int, 1048576 - (d.many : Int) = L := ⟨_, rfl⟩
  rw [hLf] at np1 ⊢
  go_wp2_with fail
  refine (szInsS_w _ _ _ _ ss L (HA.out.2.1.under G (Nat.le_refl _)) (by omega) (by omega) (by omega)).mono ?_
  by_cases big2 : L < (ss.length : Int)
  · rw [if_pos big2]
    rintro e1 u2 ⟨rfl, g2⟩
    replace G := G.trans (g2.mono (by omega))
    clear BX g2
    go_wp2
    go_ret
    exact ⟨rfl, G⟩
  rw [if_neg big2]
  rintro e1 u2 ⟨rfl, g2⟩
  have s2 := g2.size
  replace G := G.trans (g2.mono (by omega))
  replace BX := BX.below g2 (by omega)
  clear g2
  have np2 : ¬ (L - (ss.length : Int) < 0) := by omega
  have nb : ss.length ≤ 1048576 := by omega
  have HNM : Hid (d.i.length + d.o.length + d.v.length ≤ 1048576) := by have := nm; unfold MemD.many at this; exact this
  obtain ⟨b0, b1, b2⟩ := id BX
  go_wp2_with fail
  clear b0 b1 b2
  refine (toMem_any _ _ _ _ d (HA.out.1.below G (Nat.le_refl _)) (by omega) HNM.out).mono ?_
  rintro e3 u3 ⟨m3, rfl, O3, g3⟩
  have s3 := g3.size
  replace G := G.trans (g3.mono (by omega))
  replace BX := BX.below g3 (by omega)
  clear g3
  obtain ⟨p3a, l3a, c3a, p3b, l3b, c3b, p3c, l3c, c3c, hm3⟩ := O3.mi.aggs
  subst hm3
  go_wp2_with fail
  refine (toInsS_any _ _ _ _ ss (HA.out.2.1.under G (Nat.le_refl _)) (by omega) nb).mono ?_
  rintro e4 u4 ⟨v4, rfl, Q4, g4⟩
  have s4 := g4.size
  replace O3 := O3.below g4 (by omega)
  replace G := G.trans (g4.mono (by omega))
  replace BX := BX.below g4 (by omega)
  clear g4
  obtain ⟨a4, cp4, hv4, _, _⟩ := Q4.nr.shape
  subst hv4
  have hsp := sCodeRun_any u4 _ _ _ _ _ _ d ss f O3.mi (by omega) Q4.nr (Nat.le_refl _)
  rw [HN.out.1] at hsp
  simp only at hsp
  go_wp2_with fail
  refine hsp.mono ?_
  clear hsp O3 Q4
  rintro e5 u5 ⟨m5, rfl, O5, g5⟩
  have s5 := g5.size
  replace G := G.trans (g5.mono (by omega))
  replace BX := BX.below g5 (by omega)
  clear g5
  obtain ⟨p5a, l5a, c5a, p5b, l5b, c5b, p5c, l5c, c5c, hm5⟩ := O5.mi.aggs
  subst hm5
  obtain ⟨u6, hu6, g6, MW, s6⟩ : ∃ u6, u5.alloc (.cells #[.slice p5a l5a c5a, .slice p5b l5b c5b, .slice p5c l5c c5c] 28) = u6 ∧ Below u5.heap.size u5 u6 ∧ MVar u6 u5.heap.size _ _ (.slice p5a l5a c5a) (.slice p5b l5b c5b) (.slice p5c l5c c5c) _ ∧ u6.heap.size = u5.heap.size + 1 :=
    ⟨_, rfl, (Below.refl _ _).alloc (Nat.le_refl _) _, mvar_new O5 (Nat.le_refl _), by simp⟩
  have HU6 : Hid (_ = u6) := hu6
  clear hu6 O5
  replace G := G.trans (g6.mono (by omega))
  replace BX := BX.below g6 (by omega)
  clear g6
  have b0 : (u5.alloc (.cells #[.slice p5a l5a c5a, .slice p5b l5b c5b, .slice p5c l5c c5c] 28)).cell? ⟨w.heap.size, 0, none⟩ = some (.slice xa xla xca) := by rw [HU6.out]; exact BX.c0
  have b1 : (u5.alloc (.cells #[.slice p5a l5a c5a, .slice p5b l5b c5b, .slice p5c l5c c5c] 28)).cell? ⟨w.heap.size, 1, none⟩ = some (.slice xb xlb xcb) := by rw [HU6.out]; exact BX.c1
  have b2 : (u5.alloc (.cells #[.slice p5a l5a c5a, .slice p5b l5b c5b, .slice p5c l5c c5c] 28)).cell? ⟨w.heap.size, 2, none⟩ = some (.slice xc xlc xcc) := by rw [HU6.out]; exact BX.c2
  go_wp2_with fail
  clear b0 b1 b2
  rw [HU6.out]
  clear HU6
  refine (toMem_any _ _ _ _ d (HA.out.1.below G (Nat.le_refl _)) (by omega) HNM.out).mono ?_
  rintro e7 u7 ⟨m7, rfl, O7, g7⟩
  have s7 := g7.size
  replace G := G.trans (g7.mono (by omega))
  replace BX := BX.below g7 (by omega)
  replace MW := MW.below g7
  clear g7
  obtain ⟨p7a, l7a, c7a, p7b, l7b, c7b, p7c, l7c, c7c, hm7⟩ := O7.mi.aggs
  subst hm7
  obtain ⟨u8, hu8, g8, M0, s8⟩ : ∃ u8, u7.alloc (.cells #[.slice p7a l7a c7a, .slice p7b l7b c7b, .slice p7c l7c c7c] 28) = u8 ∧ Below u7.heap.size u7 u8 ∧ MVar u8 u7.heap.size _ _ (.slice p7a l7a c7a) (.slice p7b l7b c7b) (.slice p7c l7c c7c) _ ∧ u8.heap.size = u7.heap.size + 1 :=
    ⟨_, rfl, (Below.refl _ _).alloc (Nat.le_refl _) _, mvar_new O7 (Nat.le_refl _), by simp⟩
  have HU8 : Hid (_ = u8) := hu8
  clear hu8 O7
  replace G := G.trans (g8.mono (by omega))
  replace BX := BX.below g8 (by omega)
  replace MW := MW.below g8
  clear g8
  go_wp2_with fail
  rw [HU8.out]
  clear HU8
  refine (toInsS_any _ _ _ _ ss (HA.out.2.1.under G (Nat.le_refl _)) (by omega) nb).mono ?_
  rintro e9 u9 ⟨v9, rfl, LS, g9⟩
  have s9 := g9.size
  replace G := G.trans (g9.mono (by omega))
  replace BX := BX.below g9 (by omega)
  replace MW := MW.below g9
  replace M0 := M0.below g9
  clear g9
  obtain ⟨a9, cp9, hv9, _, _⟩ := LS.nr.shape
  subst hv9
  have him := impl u9 _ _ _ _ _ _ d ss f ea M0.own.mi (by have := M0.le; have := M0.lt; omega) LS.nr (Nat.le_refl _) nb (HA.out.2.2.below G)
  rw [HN.out.1] at him
  simp only at him
  obtain ⟨b0, b1, b2⟩ := M0.box
  go_wp2_with fail
  clear b0 b1 b2
  refine him.mono ?_
  clear him
  rintro e10 u10 ⟨m10, rfl, O10, g10⟩
  have s10 := g10.size
  replace G := G.trans (g10.mono (by omega))
  replace BX := BX.below g10 (by omega)
  replace MW := MW.below g10
  replace M0 := M0.below g10
  replace LS := LS.under g10 (by omega)
  clear g10
  obtain ⟨p10a, l10a, c10a, p10b, l10b, c10b, p10c, l10c, c10c, hm10⟩ := O10.mi.aggs
  subst hm10
  obtain ⟨u11, hu11, g11, MR, s11⟩ : ∃ u11, u10.alloc (.cells #[.slice p10a l10a c10a, .slice p10b l10b c10b, .slice p10c l10c c10c] 28) = u11 ∧ Below u10.heap.size u10 u11 ∧ MVar u11 u10.heap.size _ _ (.slice p10a l10a c10a) (.slice p10b l10b c10b) (.slice p10c l10c c10c) _ ∧ u11.heap.size = u10.heap.size + 1 :=
    ⟨_, rfl, (Below.refl _ _).alloc (Nat.le_refl _) _, mvar_new O10 (Nat.le_refl _), by simp⟩
  have HU11 : Hid (_ = u11) := hu11
  clear hu11 O10
  replace G := G.trans (g11.mono (by omega))
  replace BX := BX.below g11 (by omega)
  replace MW := MW.below g11
  replace M0 := M0.below g11
  replace LS := LS.under g11 (by omega)
  clear g11
  have heq := eqMem_any u11 _ _ _ _ _ _ dS dS MR.own.mi MW.own.mi (by have := MR.le; have := MR.lt; omega) (by have := MW.le; have := MW.lt; omega)
  rw [decide_reflC] at heq
  have b0 : (u10.alloc (.cells #[.slice p10a l10a c10a, .slice p10b l10b c10b, .slice p10c l10c c10c] 28)).cell? ⟨u10.heap.size, 0, none⟩ = some (.slice p10a l10a c10a) := by rw [HU11.out]; exact MR.box.c0
  have b1 : (u10.alloc (.cells #[.slice p10a l10a c10a, .slice p10b l10b c10b, .slice p10c l10c c10c] 28)).cell? ⟨u10.heap.size, 1, none⟩ = some (.slice p10b l10b c10b) := by rw [HU11.out]; exact MR.box.c1
  have b2 : (u10.alloc (.cells #[.slice p10a l10a c10a, .slice p10b l10b c10b, .slice p10c l10c c10c] 28)).cell? ⟨u10.heap.size, 2, none⟩ = some (.slice p10c l10c c10c) := by rw [HU11.out]; exact MR.box.c2
  have d0 : (u10.alloc (.cells #[.slice p10a l10a c10a, .slice p10b l10b c10b, .slice p10c l10c c10c] 28)).cell? ⟨u5.heap.size, 0, none⟩ = some (.slice p5a l5a c5a) := by rw [HU11.out]; exact MW.box.c0
  have d1 : (u10.alloc (.cells #[.slice p10a l10a c10a, .slice p10b l10b c10b, .slice p10c l10c c10c] 28)).cell? ⟨u5.heap.size, 1, none⟩ = some (.slice p5b l5b c5b) := by rw [HU11.out]; exact MW.box.c1
  have d2 : (u10.alloc (.cells #[.slice p10a l10a c10a, .slice p10b l10b c10b, .slice p10c l10c c10c] 28)).cell? ⟨u5.heap.size, 2, none⟩ = some (.slice p5c l5c c5c) := by rw [HU11.out]; exact MW.box.c2
  go_wp2_with fail
  rw [HU11.out]
  clear HU11
  refine heq.mono ?_
  clear heq b0 b1 b2 d0 d1 d2
  rintro e12 u12 ⟨rfl, g12⟩
  have s12 := g12.size
  replace G := G.trans (g12.mono (by omega))
  replace BX := BX.below g12 (by omega)
  replace MW := MW.below g12
  replace M0 := M0.below g12
  replace LS := LS.under g12 (by omega)
  replace MR := MR.below g12
  clear g12
  go_wp2_with fail
  refine wp_region_dag (R := Grow) (Φ := fun i v u => match i with
      | 0 => v = .agg #[.slice p7a l7a c7a, .slice p7b l7b c7b, .slice p7c l7c c7c]
      | 1 => v = .agg #[.slice xa xla xca, .slice xb xlb xcb, .slice xc xlc xcc]
      | 2 => ∃ lo' hi', hi' ≤ u.heap.size ∧ MO u lo' hi' v d
      | 3 => v = .bool true
      | 4 => v = .bool false
      | _ => True) (by kernel_rfl) (by kernel_rfl) (by kernel_rfl) (Below.refl _ _) grow_trans ?_ ?_ ?_
  · intro i v u u' hr
    match i with
    | 0 | 1 | 3 | 4 | _ + 5 => exact fun h => h
    | 2 => exact fun ⟨lo', hi', h1, h2⟩ => ⟨lo', hi', Nat.le_trans h1 hr.size, h2.below hr h1⟩
  · intro i o ho a u hf hR0 he K' hK
    have hR : Grow u12 u := (Below.drew (Below.refl _ _)).trans hR0
    have hsz' : a.tmps.size = 145 := hf.size
    have hus : u12.heap.size ≤ u.heap.size := hR.size
    rcases i with _ | _ | _ | _ | _ | i
    · obtain rfl := Option.some.inj ho
      have q11 : a.tmps.getD 11 undef = .pointer (some ⟨u7.heap.size, 0, none⟩) := hf.at_ 11 (by kernel_rfl)
      clear he
      obtain ⟨b0, b1, b2⟩ := M0.box.below hR (by have := M0.lt; omega)
      go_simp
      exact hK _ _ (Below.refl _ _) (getD_put_self a 68 _ (by show _ < a.tmps.size; omega))
    · obtain rfl := Option.some.inj ho
      have q3 : a.tmps.getD 3 undef = .pointer (some ⟨w.heap.size, 0, none⟩) := hf.at_ 3 (by kernel_rfl)
      clear he
      obtain ⟨b0, b1, b2⟩ := BX.below hR (by omega)
      go_simp
      exact hK _ _ (Below.refl _ _) (getD_put_self a 69 _ (by show _ < a.tmps.size; omega))
    · obtain rfl := Option.some.inj ho
      have q69 : a.tmps.getD 69 undef = .agg #[.slice xa xla xca, .slice xb xlb xcb, .slice xc xlc xcc] := he _ (Array.mem_of_getElem? (i := 0) rfl) (by kernel_rfl) _ rfl
      clear he
      go_simp
      refine (toMem_any _ _ _ _ d (HA.out.1.below (G.trans (hR.mono (by omega))) (Nat.le_refl _)) (by omega) HNM.out).mono ?_
      rintro e1 u' ⟨m', rfl, HO, hbu⟩
      exact hK _ _ hbu ⟨_, _, Nat.le_refl _, by show MO _ _ _ ((a.put (some 70) m').tmps.getD 70 undef) d; rw [getD_put_self a 70 _ (by show _ < a.tmps.size; omega)]; exact HO⟩
    · obtain rfl := Option.some.inj ho
      have q68 : a.tmps.getD 68 undef = .agg #[.slice p7a l7a c7a, .slice p7b l7b c7b, .slice p7c l7c c7c] := he _ (Array.mem_of_getElem? (i := 0) rfl) (by kernel_rfl) _ rfl
      obtain ⟨lo', hi', hh1, hmo⟩ : ∃ lo' hi', hi' ≤ u.heap.size ∧ MO u lo' hi' (a.tmps.getD 70 undef) d := he _ (Array.mem_of_getElem? (i := 1) rfl) (by kernel_rfl) _ rfl
      clear he
      have heq := eqMem_any u _ _ _ _ _ _ d d (M0.own.below hR (by have := M0.le; have := M0.lt; omega)).mi hmo.mi (by have := M0.le; have := M0.lt; omega) hh1
      rw [decide_reflC] at heq
      obtain ⟨za, zla, zca, zb, zlb, zcb, zc, zlc, zcc, m70⟩ := hmo.mi.aggs
      rw [m70] at heq
      go_simp
      refine heq.mono ?_
      rintro e1 u' ⟨rfl, hbu⟩
      exact hK _ _ hbu (getD_put_self a 71 _ (by show _ < a.tmps.size; omega))
    · obtain rfl := Option.some.inj ho
      have q71 : a.tmps.getD 71 undef = .bool true := he _ (Array.mem_of_getElem? (i := 0) rfl) (by kernel_rfl) _ rfl
      clear he
      go_simp
      exact hK _ _ (Below.refl _ _) (getD_put_self a 72 _ (by show _ < a.tmps.size; omega))
    · exact absurd ho (by simp)
  · intro a u hf hR0 hp
    have hR : Grow u12 u := (Below.drew (Below.refl _ _)).trans hR0
    have md : a.defers = [] := hf.defers
    have m1 : a.tmps.getD 1 undef = .slice ad ss.length cap := hf.at_ 1 (by kernel_rfl)
    have m2 : a.tmps.getD 2 undef = .int .i64 f := hf.at_ 2 (by kernel_rfl)
    have m3 : a.tmps.getD 3 undef = .pointer (some ⟨w.heap.size, 0, none⟩) := hf.at_ 3 (by kernel_rfl)
    have m8 : a.tmps.getD 8 undef = .pointer (some ⟨u5.heap.size, 0, none⟩) := hf.at_ 8 (by kernel_rfl)
    have m9 : a.tmps.getD 9 undef = .int .i64 cS := hf.at_ 9 (by kernel_rfl)
    have m10 : a.tmps.getD 10 undef = .int .i64 fS := hf.at_ 10 (by kernel_rfl)
    have m11 : a.tmps.getD 11 undef = .pointer (some ⟨u7.heap.size, 0, none⟩) := hf.at_ 11 (by kernel_rfl)
    have m12 : a.tmps.getD 12 undef = .slice a9 ss.length cp9 := hf.at_ 12 (by kernel_rfl)
    have m13 : a.tmps.getD 13 undef = .pointer (some ⟨u10.heap.size, 0, none⟩) := hf.at_ 13 (by kernel_rfl)
    have m14 : a.tmps.getD 14 undef = .int .i64 cS := hf.at_ 14 (by kernel_rfl)
    have m15 : a.tmps.getD 15 undef = .int .i64 fS := hf.at_ 15 (by kernel_rfl)
    have m72 : a.tmps.getD 72 undef = .bool false := hp 4 _ rfl
    obtain ⟨fq, eaq, hfv⟩ := act_lit a 145 hf.size
    rw [← hfv] at m1 m2 m3 m8 m9 m10 m11 m12 m13 m14 m15 m72
    rw [md] at eaq
    simp only [List.range, List.range.loop, List.map_cons, List.map_nil, m1, m2, m3, m8, m9, m10, m11, m12, m13, m14, m15, m72] at eaq
    subst eaq
    clear hfv hf md hp hR0
    have g13 : Below u12.heap.size u12 u := hR
    have s13 := g13.size
    clear hR
    replace G := G.trans (g13.mono (by omega))
    replace BX := BX.below g13 (by omega)
    replace MW := MW.below g13
    replace M0 := M0.below g13
    replace LS := LS.under g13 (by omega)
    replace MR := MR.below g13
    clear g13
    go_wp2_with fail
    refine (toInsS_any _ _ _ _ ss (HA.out.2.1.under G (Nat.le_refl _)) (by omega) nb).mono ?_
    rintro e14 u14 ⟨v14, rfl, Q14, g14⟩
    have s14 := g14.size
    replace G := G.trans (g14.mono (by omega))
    replace BX := BX.below g14 (by omega)
    replace MW := MW.below g14
    replace M0 := M0.below g14
    replace LS := LS.under g14 (by omega)
    replace MR := MR.below g14
    clear g14
    obtain ⟨a14, cp14, hv14, _, _⟩ := Q14.nr.shape
    subst hv14
    have heq := eqInsS_any u14 _ _ _ _ _ _ ss ss LS.nr Q14.nr (by omega) (Nat.le_refl _)
    go_wp2_with fail
    refine heq.mono ?_
    clear heq Q14
    rintro e15 u15 ⟨rr, rfl, hrr, g15⟩
    obtain rfl : rr = true := hrr.mpr (by trivial)
    have s15 := g15.size
    clear hrr
    replace G := G.trans (g15.mono (by omega))
    replace BX := BX.below g15 (by omega)
    replace MW := MW.below g15
    replace M0 := M0.below g15
    replace LS := LS.under g15 (by omega)
    replace MR := MR.below g15
    clear g15
    have hmk := markMem_any u15 _ _ _ d 1 M0.own (by have := M0.le; have := M0.lt; omega) (by omega) (by omega) (by omega)
    obtain ⟨b0, b1, b2⟩ := M0.box
    go_wp2_with fail
    refine hmk.mono ?_
    clear hmk b0 b1 b2
    rintro e16 u16 ⟨rfl, _, h16⟩
    have s16 := h16.size
    replace G := G.trans (h16.below (by omega) (by omega))
    replace BX := BX.out h16 (by omega) (by omega)
    replace MW := MW.out h16 (by omega) (by omega)
    replace LS := LS.kept fun q q1 q2 => h16.block q (by omega) (by omega)
    replace MR := MR.out h16 (by omega) (by omega)
    clear h16
    clear M0
    have hmt := markInsS_any u16 _ _ _ ss (1 + (d.many : Int)) LS (by omega) (by omega) (by omega) (by omega)
    go_wp2_with fail
    refine hmt.mono ?_
    clear hmt
    rintro e17 u17 ⟨rfl, _, h17⟩
    obtain ⟨k17, hk17⟩ : ∃ k, (1 + (d.many : Int) + 4 * (ss.length : Int)) = k := ⟨_, rfl⟩
    rw [hk17]
    have s17 := h17.size
    have nk : ¬ (k17 < 0) := by omega
    replace G := G.trans (h17.below (by omega) (by omega))
    replace BX := BX.out h17 (by omega) (by omega)
    replace MW := MW.out h17 (by omega) (by omega)
    replace MR := MR.out h17 (by omega) (by omega)
    clear h17
    clear LS hk17
    have heq := eqMem_any u17 _ _ _ _ _ _ dS dS MR.own.mi MW.own.mi (by have := MR.le; have := MR.lt; omega) (by have := MW.le; have := MW.lt; omega)
    rw [decide_reflC] at heq
    obtain ⟨b0, b1, b2⟩ := MR.box
    obtain ⟨d0, d1, d2⟩ := MW.box
    go_wp2_with fail
    refine heq.mono ?_
    clear heq b0 b1 b2 d0 d1 d2
    rintro e18 u18 ⟨rfl, g18⟩
    have s18 := g18.size
    replace G := G.trans (g18.mono (by omega))
    replace BX := BX.below g18 (by omega)
    replace MW := MW.below g18
    replace MR := MR.below g18
    clear g18
    have hmn := HN.out.2
    have hmk := markMem_any u18 _ _ _ dS 1 MR.own (by have := MR.le; have := MR.lt; omega) hmn (by omega) (by omega)
    obtain ⟨b0, b1, b2⟩ := MR.box
    go_wp2_with fail
    refine hmk.mono ?_
    clear hmk b0 b1 b2
    rintro e19 u19 ⟨rfl, O19, h19⟩
    have s19 := h19.size
    have MK := MR.mark O19 h19
    clear O19
    replace G := G.trans (h19.below (by omega) (by omega))
    replace BX := BX.out h19 (by omega) (by omega)
    replace MW := MW.out h19 (by omega) (by omega)
    clear h19
    clear MR
    have hhd := heldMem_any u19 _ _ _ dS 1 MK.own.mi (by have := MK.le; have := MK.lt; omega) hmn (by omega) (by omega)
    have nd : ¬ (1 + (dS.many : Int) < 0) := by omega
    obtain ⟨b0, b1, b2⟩ := MK.box
    go_wp2_with fail
    refine hhd.mono ?_
    clear hhd b0 b1 b2
    rintro e20 u20 ⟨rfl, g20⟩
    have s20 := g20.size
    replace G := G.trans (g20.mono (by omega))
    replace BX := BX.below g20 (by omega)
    replace MW := MW.below g20
    replace MK := MK.below g20
    clear g20
    obtain ⟨b0, b1, b2⟩ := id BX
    go_wp2_with fail
    clear b0 b1 b2
    refine (toMem_any _ _ _ _ d (HA.out.1.below G (Nat.le_refl _)) (by omega) HNM.out).mono ?_
    rintro e21 u21 ⟨m21, rfl, O21, g21⟩
    have s21 := g21.size
    replace G := G.trans (g21.mono (by omega))
    replace BX := BX.below g21 (by omega)
    replace MW := MW.below g21
    replace MK := MK.below g21
    clear g21
    obtain ⟨p21a, l21a, c21a, p21b, l21b, c21b, p21c, l21c, c21c, hm21⟩ := O21.mi.aggs
    subst hm21
    go_wp2_with fail
    refine (toInsS_any _ _ _ _ ss (HA.out.2.1.under G (Nat.le_refl _)) (by omega) nb).mono ?_
    rintro e22 u22 ⟨v22, rfl, Q22, g22⟩
    have s22 := g22.size
    replace O21 := O21.below g22 (by omega)
    replace G := G.trans (g22.mono (by omega))
    replace BX := BX.below g22 (by omega)
    replace MW := MW.below g22
    replace MK := MK.below g22
    clear g22
    obtain ⟨a22, cp22, hv22, _, _⟩ := Q22.nr.shape
    subst hv22
    have him := impl u22 _ _ _ _ _ _ d ss f ea O21.mi (by omega) Q22.nr (Nat.le_refl _) nb (HA.out.2.2.below G)
    rw [HN.out.1] at him
    simp only at him
    go_wp2_with fail
    refine him.mono ?_
    clear him O21 Q22
    rintro e23 u23 ⟨m23, rfl, O23, g23⟩
    have s23 := g23.size
    replace G := G.trans (g23.mono (by omega))
    replace BX := BX.below g23 (by omega)
    replace MW := MW.below g23
    replace MK := MK.below g23
    clear g23
    obtain ⟨p23a, l23a, c23a, p23b, l23b, c23b, p23c, l23c, c23c, hm23⟩ := O23.mi.aggs
    subst hm23
    obtain ⟨u24, hu24, g24, MX, s24⟩ : ∃ u24, u23.alloc (.cells #[.slice p23a l23a c23a, .slice p23b l23b c23b, .slice p23c l23c c23c] 28) = u24 ∧ Below u23.heap.size u23 u24 ∧ MVar u24 u23.heap.size _ _ (.slice p23a l23a c23a) (.slice p23b l23b c23b) (.slice p23c l23c c23c) _ ∧ u24.heap.size = u23.heap.size + 1 :=
      ⟨_, rfl, (Below.refl _ _).alloc (Nat.le_refl _) _, mvar_new O23 (Nat.le_refl _), by simp⟩
    have HU24 : Hid (_ = u24) := hu24
    clear hu24 O23
    replace G := G.trans (g24.mono (by omega))
    replace BX := BX.below g24 (by omega)
    replace MW := MW.below g24
    replace MK := MK.below g24
    clear g24
    have heq := eqMem_any u24 _ _ _ _ _ _ dS dS MX.own.mi MW.own.mi (by have := MX.le; have := MX.lt; omega) (by have := MW.le; have := MW.lt; omega)
    rw [decide_reflC] at heq
    have b0 : (u23.alloc (.cells #[.slice p23a l23a c23a, .slice p23b l23b c23b, .slice p23c l23c c23c] 28)).cell? ⟨u23.heap.size, 0, none⟩ = some (.slice p23a l23a c23a) := by rw [HU24.out]; exact MX.box.c0
    have b1 : (u23.alloc (.cells #[.slice p23a l23a c23a, .slice p23b l23b c23b, .slice p23c l23c c23c] 28)).cell? ⟨u23.heap.size, 1, none⟩ = some (.slice p23b l23b c23b) := by rw [HU24.out]; exact MX.box.c1
    have b2 : (u23.alloc (.cells #[.slice p23a l23a c23a, .slice p23b l23b c23b, .slice p23c l23c c23c] 28)).cell? ⟨u23.heap.size, 2, none⟩ = some (.slice p23c l23c c23c) := by rw [HU24.out]; exact MX.box.c2
    have d0 : (u23.alloc (.cells #[.slice p23a l23a c23a, .slice p23b l23b c23b, .slice p23c l23c c23c] 28)).cell? ⟨u5.heap.size, 0, none⟩ = some (.slice p5a l5a c5a) := by rw [HU24.out]; exact MW.box.c0
    have d1 : (u23.alloc (.cells #[.slice p23a l23a c23a, .slice p23b l23b c23b, .slice p23c l23c c23c] 28)).cell? ⟨u5.heap.size, 1, none⟩ = some (.slice p5b l5b c5b) := by rw [HU24.out]; exact MW.box.c1
    have d2 : (u23.alloc (.cells #[.slice p23a l23a c23a, .slice p23b l23b c23b, .slice p23c l23c c23c] 28)).cell? ⟨u5.heap.size, 2, none⟩ = some (.slice p5c l5c c5c) := by rw [HU24.out]; exact MW.box.c2
    go_wp2_with fail
    rw [HU24.out]
    clear HU24
    refine heq.mono ?_
    clear heq b0 b1 b2 d0 d1 d2
    rintro e25 u25 ⟨rfl, g25⟩
    have s25 := g25.size
    replace G := G.trans (g25.mono (by omega))
    replace BX := BX.below g25 (by omega)
    replace MW := MW.below g25
    replace MK := MK.below g25
    replace MX := MX.below g25
    clear g25
    have hhd := heldMem_any u25 _ _ _ dS 1 MK.own.mi (by have := MK.le; have := MK.lt; omega) hmn (by omega) (by omega)
    obtain ⟨b0, b1, b2⟩ := MK.box
    go_wp2_with fail
    refine hhd.mono ?_
    clear hhd b0 b1 b2
    rintro e26 u26 ⟨rfl, g26⟩
    replace G := G.trans (g26.mono (by omega))
    clear g26
    go_wp2
    go_ret
    exact ⟨rfl, G⟩
end Go.Proofs.YtdhpbiplkjpiiaaGreatDoor
