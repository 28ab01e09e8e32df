/-
  What chapter 3's model ExprOf (package spec) answers: what something comes to, of a memory.
-/
import Derived.Test.YtokphdpaghkakaaGreatM5
import Derived.Test.YtokphdpaghkakaaGreatM6
namespace Go.Proofs.YtokphdpaghkakaaGreat
open Go.ChangeShapes Go.WideShapes Go.ChangeAt Go.RowKit
set_option linter.unusedVariables false

/-- The i-th kid. -/
def kidAt (e : ExprD) (i : Nat) : ExprD := (e.kids[i]?).getD (.mk 0 0 0 0 [])

/-- What something comes to, of a memory, not deeper than so. -/
def evalD : Nat → MemD → ExprD → Int
  | 0, _, _ => 0
  | d + 1, m, e => if e.k = 1 then e.n else if e.k = 2 then ((memList m e.ak)[e.at_.toNat]?).getD 0
      else if e.k = 10 then isZ (!(evalD d m (kidAt e 0) != 0)) else twoZ e.k (evalD d m (kidAt e 0)) (evalD d m (kidAt e 1))

theorem form_parts {d : Nat} {e : ExprD} (h : formE (d + 1) e = true) : kidsOf e.k = e.kids.length ∧ nOk e = true ∧ aOk e = true ∧ ∀ (i : Nat) (x : ExprD), e.kids[i]? = some x → formE d x = true := by
  rw [formE] at h
  simp only [Bool.and_eq_true, beq_iff_eq] at h
  obtain ⟨⟨⟨h1, h2⟩, h3⟩, h4⟩ := h
  exact ⟨h1, h2, h3, fun i x hx => List.all_eq_true.mp h4 x (List.mem_of_getElem? hx)⟩

/-- What l3Of answers, not deeper than d. -/
def OfS (d : Nat) : Prop := ∀ (w : World) (lo hi lo' hi' : Nat) (s m : Value) (e : ExprD) (md : MemD), KR w lo hi s e.kids → MI w lo' hi' m md → hi ≤ w.heap.size → hi' ≤ w.heap.size → formE d e = true → memOk md = true →
  Calls Tryz.prog 75 #[.agg #[.int .i64 e.k, .int .i64 e.n, .int .i64 e.ak, .int .i64 e.at_, s], m] w fun en w' => en = .returned (.int .i64 (evalD d md e)) ∧ Below w.heap.size w w'

set_option maxHeartbeats 8000000 in
theorem of_step {d : Nat} (H : OfS d) : OfS (d + 1) := by
  intro w lo hi lo' hi' s m e md h hmi hhi hhi' hfm hmo
  obtain ⟨f1, f2, f3, f4⟩ := form_parts hfm
  obtain ⟨ad, cap, rfl, hc1, hc2⟩ := h.shape
  have HK : Hid (KR w lo hi (.slice ad e.kids.length cap) e.kids) := h
  have HMI := hmi
  obtain ⟨ma, mb, mc, rfl, _, _, _⟩ := hmi
  have HMI : Hid (MI w lo' hi' (.agg #[ma, mb, mc]) md) := HMI
  have HE : Hid (evalD (d + 1) md e = if e.k = 1 then e.n else if e.k = 2 then ((memList md e.ak)[e.at_.toNat]?).getD 0 else if e.k = 10 then isZ (!(evalD d md (kidAt e 0) != 0)) else twoZ e.k (evalD d md (kidAt e 0)) (evalD d md (kidAt e 1))) := by show evalD (d + 1) md e = _; rw [evalD]
  obtain ⟨r, hr⟩ : ∃ r, evalD (d + 1) md e = r := ⟨_, rfl⟩
  rw [hr]
  rw [hr] at HE
  have F4 : Hid (∀ (i : Nat) (x : ExprD), e.kids[i]? = some x → formE d x = true) := f4
  have HL : Hid (kidsOf e.k = e.kids.length) := f1
  have HA : Hid (aOk e = true) := f3
  clear hr h hfm f1 f2 f3 f4 hc1 hc2
  have b2 := fun o o' => ((Below.refl w.heap.size w).alloc (Nat.le_refl _) o).alloc (by simp) o'
  by_cases k1 : e.k = 1
  · have k1' : (e.k == 1) = true := by simp [k1]
    have HR : Hid (r = e.n) := by show r = e.n; rw [HE.out, if_pos k1]
    clear k1
    go_enter Tryz.func75, Tryz.ntmps75
    go_wp2
    go_ret
    exact ⟨ret_int HR.out.symm, b2 _ _⟩
  have k1' : (e.k == 1) = false := by simp [k1]
  by_cases k2 : e.k = 2
  · have k2' : (e.k == 2) = true := by simp [k2]
    have HR : Hid (((memList md e.ak)[e.at_.toNat]?).getD 0 = r) := by show _ = r; rw [HE.out, if_neg k1, if_pos k2]
    have hao : addrOk ⟨e.ak, e.at_⟩ = true := by have := HA.out; unfold aOk at this; rwa [if_pos k2] at this
    clear k1 k2
    go_enter Tryz.func75, Tryz.ntmps75
    go_wp2_with fail
    refine (l2Get_any _ lo' hi' _ md ⟨e.ak, e.at_⟩ (HMI.out.below (b2 _ _) hhi') (by simp; omega) hmo hao).mono ?_
    rintro e1 w1 ⟨rfl, g1⟩
    have G1 := below_two (b2 _ _) g1
    clear g1
    go_wp2
    go_ret
    exact ⟨ret_int HR.out, G1⟩
  have k2' : (e.k == 2) = false := by simp [k2]
  by_cases k10 : e.k = 10
  · have k10' : (e.k == 10) = true := by simp [k10]
    have hlen : e.kids.length = 1 := by have := HL.out; rw [k10] at this; have h2 : kidsOf 10 = 1 := by decide
                                        rw [h2] at this; omega
    obtain ⟨p, hp⟩ : ∃ p, e.kids[0]? = some p := ⟨e.kids[0]'(by omega), List.getElem?_eq_getElem (by omega)⟩
    have hk0 : kidAt e 0 = p := by unfold kidAt; rw [hp]; rfl
    have HR : Hid (isZ (!(evalD d md p != 0)) = r) := by show _ = r; rw [HE.out, if_neg k1, if_neg k2, if_pos k10, hk0]
    have hfp := F4.out 0 p hp
    clear k1 k2 k10 hk0 HE
    obtain ⟨b, off, cap1, s, hv, hb1, hb2, h5, hk⟩ := HK.out.at_ hp
    simp only [Value.slice.injEq, true_and] at hv
    obtain ⟨rfl, rfl⟩ := hv
    simp only [Nat.zero_mul, Nat.add_zero] at h5
    obtain ⟨ads, cps, rfl, _, _⟩ := hk.shape
    clear hp
    generalize hev : evalD d md p = ev at *
    have HLEN : Hid (e.kids.length = 1) := hlen
    clear hlen
    go_enter Tryz.func75, Tryz.ntmps75
    go_wp2_with fail
    obtain ⟨u0, hu0, G0, A0, M0, S0⟩ : ∃ u0, (w.alloc (.cells #[.int .i64 e.k, .int .i64 e.n, .int .i64 e.ak, .int .i64 e.at_, .slice (some ⟨b, off, none⟩) e.kids.length cap] 65)).alloc (.cells #[ma, mb, mc] 43) = u0 ∧ Below w.heap.size w u0 ∧ Five u0 w.heap.size (.int .i64 e.k) (.int .i64 e.n) (.int .i64 e.ak) (.int .i64 e.at_) (.slice (some ⟨b, off, none⟩) e.kids.length cap) ∧ Box3 u0 (w.heap.size + 1) ma mb mc ∧ u0.heap.size = w.heap.size + 2 := by
      obtain ⟨w1, e1⟩ : ∃ w1, w.alloc (.cells #[.int .i64 e.k, .int .i64 e.n, .int .i64 e.ak, .int .i64 e.at_, .slice (some ⟨b, off, none⟩) e.kids.length cap] 65) = w1 := ⟨_, rfl⟩
      have n1 := five_new w (.int .i64 e.k) (.int .i64 e.n) (.int .i64 e.ak) (.int .i64 e.at_) (.slice (some ⟨b, off, none⟩) e.kids.length cap) 65
      have s1 : w1.heap.size = w.heap.size + 1 := by rw [← e1]; simp
      have g1 : Below w.heap.size w w1 := by rw [← e1]; exact (Below.refl _ _).alloc (Nat.le_refl _) _
      rw [e1] at n1 ⊢
      have g2 : Below w1.heap.size w1 (w1.alloc (.cells #[ma, mb, mc] 43)) := (Below.refl _ _).alloc (Nat.le_refl _) _
      refine ⟨_, rfl, below_two g1 g2, n1.under g2 (by omega), ?_, by rw [World.size_alloc]; omega⟩
      have := box3_new w1 ma mb mc 43
      rwa [s1] at this
    rw [hu0]
    clear hu0
    refine wp_region_dag (R := Grow) (Φ := fun i v u => match i with
        | 0 => v = .pointer (some ⟨w.heap.size, 4, none⟩)
        | 1 => v = .slice (some ⟨b, off, none⟩) e.kids.length cap
        | 2 => v = .pointer (some ⟨b, off, none⟩)
        | 3 => v = .agg #[.int .i64 p.k, .int .i64 p.n, .int .i64 p.ak, .int .i64 p.at_, .slice ads p.kids.length cps]
        | 4 => v = .agg #[ma, mb, mc]
        | 5 => v = .int .i64 ev
        | 6 => v = .bool (ev != 0)
        | 7 => v = .bool (!(ev != 0))
        | 8 => v = .int .i64 (isZ (!(ev != 0)))
        | 9 => v = .int .i64 (isZ (!(ev != 0)))
        | _ => True) (by kernel_rfl) (by kernel_rfl) (by kernel_rfl) (Below.refl _ _) grow_trans (fun i v u u' _ h => h) ?_ ?_
    · intro i o ho a u hf hR0 he K' hK
      have hR : Grow u0 u := (Below.drew (Below.refl _ _)).trans hR0
      have hRw : Below w.heap.size w u := G0.trans (hR.mono (by omega))
      have hsz' : a.tmps.size = 43 := hf.size
      have hus : u0.heap.size ≤ u.heap.size := hR.size
      have putat : ∀ (t : Nat) (v : Value), t < a.tmps.size → (a.put (some t) v).tmps.getD t undef = v := fun t v ht => by
        show (a.tmps.setIfInBounds t v).getD t undef = v
        simp [ht]
      rcases i with _ | _ | _ | _ | _ | _ | _ | _ | _ | _ | i
      · obtain rfl := Option.some.inj ho
        have f1 : a.tmps.getD 2 undef = .pointer (some ⟨w.heap.size, 0, none⟩) := hf.at_ 2 (by kernel_rfl)
        clear he
        go_simp
        exact hK _ _ (Below.refl _ _) (putat 19 _ (by omega))
      · obtain rfl := Option.some.inj ho
        have f1 : a.tmps.getD 19 undef = .pointer (some ⟨w.heap.size, 4, none⟩) := he _ (Array.mem_of_getElem? (i := 0) rfl) (by kernel_rfl) _ rfl
        have c4 := (A0.under hR (by omega)).c4
        clear he
        go_simp
        exact hK _ _ (Below.refl _ _) (putat 20 _ (by omega))
      · obtain rfl := Option.some.inj ho
        have f1 : a.tmps.getD 20 undef = .slice (some ⟨b, off, none⟩) e.kids.length cap := he _ (Array.mem_of_getElem? (i := 0) rfl) (by kernel_rfl) _ rfl
        have hl0 : 0 < e.kids.length := by have := HLEN.out; omega
        clear he
        go_simp
        exact hK _ _ (Below.refl _ _) (putat 21 _ (by omega))
      · obtain rfl := Option.some.inj ho
        have f1 : a.tmps.getD 21 undef = .pointer (some ⟨b, off, none⟩) := he _ (Array.mem_of_getElem? (i := 0) rfl) (by kernel_rfl) _ rfl
        obtain ⟨c0, c1, c2, c3, c4⟩ := h5
        rw [← hRw.cell (p := ⟨b, off, none⟩) (by show b < _; omega)] at c0
        rw [← hRw.cell (p := ⟨b, off + 1, none⟩) (by show b < _; omega)] at c1
        rw [← hRw.cell (p := ⟨b, off + 2, none⟩) (by show b < _; omega)] at c2
        rw [← hRw.cell (p := ⟨b, off + 3, none⟩) (by show b < _; omega)] at c3
        rw [← hRw.cell (p := ⟨b, off + 4, none⟩) (by show b < _; omega)] at c4
        clear he
        go_simp
        exact hK _ _ (Below.refl _ _) (putat 22 _ (by omega))
      · obtain rfl := Option.some.inj ho
        have f1 : a.tmps.getD 3 undef = .pointer (some ⟨w.heap.size + 1, 0, none⟩) := hf.at_ 3 (by kernel_rfl)
        obtain ⟨c0, c1, c2⟩ := M0.below hR (by omega)
        clear he
        go_simp
        exact hK _ _ (Below.refl _ _) (putat 23 _ (by omega))
      · obtain rfl := Option.some.inj ho
        have f1 : a.tmps.getD 22 undef = .agg #[.int .i64 p.k, .int .i64 p.n, .int .i64 p.ak, .int .i64 p.at_, .slice ads p.kids.length cps] := he _ (Array.mem_of_getElem? (i := 0) rfl) (by kernel_rfl) _ rfl
        have f2 : a.tmps.getD 23 undef = .agg #[ma, mb, mc] := he _ (Array.mem_of_getElem? (i := 1) rfl) (by kernel_rfl) _ rfl
        clear he
        go_simp
        refine (H u lo hi lo' hi' _ _ p md (hk.under hRw hhi) (HMI.out.below hRw hhi') (by omega) (by omega) hfp hmo).mono ?_
        rw [hev]
        rintro e1 u' ⟨rfl, hbu⟩
        exact hK _ _ hbu (putat 24 _ (by omega))
      · obtain rfl := Option.some.inj ho
        have f1 : a.tmps.getD 24 undef = .int .i64 ev := he _ (Array.mem_of_getElem? (i := 0) rfl) (by kernel_rfl) _ rfl
        clear he
        go_simp
        refine (sOn_any _ _).mono ?_
        rintro e1 u' ⟨rfl, rfl⟩
        exact hK _ _ (Below.refl _ _) (putat 25 _ (by omega))
      · obtain rfl := Option.some.inj ho
        have f1 : a.tmps.getD 25 undef = .bool (ev != 0) := he _ (Array.mem_of_getElem? (i := 0) rfl) (by kernel_rfl) _ rfl
        clear he
        go_simp
        exact hK _ _ (Below.refl _ _) (putat 26 _ (by omega))
      · obtain rfl := Option.some.inj ho
        have f1 : a.tmps.getD 26 undef = .bool (!(ev != 0)) := he _ (Array.mem_of_getElem? (i := 0) rfl) (by kernel_rfl) _ rfl
        clear he
        go_simp
        refine (sIs_any _ _).mono ?_
        rintro e1 u' ⟨rfl, rfl⟩
        exact hK _ _ (Below.refl _ _) (putat 27 _ (by omega))
      · obtain rfl := Option.some.inj ho
        have f1 : a.tmps.getD 27 undef = .int .i64 (isZ (!(ev != 0))) := he _ (Array.mem_of_getElem? (i := 0) rfl) (by kernel_rfl) _ rfl
        clear he
        go_simp
        exact hK _ _ (Below.refl _ _) (putat 4 _ (by omega))
      · exact absurd ho (by simp)
    · intro a u hf hR0 hp
      have hR : Grow u0 u := (Below.drew (Below.refl _ _)).trans hR0
      have hRw : Below w.heap.size w u := G0.trans (hR.mono (by omega))
      have md' : a.defers = [] := hf.defers
      have m4 : a.tmps.getD 4 undef = .int .i64 (isZ (!(ev != 0))) := hp 9 _ rfl
      obtain ⟨f, ea, hfv⟩ := act_lit a 43 hf.size
      rw [← hfv] at m4
      rw [md'] at ea
      simp only [List.range, List.range.loop, List.map_cons, List.map_nil, m4] at ea
      subst ea
      clear hfv hf hp hR0 hR md' h5 hk
      go_wp2
      go_ret
      exact ⟨ret_int HR.out, hRw⟩
  have k10' : (e.k == 10) = false := by simp [k10]
  have hlen : e.kids.length = 2 := by
    have := HL.out
    unfold kidsOf at this
    rw [if_neg k1, if_neg k2, if_neg k10] at this
    split at this <;> omega
  obtain ⟨p, hp⟩ : ∃ p, e.kids[0]? = some p := ⟨e.kids[0]'(by omega), List.getElem?_eq_getElem (by omega)⟩
  obtain ⟨p', hp'⟩ : ∃ p, e.kids[1]? = some p := ⟨e.kids[1]'(by omega), List.getElem?_eq_getElem (by omega)⟩
  have hk0 : kidAt e 0 = p := by unfold kidAt; rw [hp]; rfl
  have hk1 : kidAt e 1 = p' := by unfold kidAt; rw [hp']; rfl
  have HR : Hid (twoZ e.k (evalD d md p) (evalD d md p') = r) := by show _ = r; rw [HE.out, if_neg k1, if_neg k2, if_neg k10, hk0, hk1]
  have hfp := F4.out 0 p hp
  have hfp' := F4.out 1 p' hp'
  clear k1 k2 k10 hk0 hk1 HE
  obtain ⟨b, off, cap1, s, hv, hb1, hb2, h5, hk⟩ := HK.out.at_ hp
  obtain ⟨b', off', cap1', s', hv', _, _, h5', hk'⟩ := HK.out.at_ hp'
  simp only [Value.slice.injEq, true_and] at hv
  obtain ⟨rfl, rfl⟩ := hv
  simp only [Value.slice.injEq, true_and, Option.some.injEq, Go.Addr.mk.injEq, and_true] at hv'
  obtain ⟨⟨rfl, rfl⟩, rfl⟩ := hv'
  simp only [Nat.zero_mul, Nat.add_zero, Nat.one_mul] at h5 h5'
  obtain ⟨ads, cps, rfl, _, _⟩ := hk.shape
  obtain ⟨ads', cps', rfl, _, _⟩ := hk'.shape
  clear hp hp'
  generalize hev : evalD d md p = ev at *
  generalize hev' : evalD d md p' = ev' at *
  have HLEN : Hid (e.kids.length = 2) := hlen
  clear hlen
  go_enter Tryz.func75, Tryz.ntmps75
  go_wp2_with fail
  obtain ⟨u0, hu0, G0, A0, M0, S0⟩ : ∃ u0, (w.alloc (.cells #[.int .i64 e.k, .int .i64 e.n, .int .i64 e.ak, .int .i64 e.at_, .slice (some ⟨b, off, none⟩) e.kids.length cap] 65)).alloc (.cells #[ma, mb, mc] 43) = u0 ∧ Below w.heap.size w u0 ∧ Five u0 w.heap.size (.int .i64 e.k) (.int .i64 e.n) (.int .i64 e.ak) (.int .i64 e.at_) (.slice (some ⟨b, off, none⟩) e.kids.length cap) ∧ Box3 u0 (w.heap.size + 1) ma mb mc ∧ u0.heap.size = w.heap.size + 2 := by
    obtain ⟨w1, e1⟩ : ∃ w1, w.alloc (.cells #[.int .i64 e.k, .int .i64 e.n, .int .i64 e.ak, .int .i64 e.at_, .slice (some ⟨b, off, none⟩) e.kids.length cap] 65) = w1 := ⟨_, rfl⟩
    have n1 := five_new w (.int .i64 e.k) (.int .i64 e.n) (.int .i64 e.ak) (.int .i64 e.at_) (.slice (some ⟨b, off, none⟩) e.kids.length cap) 65
    have s1 : w1.heap.size = w.heap.size + 1 := by rw [← e1]; simp
    have g1 : Below w.heap.size w w1 := by rw [← e1]; exact (Below.refl _ _).alloc (Nat.le_refl _) _
    rw [e1] at n1 ⊢
    have g2 : Below w1.heap.size w1 (w1.alloc (.cells #[ma, mb, mc] 43)) := (Below.refl _ _).alloc (Nat.le_refl _) _
    refine ⟨_, rfl, below_two g1 g2, n1.under g2 (by omega), ?_, by rw [World.size_alloc]; omega⟩
    have := box3_new w1 ma mb mc 43
    rwa [s1] at this
  rw [hu0]
  clear hu0
  refine wp_region_dag (R := Grow) (Φ := fun i v u => match i with
      | 0 => v = .pointer (some ⟨w.heap.size, 0, none⟩)
      | 1 => v = .int .i64 e.k
      | 2 => v = .pointer (some ⟨w.heap.size, 4, none⟩)
      | 3 => v = .slice (some ⟨b, off, none⟩) e.kids.length cap
      | 4 => v = .pointer (some ⟨b, off, none⟩)
      | 5 => v = .agg #[.int .i64 p.k, .int .i64 p.n, .int .i64 p.ak, .int .i64 p.at_, .slice ads p.kids.length cps]
      | 6 => v = .agg #[ma, mb, mc]
      | 7 => v = .int .i64 ev
      | 8 => v = .pointer (some ⟨w.heap.size, 4, none⟩)
      | 9 => v = .slice (some ⟨b, off, none⟩) e.kids.length cap
      | 10 => v = .pointer (some ⟨b, off + 5, none⟩)
      | 11 => v = .agg #[.int .i64 p'.k, .int .i64 p'.n, .int .i64 p'.ak, .int .i64 p'.at_, .slice ads' p'.kids.length cps']
      | 12 => v = .agg #[ma, mb, mc]
      | 13 => v = .int .i64 ev'
      | 14 => v = .int .i64 (twoZ e.k ev ev')
      | 15 => v = .int .i64 (twoZ e.k ev ev')
      | _ => True) (by kernel_rfl) (by kernel_rfl) (by kernel_rfl) (Below.refl _ _) grow_trans (fun i v u u' _ h => h) ?_ ?_
  · intro i o ho a u hf hR0 he K' hK
    have hR : Grow u0 u := (Below.drew (Below.refl _ _)).trans hR0
    have hRw : Below w.heap.size w u := G0.trans (hR.mono (by omega))
    have hsz' : a.tmps.size = 43 := hf.size
    have hus : u0.heap.size ≤ u.heap.size := hR.size
    have putat : ∀ (t : Nat) (v : Value), t < a.tmps.size → (a.put (some t) v).tmps.getD t undef = v := fun t v ht => by
      show (a.tmps.setIfInBounds t v).getD t undef = v
      simp [ht]
    rcases i with _ | _ | _ | _ | _ | _ | _ | _ | _ | _ | _ | _ | _ | _ | _ | _ | i
    · obtain rfl := Option.some.inj ho
      have f1 : a.tmps.getD 2 undef = .pointer (some ⟨w.heap.size, 0, none⟩) := hf.at_ 2 (by kernel_rfl)
      clear he
      go_simp
      exact hK _ _ (Below.refl _ _) (putat 28 _ (by omega))
    · obtain rfl := Option.some.inj ho
      have f1 : a.tmps.getD 28 undef = .pointer (some ⟨w.heap.size, 0, none⟩) := he _ (Array.mem_of_getElem? (i := 0) rfl) (by kernel_rfl) _ rfl
      have c0 := (A0.under hR (by omega)).c0
      clear he
      go_simp
      exact hK _ _ (Below.refl _ _) (putat 29 _ (by omega))
    · obtain rfl := Option.some.inj ho
      have f1 : a.tmps.getD 2 undef = .pointer (some ⟨w.heap.size, 0, none⟩) := hf.at_ 2 (by kernel_rfl)
      clear he
      go_simp
      exact hK _ _ (Below.refl _ _) (putat 30 _ (by omega))
    · obtain rfl := Option.some.inj ho
      have f1 : a.tmps.getD 30 undef = .pointer (some ⟨w.heap.size, 4, none⟩) := he _ (Array.mem_of_getElem? (i := 0) rfl) (by kernel_rfl) _ rfl
      have c4 := (A0.under hR (by omega)).c4
      clear he
      go_simp
      exact hK _ _ (Below.refl _ _) (putat 31 _ (by omega))
    · obtain rfl := Option.some.inj ho
      have f1 : a.tmps.getD 31 undef = .slice (some ⟨b, off, none⟩) e.kids.length cap := he _ (Array.mem_of_getElem? (i := 0) rfl) (by kernel_rfl) _ rfl
      have hl0 : 0 < e.kids.length := by have := HLEN.out; omega
      clear he
      go_simp
      exact hK _ _ (Below.refl _ _) (putat 32 _ (by omega))
    · obtain rfl := Option.some.inj ho
      have f1 : a.tmps.getD 32 undef = .pointer (some ⟨b, off, none⟩) := he _ (Array.mem_of_getElem? (i := 0) rfl) (by kernel_rfl) _ rfl
      obtain ⟨c0, c1, c2, c3, c4⟩ := h5
      rw [← hRw.cell (p := ⟨b, off, none⟩) (by show b < _; omega)] at c0
      rw [← hRw.cell (p := ⟨b, off + 1, none⟩) (by show b < _; omega)] at c1
      rw [← hRw.cell (p := ⟨b, off + 2, none⟩) (by show b < _; omega)] at c2
      rw [← hRw.cell (p := ⟨b, off + 3, none⟩) (by show b < _; omega)] at c3
      rw [← hRw.cell (p := ⟨b, off + 4, none⟩) (by show b < _; omega)] at c4
      clear he
      go_simp
      exact hK _ _ (Below.refl _ _) (putat 33 _ (by omega))
    · obtain rfl := Option.some.inj ho
      have f1 : a.tmps.getD 3 undef = .pointer (some ⟨w.heap.size + 1, 0, none⟩) := hf.at_ 3 (by kernel_rfl)
      obtain ⟨c0, c1, c2⟩ := M0.below hR (by omega)
      clear he
      go_simp
      exact hK _ _ (Below.refl _ _) (putat 34 _ (by omega))
    · obtain rfl := Option.some.inj ho
      have f1 : a.tmps.getD 33 undef = .agg #[.int .i64 p.k, .int .i64 p.n, .int .i64 p.ak, .int .i64 p.at_, .slice ads p.kids.length cps] := he _ (Array.mem_of_getElem? (i := 0) rfl) (by kernel_rfl) _ rfl
      have f2 : a.tmps.getD 34 undef = .agg #[ma, mb, mc] := he _ (Array.mem_of_getElem? (i := 1) rfl) (by kernel_rfl) _ rfl
      clear he
      go_simp
      refine (H u lo hi lo' hi' _ _ p md (hk.under hRw hhi) (HMI.out.below hRw hhi') (by omega) (by omega) hfp hmo).mono ?_
      rw [hev]
      rintro e1 u' ⟨rfl, hbu⟩
      exact hK _ _ hbu (putat 35 _ (by omega))
    · obtain rfl := Option.some.inj ho
      have f1 : a.tmps.getD 2 undef = .pointer (some ⟨w.heap.size, 0, none⟩) := hf.at_ 2 (by kernel_rfl)
      clear he
      go_simp
      exact hK _ _ (Below.refl _ _) (putat 36 _ (by omega))
    · obtain rfl := Option.some.inj ho
      have f1 : a.tmps.getD 36 undef = .pointer (some ⟨w.heap.size, 4, none⟩) := he _ (Array.mem_of_getElem? (i := 0) rfl) (by kernel_rfl) _ rfl
      have c4 := (A0.under hR (by omega)).c4
      clear he
      go_simp
      exact hK _ _ (Below.refl _ _) (putat 37 _ (by omega))
    · obtain rfl := Option.some.inj ho
      have f1 : a.tmps.getD 37 undef = .slice (some ⟨b, off, none⟩) e.kids.length cap := he _ (Array.mem_of_getElem? (i := 0) rfl) (by kernel_rfl) _ rfl
      have hl1 : (1 : Int) < (e.kids.length : Int) := by have := HLEN.out; omega
      clear he
      go_simp
      exact hK _ _ (Below.refl _ _) (putat 38 _ (by omega))
    · obtain rfl := Option.some.inj ho
      have f1 : a.tmps.getD 38 undef = .pointer (some ⟨b, off + 5, none⟩) := he _ (Array.mem_of_getElem? (i := 0) rfl) (by kernel_rfl) _ rfl
      obtain ⟨c0, c1, c2, c3, c4⟩ := h5'
      rw [← hRw.cell (p := ⟨b, off + 5, none⟩) (by show b < _; omega)] at c0
      rw [← hRw.cell (p := ⟨b, off + 5 + 1, none⟩) (by show b < _; omega)] at c1
      rw [← hRw.cell (p := ⟨b, off + 5 + 2, none⟩) (by show b < _; omega)] at c2
      rw [← hRw.cell (p := ⟨b, off + 5 + 3, none⟩) (by show b < _; omega)] at c3
      rw [← hRw.cell (p := ⟨b, off + 5 + 4, none⟩) (by show b < _; omega)] at c4
      clear he
      go_simp
      exact hK _ _ (Below.refl _ _) (putat 39 _ (by omega))
    · obtain rfl := Option.some.inj ho
      have f1 : a.tmps.getD 3 undef = .pointer (some ⟨w.heap.size + 1, 0, none⟩) := hf.at_ 3 (by kernel_rfl)
      obtain ⟨c0, c1, c2⟩ := M0.below hR (by omega)
      clear he
      go_simp
      exact hK _ _ (Below.refl _ _) (putat 40 _ (by omega))
    · obtain rfl := Option.some.inj ho
      have f1 : a.tmps.getD 39 undef = .agg #[.int .i64 p'.k, .int .i64 p'.n, .int .i64 p'.ak, .int .i64 p'.at_, .slice ads' p'.kids.length cps'] := he _ (Array.mem_of_getElem? (i := 0) rfl) (by kernel_rfl) _ rfl
      have f2 : a.tmps.getD 40 undef = .agg #[ma, mb, mc] := he _ (Array.mem_of_getElem? (i := 1) rfl) (by kernel_rfl) _ rfl
      clear he
      go_simp
      refine (H u lo hi lo' hi' _ _ p' md (hk'.under hRw hhi) (HMI.out.below hRw hhi') (by omega) (by omega) hfp' hmo).mono ?_
      rw [hev']
      rintro e1 u' ⟨rfl, hbu⟩
      exact hK _ _ hbu (putat 41 _ (by omega))
    · obtain rfl := Option.some.inj ho
      have f1 : a.tmps.getD 29 undef = .int .i64 e.k := he _ (Array.mem_of_getElem? (i := 0) rfl) (by kernel_rfl) _ rfl
      have f2 : a.tmps.getD 35 undef = .int .i64 ev := he _ (Array.mem_of_getElem? (i := 1) rfl) (by kernel_rfl) _ rfl
      have f3 : a.tmps.getD 41 undef = .int .i64 ev' := he _ (Array.mem_of_getElem? (i := 2) rfl) (by kernel_rfl) _ rfl
      clear he
      go_simp
      refine (l3Two_any _ _ _ _).mono ?_
      rintro e1 u' ⟨rfl, rfl⟩
      exact hK _ _ (Below.refl _ _) (putat 42 _ (by omega))
    · obtain rfl := Option.some.inj ho
      have f1 : a.tmps.getD 42 undef = .int .i64 (twoZ e.k ev ev') := he _ (Array.mem_of_getElem? (i := 0) rfl) (by kernel_rfl) _ rfl
      clear he
      go_simp
      exact hK _ _ (Below.refl _ _) (putat 4 _ (by omega))
    · exact absurd ho (by simp)
  · intro a u hf hR0 hp
    have hR : Grow u0 u := (Below.drew (Below.refl _ _)).trans hR0
    have hRw : Below w.heap.size w u := G0.trans (hR.mono (by omega))
    have md' : a.defers = [] := hf.defers
    have m4 : a.tmps.getD 4 undef = .int .i64 (twoZ e.k ev ev') := hp 15 _ rfl
    obtain ⟨f, ea, hfv⟩ := act_lit a 43 hf.size
    rw [← hfv] at m4
    rw [md'] at ea
    simp only [List.range, List.range.loop, List.map_cons, List.map_nil, m4] at ea
    subst ea
    clear hfv hf hp hR0 hR md' h5 h5' hk hk'
    go_wp2
    go_ret
    exact ⟨ret_int HR.out, hRw⟩

theorem ofS : ∀ d, OfS d
  | 0 => fun w lo hi lo' hi' s m e md _ _ _ _ hf _ => by rw [formE] at hf; cases hf
  | d + 1 => of_step (ofS d)
end Go.Proofs.YtokphdpaghkakaaGreat
