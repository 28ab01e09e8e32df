/-
  impl.MemGet, impl.MemPut.
-/
import Derived.Test.YtdhpbiplkjpiiaaGreatDoorQC2
import Derived.Test.YtdhpbiplkjpiiaaGreatDoorMemPut
namespace Go.Proofs.YtdhpbiplkjpiiaaGreatDoor
open Go.ChangeShapes Go.WideShapes Go.ChangeAt Go.RowKit
set_option linter.unusedVariables false
set_option maxRecDepth 100000

theorem memOk_fits' {d : MemD} (h : memOk d = true) : fits d = true := by
  cases hf : fits d with
  | true => rfl
  | false => rw [memOk_not hf] at h; cases h

theorem get_cellF {d : MemD} (h : fits d = true) {k t : Int} (h1 : 1 ≤ k) (h2 : k ≤ 3) (h3 : 0 ≤ t) (h4 : t < 6) : ((memList d k)[t.toNat]?).getD 0 = cellF d (6 * (k.toNat - 1) + t.toNat) := by
  obtain ⟨l1, l2, l3⟩ := fits_len h
  obtain ⟨i, o, v⟩ := d
  obtain ⟨a0, a1, a2, a3, a4, a5, rfl⟩ := six_of l1
  obtain ⟨b0, b1, b2, b3, b4, b5, rfl⟩ := six_of l2
  obtain ⟨c0, c1, c2, c3, c4, c5, rfl⟩ := six_of l3
  obtain rfl | rfl | rfl | rfl | rfl | rfl : t = 0 ∨ t = 1 ∨ t = 2 ∨ t = 3 ∨ t = 4 ∨ t = 5 := by omega
  all_goals (obtain rfl | rfl | rfl : k = 1 ∨ k = 2 ∨ k = 3 := by omega) <;> rfl

set_option maxHeartbeats 4000000 in
theorem iMemGet_any (w : World) (m : Value) (lo hi : Nat) (d : MemD) (k t : Int) (h : MI w lo hi m d) (hhi : hi ≤ w.heap.size) :
    Calls Tryz.prog 61 #[m, AddrD.val ⟨k, t⟩] w fun e w' => e = .returned (.int .i64 (memGet d ⟨k, t⟩)) ∧ Below w.heap.size w w' := by
  have H := h
  obtain ⟨a, b, c, rfl, ha, hb, hc⟩ := h
  clear ha hb hc
  have ea : AddrD.val ⟨k, t⟩ = .agg #[.int .i64 k, .int .i64 t] := rfl
  rw [ea]
  clear ea
  have b2 := fun o o' => ((Below.refl w.heap.size w).alloc (Nat.le_refl _) o).alloc (by simp) o'
  go_enter Tryz.func61, Tryz.ntmps61
  go_wp2_with fail
  obtain ⟨u0, hu0, G0, X0, S0⟩ : ∃ u0, (w.alloc (.cells #[a, b, c] 28)).alloc (.cells #[.int .i64 k, .int .i64 t] 45) = u0 ∧ Below w.heap.size w u0 ∧ Box2 u0 (w.heap.size + 1) (.int .i64 k) (.int .i64 t) ∧ u0.heap.size = w.heap.size + 2 :=
    ⟨_, rfl, b2 _ _, ⟨World.cell?_alloc2_new _ _ _ _, World.cell?_alloc2_new _ _ _ _⟩, by simp⟩
  rw [hu0]
  clear hu0 b2
  refine (cellsOk_any _ lo hi _ d (H.below G0 hhi) (by omega)).mono ?_
  rintro e1 u1 ⟨rfl, g1⟩
  have S1 := g1.size
  have G1 := G0.trans (g1.mono (by omega))
  have X1 := X0.below g1 (by omega)
  clear g1 X0 G0
  go_wp2_with (refine wpList_alloc18 rfl rfl ?_)
  intro u2 g2 z2 s2
  go_wp2_with (refine wpList_store18 rfl _ _ rfl rfl rfl (by assumption) ?_)
  intro u3 W3 V3 Z3
  have G3 := (G1.trans (g2.mono (by omega))).trans (W3.below fun b o e => by omega)
  have X3 := (X1.below g2 (by omega)).wrote W3 (by omega)
  have S3 := W3.size
  clear g2 z2 W3 Z3 X1 G1
  cases hm : memOk d with
  | false =>
    clear V3 X3
    go_wp2
    go_ret
    exact ⟨ret_int (by unfold memGet; simp [hm]), G3⟩
  | true =>
    obtain ⟨x0, x1⟩ := X3
    go_wp2_with fail
    refine (iAddrOk_any _ k t).mono ?_
    cases ho : addrOk ⟨k, t⟩ with
    | false =>
      rintro e1 u4 ⟨rfl, g4⟩
      have G4 := G3.trans (g4.mono (by omega))
      clear V3 g4 G3 x0 x1
      go_wp2
      go_ret
      exact ⟨ret_int (by unfold memGet; simp [ho]), G4⟩
    | true =>
      rintro e1 u4 ⟨rfl, g4⟩
      have G4 := G3.trans (g4.mono (by omega))
      have S4 := g4.size
      have V4 := V3.below g4 (by omega)
      obtain ⟨y0, y1⟩ := (Box2.mk x0 x1).below g4 (by omega)
      obtain ⟨k1, k2, k3, k4⟩ := addrOk_bd ho
      simp only at k1 k2 k3 k4
      clear V3 g4 G3 x0 x1
      have e1 : okG d = cellF d := by unfold okG; rw [hm]; rfl
      rw [e1] at V4
      have eg := get_cellF (memOk_fits' hm) k1 k2 k3 k4
      obtain ⟨n, rfl⟩ : ∃ n : Nat, t = (n : Int) := ⟨t.toNat, by omega⟩
      obtain ⟨q, hq⟩ : ∃ q : Nat, 6 * (k.toNat - 1) = q := ⟨_, rfl⟩
      have c1 := V4 (q + n) (by omega)
      rw [hq] at eg
      have hr := row_any (k := k) (B := u1.heap.size) (h1 := k1) (h2 := k2)
      rw [hq] at hr
      have n6 : n < 6 := by omega
      have HE : Hid (((memList d k)[(n : Int).toNat]?).getD 0 = cellF d (q + n)) := eg
      clear eg V4
      go_wp2_with fail
      go_quiet ((go_at_call 88; exact Calls.quiet_of_same (hr _)))
      go_wp2
      go_ret
      exact ⟨ret_int (by unfold memGet; rw [if_pos (by simp [hm, ho])]; exact HE.out.symm), below_drewN G4 nq⟩
/-- Numbers, one of them put. -/
def putF (f : Nat → Int) (i : Nat) (x : Int) (j : Nat) : Int := if j = i then x else f j

theorem memOf_put {d : MemD} (h : fits d = true) {k t : Int} (h1 : 2 ≤ k) (h2 : k ≤ 3) (h3 : 0 ≤ t) (h4 : t < 6) (n : Int) : memOf (putF (cellF d) (6 * (k.toNat - 1) + t.toNat) (cutZ n)) = memSet d ⟨k, t⟩ n := by
  obtain ⟨l1, l2, l3⟩ := fits_len h
  obtain ⟨i, o, v⟩ := d
  obtain ⟨a0, a1, a2, a3, a4, a5, rfl⟩ := six_of l1
  obtain ⟨b0, b1, b2, b3, b4, b5, rfl⟩ := six_of l2
  obtain ⟨c0, c1, c2, c3, c4, c5, rfl⟩ := six_of l3
  obtain rfl | rfl | rfl | rfl | rfl | rfl : t = 0 ∨ t = 1 ∨ t = 2 ∨ t = 3 ∨ t = 4 ∨ t = 5 := by omega
  all_goals (obtain rfl | rfl : k = 2 ∨ k = 3 := by omega) <;> rfl

theorem mo_empty (u : World) (lo hi : Nat) : MO u lo hi (.agg #[.slice none 0 0, .slice none 0 0, .slice none 0 0]) ⟨[], [], []⟩ := by
  have h : OI u lo hi (.slice none 0 0) [] := .inl ⟨rfl, none, 0, rfl, Nat.zero_le _⟩
  have ap : Apart (.slice none 0 0) 0 (.slice none 0 0) 0 := fun b o hf => by
    obtain ⟨g, off, l, cap, e, _⟩ := hf
    cases e
  exact ⟨_, _, _, rfl, h, h, h, ap, ap, ap⟩

set_option maxHeartbeats 8000000 in
theorem iMemPut_any (w : World) (m : Value) (lo hi : Nat) (d : MemD) (k t n : Int) (h : MI w lo hi m d) (hhi : hi ≤ w.heap.size) :
    Calls Tryz.prog 63 #[m, AddrD.val ⟨k, t⟩, .int .i64 n] w fun e w' => ∃ m', e = .returned m' ∧ MO w' w.heap.size w'.heap.size m' (memPut d ⟨k, t⟩ n) ∧ Below w.heap.size w w' := by
  have H := h
  obtain ⟨a, b, c, rfl, ha, hb, hc⟩ := h
  clear ha hb hc
  have ea : AddrD.val ⟨k, t⟩ = .agg #[.int .i64 k, .int .i64 t] := rfl
  rw [ea]
  clear ea
  go_enter Tryz.func63, Tryz.ntmps63
  go_wp2_with fail
  obtain ⟨u0, hu0, G0, X0, Y0, S0⟩ : ∃ u0, ((w.alloc (.cells #[a, b, c] 28)).alloc (.cells #[.int .i64 k, .int .i64 t] 45)).alloc (.cells #[.slice none 0 0, .slice none 0 0, .slice none 0 0] 28) = u0 ∧ Below w.heap.size w u0 ∧ Box2 u0 (w.heap.size + 1) (.int .i64 k) (.int .i64 t) ∧ Zero 3 u0 (w.heap.size + 2) ∧ u0.heap.size = w.heap.size + 3 :=
    ⟨_, rfl, below_alloc3 w _ _ _, by
      have h2 : Box2 ((w.alloc (.cells #[a, b, c] 28)).alloc (.cells #[.int .i64 k, .int .i64 t] 45)) (w.heap.size + 1) (.int .i64 k) (.int .i64 t) := ⟨World.cell?_alloc2_new _ _ _ _, World.cell?_alloc2_new _ _ _ _⟩
      exact h2.below ((Below.refl _ _).alloc (Nat.le_refl _) _) (by simp), by
      have := zero3_new ((w.alloc (.cells #[a, b, c] 28)).alloc (.cells #[.int .i64 k, .int .i64 t] 45)) (.slice none 0 0) (.slice none 0 0) (.slice none 0 0) 28
      simpa using this, by simp⟩
  rw [hu0]
  clear hu0
  refine (cellsOk_any _ lo hi _ d (H.below G0 hhi) (by omega)).mono ?_
  rintro e1 u1 ⟨rfl, g1⟩
  have S1 := g1.size
  have G1 := G0.trans (g1.mono (by omega))
  have X1 := X0.below g1 (by omega)
  have Y1 := Y0.grow g1 (by omega)
  clear g1 X0 Y0 G0
  go_wp2_with (refine wpList_alloc18 rfl rfl ?_)
  intro u2 g2 z2 s2
  go_wp2_with (refine wpList_store18 rfl _ _ rfl rfl rfl (by assumption) ?_)
  intro u3 W3 V3 Z3
  have G3 := (G1.trans (g2.mono (by omega))).trans (W3.below fun b o e => by omega)
  have X3 := (X1.below g2 (by omega)).wrote W3 (by omega)
  have S3 := W3.size
  have Y3 : Zero 3 u3 (w.heap.size + 2) := fun j hj => by
    have := (Y1.grow g2 (by omega)) j hj
    rw [W3.cell _ _ (by omega), W3.frozen]; exact this
  clear g2 z2 W3 X1 Y1 G1
  cases hm : memOk d with
  | false =>
    have e1 : memPut d ⟨k, t⟩ n = ⟨[], [], []⟩ := by unfold memPut; rw [hm]; rfl
    obtain ⟨u8, hu8, G8, X8, M8, S8⟩ := store3 (w0 := w) G3 (by omega) (by omega) Y3 (mo_empty u3 u3.heap.size u3.heap.size) (.inl (by omega))
    obtain ⟨z0, zf0⟩ := Y3 0 (by omega)
    obtain ⟨z1, zf1⟩ := Y3 1 (by omega)
    obtain ⟨z2, zf2⟩ := Y3 2 (by omega)
    obtain ⟨i0, w0⟩ := Option.isSome_iff_exists.mp z0
    obtain ⟨i1, w1⟩ := Option.isSome_iff_exists.mp z1
    obtain ⟨i2, w2⟩ := Option.isSome_iff_exists.mp z2
    have HU : Hid (((u3.setCell ⟨w.heap.size + 2, 0, none⟩ (.slice none 0 0)).setCell ⟨w.heap.size + 2, 1, none⟩ (.slice none 0 0)).setCell ⟨w.heap.size + 2, 2, none⟩ (.slice none 0 0) = u8) := hu8
    obtain ⟨r0, r1, r2⟩ := X8
    clear hu8 M8 V3 X3 Z3 Y3
    go_wp2
    rw [HU.out]
    exact bodyPost_ret (v := .agg #[.slice none 0 0, .slice none 0 0, .slice none 0 0]) (by simp [results, Tryz.results63, go_sem, r0, r1, r2]) rfl ⟨_, rfl, by rw [e1]; exact mo_empty _ _ _, G8⟩
  | true =>
    have hfd := memOk_fits' hm
    obtain ⟨l1, l2, l3⟩ := fits_len hfd
    have e1 : okG d = cellF d := by unfold okG; rw [hm]; rfl
    obtain ⟨x0, x1⟩ := X3
    rw [e1] at V3
    go_wp2_with fail
    rw [e1]
    refine (iAddrOk_any _ k t).mono ?_
    cases ho : addrOk ⟨k, t⟩ with
    | false =>
      rintro e1 u4 ⟨rfl, g4⟩
      have e2 : memPut d ⟨k, t⟩ n = memOf (cellF d) := by unfold memPut; rw [hm, ho, memOf_cellF l1 l2 l3]; rfl
      have HE2 : Hid (memPut d ⟨k, t⟩ n = memOf (cellF d)) := e2
      have G4 := G3.trans (g4.mono (by omega))
      have S4 := g4.size
      have V4 := V3.below g4 (by omega)
      have Y4 := Y3.grow g4 (by omega)
      clear V3 Y3 g4 G3 x0 x1 e2 Z3 hfd l1 l2 l3
      go_wp2_with (refine wpList_load18 rfl _ rfl rfl (by assumption) ?_)
      refine (cellsMem_any _ (cellF d)).mono ?_
      rintro e7 u7 ⟨m', rfl, hm', g7⟩
      have hm0 := hm'
      obtain ⟨qa, qb, qc, rfl, j1, j2, j3⟩ := hm'.mi
      obtain ⟨pa, ca, rfl⟩ := j1.shape
      obtain ⟨pb, cb, rfl⟩ := j2.shape
      obtain ⟨pc, cc, rfl⟩ := j3.shape
      clear j1 j2 j3 hm'
      have hz7 : Zero 3 u7 (w.heap.size + 2) := Y4.grow g7 (by omega)
      have hs7 := g7.size
      obtain ⟨u8, hu8, G8, X8, M8, S8⟩ := store3 (w0 := w) (G4.trans (g7.mono (by omega))) (by omega) (by omega) hz7 hm0 (.inl (by omega))
      obtain ⟨z0, zf0⟩ := hz7 0 (by omega)
      obtain ⟨z1, zf1⟩ := hz7 1 (by omega)
      obtain ⟨z2, zf2⟩ := hz7 2 (by omega)
      obtain ⟨i0, w0⟩ := Option.isSome_iff_exists.mp z0
      obtain ⟨i1, w1⟩ := Option.isSome_iff_exists.mp z1
      obtain ⟨i2, w2⟩ := Option.isSome_iff_exists.mp z2
      have HU : Hid (((u7.setCell ⟨w.heap.size + 2, 0, none⟩ (.slice pa (memOf (cellF d)).i.length ca)).setCell ⟨w.heap.size + 2, 1, none⟩ (.slice pb (memOf (cellF d)).o.length cb)).setCell ⟨w.heap.size + 2, 2, none⟩ (.slice pc (memOf (cellF d)).v.length cc) = u8) := hu8
      have HM : Hid (MO u8 w.heap.size u8.heap.size (.agg #[.slice pa (memOf (cellF d)).i.length ca, .slice pb (memOf (cellF d)).o.length cb, .slice pc (memOf (cellF d)).v.length cc]) (memOf (cellF d))) := by
        obtain ⟨a1, a2, a3, em, g1, g2, g3, g4⟩ := M8
        exact ⟨a1, a2, a3, em, g1.wide (by omega) (by omega), g2.wide (by omega) (by omega), g3.wide (by omega) (by omega), g4⟩
      obtain ⟨r0, r1, r2⟩ := X8
      clear hu8 M8 hm0 g7 V4 Y4
      go_wp2
      rw [HU.out]
      exact bodyPost_ret (v := .agg #[.slice pa (memOf (cellF d)).i.length ca, .slice pb (memOf (cellF d)).o.length cb, .slice pc (memOf (cellF d)).v.length cc]) (by simp [results, Tryz.results63, go_sem, r0, r1, r2]) rfl ⟨_, rfl, by rw [HE2.out]; exact HM.out, G8⟩
    | true =>
      rintro e1 u4 ⟨rfl, g4⟩
      have G4 := G3.trans (g4.mono (by omega))
      have S4 := g4.size
      have V4 := V3.below g4 (by omega)
      have Z4 := Z3.grow g4 (by omega)
      have Y4 := Y3.grow g4 (by omega)
      obtain ⟨y0, y1⟩ := (Box2.mk x0 x1).below g4 (by omega)
      obtain ⟨k1, k2, k3, k4⟩ := addrOk_bd ho
      simp only at k1 k2 k3 k4
      clear V3 Y3 g4 G3 x0 x1 Z3
      go_wp2_with fail
      refine (takes_any _ k).mono ?_
      have hko : kindOk k = true := by simp [kindOk, k1, k2]
      rw [hko, Bool.true_and]
      by_cases hk1 : k = 1
      · rw [show (k != 1) = false by simp [hk1]]
        rintro e1 w1 ⟨rfl, rfl⟩
        have e2 : memPut d ⟨k, t⟩ n = memOf (cellF d) := by unfold memPut; rw [hm, ho, memOf_cellF l1 l2 l3]; simp [memSet, hk1]
        have HE2 : Hid (memPut d ⟨k, t⟩ n = memOf (cellF d)) := e2
        clear e2 Z4 y0 y1 hfd l1 l2 l3 hk1 hko
        go_wp2_with (refine wpList_load18 rfl _ rfl rfl (by assumption) ?_)
        refine (cellsMem_any _ (cellF d)).mono ?_
        rintro e7 u7 ⟨m', rfl, hm', g7⟩
        have hm0 := hm'
        obtain ⟨qa, qb, qc, rfl, j1, j2, j3⟩ := hm'.mi
        obtain ⟨pa, ca, rfl⟩ := j1.shape
        obtain ⟨pb, cb, rfl⟩ := j2.shape
        obtain ⟨pc, cc, rfl⟩ := j3.shape
        clear j1 j2 j3 hm'
        have hz7 : Zero 3 u7 (w.heap.size + 2) := Y4.grow g7 (by omega)
        have hs7 := g7.size
        obtain ⟨u8, hu8, G8, X8, M8, S8⟩ := store3 (w0 := w) (G4.trans (g7.mono (by omega))) (by omega) (by omega) hz7 hm0 (.inl (by omega))
        obtain ⟨z0, zf0⟩ := hz7 0 (by omega)
        obtain ⟨z1, zf1⟩ := hz7 1 (by omega)
        obtain ⟨z2, zf2⟩ := hz7 2 (by omega)
        obtain ⟨i0, w0⟩ := Option.isSome_iff_exists.mp z0
        obtain ⟨i1, w1⟩ := Option.isSome_iff_exists.mp z1
        obtain ⟨i2, w2⟩ := Option.isSome_iff_exists.mp z2
        have HU : Hid (((u7.setCell ⟨w.heap.size + 2, 0, none⟩ (.slice pa (memOf (cellF d)).i.length ca)).setCell ⟨w.heap.size + 2, 1, none⟩ (.slice pb (memOf (cellF d)).o.length cb)).setCell ⟨w.heap.size + 2, 2, none⟩ (.slice pc (memOf (cellF d)).v.length cc) = u8) := hu8
        have HM : Hid (MO u8 w.heap.size u8.heap.size (.agg #[.slice pa (memOf (cellF d)).i.length ca, .slice pb (memOf (cellF d)).o.length cb, .slice pc (memOf (cellF d)).v.length cc]) (memOf (cellF d))) := by
          obtain ⟨a1, a2, a3, em, g1, g2, g3, g4⟩ := M8
          exact ⟨a1, a2, a3, em, g1.wide (by omega) (by omega), g2.wide (by omega) (by omega), g3.wide (by omega) (by omega), g4⟩
        obtain ⟨r0, r1, r2⟩ := X8
        clear hu8 M8 hm0 g7 V4 Y4
        go_wp2
        rw [HU.out]
        exact bodyPost_ret (v := .agg #[.slice pa (memOf (cellF d)).i.length ca, .slice pb (memOf (cellF d)).o.length cb, .slice pc (memOf (cellF d)).v.length cc]) (by simp [results, Tryz.results63, go_sem, r0, r1, r2]) rfl ⟨_, rfl, by rw [HE2.out]; exact HM.out, G8⟩
      · rw [show (k != 1) = true by simp [hk1]]
        rintro e1 w1 ⟨rfl, rfl⟩
        have e2 : memPut d ⟨k, t⟩ n = memOf (putF (cellF d) (6 * (k.toNat - 1) + t.toNat) (cutZ n)) := by
          rw [memOf_put hfd (by omega) k2 k3 k4]; unfold memPut; rw [hm, ho]; rfl
        have hr := row_any (k := k) (B := u1.heap.size) (h1 := k1) (h2 := k2)
        obtain ⟨r, rfl⟩ : ∃ r : Nat, t = (r : Int) := ⟨t.toNat, by omega⟩
        obtain ⟨q, hq⟩ : ∃ q : Nat, 6 * (k.toNat - 1) = q := ⟨_, rfl⟩
        have hq18 : q + r < 18 := by omega
        rw [hq] at hr e2
        have HE2 : Hid (memPut d ⟨k, (r : Int)⟩ n = memOf (putF (cellF d) (q + r) (cutZ n))) := e2
        have c1 := V4 (q + r) hq18
        have f1 := (Z4 (q + r) hq18).2
        have r6 : r < 6 := by omega
        clear e2 hfd l1 l2 l3 hk1 hko
        go_wp2_with fail
        have HC1 : Hid (w1.cell? ⟨u1.heap.size, q + r, none⟩ = some (.int .i64 (cellF d (q + r)))) := c1
        refine wp_region_dagC (R := fun _ _ => True) (Φ := fun j v u => match j with
            | 0 => v = .pointer (some ⟨w.heap.size + 1, 0, none⟩)
            | 1 => v = .int .i64 k
            | 2 => v = .pointer (some ⟨u1.heap.size, q, none⟩)
            | 3 => v = .pointer (some ⟨w.heap.size + 1, 1, none⟩)
            | 4 => v = .int .i64 r
            | 5 => v = .int .i64 n
            | 6 => v = .int .i64 (cutZ n)
            | 7 => v = .pointer (some ⟨u1.heap.size, q, none⟩)
            | 8 => v = .pointer (some ⟨u1.heap.size, q + r, none⟩)
            | _ => True) (J := fun L a u => u = if L.getD 9 true = true then w1.drew.setCell ⟨u1.heap.size, q + r, none⟩ (.int .i64 (cutZ n)) else w1.drew) (by kernel_rfl) (by kernel_rfl) (by kernel_rfl) trivial (fun _ _ _ _ _ => trivial) (fun j v u u' _ h => h) (by simp) ?_ ?_
        · intro i o ho L a' u hf _ hsz hL hcl hp he hj K' hK
          have hsz' : a'.tmps.size = 35 := hf.size
          have putat : ∀ (t : Nat) (v : Value), t < a'.tmps.size → (a'.put (some t) v).tmps.getD t undef = v := fun t v ht => by
            show (a'.tmps.setIfInBounds t v).getD t undef = v
            simp [ht]
          rcases i with _ | _ | _ | _ | _ | _ | _ | _ | _ | _ | i
          · obtain rfl := Option.some.inj ho
            have f1 : a'.tmps.getD 4 undef = .pointer (some ⟨w.heap.size + 1, 0, none⟩) := hf.at_ 4 (by kernel_rfl)
            have n9 : L.getD 9 true = false := hcl.not (j := 0) (by kernel_rfl) hL
            have hj' : u = w1.drew := by rw [hj, n9]; rfl
            subst hj'
            have hjn : Hid (w1.drew = if (L.setIfInBounds 0 true).getD 9 true = true then w1.drew.setCell ⟨u1.heap.size, q + r, none⟩ (.int .i64 (cutZ n)) else w1.drew) := by show w1.drew = _; rw [getD_set_ne true (by omega), n9]; rfl
            clear he hp hj
            go_simp
            exact hK _ _ trivial (putat 24 _ (by omega)) hjn.out
          · obtain rfl := Option.some.inj ho
            have f1 : a'.tmps.getD 24 undef = .pointer (some ⟨w.heap.size + 1, 0, none⟩) := hp 0 _ rfl (he _ (Array.mem_of_getElem? (i := 0) rfl) (by kernel_rfl))
            have n9 : L.getD 9 true = false := hcl.not (j := 1) (by kernel_rfl) hL
            have hj' : u = w1.drew := by rw [hj, n9]; rfl
            subst hj'
            have hjn : Hid (w1.drew = if (L.setIfInBounds 1 true).getD 9 true = true then w1.drew.setCell ⟨u1.heap.size, q + r, none⟩ (.int .i64 (cutZ n)) else w1.drew) := by show w1.drew = _; rw [getD_set_ne true (by omega), n9]; rfl
            clear he hp hj
            go_simp
            exact hK _ _ trivial (putat 25 _ (by omega)) hjn.out
          · obtain rfl := Option.some.inj ho
            have f1 : a'.tmps.getD 25 undef = .int .i64 k := hp 1 _ rfl (he _ (Array.mem_of_getElem? (i := 0) rfl) (by kernel_rfl))
            have f2 : a'.tmps.getD 7 undef = .pointer (some ⟨u1.heap.size, 0, none⟩) := hf.at_ 7 (by kernel_rfl)
            have n9 : L.getD 9 true = false := hcl.not (j := 2) (by kernel_rfl) hL
            have hj' : u = w1.drew := by rw [hj, n9]; rfl
            subst hj'
            have hjn : Hid (w1.drew = if (L.setIfInBounds 2 true).getD 9 true = true then w1.drew.setCell ⟨u1.heap.size, q + r, none⟩ (.int .i64 (cutZ n)) else w1.drew) := by show w1.drew = _; rw [getD_set_ne true (by omega), n9]; rfl
            clear he hp hj
            go_simp
            refine (hr _).mono ?_
            rintro e7 w7 ⟨rfl, rfl⟩
            exact hK _ _ trivial (putat 26 _ (by omega)) hjn.out
          · obtain rfl := Option.some.inj ho
            have f1 : a'.tmps.getD 4 undef = .pointer (some ⟨w.heap.size + 1, 0, none⟩) := hf.at_ 4 (by kernel_rfl)
            have n9 : L.getD 9 true = false := hcl.not (j := 3) (by kernel_rfl) hL
            have hj' : u = w1.drew := by rw [hj, n9]; rfl
            subst hj'
            have hjn : Hid (w1.drew = if (L.setIfInBounds 3 true).getD 9 true = true then w1.drew.setCell ⟨u1.heap.size, q + r, none⟩ (.int .i64 (cutZ n)) else w1.drew) := by show w1.drew = _; rw [getD_set_ne true (by omega), n9]; rfl
            clear he hp hj
            go_simp
            exact hK _ _ trivial (putat 27 _ (by omega)) hjn.out
          · obtain rfl := Option.some.inj ho
            have f1 : a'.tmps.getD 27 undef = .pointer (some ⟨w.heap.size + 1, 1, none⟩) := hp 3 _ rfl (he _ (Array.mem_of_getElem? (i := 0) rfl) (by kernel_rfl))
            have n9 : L.getD 9 true = false := hcl.not (j := 4) (by kernel_rfl) hL
            have hj' : u = w1.drew := by rw [hj, n9]; rfl
            subst hj'
            have hjn : Hid (w1.drew = if (L.setIfInBounds 4 true).getD 9 true = true then w1.drew.setCell ⟨u1.heap.size, q + r, none⟩ (.int .i64 (cutZ n)) else w1.drew) := by show w1.drew = _; rw [getD_set_ne true (by omega), n9]; rfl
            clear he hp hj
            go_simp
            exact hK _ _ trivial (putat 28 _ (by omega)) hjn.out
          · obtain rfl := Option.some.inj ho
            have f1 : a'.tmps.getD 2 undef = .int .i64 n := hf.at_ 2 (by kernel_rfl)
            have n9 : L.getD 9 true = false := hcl.not (j := 5) (by kernel_rfl) hL
            have hj' : u = w1.drew := by rw [hj, n9]; rfl
            subst hj'
            have hjn : Hid (w1.drew = if (L.setIfInBounds 5 true).getD 9 true = true then w1.drew.setCell ⟨u1.heap.size, q + r, none⟩ (.int .i64 (cutZ n)) else w1.drew) := by show w1.drew = _; rw [getD_set_ne true (by omega), n9]; rfl
            clear he hp hj
            go_simp
            exact hK _ _ trivial (putat 29 _ (by omega)) hjn.out
          · obtain rfl := Option.some.inj ho
            have f1 : a'.tmps.getD 29 undef = .int .i64 n := hp 5 _ rfl (he _ (Array.mem_of_getElem? (i := 0) rfl) (by kernel_rfl))
            have n9 : L.getD 9 true = false := hcl.not (j := 6) (by kernel_rfl) hL
            have hj' : u = w1.drew := by rw [hj, n9]; rfl
            subst hj'
            have hjn : Hid (w1.drew = if (L.setIfInBounds 6 true).getD 9 true = true then w1.drew.setCell ⟨u1.heap.size, q + r, none⟩ (.int .i64 (cutZ n)) else w1.drew) := by show w1.drew = _; rw [getD_set_ne true (by omega), n9]; rfl
            clear he hp hj
            go_simp
            refine (numCut_any _ _).mono ?_
            rintro e7 w7 ⟨rfl, rfl⟩
            exact hK _ _ trivial (putat 30 _ (by omega)) hjn.out
          · obtain rfl := Option.some.inj ho
            have f1 : a'.tmps.getD 26 undef = .pointer (some ⟨u1.heap.size, q, none⟩) := hp 2 _ rfl (he _ (Array.mem_of_getElem? (i := 0) rfl) (by kernel_rfl))
            have n9 : L.getD 9 true = false := hcl.not (j := 8) (by kernel_rfl) (hcl.not (j := 7) (by kernel_rfl) hL)
            have hj' : u = w1.drew := by rw [hj, n9]; rfl
            subst hj'
            have hjn : Hid (w1.drew = if (L.setIfInBounds 7 true).getD 9 true = true then w1.drew.setCell ⟨u1.heap.size, q + r, none⟩ (.int .i64 (cutZ n)) else w1.drew) := by show w1.drew = _; rw [getD_set_ne true (by omega), n9]; rfl
            clear he hp hj
            go_simp
            exact hK _ _ trivial (putat 31 _ (by omega)) hjn.out
          · obtain rfl := Option.some.inj ho
            have f1 : a'.tmps.getD 31 undef = .pointer (some ⟨u1.heap.size, q, none⟩) := hp 7 _ rfl (he _ (Array.mem_of_getElem? (i := 0) rfl) (by kernel_rfl))
            have f2 : a'.tmps.getD 28 undef = .int .i64 r := hp 4 _ rfl (he _ (Array.mem_of_getElem? (i := 1) rfl) (by kernel_rfl))
            have n9 : L.getD 9 true = false := hcl.not (j := 8) (by kernel_rfl) hL
            have hj' : u = w1.drew := by rw [hj, n9]; rfl
            subst hj'
            have hjn : Hid (w1.drew = if (L.setIfInBounds 8 true).getD 9 true = true then w1.drew.setCell ⟨u1.heap.size, q + r, none⟩ (.int .i64 (cutZ n)) else w1.drew) := by show w1.drew = _; rw [getD_set_ne true (by omega), n9]; rfl
            clear he hp hj
            go_simp
            exact hK _ _ trivial (putat 32 _ (by omega)) hjn.out
          · obtain rfl := Option.some.inj ho
            have f1 : a'.tmps.getD 32 undef = .pointer (some ⟨u1.heap.size, q + r, none⟩) := hp 8 _ rfl (he _ (Array.mem_of_getElem? (i := 0) rfl) (by kernel_rfl))
            have f2 : a'.tmps.getD 30 undef = .int .i64 (cutZ n) := hp 6 _ rfl (he _ (Array.mem_of_getElem? (i := 1) rfl) (by kernel_rfl))
            have n9 : L.getD 9 true = false := hL
            have hj' : u = w1.drew := by rw [hj, n9]; rfl
            subst hj'
            have hKK := hK undef (w1.drew.setCell ⟨u1.heap.size, q + r, none⟩ (.int .i64 (cutZ n))) trivial trivial (by
              have : 9 < L.size := by rw [hsz]; decide
              rw [getD_set_self' this]; rfl)
            clear he hp hj hK
            go_simp
            exact hKK
          · exact absurd ho (by simp)
        · intro L a' u hf _ hp hj
          have l9 := (hp 9 _ rfl).1
          rw [l9, if_pos rfl] at hj
          have md : a'.defers = [] := hf.defers
          have m6 : a'.tmps.getD 6 undef = .pointer (some ⟨w.heap.size + 2, 0, none⟩) := hf.at_ 6 (by kernel_rfl)
          have m7 : a'.tmps.getD 7 undef = .pointer (some ⟨u1.heap.size, 0, none⟩) := hf.at_ 7 (by kernel_rfl)
          obtain ⟨f, ea, hfv⟩ := act_lit a' 35 hf.size
          rw [← hfv] at m6 m7
          rw [md] at ea
          simp only [List.range, List.range.loop, List.map_cons, List.map_nil, m6, m7] at ea
          subst ea
          have hw : Wrote (fun b o => b = u1.heap.size ∧ o = q + r) w1.drew u := by rw [hj]; exact (Wrote.refl _ _).setCell ⟨rfl, rfl⟩ _
          have V5 : Box18 u u1.heap.size (putF (cellF d) (q + r) (cutZ n)) := fun j hj18 => by
            unfold putF
            by_cases e : j = q + r
            · subst e
              rw [if_pos rfl, hj]
              exact World.cell?_setCell_same _ _ _ (by rw [World.cell?_drew]; exact HC1.out)
            · rw [if_neg e, hw.cell _ _ (by omega), World.cell?_drew]
              exact V4 j hj18
          have G5 : Below w.heap.size w u := (G4.trans (Below.drew (Below.refl _ _))).trans (hw.below fun b o e => by omega)
          have Y5 : Zero 3 u (w.heap.size + 2) := fun j hj3 => by
            rw [hw.cell _ _ (by omega), hw.frozen, World.cell?_drew, World.frozen?_drew]; exact Y4 j hj3
          have S5 : u.heap.size = w1.heap.size := hw.size
          clear hj hp hf hfv md hw c1 f1 HC1 V4 Y4 G4 y0 y1 Z4 hr
          go_wp2_with (refine wpList_load18 rfl _ rfl rfl (by assumption) ?_)
          refine (cellsMem_any _ (putF (cellF d) (q + r) (cutZ n))).mono ?_
          rintro e7 u7 ⟨m', rfl, hm', g7⟩
          have hm0 := hm'
          obtain ⟨qa, qb, qc, rfl, j1, j2, j3⟩ := hm'.mi
          obtain ⟨pa, ca, rfl⟩ := j1.shape
          obtain ⟨pb, cb, rfl⟩ := j2.shape
          obtain ⟨pc, cc, rfl⟩ := j3.shape
          clear j1 j2 j3 hm'
          have hz7 : Zero 3 u7 (w.heap.size + 2) := Y5.grow g7 (by omega)
          have hs7 := g7.size
          obtain ⟨u8, hu8, G8, X8, M8, S8⟩ := store3 (w0 := w) (G5.trans (g7.mono (by omega))) (by omega) (by omega) hz7 hm0 (.inl (by omega))
          obtain ⟨z0, zf0⟩ := hz7 0 (by omega)
          obtain ⟨z1, zf1⟩ := hz7 1 (by omega)
          obtain ⟨z2, zf2⟩ := hz7 2 (by omega)
          obtain ⟨i0, w0⟩ := Option.isSome_iff_exists.mp z0
          obtain ⟨i1, w1⟩ := Option.isSome_iff_exists.mp z1
          obtain ⟨i2, w2⟩ := Option.isSome_iff_exists.mp z2
          have HU : Hid (((u7.setCell ⟨w.heap.size + 2, 0, none⟩ (.slice pa (memOf (putF (cellF d) (q + r) (cutZ n))).i.length ca)).setCell ⟨w.heap.size + 2, 1, none⟩ (.slice pb (memOf (putF (cellF d) (q + r) (cutZ n))).o.length cb)).setCell ⟨w.heap.size + 2, 2, none⟩ (.slice pc (memOf (putF (cellF d) (q + r) (cutZ n))).v.length cc) = u8) := hu8
          have HM : Hid (MO u8 w.heap.size u8.heap.size (.agg #[.slice pa (memOf (putF (cellF d) (q + r) (cutZ n))).i.length ca, .slice pb (memOf (putF (cellF d) (q + r) (cutZ n))).o.length cb, .slice pc (memOf (putF (cellF d) (q + r) (cutZ n))).v.length cc]) (memOf (putF (cellF d) (q + r) (cutZ n)))) := by
            obtain ⟨a1, a2, a3, em, g1, g2, g3, g4⟩ := M8
            exact ⟨a1, a2, a3, em, g1.wide (by omega) (by omega), g2.wide (by omega) (by omega), g3.wide (by omega) (by omega), g4⟩
          obtain ⟨r0, r1, r2⟩ := X8
          clear hu8 M8 hm0 g7 V5 Y5
          go_wp2
          rw [HU.out]
          exact bodyPost_ret (v := .agg #[.slice pa (memOf (putF (cellF d) (q + r) (cutZ n))).i.length ca, .slice pb (memOf (putF (cellF d) (q + r) (cutZ n))).o.length cb, .slice pc (memOf (putF (cellF d) (q + r) (cutZ n))).v.length cc]) (by simp [results, Tryz.results63, go_sem, r0, r1, r2]) rfl ⟨_, rfl, by rw [HE2.out]; exact HM.out, G8⟩
end Go.Proofs.YtdhpbiplkjpiiaaGreatDoor
