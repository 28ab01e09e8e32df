/-
  impl.MemGet, impl.MemPut.
-/
import Derived.Test.YtdhmioelmcdflaaImplG
import Derived.Test.YtdhmioelmcdflaaMemPut
namespace Go.Proofs.Ytdhmioelmcdflaa
open Go.ChangeShapes Go.WideShapes Go.ChangeAt Go.RowKit
set_option linter.unusedVariables false
set_option maxRecDepth 100000

theorem memOk_fits' {d : MemD} (h : memOk d = true) : fits d = true := by
  cases hf : fits d with
  | true => rfl
  | false => rw [memOk_not hf] at h; cases h

theorem get_cellF {d : MemD} (h : fits d = true) {k t : Int} (h1 : 1 ≤ k) (h2 : k ≤ 3) (h3 : 0 ≤ t) (h4 : t < 6) : ((memList d k)[t.toNat]?).getD 0 = cellF d (6 * (k.toNat - 1) + t.toNat) := by
  obtain ⟨l1, l2, l3⟩ := fits_len h
  obtain ⟨i, o, v⟩ := d
  obtain ⟨a0, a1, a2, a3, a4, a5, rfl⟩ := six_of l1
  obtain ⟨b0, b1, b2, b3, b4, b5, rfl⟩ := six_of l2
  obtain ⟨c0, c1, c2, c3, c4, c5, rfl⟩ := six_of l3
  obtain rfl | rfl | rfl | rfl | rfl | rfl : t = 0 ∨ t = 1 ∨ t = 2 ∨ t = 3 ∨ t = 4 ∨ t = 5 := by omega
  all_goals (obtain rfl | rfl | rfl : k = 1 ∨ k = 2 ∨ k = 3 := by omega) <;> rfl

set_option maxHeartbeats 4000000 in
theorem iMemGet_any (w : World) (m : Value) (lo hi : Nat) (d : MemD) (k t : Int) (h : MI w lo hi m d) (hhi : hi ≤ w.heap.size) :
    Calls Try.prog 16 #[m, AddrD.val ⟨k, t⟩] w fun e w' => e = .returned (.int .i64 (memGet d ⟨k, t⟩)) ∧ Below w.heap.size w w' := by
  have H := h
  obtain ⟨a, b, c, rfl, ha, hb, hc⟩ := h
  clear ha hb hc
  have ea : AddrD.val ⟨k, t⟩ = .agg #[.int .i64 k, .int .i64 t] := rfl
  rw [ea]
  clear ea
  have b2 := fun o o' => ((Below.refl w.heap.size w).alloc (Nat.le_refl _) o).alloc (by simp) o'
  go_enter Try.func16, Try.ntmps16
  go_wp2_with fail
  obtain ⟨u0, hu0, G0, X0, S0⟩ : ∃ u0, (w.alloc (.cells #[a, b, c] 30)).alloc (.cells #[.int .i64 k, .int .i64 t] 24) = u0 ∧ Below w.heap.size w u0 ∧ Box2 u0 (w.heap.size + 1) (.int .i64 k) (.int .i64 t) ∧ u0.heap.size = w.heap.size + 2 :=
    ⟨_, rfl, b2 _ _, ⟨World.cell?_alloc2_new _ _ _ _, World.cell?_alloc2_new _ _ _ _⟩, by simp⟩
  rw [hu0]
  clear hu0 b2
  refine (cellsOk_any _ lo hi _ d (H.below G0 hhi) (by omega)).mono ?_
  rintro e1 u1 ⟨rfl, g1⟩
  have S1 := g1.size
  have G1 := G0.trans (g1.mono (by omega))
  have X1 := X0.below g1 (by omega)
  clear g1 X0 G0
  go_wp2_with (refine wpList_alloc18 rfl rfl ?_)
  intro u2 g2 z2 s2
  go_wp2_with (refine wpList_store18 rfl _ _ rfl rfl rfl (by assumption) ?_)
  intro u3 W3 V3 Z3
  have G3 := (G1.trans (g2.mono (by omega))).trans (W3.below fun b o e => by omega)
  have X3 := (X1.below g2 (by omega)).wrote W3 (by omega)
  have S3 := W3.size
  clear g2 z2 W3 Z3 X1 G1
  cases hm : memOk d with
  | false =>
    clear V3 X3
    go_wp2
    go_ret
    exact ⟨ret_int (by unfold memGet; simp [hm]), G3⟩
  | true =>
    obtain ⟨x0, x1⟩ := X3
    go_wp2_with fail
    refine (iAddrOk_any _ k t).mono ?_
    cases ho : addrOk ⟨k, t⟩ with
    | false =>
      rintro e1 u4 ⟨rfl, g4⟩
      have G4 := G3.trans (g4.mono (by omega))
      clear V3 g4 G3 x0 x1
      go_wp2
      go_ret
      exact ⟨ret_int (by unfold memGet; simp [ho]), G4⟩
    | true =>
      rintro e1 u4 ⟨rfl, g4⟩
      have G4 := G3.trans (g4.mono (by omega))
      have S4 := g4.size
      have V4 := V3.below g4 (by omega)
      obtain ⟨y0, y1⟩ := (Box2.mk x0 x1).below g4 (by omega)
      obtain ⟨k1, k2, k3, k4⟩ := addrOk_bd ho
      simp only at k1 k2 k3 k4
      clear V3 g4 G3 x0 x1
      have e1 : okG d = cellF d := by unfold okG; rw [hm]; rfl
      rw [e1] at V4
      have eg := get_cellF (memOk_fits' hm) k1 k2 k3 k4
      obtain ⟨n, rfl⟩ : ∃ n : Nat, t = (n : Int) := ⟨t.toNat, by omega⟩
      obtain ⟨q, hq⟩ : ∃ q : Nat, 6 * (k.toNat - 1) = q := ⟨_, rfl⟩
      have c1 := V4 (q + n) (by omega)
      rw [hq] at eg
      have hr := row_any (k := k) (B := u1.heap.size) (h1 := k1) (h2 := k2)
      rw [hq] at hr
      have n6 : n < 6 := by omega
      have HE : Hid (((memList d k)[(n : Int).toNat]?).getD 0 = cellF d (q + n)) := eg
      clear eg V4
      go_wp2_with fail
      go_quiet ((go_at_call 47; exact Calls.quiet_of_same (hr _)))
      go_wp2
      go_ret
      exact ⟨ret_int (by unfold memGet; rw [if_pos (by simp [hm, ho])]; exact HE.out.symm), below_drewN G4 nq⟩
/-- Numbers, one of them put. -/
def putF (f : Nat → Int) (i : Nat) (x : Int) (j : Nat) : Int := if j = i then x else f j

theorem memOf_put {d : MemD} (h : fits d = true) {k t : Int} (h1 : 2 ≤ k) (h2 : k ≤ 3) (h3 : 0 ≤ t) (h4 : t < 6) (n : Int) : memOf (putF (cellF d) (6 * (k.toNat - 1) + t.toNat) (cutZ n)) = memSet d ⟨k, t⟩ n := by
  obtain ⟨l1, l2, l3⟩ := fits_len h
  obtain ⟨i, o, v⟩ := d
  obtain ⟨a0, a1, a2, a3, a4, a5, rfl⟩ := six_of l1
  obtain ⟨b0, b1, b2, b3, b4, b5, rfl⟩ := six_of l2
  obtain ⟨c0, c1, c2, c3, c4, c5, rfl⟩ := six_of l3
  obtain rfl | rfl | rfl | rfl | rfl | rfl : t = 0 ∨ t = 1 ∨ t = 2 ∨ t = 3 ∨ t = 4 ∨ t = 5 := by omega
  all_goals (obtain rfl | rfl : k = 2 ∨ k = 3 := by omega) <;> rfl

theorem mo_empty (u : World) (lo hi : Nat) : MO u lo hi (.agg #[.slice none 0 0, .slice none 0 0, .slice none 0 0]) ⟨[], [], []⟩ := by
  have h : OI u lo hi (.slice none 0 0) [] := .inl ⟨rfl, none, 0, rfl, Nat.zero_le _⟩
  have ap : Apart (.slice none 0 0) 0 (.slice none 0 0) 0 := fun b o hf => by
    obtain ⟨g, off, l, cap, e, _⟩ := hf
    cases e
  exact ⟨_, _, _, rfl, h, h, h, ap, ap, ap⟩

end Go.Proofs.Ytdhmioelmcdflaa
