/-
  How many numbers are held ahead of each place, by the program: follow.
-/
import Derived.Test.YtdhpbiplkjpiiaaGreatDoorDepImplB
import Derived.Test.YtdhpbiplkjpiiaaGreatDoorOpImpl
namespace Go.Proofs.YtdhpbiplkjpiiaaGreatDoor
open Go.ChangeShapes Go.WideShapes Go.ChangeAt Go.RowKit
set_option linter.unusedVariables false
set_option maxRecDepth 100000

theorem takesO_bd (o : Int) : 0 ≤ takesO o ∧ takesO o ≤ 2 := by unfold takesO; split <;> (try split) <;> omega
theorem givesO_bd (o : Int) : 0 ≤ givesO o ∧ givesO o ≤ 1 := by unfold givesO; split <;> omega

theorem CellI.out {w w' : World} {lo hi b o : Nat} {p : InsD} (h : CellI w b o p) (g : Out lo hi w w') (hb : b < w.heap.size) (ho : b < lo ∨ hi ≤ b) : CellI w' b o p := h.kept (g.block b hb ho)

theorem told_none_below {B : Nat} {w w' : World} (h : Below w.heap.size w w') : ToldP none B w w' := ⟨(fun s h => nomatch h), out_of_below h _ _⟩

theorem tellP_le {s s' : (Nat → Int) × Int} {j : Nat} {h : Int} (ht : tellP s j h = some s') (h0 : 0 ≤ h) (hm : 0 ≤ s.2 ∧ s.2 ≤ 12) (hD : ∀ k, s.1 k ≤ 12) : (0 ≤ s'.2 ∧ s'.2 ≤ 12) ∧ ∀ k, s'.1 k ≤ 12 := by
  unfold tellP at ht
  split at ht
  · cases ht
  · cases ht
    refine ⟨by simp only; omega, fun k => ?_⟩
    simp only [upd_eq]
    split
    · omega
    · exact hD k

set_option maxHeartbeats 4000000 in
theorem follow_any (w : World) (B : Nat) (D : Nat → Int) (m : Int) (p : InsD) (i n : Nat) (hv : DepV w B D m) (hB : B < w.heap.size) (hi : i < n) (hn : n ≤ 400) (hf : fitI p i n = true) (hD : ∀ j, D j ≤ 12) (hm : 0 ≤ m ∧ m ≤ 12) :
    Calls Tryz.prog 57 #[.pointer (some ⟨B, 0, none⟩), p.val, .int .i64 i] w fun e w' => e = .returned (.bool (followP (D, m) i p).isSome) ∧ ToldP (followP (D, m) i p) B w w' := by
  have t1 := hv.told i (by omega)
  obtain ⟨x, x1, hx⟩ := hv.held i (by omega)
  have hi' : i < 401 := by omega
  have hi2 : i + 1 ≤ 400 := by omega
  have hto : goesI p = true → (0 ≤ p.n ∧ p.n.toNat ≤ 400) := by
    intro h1
    unfold fitI at hf
    unfold goesI at h1
    simp only [Bool.or_eq_true, beq_iff_eq] at h1
    rw [if_neg (by omega), if_neg (by omega), if_neg (by omega), if_neg (by omega), if_neg (by omega)] at hf
    by_cases h8 : p.op = 8
    · rw [if_neg (by omega), if_pos h8] at hf
      simp only [Bool.and_eq_true, decide_eq_true_eq] at hf
      omega
    · rw [if_pos (by omega)] at hf
      simp only [Bool.and_eq_true, decide_eq_true_eq] at hf
      omega
  have b1 := fun y => (Below.refl w.heap.size w).alloc (Nat.le_refl _) y
  obtain ⟨u0, hu0, G0, C0, S0⟩ : ∃ u0, w.alloc (.cells #[.int .i64 p.op, .int .i64 p.n, .int .i64 p.ak, .int .i64 p.at_] 47) = u0 ∧ Below w.heap.size w u0 ∧ CellI u0 w.heap.size 0 p ∧ u0.heap.size = w.heap.size + 1 :=
    ⟨_, rfl, b1 _, (fourI_new _ _ _).c, by simp⟩
  have HU : Hid (_ = u0) := hu0
  clear hu0
  have hv0 := hv.at_ (G0.block B hB)
  have ht := fun W => opTakes_any W p.op
  have hg := fun W => opGives_any W p.op
  have hfa := fun W => opFalls_any W p.op
  have hgo := fun W => opGoes_any W p.op
  have htb := takesO_bd p.op
  have hgb := givesO_bd p.op
  obtain ⟨R, hR⟩ : ∃ R, followP (D, m) i p = R := ⟨_, rfl⟩
  rw [hR]
  unfold followP at hR
  rw [goes_op, falls_op, takes_op, gives_op] at hR
  rw [goes_op] at hto
  simp only at hR
  have t0 : u0.cell? ⟨B, i, none⟩ = some (.bool (decide (0 ≤ D i))) := hv0.told i (by omega)
  have x0 : u0.cell? ⟨B, 401 + i, none⟩ = some (.int .i64 x) := by rw [World.cell?_of_block (w := w) (G0.block B hB)]; exact x1
  have c0 := C0.c0
  have c1 : u0.cell? ⟨w.heap.size, 1, none⟩ = some (.int .i64 p.n) := C0.c1
  have HC : Hid (CellI u0 w.heap.size 0 p ∧ DepV u0 B D m ∧ Below w.heap.size w u0) := ⟨C0, hv0, G0⟩
  clear t1 x1 hv hv0 C0 b1 G0
  unfold InsD.val
  generalize takesO p.op = t at *
  generalize givesO p.op = g at *
  generalize fallsO p.op = fa at *
  generalize goesO p.op = go at *
  by_cases q0 : 0 ≤ D i
  · obtain rfl := hx q0
    rw [decide_eq_true q0] at t0
    have d12 := hD i
    by_cases q1 : D i < t
    · rw [if_pos (.inr q1)] at hR
      subst hR
      clear hg hfa hgo
      go_enter Tryz.func57, Tryz.ntmps57
      go_wp2_with fail
      rw [HU.out]
      go_quiet ((go_at_call 83; exact Calls.quiet_of_same (ht _)))
      go_wp2
      go_ret
      exact ⟨rfl, told_none_below (below_drewN HC.out.2.2 _)⟩
    · rw [if_neg (by omega)] at hR
      have HR : Hid ((match if fa = true then tellP (D, m) (i + 1) (D i - t + g) else some (D, m) with | none => none | some s' => if go = true then tellP s' p.n.toNat (D i - t + g) else some s') = R) := hR
      clear hR
      go_enter Tryz.func57, Tryz.ntmps57
      go_wp2_with fail
      rw [HU.out]
      go_quiet ((go_at_call 83; exact Calls.quiet_of_same (ht _)))
      obtain ⟨U1, hU1, G1⟩ : ∃ U1, u0.drewN nq = U1 ∧ Below u0.heap.size u0 U1 := ⟨_, rfl, below_drewN (Below.refl _ _) nq⟩
      rw [hU1]
      clear hU1
      have x2 : U1.cell? ⟨B, 401 + i, none⟩ = some (.int .i64 (D i)) := by rw [World.cell?_of_block (w := u0) (G1.block B (by omega))]; exact x0
      go_wp2_with fail
      go_quiet (first | (go_at_call 83; exact Calls.quiet_of_same (ht _)) | (go_at_call 84; exact Calls.quiet_of_same (hg _)))
      obtain ⟨U2, hU2, G2⟩ : ∃ U2, U1.drewN nq = U2 ∧ Below u0.heap.size u0 U2 := ⟨_, rfl, below_drewN G1 nq⟩
      rw [hU2]
      clear hU2 ht hg G1 x2 t0 x0
      have S2 := G2.size
      obtain ⟨c, hc⟩ : ∃ c, D i - t + g = c := ⟨_, rfl⟩
      rw [hc] at HR ⊢
      have c0' : 0 ≤ c := by omega
      have c100 : c ≤ 100 := by omega
      have V2 := HC.out.2.1.at_ (G2.block B (by omega))
      have C2 := HC.out.1.below G2 (by omega)
      have K2 : Below w.heap.size w U2 := HC.out.2.2.trans (G2.mono (by omega))
      clear hc
      go_wp2_with fail
      refine (hfa U2).mono ?_
      rintro e1 u1 ⟨rfl, rfl⟩
      clear hfa
      cases fa with
      | false =>
        go_wp2_with fail
        refine (hgo _).mono ?_
        rintro e1 u1 ⟨rfl, rfl⟩
        clear hgo
        cases go with
        | false =>
          have hR : some (D, m) = R := HR.out
          have HF : Hid (ToldP (some (D, m)) B w u1) := ⟨(fun s hs => by cases hs; exact V2), out_of_below K2 _ _⟩
          go_wp2
          go_ret
          exact ⟨ret_bool (by rw [← hR]; rfl), by rw [← hR]; exact HF.out⟩
        | true =>
          obtain ⟨j, hj⟩ : ∃ j : Nat, p.n = j := ⟨p.n.toNat, by have := hto rfl; omega⟩
          have hj4 : j ≤ 400 := by have := (hto rfl).2; omega
          have HR2 : Hid (tellP (D, m) j c = R) := by have := HR.out; simp only [Bool.false_eq_true, if_false, if_true, hj, Int.toNat_natCast] at this; exact this
          have c1 : u1.cell? ⟨w.heap.size, 1, none⟩ = some (.int .i64 (j : Int)) := by rw [← hj]; exact C2.c1
          have hT := tell_any u1 B D m j c V2 (by omega) hj4 c0' c100 hm.1 (by omega)
          clear hto hj
          go_wp2_with fail
          refine hT.mono ?_
          rintro e2 u2 ⟨rfl, h1, h2⟩
          have HF : Hid (ToldP (tellP (D, m) j c) B w u2) := ⟨h1, (out_of_below K2 _ _).trans h2⟩
          clear hT h1 h2
          go_wp2
          go_ret
          exact ⟨ret_bool (by rw [HR2.out]), by rw [← HR2.out]; exact HF.out⟩
      | true =>
        have HR1 : Hid ((match tellP (D, m) (i + 1) c with | none => none | some s' => if go = true then tellP s' p.n.toNat c else some s') = R) := HR.out
        have hT := tell_any _ B D m (i + 1) c V2 (by omega) hi2 c0' c100 hm.1 (by omega)
        rw [show ((i + 1 : Nat) : Int) = (i : Int) + 1 by omega] at hT
        have hTl := fun s' (h : tellP (D, m) (i + 1) c = some s') => tellP_le h c0' hm hD
        go_wp2_with fail
        refine hT.mono ?_
        rintro e2 u2 ⟨rfl, h1, h2⟩
        clear hT
        cases hr : tellP (D, m) (i + 1) c with
        | none =>
          have HF : Hid (ToldP none B w u2) := ⟨(fun s hs => nomatch hs), (out_of_below K2 _ _).trans h2⟩
          have hR : none = R := by have := HR1.out; rw [hr] at this; exact this
          clear h1 h2 hTl hr
          rw [Option.isSome_none]
          go_wp2
          go_ret
          exact ⟨ret_bool (by rw [← hR]; rfl), by rw [← hR]; exact HF.out⟩
        | some s =>
          have HR2 : Hid ((if go = true then tellP s p.n.toNat c else some s) = R) := by have := HR1.out; rw [hr] at this; exact this
          have V3 := h1 s hr
          have hsl := hTl s hr
          have S3 := h2.size
          have C3 := C2.out h2 (by omega) (by omega)
          have K3 := (out_of_below (lo := B) (hi := B + 1) K2).trans h2
          clear h1 h2 hTl hr V2 C2 K2
          rw [Option.isSome_some]
          go_wp2_with fail
          refine (hgo _).mono ?_
          rintro e1 u1 ⟨rfl, rfl⟩
          clear hgo
          cases go with
          | false =>
            have hR : some s = R := HR2.out
            have HF : Hid (ToldP (some s) B w u1) := ⟨(fun s hs => by cases hs; exact V3), K3⟩
            go_wp2
            go_ret
            exact ⟨ret_bool (by rw [← hR]; rfl), by rw [← hR]; exact HF.out⟩
          | true =>
            obtain ⟨j, hj⟩ : ∃ j : Nat, p.n = j := ⟨p.n.toNat, by have := hto rfl; omega⟩
            have hj4 : j ≤ 400 := by have := (hto rfl).2; omega
            have HR3 : Hid (tellP s j c = R) := by have := HR2.out; simp only [if_true, hj, Int.toNat_natCast] at this; exact this
            have c1 : u1.cell? ⟨w.heap.size, 1, none⟩ = some (.int .i64 (j : Int)) := by rw [← hj]; exact C3.c1
            have hT := tell_any u1 B s.1 s.2 j c V3 (by omega) hj4 c0' c100 hsl.1.1 (by omega)
            clear hto hj
            go_wp2_with fail
            refine hT.mono ?_
            rintro e2 u2 ⟨rfl, h1, h2⟩
            have HF : Hid (ToldP (tellP s j c) B w u2) := ⟨h1, K3.trans h2⟩
            clear hT h1 h2
            go_wp2
            go_ret
            exact ⟨ret_bool (by rw [← HR3.out]), by rw [← HR3.out]; exact HF.out⟩
  · rw [if_pos (.inl (by omega))] at hR
    subst hR
    rw [decide_eq_false q0] at t0
    clear hg hfa hgo hx
    go_enter Tryz.func57, Tryz.ntmps57
    go_wp2_with fail
    rw [HU.out]
    go_quiet ((go_at_call 83; exact Calls.quiet_of_same (ht _)))
    go_wp2
    go_ret
    exact ⟨rfl, told_none_below (below_drewN HC.out.2.2 _)⟩
end Go.Proofs.YtdhpbiplkjpiiaaGreatDoor
