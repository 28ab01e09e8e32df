/-
  impl.CodeDepth, impl.CodeOk.
-/
import Derived.Test.YtdhpbiplkjpiiaaGreatDoorDepImplC
namespace Go.Proofs.YtdhpbiplkjpiiaaGreatDoor
open Go.ChangeShapes Go.WideShapes Go.ChangeAt Go.RowKit
set_option linter.unusedVariables false
set_option maxRecDepth 100000

theorem tell_first : tellP (fun _ => -1, 0) 0 0 = some (startT, 0) := by
  unfold tellP
  rw [if_neg (by simp)]
  rfl

theorem followP_le {s s' : (Nat → Int) × Int} {i : Nat} {p : InsD} (h : followP s i p = some s') (hm : 0 ≤ s.2 ∧ s.2 ≤ 12) (hD : ∀ k, s.1 k ≤ 12) : (0 ≤ s'.2 ∧ s'.2 ≤ 12) ∧ ∀ k, s'.1 k ≤ 12 := by
  have hg : 0 ≤ givesI p := by rw [gives_op]; exact (givesO_bd _).1
  unfold followP at h
  split at h
  · cases h
  · rename_i q
    have h0 : 0 ≤ s.1 i - takesI p + givesI p := by omega
    have h1 : ∀ s1, (if fallsI p then tellP s (i + 1) (s.1 i - takesI p + givesI p) else some s) = some s1 → (0 ≤ s1.2 ∧ s1.2 ≤ 12) ∧ ∀ k, s1.1 k ≤ 12 := fun s1 e => by
      split at e
      · exact tellP_le e h0 hm hD
      · cases e; exact ⟨hm, hD⟩
    cases e : (if fallsI p then tellP s (i + 1) (s.1 i - takesI p + givesI p) else some s) with
    | none => rw [e] at h; cases h
    | some s1 =>
      rw [e] at h
      simp only at h
      have k := h1 s1 e
      split at h
      · exact tellP_le h h0 k.1 k.2
      · cases h; exact k

/-- What holds at the head of a round. -/
structure DepL (w : World) (B : Nat) (ps : List InsD) (j : Nat) (s : (Nat → Int) × Int) (wr : World) : Prop where
  below : Below w.heap.size w wr
  dep : DepV wr B s.1 s.2
  lt : B < wr.heap.size
  le : w.heap.size ≤ B
  run : depthsP ps.length 0 (startT, 0) ps = depthsP ps.length j s (ps.drop j)
  most : 0 ≤ s.2 ∧ s.2 ≤ 12
  held : ∀ k, s.1 k ≤ 12

theorem depthsP_drop {n j : Nat} {s : (Nat → Int) × Int} {ps : List InsD} {p : InsD} (hp : ps[j]? = some p) :
    depthsP n j s (ps.drop j) = if fitI p j n then (match followP s j p with | none => none | some s' => depthsP n (j + 1) s' (ps.drop (j + 1))) else none := by
  have hj : j < ps.length := (List.getElem?_eq_some_iff.mp hp).1
  rw [List.drop_eq_getElem_cons hj, depthsP]
  have : ps[j] = p := by rw [List.getElem?_eq_getElem hj] at hp; exact Option.some.inj hp
  rw [this]
  split
  · cases followP s j p <;> rfl
  · rfl

theorem below_out1 {w u u' : World} {B : Nat} (h : Below w.heap.size w u) (ho : Out B (B + 1) u u') (hB : w.heap.size ≤ B) : Below w.heap.size w u' :=
  ⟨ho.os.trans h.os, ho.tape.trans h.tape, ho.output.trans h.output, Nat.le_trans h.size ho.size, fun k hk => by rw [ho.block k (Nat.lt_of_lt_of_le hk h.size) (.inl (by omega))]; exact h.block k hk⟩

set_option maxHeartbeats 8000000 in
theorem iCodeDepth_any (w : World) (lo hi : Nat) (v : Value) (ps : List InsD) (hN : NR w lo hi v ps) (hhi : hi ≤ w.heap.size) :
    Calls Tryz.prog 40 #[v] w fun e w' => e = .returned (.int .i64 (codeDepth ps)) ∧ Below w.heap.size w w' := by
  rw [← depthP_eq]
  obtain ⟨ad, cap, rfl, h1, h2⟩ := hN.shape
  have HN : Hid (NR w lo hi (.slice ad ps.length cap) ps) := hN
  obtain ⟨R, hR⟩ : ∃ R, depthP ps = R := ⟨_, rfl⟩
  rw [hR]
  unfold depthP at hR
  unfold maxLen at h2
  clear hN
  by_cases hbig : 400 < ps.length
  · rw [if_pos hbig] at hR
    subst hR
    go_enter Tryz.func40, Tryz.ntmps40
    go_wp2
    go_ret
    exact ⟨rfl, Below.refl _ _⟩
  rw [if_neg hbig] at hR
  have HR : Hid ((match depthsP ps.length 0 (startT, 0) ps with | none => -1 | some s => if s.1 ps.length = 0 then s.2 else -1) = R) := hR
  clear hR h1 h2
  go_enter Tryz.func40, Tryz.ntmps40
  go_wp2_with (refine wpList_allocD rfl rfl ?_)
  intro u1 g1 v1 s1
  obtain ⟨B, hB⟩ : ∃ B, w.heap.size = B := ⟨_, rfl⟩
  have HB : Hid (w.heap.size = B) := hB
  rw [hB] at v1
  have hT := tell_any u1 B _ _ 0 0 v1 (by omega) (by omega) (by omega) (by omega) (by omega) (by omega)
  rw [tell_first] at hT
  rw [hB]
  clear hB
  go_wp2_with fail
  refine hT.mono ?_
  rintro e2 u2 ⟨rfl, h1, h2⟩
  have HL : Hid (DepL w B ps 0 (startT, 0) u2) := ⟨below_out1 g1 h2 (by rw [HB.out]; exact Nat.le_refl _), h1 _ rfl, by have := h2.size; have := HB.out; omega, by rw [HB.out]; exact Nat.le_refl _, rfl, ⟨by omega, by omega⟩, start_le⟩
  clear hT h1 h2 v1 g1 s1
  go_wp2_with fail
  go_loopw [12] (fun i wr => ∃ (j : Nat) (s : (Nat → Int) × Int), j ≤ ps.length ∧ i = .int .i64 j ∧ DepL w B ps j s wr) (fun i _ => ps.length - (intOf i).toNat)
  case atStart => exact ⟨0, _, Nat.zero_le _, rfl, HL.out⟩
  case round =>
    clear HL
    obtain ⟨j, s, hj, rfl, hL⟩ := hrel
    have HL : Hid (DepL w B ps j s wr) := hL
    clear hL
    by_cases hlt : j < ps.length
    · obtain ⟨p, hp⟩ : ∃ p, ps[j]? = some p := ⟨ps[j], List.getElem?_eq_getElem hlt⟩
      obtain ⟨b, off, cap', hv, hb1, hb2, h5⟩ := HN.out.at_ hp
      simp only [Value.slice.injEq, true_and] at hv
      obtain ⟨rfl, rfl⟩ := hv
      obtain ⟨c0, c1, c2, c3⟩ := h5.kept (HL.out.below.block b (by omega))
      have HP : Hid (ps[j]? = some p) := hp
      clear hp h5
      go_wp2_with fail
      have g1 : Below wr.heap.size wr (wr.alloc (.cells #[.int .i64 p.op, .int .i64 p.n, .int .i64 p.ak, .int .i64 p.at_] 47)) := (Below.refl _ _).alloc (Nat.le_refl _) _
      have f1 := (fourI_new wr p 47).c
      obtain ⟨u1, hu1, z1⟩ : ∃ u1, wr.alloc (.cells #[.int .i64 p.op, .int .i64 p.n, .int .i64 p.ak, .int .i64 p.at_] 47) = u1 ∧ u1.heap.size = wr.heap.size + 1 := ⟨_, rfl, by simp⟩
      rw [hu1] at g1 f1 ⊢
      clear hu1 c0 c1 c2 c3
      have hF := fits_any u1 p j ps.length
      unfold InsD.val at hF
      refine hF.mono ?_
      rintro e2 u3 ⟨rfl, g3⟩
      have z3 := g3.size
      have G3 : Below wr.heap.size wr u3 := g1.trans (g3.mono (by omega))
      have C3 := f1.below g3 (by omega)
      have hrun := HL.out.run
      rw [depthsP_drop HP.out] at hrun
      clear hF g1 f1 g3
      cases hfit : fitI p j ps.length with
      | false =>
        have hRR : R = -1 := by have := HR.out; rw [hrun, hfit] at this; exact this.symm
        have HF : Hid (Below w.heap.size w u3) := HL.out.below.trans (G3.mono HL.out.below.size)
        clear hrun C3 G3
        go_wp2
        go_ret
        exact ⟨ret_int hRR.symm, HF.out⟩
      | true =>
        rw [hfit] at hrun
        simp only [if_true] at hrun
        have hFo := follow_any u3 B s.1 s.2 p j ps.length (HL.out.dep.at_ (G3.block B HL.out.lt)) (by have := HL.out.lt; omega) hlt (by omega) hfit HL.out.held HL.out.most
        unfold InsD.val at hFo
        rw [show (s.1, s.2) = s from rfl] at hFo
        obtain ⟨k0, k1, k2, k3⟩ := id C3
        have k1 : u3.cell? ⟨wr.heap.size, 1, none⟩ = some (.int .i64 p.n) := k1
        have k2 : u3.cell? ⟨wr.heap.size, 2, none⟩ = some (.int .i64 p.ak) := k2
        have k3 : u3.cell? ⟨wr.heap.size, 3, none⟩ = some (.int .i64 p.at_) := k3
        clear C3
        have HRun : Hid (depthsP ps.length 0 (startT, 0) ps = match followP s j p with | none => none | some s' => depthsP ps.length (j + 1) s' (ps.drop (j + 1))) := hrun
        clear hrun
        go_wp2_with fail
        refine hFo.mono ?_
        rintro e4 u4 ⟨rfl, h1, h2⟩
        have G4 : Below w.heap.size w u4 := below_out1 (HL.out.below.trans (G3.mono HL.out.below.size)) h2 HL.out.le
        have z4 := h2.size
        clear hFo
        cases hfo : followP s j p with
        | none =>
          have hRR : R = -1 := by have := HR.out; rw [HRun.out, hfo] at this; exact this.symm
          rw [Option.isSome_none]
          clear h1 h2 G3 hfo k0 k1 k2 k3
          go_wp2
          go_ret
          exact ⟨ret_int hRR.symm, G4⟩
        | some s' =>
          have HN' : Hid (DepL w B ps (j + 1) s' u4) := ⟨G4, h1 s' hfo, by have := HL.out.lt; omega, HL.out.le, by rw [HRun.out, hfo], (followP_le hfo HL.out.most HL.out.held).1, (followP_le hfo HL.out.most HL.out.held).2⟩
          rw [Option.isSome_some]
          clear h1 h2 G3 hfo k0 k1 k2 k3 G4
          go_wp2
          go_roundw
          case rel => exact ⟨j + 1, s', by omega, by go_num, HN'.out⟩
          case measure => simp [intOf]; omega
    · obtain rfl : j = ps.length := by omega
      have hrun := HL.out.run
      rw [List.drop_length, depthsP] at hrun
      have hR := HR.out
      rw [hrun] at hR
      simp only at hR
      have t1 := HL.out.dep.told ps.length (by omega)
      obtain ⟨x, x1, hx⟩ := HL.out.dep.held ps.length (by omega)
      have m1 := HL.out.dep.most
      have HF : Hid (Below w.heap.size w wr) := HL.out.below
      have hl4 : ps.length < 401 := by omega
      have hmb := HL.out.most
      clear hrun HL HR HN
      by_cases q0 : 0 ≤ s.1 ps.length
      · rw [decide_eq_true q0] at t1
        obtain rfl := hx q0
        by_cases q1 : s.1 ps.length = 0
        · rw [if_pos q1] at hR
          have hq : (s.1 ps.length != 0) = false := by simp [q1]
          subst hR
          rw [q1] at x1
          clear hx q0 hq q1
          go_wp2
          go_ret
          exact ⟨rfl, HF.out⟩
        · rw [if_neg q1] at hR
          have hq : (s.1 ps.length != 0) = true := by simp [q1]
          subst hR
          clear hx q0 q1
          go_wp2
          go_ret
          exact ⟨rfl, HF.out⟩
      · rw [decide_eq_false q0] at t1
        rw [if_neg (by omega)] at hR
        subst hR
        clear hx q0 x1
        go_wp2
        go_ret
        exact ⟨rfl, HF.out⟩

theorem iCodeOk_any (w : World) (lo hi : Nat) (v : Value) (ps : List InsD) (hN : NR w lo hi v ps) (hhi : hi ≤ w.heap.size) :
    Calls Tryz.prog 23 #[v] w fun e w' => e = .returned (.bool (codeOk ps)) ∧ Below w.heap.size w w' := by
  have hD := iCodeDepth_any w lo hi v ps hN hhi
  rw [codeOk_depth]
  obtain ⟨ad, cap, rfl, _, _⟩ := hN.shape
  clear hN
  generalize codeDepth ps = d at *
  go_enter Tryz.func23, Tryz.ntmps23
  go_wp2_with fail
  refine hD.mono ?_
  rintro e1 u1 ⟨rfl, g1⟩
  clear hD
  go_wp2
  go_ret
  exact ⟨rfl, g1⟩
end Go.Proofs.YtdhpbiplkjpiiaaGreatDoor
