/-
  The model's CodeOk and CodeDepth. (Written by our generator gen_depspec.py.)
-/
import Derived.Test.YtoodhchphhhjfaaDepSpecB
namespace Go.Proofs.Ytoodhchphhhjfaa
open Go.ChangeShapes Go.WideShapes Go.ChangeAt Go.RowKit
set_option linter.unusedVariables false
set_option maxRecDepth 100000

theorem fitsT_drop {n j : Nat} {ps : List InsD} {p : InsD} (hp : ps[j]? = some p) : fitsT n j (ps.drop j) = (fitI p j n && fitsT n (j + 1) (ps.drop (j + 1))) := by
  have hj : j < ps.length := (List.getElem?_eq_some_iff.mp hp).1
  rw [List.drop_eq_getElem_cons hj, fitsT]
  have : ps[j] = p := by rw [List.getElem?_eq_getElem hj] at hp; exact Option.some.inj hp
  rw [this]

set_option maxHeartbeats 4000000 in
theorem sCodeOk_any (w : World) (lo hi : Nat) (v : Value) (ps : List InsD) (hN : NR w lo hi v ps) (hhi : hi ≤ w.heap.size) :
    Calls Try.prog 17 #[v] w fun e w' => e = .returned (.bool (codeOk ps)) ∧ Below w.heap.size w w' := by
  obtain ⟨ad, cap, rfl, h1, h2⟩ := hN.shape
  have HN : Hid (NR w lo hi (.slice ad ps.length cap) ps) := hN
  obtain ⟨R, hR⟩ : ∃ R, codeOk ps = R := ⟨_, rfl⟩
  rw [hR]
  unfold codeOk tableOf at hR
  unfold maxLen at h2
  clear hN
  by_cases hbig : 400 < ps.length
  · rw [if_neg (by omega)] at hR
    subst hR
    go_enter Try.func17, Try.ntmps17
    go_wp2
    go_ret
    exact ⟨rfl, Below.refl _ _⟩
  have HR : Hid ((match (if ps.length ≤ 400 ∧ fitsT ps.length 0 ps = true then depthsT 0 startT ps else none) with | none => false | some D => D ps.length == 0) = R) := hR
  clear hR h1 h2
  go_enter Try.func17, Try.ntmps17
  go_wp2_with fail
  go_loopw [3] (fun i wr => ∃ j : Nat, j ≤ ps.length ∧ i = .int .i64 j ∧ Below w.heap.size w wr ∧ fitsT ps.length 0 ps = fitsT ps.length j (ps.drop j)) (fun i _ => ps.length - (intOf i).toNat)
  case atStart => exact ⟨0, Nat.zero_le _, rfl, Below.refl _ _, rfl⟩
  case round =>
    obtain ⟨j, hj, rfl, hb, hfit⟩ := hrel
    have HF : Hid (fitsT ps.length 0 ps = fitsT ps.length j (ps.drop j)) := hfit
    clear hfit
    by_cases hlt : j < ps.length
    · obtain ⟨p, hp⟩ : ∃ p, ps[j]? = some p := ⟨ps[j], List.getElem?_eq_getElem hlt⟩
      obtain ⟨b, off, cap', hv, hb1, hb2, h5⟩ := HN.out.at_ hp
      simp only [Value.slice.injEq, true_and] at hv
      obtain ⟨rfl, rfl⟩ := hv
      obtain ⟨c0, c1, c2, c3⟩ := h5.kept (hb.block b (by omega))
      have hF2 := HF.out
      rw [fitsT_drop hp] at hF2
      have hI := ins_any wr p j ps.length
      unfold InsD.val at hI
      have HF2 : Hid (fitsT ps.length 0 ps = (fitI p j ps.length && fitsT ps.length (j + 1) (ps.drop (j + 1)))) := hF2
      clear hp h5 hF2
      go_wp2_with fail
      refine hI.mono ?_
      rintro e1 u1 ⟨rfl, g1⟩
      have G1 := hb.trans (g1.mono hb.size)
      clear hI g1 c0 c1 c2 c3
      cases hfi : fitI p j ps.length with
      | false =>
        have HRR : Hid (R = false) := by show R = false; rw [← HR.out, HF2.out, hfi, if_neg (by simp)]
        clear hfi
        go_wp2
        go_ret
        exact ⟨ret_bool HRR.out.symm, G1⟩
      | true =>
        have HN' : Hid (fitsT ps.length 0 ps = fitsT ps.length (j + 1) (ps.drop (j + 1))) := by show _ = _; rw [HF2.out, hfi, Bool.true_and]
        clear hfi
        go_wp2
        go_roundw
        case rel => exact ⟨j + 1, by omega, by go_num, G1, HN'.out⟩
        case measure => simp [intOf]; omega
    · obtain rfl : j = ps.length := by omega
      have hft : fitsT ps.length 0 ps = true := by rw [HF.out, List.drop_length, fitsT]
      have hD := depths_any wr lo hi _ ps (HN.out.under hb hhi) (Nat.le_trans hhi hb.size) (by omega) hft
      have hR := HR.out
      rw [if_pos ⟨by omega, hft⟩] at hR
      have HR' : Hid ((match depthsT 0 startT ps with | none => false | some D => D ps.length == 0) = R) := hR
      clear hR hft HF
      go_wp2_with fail
      refine hD.mono ?_
      rintro e1 u1 ⟨v', rfl, hdr, g1⟩
      have G1 := hb.trans (g1.mono hb.size)
      clear hD g1
      rcases hdr with ⟨hr, rfl⟩ | ⟨D, B, hr, rfl, hB1, hB2, hT⟩
      · have HRR : Hid (R = false) := by show R = false; rw [← HR'.out, hr]
        have hne : ((0 : Int) == (ps.length : Int) + 1) = false := by simp; omega
        clear hr
        go_wp2
        go_ret
        exact ⟨ret_bool HRR.out.symm, G1⟩
      · have HRR : Hid ((D ps.length == 0) = R) := by show _ = R; rw [← HR'.out, hr]
        have t1 := hT.c ps.length (Nat.le_refl _)
        have ec : ((ps.length + 1 : Nat) : Int) = (ps.length : Int) + 1 := by omega
        have hlt1 : ps.length < ps.length + 1 := by omega
        clear hr hT
        go_wp2
        go_ret
        exact ⟨ret_bool HRR.out, G1⟩

theorem codeOk_table {ps : List InsD} (h : codeOk ps = true) : ∃ D, depthsT 0 startT ps = some D ∧ ps.length ≤ 400 ∧ fitsT ps.length 0 ps = true ∧ codeDepth ps = mostT D ps.length := by
  unfold codeOk at h
  unfold codeDepth
  cases ht : tableOf ps with
  | none => rw [ht] at h; cases h
  | some D =>
    rw [ht] at h
    simp only [beq_iff_eq] at h
    unfold tableOf at ht
    split at ht
    · rename_i hh
      exact ⟨D, ht, hh.1, hh.2, by simp only; rw [if_pos h]⟩
    · cases ht

theorem codeDepth_bad {ps : List InsD} (h : codeOk ps = false) : codeDepth ps = -1 := by
  unfold codeOk at h
  unfold codeDepth
  cases ht : tableOf ps with
  | none => rfl
  | some D =>
    rw [ht] at h
    simp only [beq_eq_false_iff_ne] at h
    simp only
    rw [if_neg h]

theorem max_any (w : World) (a b : Int) : Calls Try.prog 37 #[.int .i64 a, .int .i64 b] w fun e w' => e = .returned (.int .i64 (max a b)) ∧ w' = w := by
  by_cases h : b < a
  · rw [Int.max_eq_left (by omega)]
    go_enter Try.func37, Try.ntmps37
    go_wp2
    go_ret
    exact ⟨rfl, rfl⟩
  · rw [Int.max_eq_right (by omega)]
    go_enter Try.func37, Try.ntmps37
    go_wp2
    go_ret
    exact ⟨rfl, rfl⟩

/-- The most of the first so many places. -/
def mostB (D : Nat → Int) : Nat → Int
  | 0 => 0
  | n + 1 => max (mostB D n) (D n)

theorem mostB_T (D : Nat → Int) : ∀ n, mostB D (n + 1) = mostT D n
  | 0 => by rw [mostB, mostB, mostT]
  | n + 1 => by rw [mostB, mostB_T D n, mostT]

theorem mostB_bd {D : Nat → Int} (h : ∀ k, D k ≤ 12) (n : Nat) : 0 ≤ mostB D n ∧ mostB D n ≤ 12 := by
  induction n with
  | zero => rw [mostB]; omega
  | succ n ih => rw [mostB]; have := h n; omega

set_option maxHeartbeats 4000000 in
theorem sCodeDepth_any (w : World) (lo hi : Nat) (v : Value) (ps : List InsD) (hN : NR w lo hi v ps) (hhi : hi ≤ w.heap.size) :
    Calls Try.prog 22 #[v] w fun e w' => e = .returned (.int .i64 (codeDepth ps)) ∧ Below w.heap.size w w' := by
  have hO := sCodeOk_any w lo hi v ps hN hhi
  obtain ⟨ad, cap, rfl, h1, h2⟩ := hN.shape
  have HN : Hid (NR w lo hi (.slice ad ps.length cap) ps) := hN
  clear hN h1 h2
  cases hk : codeOk ps with
  | false =>
    rw [codeDepth_bad hk]
    rw [hk] at hO
    go_enter Try.func22, Try.ntmps22
    go_wp2_with fail
    refine hO.mono ?_
    rintro e1 u1 ⟨rfl, g1⟩
    clear hO
    go_wp2
    go_ret
    exact ⟨rfl, g1⟩
  | true =>
    obtain ⟨D, hD, h400, hft, hmo⟩ := codeOk_table hk
    have hle : ∀ k, D k ≤ 12 := (depthsT_flow ps 0 startT D hD (fun j hj => by omega) start_le).2.1
    rw [hmo]
    rw [hk] at hO
    have HD : Hid (depthsT 0 startT ps = some D ∧ fitsT ps.length 0 ps = true ∧ ∀ k, D k ≤ 12) := ⟨hD, hft, hle⟩
    obtain ⟨R, hR⟩ : ∃ R, mostT D ps.length = R := ⟨_, rfl⟩
    rw [hR]
    have HR : Hid (mostT D ps.length = R) := hR
    clear hD hft hmo hk hR hle
    go_enter Try.func22, Try.ntmps22
    go_wp2_with fail
    refine hO.mono ?_
    rintro e1 u1 ⟨rfl, g1⟩
    clear hO
    have hDe := depths_any u1 lo hi _ ps (HN.out.under g1 hhi) (Nat.le_trans hhi g1.size) h400 HD.out.2.1
    go_wp2_with fail
    refine hDe.mono ?_
    rintro e2 u2 ⟨v', rfl, hdr, g2⟩
    have G2 := g1.trans (g2.mono g1.size)
    clear hDe g1 g2
    rcases hdr with ⟨hr, _⟩ | ⟨D', B, hr, rfl, hB1, hB2, hT⟩
    · rw [HD.out.1] at hr; cases hr
    obtain rfl : D = D' := by rw [HD.out.1] at hr; exact Option.some.inj hr
    clear hr
    have HT : Hid (TabV u2 B ps.length D) := hT
    clear hT
    go_wp2_with fail
    go_loopw [4, 5] (fun n i wr => ∃ j : Nat, j ≤ ps.length + 1 ∧ i = .int .i64 j ∧ n = .int .i64 (mostB D j) ∧ wr = u2) (fun _ i _ => ps.length + 1 - (intOf i).toNat)
    case atStart => exact ⟨0, Nat.zero_le _, rfl, rfl, rfl⟩
    case round =>
      obtain ⟨j, hj, rfl, rfl, rfl⟩ := hrel
      have hmb := mostB_bd HD.out.2.2 j
      by_cases hlt : j < ps.length + 1
      · have t1 := HT.out.c j (by omega)
        have hM := max_any wr (mostB D j) (D j)
        have HE : Hid (max (mostB D j) (D j) = mostB D (j + 1)) := rfl
        generalize mostB D j = mj at *
        go_wp2_with fail
        refine hM.mono ?_
        rintro e3 u3 ⟨rfl, rfl⟩
        clear hM
        go_wp2
        go_roundw
        case rel => exact ⟨j + 1, by omega, by go_num, by rw [HE.out], by first | rfl | trivial⟩
        case measure => simp [intOf]; omega
      · obtain rfl : j = ps.length + 1 := by omega
        rw [mostB_T, HR.out]
        go_wp2
        go_ret
        exact ⟨rfl, G2⟩
end Go.Proofs.Ytoodhchphhhjfaa
