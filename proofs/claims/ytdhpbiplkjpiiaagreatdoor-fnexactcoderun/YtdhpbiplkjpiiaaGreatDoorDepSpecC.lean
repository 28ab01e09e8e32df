/-
  The model's CodeOk and CodeDepth. (Written by our generator gen_depspec.py.)
-/
import Derived.Test.YtdhpbiplkjpiiaaGreatDoorDepSpecB
namespace Go.Proofs.YtdhpbiplkjpiiaaGreatDoor
open Go.ChangeShapes Go.WideShapes Go.ChangeAt Go.RowKit
set_option linter.unusedVariables false
set_option maxRecDepth 100000

theorem fitsT_drop {n j : Nat} {ps : List InsD} {p : InsD} (hp : ps[j]? = some p) : fitsT n j (ps.drop j) = (fitI p j n && fitsT n (j + 1) (ps.drop (j + 1))) := by
  have hj : j < ps.length := (List.getElem?_eq_some_iff.mp hp).1
  rw [List.drop_eq_getElem_cons hj, fitsT]
  have : ps[j] = p := by rw [List.getElem?_eq_getElem hj] at hp; exact Option.some.inj hp
  rw [this]

set_option maxHeartbeats 4000000 in
theorem sCodeOk_any (w : World) (lo hi : Nat) (v : Value) (ps : List InsD) (hN : NR w lo hi v ps) (hhi : hi ≤ w.heap.size) :
    Calls Tryz.prog 17 #[v] w fun e w' => e = .returned (.bool (codeOk ps)) ∧ Below w.heap.size w w' := by
  obtain ⟨ad, cap, rfl, h1, h2⟩ := hN.shape
  have HN : Hid (NR w lo hi (.slice ad ps.length cap) ps) := hN
  obtain ⟨R, hR⟩ : ∃ R, codeOk ps = R := ⟨_, rfl⟩
  rw [hR]
  unfold codeOk tableOf at hR
  unfold maxLen at h2
  clear hN
  by_cases hbig : 400 < ps.length
  · rw [if_neg (by omega)] at hR
    subst hR
    go_enter Tryz.func17, Tryz.ntmps17
    go_wp2
    go_ret
    exact ⟨rfl, Below.refl _ _⟩
  have HR : Hid ((match (if ps.length ≤ 400 ∧ fitsT ps.length 0 ps = true then depthsT 0 startT ps else none) with | none => false | some D => D ps.length == 0) = R) := hR
  clear hR h1 h2
  go_enter Tryz.func17, Tryz.ntmps17
  go_wp2_with fail
  go_loopw [3] (fun i wr => ∃ j : Nat, j ≤ ps.length ∧ i = .int .i64 j ∧ Below w.heap.size w wr ∧ fitsT ps.length 0 ps = fitsT ps.length j (ps.drop j)) (fun i _ => ps.length - (intOf i).toNat)
  case atStart => exact ⟨0, Nat.zero_le _, rfl, Below.refl _ _, rfl⟩
  case round =>
    obtain ⟨j, hj, rfl, hb, hfit⟩ := hrel
    have HF : Hid (fitsT ps.length 0 ps = fitsT ps.length j (ps.drop j)) := hfit
    clear hfit
    by_cases hlt : j < ps.length
    · obtain ⟨p, hp⟩ : ∃ p, ps[j]? = some p := ⟨ps[j], List.getElem?_eq_getElem hlt⟩
      obtain ⟨b, off, cap', hv, hb1, hb2, h5⟩ := HN.out.at_ hp
      simp only [Value.slice.injEq, true_and] at hv
      obtain ⟨rfl, rfl⟩ := hv
      obtain ⟨c0, c1, c2, c3⟩ := h5.kept (hb.block b (by omega))
      have hF2 := HF.out
      rw [fitsT_drop hp] at hF2
      have hI := ins_any wr p j ps.length
      unfold InsD.val at hI
      have HF2 : Hid (fitsT ps.length 0 ps = (fitI p j ps.length && fitsT ps.length (j + 1) (ps.drop (j + 1)))) := hF2
      clear hp h5 hF2
      go_wp2_with fail
      refine hI.mono ?_
      rintro e1 u1 ⟨rfl, g1⟩
      have G1 := hb.trans (g1.mono hb.size)
      clear hI g1 c0 c1 c2 c3
      cases hfi : fitI p j ps.length with
      | false =>
        have HRR : Hid (R = false) := by show R = false; rw [← HR.out, HF2.out, hfi, if_neg (by simp)]
        clear hfi
        go_wp2
        go_ret
        exact ⟨ret_bool HRR.out.symm, G1⟩
      | true =>
        have HN' : Hid (fitsT ps.length 0 ps = fitsT ps.length (j + 1) (ps.drop (j + 1))) := by show _ = _; rw [HF2.out, hfi, Bool.true_and]
        clear hfi
        go_wp2
        go_roundw
        case rel => exact ⟨j + 1, by omega, by go_num, G1, HN'.out⟩
        case measure => simp [intOf]; omega
    · obtain rfl : j = ps.length := by omega
      have hft : fitsT ps.length 0 ps = true := by rw [HF.out, List.drop_length, fitsT]
      have hD := depths_any wr lo hi _ ps (HN.out.under hb hhi) (Nat.le_trans hhi hb.size) (by omega) hft
      have hR := HR.out
      rw [if_pos ⟨by omega, hft⟩] at hR
      have HR' : Hid ((match depthsT 0 startT ps with | none => false | some D => D ps.length == 0) = R) := hR
      clear hR hft HF
      go_wp2_with fail
      refine hD.mono ?_
      rintro e1 u1 ⟨v', rfl, hdr, g1⟩
      have G1 := hb.trans (g1.mono hb.size)
      clear hD g1
      rcases hdr with ⟨hr, rfl⟩ | ⟨D, B, hr, rfl, hB1, hB2, hT⟩
      · have HRR : Hid (R = false) := by show R = false; rw [← HR'.out, hr]
        have hne : ((0 : Int) == (ps.length : Int) + 1) = false := by simp; omega
        clear hr
        go_wp2
        go_ret
        exact ⟨ret_bool HRR.out.symm, G1⟩
      · have HRR : Hid ((D ps.length == 0) = R) := by show _ = R; rw [← HR'.out, hr]
        have t1 := hT.c ps.length (Nat.le_refl _)
        have ec : ((ps.length + 1 : Nat) : Int) = (ps.length : Int) + 1 := by omega
        have hlt1 : ps.length < ps.length + 1 := by omega
        clear hr hT
        go_wp2
        go_ret
        exact ⟨ret_bool HRR.out, G1⟩

theorem codeOk_table {ps : List InsD} (h : codeOk ps = true) : ∃ D, depthsT 0 startT ps = some D ∧ ps.length ≤ 400 ∧ fitsT ps.length 0 ps = true ∧ codeDepth ps = mostT D ps.length := by
  unfold codeOk at h
  unfold codeDepth
  cases ht : tableOf ps with
  | none => rw [ht] at h; cases h
  | some D =>
    rw [ht] at h
    simp only [beq_iff_eq] at h
    unfold tableOf at ht
    split at ht
    · rename_i hh
      exact ⟨D, ht, hh.1, hh.2, by simp only; rw [if_pos h]⟩
    · cases ht

theorem codeDepth_bad {ps : List InsD} (h : codeOk ps = false) : codeDepth ps = -1 := by
  unfold codeOk at h
  unfold codeDepth
  cases ht : tableOf ps with
  | none => rfl
  | some D =>
    rw [ht] at h
    simp only [beq_eq_false_iff_ne] at h
    simp only
    rw [if_neg h]

end Go.Proofs.YtdhpbiplkjpiiaaGreatDoor
