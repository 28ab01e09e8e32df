/-
  markInsS, heldInsS: the laws' helpers that write into code, and read it back.
-/
import Derived.Test.YtdhpbiplkjpiiaaGreatDoorInsTo
namespace Go.Proofs.YtdhpbiplkjpiiaaGreatDoor
open Go.ChangeShapes Go.WideShapes Go.ChangeAt Go.RowKit
set_option linter.unusedVariables false

/-- n instructions whose parts are the numbers from k on. -/
def marksI (k : Int) (n : Nat) : List InsD := (List.range n).map fun (i : Nat) => ⟨k + 4 * (i : Int), k + 4 * (i : Int) + 1, k + 4 * (i : Int) + 2, k + 4 * (i : Int) + 3⟩

theorem marksI_length (k : Int) (n : Nat) : (marksI k n).length = n := by simp [marksI]
theorem marksI_at {k : Int} {n i : Nat} (h : i < n) : (marksI k n)[i]? = some ⟨k + 4 * (i : Int), k + 4 * (i : Int) + 1, k + 4 * (i : Int) + 2, k + 4 * (i : Int) + 3⟩ := by simp [marksI, h]

/-- What holds as markInsS has written j instructions. -/
structure MarkN (w : World) (g off : Nat) (n : Nat) (k : Int) (j : Nat) (wr : World) : Prop where
  out : Out g (g + 1) w wr
  lt : g < wr.heap.size
  some_ : ∀ x, off ≤ x → x < off + n * 4 → (wr.cell? ⟨g, x, none⟩).isSome = true
  frozen : ∀ x, wr.frozen? ⟨g, off + x, none⟩ = false
  done : ∀ i, i < j → CellI wr g (off + i * 4) ⟨k + 4 * (i : Int), k + 4 * (i : Int) + 1, k + 4 * (i : Int) + 2, k + 4 * (i : Int) + 3⟩

theorem MarkN.next {w wr u : World} {g off n j : Nat} {k : Int} (h : MarkN w g off n k j wr) (hj : j < n)
    (hc : CellI u g (off + j * 4) ⟨k + 4 * (j : Int), k + 4 * (j : Int) + 1, k + 4 * (j : Int) + 2, k + 4 * (j : Int) + 3⟩) (ho : ∀ b x, b ≠ g ∨ x < off + j * 4 ∨ off + j * 4 + 4 ≤ x → u.cell? ⟨b, x, none⟩ = wr.cell? ⟨b, x, none⟩)
    (hf : ∀ b x, u.frozen? ⟨b, x, none⟩ = wr.frozen? ⟨b, x, none⟩) (hh : ∀ q, q ≠ g → u.heap[q]? = wr.heap[q]?) (hz : u.heap.size = wr.heap.size) (hbl : ∀ n w', n ≤ g → Below n w' wr → Below n w' u) : MarkN w g off n k (j + 1) u := by
  obtain ⟨h1, h2, h3, h4, h5⟩ := h
  have hb := hbl 0 wr (Nat.zero_le _) (Below.refl _ _)
  refine ⟨h1.trans ⟨hb.os, hb.tape, hb.output, by omega, fun q hq hr => hh q (by omega)⟩, by omega, fun x hx1 hx2 => ?_, fun x => by rw [hf]; exact h4 x, fun i hi => ?_⟩
  · by_cases hin : off + j * 4 ≤ x ∧ x < off + j * 4 + 4
    · obtain ⟨c0, c1, c2, c3⟩ := hc
      obtain rfl | rfl | rfl | rfl : x = off + j * 4 ∨ x = off + j * 4 + 1 ∨ x = off + j * 4 + 2 ∨ x = off + j * 4 + 3 := by omega
      · rw [c0]; rfl
      · rw [c1]; rfl
      · rw [c2]; rfl
      · rw [c3]; rfl
    · rw [ho _ _ (by omega)]; exact h3 x hx1 hx2
  · by_cases e : i = j
    · subst e; exact hc
    · obtain ⟨d0, d1, d2, d3⟩ := h5 i (by omega)
      exact ⟨by rw [ho _ _ (by omega)]; exact d0, by rw [ho _ _ (by omega)]; exact d1, by rw [ho _ _ (by omega)]; exact d2, by rw [ho _ _ (by omega)]; exact d3⟩

set_option maxHeartbeats 2000000 in
theorem markInsS_any (w : World) (lo hi : Nat) (v : Value) (ps : List InsD) (k : Int) (h : NO w lo hi v ps) (hhi : hi ≤ w.heap.size) (hx : ps.length ≤ 16777216) (hk : 0 ≤ k) (hk' : k ≤ 1000000000000) :
    Calls Tryz.prog 13 #[v, .int .i64 k] w fun e w' => e = .returned (.int .i64 (k + 4 * (ps.length : Int))) ∧ NO w' lo hi v (marksI k ps.length) ∧ Out lo hi w w' := by
  rcases h with ⟨rfl, a, cap, rfl, hm⟩ | ⟨g, off, cap, rfl, h1, h2, h3, h4, h5, h6⟩
  · unfold maxLen at hm
    go_enter Tryz.func13, Tryz.ntmps13
    go_wp2
    go_loopw [1, 5] (fun q i wr => q = .int .i64 k ∧ i = .int .i64 0 ∧ wr = w) (fun _ _ _ => 0)
    case atStart => exact ⟨rfl, rfl, rfl⟩
    case round =>
      obtain ⟨rfl, rfl, rfl⟩ := hrel
      go_wp2
      go_ret
      exact ⟨by simp, .inl ⟨rfl, a, cap, rfl, by unfold maxLen; omega⟩, ⟨rfl, rfl, rfl, Nat.le_refl _, fun _ _ _ => rfl⟩⟩
  · have hI : MarkN w g off ps.length k 0 w := by
      refine ⟨⟨rfl, rfl, rfl, Nat.le_refl _, fun _ _ _ => rfl⟩, by omega, fun x hx1 hx2 => ?_, h6, fun i hi => by omega⟩
      obtain ⟨p, hp⟩ : ∃ p, ps[(x - off) / 4]? = some p := ⟨ps[(x - off) / 4]'(by omega), List.getElem?_eq_getElem _⟩
      obtain ⟨c0, c1, c2, c3⟩ := h5 _ p hp
      obtain e | e | e | e : x = off + (x - off) / 4 * 4 ∨ x = off + (x - off) / 4 * 4 + 1 ∨ x = off + (x - off) / 4 * 4 + 2 ∨ x = off + (x - off) / 4 * 4 + 3 := by omega
      · rw [e, c0]; rfl
      · rw [e, c1]; rfl
      · rw [e, c2]; rfl
      · rw [e, c3]; rfl
    have HH : Hid (NO w lo hi (.slice (some ⟨g, off, none⟩) ps.length cap) ps) := .inr ⟨g, off, cap, rfl, h1, h2, h3, h4, h5, h6⟩
    unfold maxLen at h2
    clear h5 h6
    go_enter Tryz.func13, Tryz.ntmps13
    go_wp2
    go_loopw [1, 5] (fun q i wr => ∃ j : Nat, j ≤ ps.length ∧ q = .int .i64 (k + 4 * (j : Int)) ∧ i = .int .i64 j ∧ MarkN w g off ps.length k j wr) (fun _ i _ => ps.length - (intOf i).toNat)
    case atStart => exact ⟨0, Nat.zero_le _, by simp, rfl, hI⟩
    case round =>
      clear hI
      obtain ⟨j, hj, rfl, rfl, hI⟩ := hrel
      by_cases hlt : j < ps.length
      · have hsm := hI.some_
        have hfz := hI.frozen
        obtain ⟨u, hu, ⟨k0, k1, k2, k3⟩, ho, hff, hh, hzz, hbl⟩ := storeI4 (u := wr) (B := g) (o := off + j * 4) (fun x hx1 hx2 => hsm x (by omega) (by omega)) (.int .i64 (k + 4 * (j : Int))) (.int .i64 (k + 4 * (j : Int) + 1)) (.int .i64 (k + 4 * (j : Int) + 2)) (.int .i64 (k + 4 * (j : Int) + 3))
        have HN : Hid (MarkN w g off ps.length k (j + 1) u) := hI.next hlt ⟨k0, k1, k2, k3⟩ ho hff hh hzz hbl
        have HU : Hid (_ = u) := hu
        obtain ⟨y0, x0⟩ := Option.isSome_iff_exists.mp (hsm (off + j * 4) (by omega) (by omega))
        obtain ⟨y1, x1⟩ := Option.isSome_iff_exists.mp (hsm (off + j * 4 + 1) (by omega) (by omega))
        obtain ⟨y2, x2⟩ := Option.isSome_iff_exists.mp (hsm (off + j * 4 + 2) (by omega) (by omega))
        obtain ⟨y3, x3⟩ := Option.isSome_iff_exists.mp (hsm (off + j * 4 + 3) (by omega) (by omega))
        have f0 : wr.frozen? ⟨g, off + j * 4, none⟩ = false := hfz (j * 4)
        have f1 : wr.frozen? ⟨g, off + j * 4 + 1, none⟩ = false := by have := hfz (j * 4 + 1); rwa [← Nat.add_assoc] at this
        have f2 : wr.frozen? ⟨g, off + j * 4 + 2, none⟩ = false := by have := hfz (j * 4 + 2); rwa [← Nat.add_assoc] at this
        have f3 : wr.frozen? ⟨g, off + j * 4 + 3, none⟩ = false := by have := hfz (j * 4 + 3); rwa [← Nat.add_assoc] at this
        have hM : 0 ≤ k + 4 * (j : Int) ∧ k + 4 * (j : Int) ≤ 1000100000000 := by omega
        have HS : Hid (k + 4 * (j : Int) + 4 = k + 4 * ((j + 1 : Nat) : Int)) := by show _ = _; omega
        clear hu ho hff hh hzz hbl hsm hfz hI k0 k1 k2 k3
        generalize k + 4 * (j : Int) = M at *
        go_wp2
        rw [show M + 1 + 1 = M + 2 by omega, show M + 2 + 1 = M + 3 by omega, show off + j * 4 + 2 + 1 = off + j * 4 + 3 from rfl, HU.out, show M + 3 + 1 = M + 4 by omega]
        go_roundw
        case rel => exact ⟨j + 1, by omega, by rw [HS.out], by go_num, HN.out⟩
        case measure => simp [intOf]; omega
      · obtain rfl : j = ps.length := by omega
        have HN : Hid (NO wr lo hi (.slice (some ⟨g, off, none⟩) ps.length cap) (marksI k ps.length) ∧ Out lo hi w wr) := by
          refine ⟨.inr ⟨g, off, cap, by rw [marksI_length], by rw [marksI_length]; exact h1, by unfold maxLen; omega, h3, h4, fun i p hp => ?_, hI.frozen⟩, ⟨hI.out.os, hI.out.tape, hI.out.output, hI.out.size, fun q hq hr => hI.out.block q hq (by omega)⟩⟩
          have hi' : i < ps.length := by have := (List.getElem?_eq_some_iff.mp hp).1; rwa [marksI_length] at this
          rw [marksI_at hi'] at hp
          rw [← Option.some.inj hp]
          exact hI.done i hi'
        clear hI
        go_wp2
        go_ret
        exact ⟨rfl, HN.out.1, HN.out.2⟩

end Go.Proofs.YtdhpbiplkjpiiaaGreatDoor
