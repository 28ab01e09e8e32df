/-
  toIns, toInsS: the laws' helpers that copy code into new memory.
-/
import Derived.Test.YtdhpbiplkjpiiaaGreatDoorInsData
namespace Go.Proofs.YtdhpbiplkjpiiaaGreatDoor
open Go.ChangeShapes Go.WideShapes Go.ChangeAt Go.RowKit
set_option linter.unusedVariables false

set_option maxHeartbeats 1000000 in
theorem toIns_any (w : World) (p : InsD) :
    Calls Tryz.prog 21 #[p.val] w fun e w' => e = .returned p.val ∧ Below w.heap.size w w' := by
  obtain ⟨op, n, ak, at_⟩ := p
  unfold InsD.val
  go_enter Tryz.func21, Tryz.ntmps21
  go_wp2
  refine bodyPost_ret (v := .agg #[.int .i64 ak, .int .i64 at_]) (by simp [results, Tryz.results37, go_sem]) rfl ?_
  go_wp2
  refine bodyPost_ret (v := .agg #[.int .i64 op, .int .i64 n, .int .i64 ak, .int .i64 at_]) (by simp [results, Tryz.results21, go_sem]) rfl ⟨rfl, ?_⟩
  repeat' first
    | exact Below.refl _ _
    | refine Below.alloc ?_ ?_ _
    | refine Below.setCell ?_ ?_ _
  all_goals simp
  all_goals omega

theorem info_ins : (Tryz.prog.info? 47).map (fun i => (i.zero, i.size, i.bytes)) = some (some (.agg #[.int .i64 0, .int .i64 0, .int .i64 0, .int .i64 0]), 4, 32) := by kernel_rfl

/-- Four cells stored one behind another. -/
theorem storeI4 {u : World} {B o : Nat} (hs : ∀ x, o ≤ x → x < o + 4 → (u.cell? ⟨B, x, none⟩).isSome = true) (v0 v1 v2 v3 : Value) :
    ∃ u1, (((u.setCell ⟨B, o, none⟩ v0).setCell ⟨B, o + 1, none⟩ v1).setCell ⟨B, o + 2, none⟩ v2).setCell ⟨B, o + 3, none⟩ v3 = u1 ∧
      (u1.cell? ⟨B, o, none⟩ = some v0 ∧ u1.cell? ⟨B, o + 1, none⟩ = some v1 ∧ u1.cell? ⟨B, o + 2, none⟩ = some v2 ∧ u1.cell? ⟨B, o + 3, none⟩ = some v3) ∧
      (∀ b x, b ≠ B ∨ x < o ∨ o + 4 ≤ x → u1.cell? ⟨b, x, none⟩ = u.cell? ⟨b, x, none⟩) ∧ (∀ b x, u1.frozen? ⟨b, x, none⟩ = u.frozen? ⟨b, x, none⟩) ∧ (∀ k, k ≠ B → u1.heap[k]? = u.heap[k]?) ∧ u1.heap.size = u.heap.size ∧ ∀ n w, n ≤ B → Below n w u → Below n w u1 := by
  obtain ⟨x0, h0⟩ := Option.isSome_iff_exists.mp (hs o (by omega) (by omega))
  obtain ⟨x1, h1⟩ := Option.isSome_iff_exists.mp (hs (o + 1) (by omega) (by omega))
  obtain ⟨x2, h2⟩ := Option.isSome_iff_exists.mp (hs (o + 2) (by omega) (by omega))
  obtain ⟨x3, h3⟩ := Option.isSome_iff_exists.mp (hs (o + 3) (by omega) (by omega))
  refine ⟨_, rfl, ⟨?_, ?_, ?_, ?_⟩, ?_, ?_, ?_, ?_, ?_⟩
  · rw [cell_set_other _ (.inr (by omega)), cell_set_other _ (.inr (by omega)), cell_set_other _ (.inr (by omega))]
    exact World.cell?_setCell_same _ _ _ h0
  · rw [cell_set_other _ (.inr (by omega)), cell_set_other _ (.inr (by omega))]
    exact World.cell?_setCell_same _ _ _ (by rw [cell_set_other _ (.inr (by omega))]; exact h1)
  · rw [cell_set_other _ (.inr (by omega))]
    exact World.cell?_setCell_same _ _ _ (by rw [cell_set_other _ (.inr (by omega)), cell_set_other _ (.inr (by omega))]; exact h2)
  · exact World.cell?_setCell_same _ _ _ (by rw [cell_set_other _ (.inr (by omega)), cell_set_other _ (.inr (by omega)), cell_set_other _ (.inr (by omega))]; exact h3)
  · intro b x hx
    rw [cell_set_other _ (by omega), cell_set_other _ (by omega), cell_set_other _ (by omega), cell_set_other _ (by omega)]
  · intro b x
    rw [World.frozen?_setCell, World.frozen?_setCell, World.frozen?_setCell, World.frozen?_setCell]
  · intro k hk
    rw [Below.heap_setCell _ _ _ _ hk, Below.heap_setCell _ _ _ _ hk, Below.heap_setCell _ _ _ _ hk, Below.heap_setCell _ _ _ _ hk]
  · simp [World.setCell]
  · intro n w hn hb
    exact (((hb.setCell hn _).setCell hn _).setCell hn _).setCell hn _

/-- What holds as toInsS has copied j of the instructions. -/
structure ToN (w : World) (ps : List InsD) (j : Nat) (wr : World) : Prop where
  below : Below w.heap.size w wr
  size : w.heap.size < wr.heap.size
  some_ : ∀ x, x < ps.length * 4 → (wr.cell? ⟨w.heap.size, x, none⟩).isSome = true
  frozen : ∀ x, wr.frozen? ⟨w.heap.size, x, none⟩ = false
  done : ∀ i p, i < j → ps[i]? = some p → CellI wr w.heap.size (i * 4) p

theorem ToN.no {w wr : World} {ps : List InsD} (h : ToN w ps ps.length wr) (hm : ps.length ≤ maxLen) : NO wr w.heap.size wr.heap.size (.slice (some ⟨w.heap.size, 0, none⟩) ps.length ps.length) ps :=
  .inr ⟨_, 0, _, rfl, Nat.le_refl _, hm, Nat.le_refl _, h.size, fun i p hp => by rw [Nat.zero_add]; exact h.done i p (List.getElem?_eq_some_iff.mp hp).1 hp, fun o => by rw [Nat.zero_add]; exact h.frozen o⟩

theorem ToN.next {w wr w1 u : World} {ps : List InsD} {j : Nat} {p : InsD} (h : ToN w ps j wr) (he : ps[j]? = some p) (hb : Below wr.heap.size wr w1) (hc : CellI u w.heap.size (j * 4) p)
    (ho : ∀ b x, b ≠ w.heap.size ∨ x < j * 4 ∨ j * 4 + 4 ≤ x → u.cell? ⟨b, x, none⟩ = w1.cell? ⟨b, x, none⟩) (hf : ∀ b x, u.frozen? ⟨b, x, none⟩ = w1.frozen? ⟨b, x, none⟩) (hz : u.heap.size = w1.heap.size)
    (hbl : ∀ n w', n ≤ w.heap.size → Below n w' w1 → Below n w' u) : ToN w ps (j + 1) u := by
  obtain ⟨hb0, hs, hsm, hfr, h1⟩ := h
  have hs1 := hb.size
  have hcell : ∀ x, w1.cell? ⟨w.heap.size, x, none⟩ = wr.cell? ⟨w.heap.size, x, none⟩ := fun x => hb.cell (p := ⟨w.heap.size, x, none⟩) hs
  refine ⟨hbl _ _ (Nat.le_refl _) (hb0.trans (hb.mono (by omega))), by omega, fun q hq => ?_, fun q => ?_, fun i e' hi hie => ?_⟩
  · by_cases hin : j * 4 ≤ q ∧ q < j * 4 + 4
    · obtain ⟨c0, c1, c2, c3⟩ := hc
      obtain rfl | rfl | rfl | rfl : q = j * 4 ∨ q = j * 4 + 1 ∨ q = j * 4 + 2 ∨ q = j * 4 + 3 := by omega
      · rw [c0]; rfl
      · rw [c1]; rfl
      · rw [c2]; rfl
      · rw [c3]; rfl
    · rw [ho _ _ (by omega), hcell]; exact hsm q hq
  · rw [hf, hb.frozen (p := ⟨w.heap.size, q, none⟩) hs]; exact hfr q
  · by_cases ej : i = j
    · subst ej
      rw [he] at hie
      cases hie
      exact hc
    · obtain ⟨d0, d1, d2, d3⟩ := h1 i e' (by omega) hie
      refine ⟨?_, ?_, ?_, ?_⟩
      · rw [ho _ _ (by omega), hcell]; exact d0
      · rw [ho _ _ (by omega), hcell]; exact d1
      · rw [ho _ _ (by omega), hcell]; exact d2
      · rw [ho _ _ (by omega), hcell]; exact d3

set_option maxRecDepth 100000 in
set_option maxHeartbeats 2000000 in
theorem toInsS_any (w : World) (lo hi : Nat) (v : Value) (ps : List InsD) (h : NR w lo hi v ps) (hhi : hi ≤ w.heap.size) (hm : ps.length ≤ 1048576) :
    Calls Tryz.prog 8 #[v] w fun e w' => ∃ v', e = .returned v' ∧ NO w' w.heap.size w'.heap.size v' ps ∧ Below w.heap.size w w' := by
  obtain ⟨ad, cap, rfl, hc1, hc2⟩ := h.shape
  obtain ⟨i0, hi0, hz0, hz1, hz2⟩ := info_parts info_ins
  have HK : Hid (NR w lo hi (.slice ad ps.length cap) ps) := h
  clear h hc1 hc2
  go_enter Tryz.func8, Tryz.ntmps8
  go_wp2_with (at_make; refine wpList_make_full _ rfl _ _ 32 rfl w.heap.size 47 i0 (.agg #[.int .i64 0, .int .i64 0, .int .i64 0, .int .i64 0]) 4 Tryz.underlying32 hi0 hz0 hz1 .i64 .i64 _ _ ps.length rfl rfl rfl rfl (by rw [hz2]; omega) (by unfold maxLen; omega) (Nat.le_refl _) ?_; intro w1 hown hgrow)
  have hI : ToN w ps 0 w1 := by
    have hb1 : Below w.heap.size w w1 := (Below.refl _ _).grown hgrow (Nat.le_refl _) (fun k h => by cases h)
    refine ⟨hb1, hown.2.elim (fun h => by simp at h) fun ⟨g, cap, cur, hv, hg, hh, _⟩ => ?_, fun x hx => ?_, fun x => hown.frozenAt x, fun i p hi => by omega⟩
    · simp only [Value.slice.injEq, Option.some.injEq, Addr.mk.injEq, and_true, true_and] at hv
      obtain ⟨rfl, _⟩ := hv
      exact (Array.getElem?_eq_some_iff.mp hh).1
    · rw [hown.cellAt x hx]
      have hl := hown.1
      rw [List.getElem?_eq_getElem (by omega)]
      rfl
  clear hown hgrow hz0 hz1 hz2 hi0
  go_loopw [4] (fun i wr => ∃ j : Nat, j ≤ ps.length ∧ i = .int .i64 j ∧ ToN w ps j wr) (fun i _ => ps.length - (intOf i).toNat)
  case atStart => exact ⟨0, Nat.zero_le _, rfl, hI⟩
  case round =>
    clear hI
    obtain ⟨j, hj, rfl, hI⟩ := hrel
    by_cases hlt : j < ps.length
    · obtain ⟨p, he⟩ : ∃ p, ps[j]? = some p := ⟨ps[j], List.getElem?_eq_getElem hlt⟩
      obtain ⟨b, off, cap', hv, hb1, hb2, h5⟩ := HK.out.at_ he
      simp only [Value.slice.injEq, true_and] at hv
      obtain ⟨rfl, rfl⟩ := hv
      have hb := hI.below
      obtain ⟨c0, c1, c2, c3⟩ := h5.kept (hb.block b (by omega))
      have hz := toIns_any wr p
      unfold InsD.val at hz
      have HI : Hid (ToN w ps j wr) := hI
      have HE : Hid (ps[j]? = some p) := he
      clear hI hb he h5
      go_wp2_with fail
      refine hz.mono ?_
      rintro e1 w2 ⟨rfl, g2⟩
      have hI := HI.out
      have hsm : ∀ x, j * 4 ≤ x → x < j * 4 + 4 → (w2.cell? ⟨w.heap.size, x, none⟩).isSome = true := fun x h1 h2 => by
        rw [g2.cell (p := ⟨w.heap.size, x, none⟩) hI.size]; exact hI.some_ x (by omega)
      have hfz : ∀ x, w2.frozen? ⟨w.heap.size, x, none⟩ = false := fun x => by
        rw [g2.frozen (p := ⟨w.heap.size, x, none⟩) hI.size]; exact hI.frozen x
      obtain ⟨u, hu, ⟨k0, k1, k2, k3⟩, ho, hff, hh, hzz, hbl⟩ := storeI4 hsm (.int .i64 p.op) (.int .i64 p.n) (.int .i64 p.ak) (.int .i64 p.at_)
      have HN : Hid (ToN w ps (j + 1) u) := hI.next HE.out g2 ⟨k0, k1, k2, k3⟩ ho hff hzz hbl
      have HU : Hid (_ = u) := hu
      obtain ⟨y0, x0⟩ := Option.isSome_iff_exists.mp (hsm (j * 4) (by omega) (by omega))
      obtain ⟨y1, x1⟩ := Option.isSome_iff_exists.mp (hsm (j * 4 + 1) (by omega) (by omega))
      obtain ⟨y2, x2⟩ := Option.isSome_iff_exists.mp (hsm (j * 4 + 2) (by omega) (by omega))
      obtain ⟨y3, x3⟩ := Option.isSome_iff_exists.mp (hsm (j * 4 + 3) (by omega) (by omega))
      have f0 := hfz (j * 4)
      have f1 := hfz (j * 4 + 1)
      have f2 := hfz (j * 4 + 2)
      have f3 := hfz (j * 4 + 3)
      clear hu ho hff hh hzz hbl hsm hfz hI g2 c0 c1 c2 c3 k0 k1 k2 k3
      go_wp2
      rw [HU.out]
      go_roundw
      case rel => exact ⟨j + 1, by omega, by go_num, HN.out⟩
      case measure => simp [intOf]; omega
    · obtain rfl : j = ps.length := by omega
      have HI : Hid (ToN w ps ps.length wr) := hI
      clear hI
      go_wp2
      go_ret
      exact ⟨_, rfl, HI.out.no (by unfold maxLen; omega), HI.out.below⟩
end Go.Proofs.YtdhpbiplkjpiiaaGreatDoor
