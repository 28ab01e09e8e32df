/-
  The steps of code, one for each instruction: stepsOf.
-/
import Derived.Test.YtdhpbiplkjpiiaaGreatDoorMacF
import Derived.Laws.EntriesVeiled
namespace Go.Proofs.YtdhpbiplkjpiiaaGreatDoor
open Go.ChangeShapes Go.WideShapes Go.ChangeAt Go.RowKit
set_option linter.unusedVariables false
set_option maxRecDepth 100000

theorem cloV_func (o : Int) (I : Nat) : ∃ fn caps, cloV o I = .func fn #[] caps := by
  unfold cloV
  repeat' split
  all_goals exact ⟨_, _, rfl⟩

theorem info_step : (Tryz.prog.info? 89).map (fun i => (i.zero, i.size, i.bytes)) = some (some .nilFunc, 1, 8) := by kernel_rfl

set_option maxHeartbeats 2000000 in
theorem stepsOf_any (w : World) (lo hi : Nat) (v : Value) (ps : List InsD) (h : NR w lo hi v ps) (hhi : hi ≤ w.heap.size) (hm : ps.length ≤ 400) (hop : ∀ (i : Nat) (p : InsD), ps[i]? = some p → 1 ≤ p.op ∧ p.op ≤ 8) :
    Calls Tryz.prog 27 #[v] w fun e w' => e = .returned (.slice (some ⟨w.heap.size, 0, none⟩) ps.length ps.length) ∧ Steps w w.heap.size ps ps.length w' ∧ Below w.heap.size w w' := by
  obtain ⟨ad, cap, rfl, hc1, hc2⟩ := h.shape
  obtain ⟨i0, hi0, hz0, hz1, hz2⟩ := info_parts info_step
  have HK : Hid (NR w lo hi (.slice ad ps.length cap) ps) := h
  have HO : Hid (∀ (i : Nat) (p : InsD), ps[i]? = some p → 1 ≤ p.op ∧ p.op ≤ 8) := hop
  clear h hc1 hc2 hop
  go_enter Tryz.func27, Tryz.ntmps27
  go_wp2_with (at_make; refine wpList_make_full _ rfl _ _ 69 rfl w.heap.size 89 i0 .nilFunc 1 Tryz.underlying69 hi0 hz0 hz1 .i64 .i64 _ _ ps.length rfl rfl rfl rfl (by rw [hz2]; omega) (by unfold maxLen; omega) (Nat.le_refl _) ?_; intro w1 hown hgrow)
  have hI : Hid (Steps w w.heap.size ps 0 w1 ∧ Below w.heap.size w w1) := by
    have hb1 : Below w.heap.size w w1 := (Below.refl _ _).grown hgrow (Nat.le_refl _) (fun k h => by cases h)
    refine ⟨⟨fun x hx => ?_, fun x => hown.frozenAt x, hown.2.elim (fun h => by simp at h) fun ⟨g, cap, cur, hv, hg, hh, _⟩ => ?_, fun i p hi => by omega⟩, hb1⟩
    · rw [hown.cellAt x (by omega)]
      have hl := hown.1
      rw [List.getElem?_eq_getElem (by omega)]
      rfl
    · simp only [Value.slice.injEq, Option.some.injEq, Addr.mk.injEq, and_true, true_and] at hv
      obtain ⟨rfl, _⟩ := hv
      exact (Array.getElem?_eq_some_iff.mp hh).1
  clear hown hgrow hz0 hz1 hz2 hi0
  go_loopw [11] (fun i wr => ∃ j : Nat, j ≤ ps.length ∧ i = .int .i64 j ∧ Hid (Steps w w.heap.size ps j wr ∧ Below w.heap.size w wr)) (fun i _ => ps.length - (intOf i).toNat)
  case atStart => exact ⟨0, Nat.zero_le _, rfl, hI⟩
  case round =>
    clear hI
    obtain ⟨j, hj, rfl, hI⟩ := hrel
    by_cases hlt : j < ps.length
    · obtain ⟨p, he⟩ : ∃ p, ps[j]? = some p := ⟨ps[j], List.getElem?_eq_getElem hlt⟩
      obtain ⟨b, off, cap', hv, hb1, hb2, h5⟩ := HK.out.at_ he
      simp only [Value.slice.injEq, true_and] at hv
      obtain ⟨rfl, rfl⟩ := hv
      obtain ⟨c0, c1, c2, c3⟩ := h5.kept (hI.out.2.block b (by omega))
      have bb := (Below.refl wr.heap.size wr).alloc (Nat.le_refl _) (.cells #[.int .i64 p.op, .int .i64 p.n, .int .i64 p.ak, .int .i64 p.at_] 47)
      have hz := mkStep_any (wr.alloc (.cells #[.int .i64 p.op, .int .i64 p.n, .int .i64 p.ak, .int .i64 p.at_] 47)) p (HO.out j p he).1 (HO.out j p he).2
      unfold InsD.val at hz
      have H1 : Hid (Steps w w.heap.size ps j (wr.alloc (.cells #[.int .i64 p.op, .int .i64 p.n, .int .i64 p.ak, .int .i64 p.at_] 47)) ∧ Below w.heap.size w (wr.alloc (.cells #[.int .i64 p.op, .int .i64 p.n, .int .i64 p.ak, .int .i64 p.at_] 47))) := ⟨hI.out.1.grew bb, hI.out.2.trans (bb.mono hI.out.2.size)⟩
      have HE : Hid (ps[j]? = some p) := he
      clear hI he h5 bb
      go_wp2_with fail
      refine hz.mono ?_
      clear hz
      rintro e1 w2 ⟨rfl, ci, hs, g2⟩
      obtain ⟨I, hIe⟩ : ∃ I, (wr.alloc (.cells #[.int .i64 p.op, .int .i64 p.n, .int .i64 p.ak, .int .i64 p.at_] 47)).heap.size = I := ⟨_, rfl⟩
      have hsI := H1.out.1.size
      rw [hIe] at ci hs g2 hsI ⊢
      have hS2 := H1.out.1.grew (hIe.symm ▸ g2)
      have hB2 : Below w.heap.size w w2 := H1.out.2.trans (g2.mono (by omega))
      obtain ⟨y0, x0⟩ := Option.isSome_iff_exists.mp (hS2.some_ j hlt)
      have f0 := hS2.frozen j
      have HN : Hid (Steps w w.heap.size ps (j + 1) (w2.setCell ⟨w.heap.size, j, none⟩ (cloV p.op I)) ∧ Below w.heap.size w (w2.setCell ⟨w.heap.size, j, none⟩ (cloV p.op I))) := ⟨hS2.put HE.out hsI hs ci, hB2.setCell (p := ⟨w.heap.size, j, none⟩) (Nat.le_refl _) _⟩
      obtain ⟨fn, caps, hcv⟩ := cloV_func p.op I
      rw [hcv] at HN ⊢
      clear hS2 hB2 hIe hsI ci hs g2 c0 c1 c2 c3 H1 hcv
      go_wp2
      go_roundw
      case rel => exact ⟨j + 1, by omega, by go_num, HN⟩
      case measure => simp [intOf]; omega
    · obtain rfl : j = ps.length := by omega
      go_wp2
      go_ret
      exact ⟨rfl, hI.out.1, hI.out.2⟩
end Go.Proofs.YtdhpbiplkjpiiaaGreatDoor
