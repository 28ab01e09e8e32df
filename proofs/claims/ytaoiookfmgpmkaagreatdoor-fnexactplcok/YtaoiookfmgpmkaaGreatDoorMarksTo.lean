/-
  The laws' szMarks and toMarks. (Written by our generator gen_marksto.py.)
-/
import Derived.Test.YtaoiookfmgpmkaaGreatDoorMarksKit
import Derived.Laws.ResultCell
namespace Go.Proofs.YtaoiookfmgpmkaaGreatDoor
open Go.ChangeShapes Go.WideShapes Go.ChangeAt Go.RowKit
set_option linter.unusedVariables false
set_option linter.unusedSimpArgs false
set_option maxRecDepth 100000

def MarksD.many (m : MarksD) : Nat := m.on.length + m.kept.length
theorem info_boolT : (Tryz.prog.info? 4).map (fun i => (i.zero, i.size, i.bytes)) = some (some (.bool false), 1, 1) := by kernel_rfl
set_option maxHeartbeats 4000000 in
theorem toBoolS_any (w : World) (lo hi : Nat) (v : Value) (ps : List Bool) (h : GR bool2 w lo hi v ps) (hhi : hi ≤ w.heap.size) (hx : ps.length ≤ 1048576) :
    Calls Tryz.prog 106 #[v] w fun e w' => ∃ v', e = .returned v' ∧ GO bool2 w' w.heap.size w'.heap.size v' ps ∧ Below w.heap.size w w' := by
  obtain ⟨i0, hi0, hz0, hz1, hz2⟩ := info_parts info_boolT
  obtain ⟨ad, cap, rfl, h1, h2⟩ := h.shape
  unfold maxLen at h2
  have HA : Hid (GR bool2 w lo hi (.slice ad ps.length cap) ps) := h
  clear h
  go_enter Tryz.func106, Tryz.ntmps106
  go_wp2_with (at_make; refine wpList_make_full _ rfl _ _ 44 rfl w.heap.size 4 i0 (.bool false) 1 Tryz.underlying44 hi0 hz0 hz1 .i64 .i64 _ _ ps.length rfl rfl rfl rfl (by rw [hz2]; omega) (by unfold maxLen; omega) (Nat.le_refl _) ?_; intro w1 hown hgrow)
  have hI : ToG bool2 w w.heap.size ps 0 w1 := toG_start (E := bool2) hown hgrow
  clear hown hgrow hz0 hz1 hz2 hi0
  go_loopw [4] (fun i wr => ∃ j : Nat, j ≤ ps.length ∧ i = .int .i64 j ∧ ToG bool2 w w.heap.size ps j wr) (fun i _ => ps.length - (intOf i).toNat)
  case atStart => exact ⟨0, Nat.zero_le _, rfl, hI⟩
  case round =>
    clear hI
    obtain ⟨j, hj, rfl, hI⟩ := hrel
    by_cases hlt : j < ps.length
    · obtain ⟨x, hx⟩ : ∃ x, ps[j]? = some x := ⟨ps[j], List.getElem?_eq_getElem hlt⟩
      obtain ⟨b, off, capx, hv, hb1, hb2, h5⟩ := HA.out.at_ hx
      simp only [Value.slice.injEq, true_and] at hv
      obtain ⟨rfl, rfl⟩ := hv
      have c1 : wr.cell? ⟨b, off + j, none⟩ = some (.bool x) := by
        have := (h5.below hI.below (by omega)) 0 (.bool x) rfl
        rwa [Nat.add_zero, show j * bool2.k = j from Nat.mul_one j] at this
      obtain ⟨hs, hf⟩ := hI.stores (Below.refl _ wr) hlt x
      have hs' : (wr.cell? ⟨w.heap.size, j, none⟩).isSome = true := hs j (by show j * 1 ≤ j; omega) (by show j < j * 1 + 1; omega)
      have hf' : wr.frozen? ⟨w.heap.size, j, none⟩ = false := hf j (by show j * 1 ≤ j; omega) (by show j < j * 1 + 1; omega)
      have HI : Hid (ToG bool2 w w.heap.size ps j wr) := hI
      have HE : Hid (ps[j]? = some x) := hx
      clear hI hx hs hf h5
      go_wp2_with (refine wpList_store1G Tryz.sizeOf4 (z := .bool x) _ _ rfl rfl rfl rfl rfl rfl hs' hf' ?_)
      intro u L
      have HN : Hid (ToG bool2 w w.heap.size ps (j + 1) u) := HI.out.next HE.out (Below.refl _ _) (by
        show LaidG wr u w.heap.size (j * 1) [.bool x]
        rw [Nat.mul_one]; exact L)
      clear hs' hf' L
      go_wp2
      go_roundw
      case rel => exact ⟨j + 1, by omega, by go_num, HN.out⟩
      case measure => simp [intOf]; omega
    · obtain rfl : j = ps.length := by omega
      have HI : Hid (ToG bool2 w w.heap.size ps ps.length wr) := hI
      clear hI
      go_wp2
      go_ret
      have hI := HI.out
      have hS := hI.size
      exact ⟨_, rfl, (hI.go (by unfold maxLen; omega)).wide (Nat.le_refl _) (by omega), hI.below⟩

theorem szBoolS_any (w : World) (lo hi : Nat) (v : Value) (ps : List Bool) (left : Int) (h : GR bool2 w lo hi v ps) (hl : 0 ≤ left) (hl' : left ≤ 1048576) :
    Calls Tryz.prog 99 #[v, .int .i64 left] w fun e w' => e = .returned (.int .i64 (if left < ps.length then -1 else left - ps.length)) ∧ w' = w := by
  obtain ⟨a, cap, rfl, h1, h2⟩ := h.shape
  clear h
  unfold maxLen at h2
  by_cases h : left < ps.length
  · rw [if_pos h]
    go_enter Tryz.func99, Tryz.ntmps99
    go_wp2
    go_ret
    exact ⟨rfl, rfl⟩
  · rw [if_neg h]
    go_enter Tryz.func99, Tryz.ntmps99
    go_wp2
    go_ret
    exact ⟨rfl, rfl⟩

theorem zero_marksT : (Tryz.prog.info? 48).map (fun i => (i.zero, i.size)) = some (some (.agg [Value.slice none 0 0, Value.slice none 0 0].toArray), 2) := by kernel_rfl

theorem slicesM_one {x y : Value} (hx : x.oneCell' = true) (hy : y.oneCell' = true) : ∀ v ∈ [x, y], v.oneCell' = true := by
  intro v hv; simp only [List.mem_cons, List.not_mem_nil, or_false] at hv
  rcases hv with rfl | rfl
  · exact hx
  · exact hy

set_option maxHeartbeats 8000000 in
theorem toMarks_any (w : World) (lo hi : Nat) (v : Value) (n : MarksD) (h : MkR w lo hi v n) (hhi : hi ≤ w.heap.size) (hm : n.many ≤ 1048576) :
    Calls Tryz.prog 93 #[v] w fun e w' => ∃ v', e = .returned v' ∧ MkO w' w.heap.size w'.heap.size v' n ∧ Below w.heap.size w w' := by
  have hZ := (zero_of_info (P := Tryz.prog) zero_marksT).1
  obtain ⟨va, vb, rfl, hA, hB⟩ := h
  obtain ⟨ad, cap, rfl, _, _⟩ := hA.shape
  obtain ⟨ad', cap', rfl, _, _⟩ := hB.shape
  have HA : Hid (GR bool2 w lo hi (.slice ad n.on.length cap) n.on ∧ GR bool2 w lo hi (.slice ad' n.kept.length cap') n.kept) := ⟨hA, hB⟩
  clear hA hB
  unfold MarksD.many at hm
  have hm1 : n.on.length ≤ 1048576 := by omega
  have hm2 : n.kept.length ≤ 1048576 := by omega
  clear hm
  go_enter Tryz.func93, Tryz.ntmps93
  go_wp2_with (refine wpList_boxG (vs := [.slice ad n.on.length cap, .slice ad' n.kept.length cap']) rfl _ rfl rfl ?_)
  intro u1 g1 p1 s1
  go_wp2_with (refine wpList_allocG hZ rfl rfl ?_)
  intro u2 g2 q2 s2
  replace p1 := p1.below g2 (by omega)
  have G2 := g1.trans (g2.mono (by omega))
  clear g1 g2
  go_wp2_with (refine wpList_allocG hZ rfl rfl ?_)
  intro u3 g3 r3 s3
  have p3 := p1.below g3 (by omega)
  have q3 := q2.below g3 (by omega)
  have G3 := G2.trans (g3.mono (by omega))
  clear g3 G2 p1 q2
  have c0 : u3.cell? ⟨w.heap.size, 0, none⟩ = some (.slice ad n.on.length cap) := p3.c 0 _ rfl
  go_wp2_with fail
  clear c0
  refine (toBoolS_any _ lo hi _ n.on (HA.out.1.under G3 hhi) (by omega) hm1).mono ?_
  rintro e4 u4 ⟨v4, rfl, O4, g4⟩
  have s4 := g4.size
  obtain ⟨ad4, cap4, rfl, _, _⟩ := O4.gr.shape
  have p4 := p3.below g4 (by omega)
  have q4 := q3.below g4 (by omega)
  have r4 := r3.below g4 (by omega)
  have G4 := G3.trans (g4.mono (by omega))
  clear g4 p3 q3 r3 G3
  go_wp2_with (refine wpList_store1G Tryz.sizeOf44 _ _ rfl rfl rfl rfl rfl rfl (r4.one (show 0 < 2 by decide)) (r4.f _) ?_)
  intro u5 L
  have s5 := L.size
  have r5 := r4.laid L (ws := [.slice ad4 n.on.length cap4, .slice none 0 0]) rfl (show 0 + 1 ≤ 2 by decide)
  have p5 := L.other p4 (by omega)
  have q5 := L.other q4 (by omega)
  have O5 := O4.kept fun k h1 h2 => L.block k (by omega)
  have G5 := L.below _ _ (by omega) G4
  clear L r4 p4 q4 G4 O4
  have c1 : u5.cell? ⟨w.heap.size, 1, none⟩ = some (.slice ad' n.kept.length cap') := p5.c 1 _ rfl
  go_wp2_with fail
  clear c1
  refine (toBoolS_any _ lo hi _ n.kept (HA.out.2.under G5 hhi) (by omega) hm2).mono ?_
  rintro e6 u6 ⟨v6, rfl, O6, g6⟩
  have s6 := g6.size
  obtain ⟨ad6, cap6, rfl, _, _⟩ := O6.gr.shape
  have p6 := p5.below g6 (by omega)
  have q6 := q5.below g6 (by omega)
  have r6 := r5.below g6 (by omega)
  replace O5 := O5.under g6 (by omega)
  have G6 := G5.trans (g6.mono (by omega))
  clear g6 p5 q5 r5 G5
  go_wp2_with (refine wpList_store1G Tryz.sizeOf44 _ _ rfl rfl rfl rfl rfl rfl (r6.one (show 1 < 2 by decide)) (r6.f _) ?_)
  intro u7 L
  have s7 := L.size
  have r7 := r6.laid L (ws := [.slice ad4 n.on.length cap4, .slice ad6 n.kept.length cap6]) rfl (show 1 + 1 ≤ 2 by decide)
  have q7 := L.other q6 (by omega)
  have O7 := O5.kept fun k h1 h2 => L.block k (by omega)
  have O7' := O6.kept fun k h1 h2 => L.block k (by omega)
  have G7 := L.below _ _ (by omega) G6
  clear L r6 p6 q6 G6 O5 O6
  have hr := q7.run 0 2 (show 0 + 2 ≤ 2 by decide)
  go_wp2_with (first
    | refine wpList_loadG Tryz.isAgg48 Tryz.sizeOf48 _ rfl rfl rfl rfl r7.c ?_
    | refine wpList_storeG Tryz.sizeOf48 _ _ rfl rfl rfl rfl rfl (slicesM_one rfl rfl) hr.1 hr.2 ?_)
  intro u8 L
  have s8 := L.size
  have q8 := L.var q7
  have O8 := O7.kept fun k h1 h2 => L.block k (by omega)
  have O8' := O7'.kept fun k h1 h2 => L.block k (by omega)
  have G8 := L.below _ _ (by omega) G7
  clear L r7 q7 G7 O7 O7' hr
  go_wp2
  refine bodyPost_ret (v := .agg [.slice ad4 n.on.length cap4, .slice ad6 n.kept.length cap6].toArray) ?_ rfl ⟨_, rfl, ⟨_, _, _, _, _, _, rfl, O8, O8', ⟨by omega, by omega⟩, ⟨by omega, by omega⟩, by omega⟩, G8⟩
  simp [results, Tryz.results93]
  exact run_loadVarG (P := Tryz.prog) Tryz.isAgg48 Tryz.sizeOf48 rfl q8.c

set_option maxHeartbeats 1000000 in
theorem szMarks_any (w : World) (lo hi : Nat) (m : Value) (d : MarksD) (left : Int) (h : MkR w lo hi m d) (hhi : hi ≤ w.heap.size) (hl : 0 ≤ left) (hl' : left ≤ 1048576) :
    Calls Tryz.prog 89 #[m, .int .i64 left] w fun e w' => e = .returned (.int .i64 (if left < d.many then -1 else left - d.many)) ∧ Below w.heap.size w w' := by
  obtain ⟨a, b, rfl, ha, hb⟩ := h
  obtain ⟨ad, cap, rfl, _, _⟩ := ha.shape
  obtain ⟨ad', cap', rfl, _, _⟩ := hb.shape
  have sa := fun o => ha.under (w' := w.alloc o) ((Below.refl _ _).alloc (Nat.le_refl _) o) hhi
  have sb := fun o => hb.under (w' := w.alloc o) ((Below.refl _ _).alloc (Nat.le_refl _) o) hhi
  clear ha hb
  unfold MarksD.many
  by_cases h1 : left < d.on.length
  · rw [if_pos (by omega)]
    go_enter Tryz.func89, Tryz.ntmps89
    go_wp2_with fail
    refine (szBoolS_any _ lo hi _ d.on _ (sa _) hl hl').mono ?_
    rw [if_pos (by omega)]
    rintro e w1 ⟨rfl, rfl⟩
    go_wp2
    go_ret
    exact ⟨rfl, (Below.refl _ _).alloc (Nat.le_refl _) _⟩
  · by_cases h2 : left - d.on.length < d.kept.length
    · rw [if_pos (by omega)]
      go_enter Tryz.func89, Tryz.ntmps89
      go_wp2_with fail
      refine (szBoolS_any _ lo hi _ d.on _ (sa _) hl hl').mono ?_
      rw [if_neg (by omega)]
      rintro e w1 ⟨rfl, rfl⟩
      go_wp2_with fail
      refine (szBoolS_any _ lo hi _ d.kept _ (sb _) (by omega) (by omega)).mono ?_
      rw [if_pos (by omega)]
      rintro e w1 ⟨rfl, rfl⟩
      go_wp2
      go_ret
      exact ⟨rfl, (Below.refl _ _).alloc (Nat.le_refl _) _⟩
    · rw [if_neg (by omega)]
      go_enter Tryz.func89, Tryz.ntmps89
      go_wp2_with fail
      refine (szBoolS_any _ lo hi _ d.on _ (sa _) hl hl').mono ?_
      rw [if_neg (by omega)]
      rintro e w1 ⟨rfl, rfl⟩
      go_wp2_with fail
      refine (szBoolS_any _ lo hi _ d.kept _ (sb _) (by omega) (by omega)).mono ?_
      rw [if_neg (by omega)]
      rintro e w1 ⟨rfl, rfl⟩
      go_wp2
      go_ret
      exact ⟨ret_int (by omega), (Below.refl _ _).alloc (Nat.le_refl _) _⟩
end Go.Proofs.YtaoiookfmgpmkaaGreatDoor
