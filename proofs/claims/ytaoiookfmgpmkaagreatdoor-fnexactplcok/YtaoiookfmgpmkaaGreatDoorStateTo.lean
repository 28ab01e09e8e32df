/-
  The laws' szState and toState. (Written by our generator gen_stateto.py.)
-/
import Derived.Test.YtaoiookfmgpmkaaGreatDoorStateKit
import Derived.Test.YtaoiookfmgpmkaaGreatDoorMarksTo
import Derived.Laws.ResultCell
namespace Go.Proofs.YtaoiookfmgpmkaaGreatDoor
open Go.ChangeShapes Go.WideShapes Go.ChangeAt Go.RowKit
set_option linter.unusedVariables false
set_option linter.unusedSimpArgs false
set_option maxRecDepth 100000

def StateD.many (m : StateD) : Nat := m.bs.length + m.ls.length
theorem info_blockT : (Tryz.prog.info? 165).map (fun i => (i.zero, i.size, i.bytes)) = some (some (.agg (blockC ⟨0, 0, false, false, 0⟩).toArray), 5, 32) := by kernel_rfl
set_option maxHeartbeats 2000000 in
theorem toBlockS_any (w : World) (lo hi : Nat) (v : Value) (ps : List BlockD) (h : GR blockE w lo hi v ps) (hhi : hi ≤ w.heap.size) (hm : ps.length ≤ 1048576) :
    Calls Tryz.prog 105 #[v] w fun e w' => ∃ v', e = .returned v' ∧ GO blockE w' w.heap.size w'.heap.size v' ps ∧ Below w.heap.size w w' := by
  obtain ⟨ad, cap, rfl, hc1, hc2⟩ := h.shape
  obtain ⟨i0, hi0, hz0, hz1, hz2⟩ := info_parts info_blockT
  have HK : Hid (GR blockE w lo hi (.slice ad ps.length cap) ps) := h
  clear h hc1 hc2
  go_enter Tryz.func105, Tryz.ntmps105
  go_wp2_with (at_make; refine wpList_make_full _ rfl _ _ 43 rfl w.heap.size 165 i0 (.agg (blockC ⟨0, 0, false, false, 0⟩).toArray) 5 Tryz.underlying43 hi0 hz0 hz1 .i64 .i64 _ _ ps.length rfl rfl rfl rfl (by rw [hz2]; omega) (by unfold maxLen; omega) (Nat.le_refl _) ?_; intro w1 hown hgrow)
  have hI : ToG blockE w w.heap.size ps 0 w1 := toG_start (E := blockE) hown hgrow
  clear hown hgrow hz0 hz1 hz2 hi0
  go_loopw [4] (fun i wr => ∃ j : Nat, j ≤ ps.length ∧ i = .int .i64 j ∧ ToG blockE w w.heap.size ps j wr) (fun i _ => ps.length - (intOf i).toNat)
  case atStart => exact ⟨0, Nat.zero_le _, rfl, hI⟩
  case round =>
    clear hI
    obtain ⟨j, hj, rfl, hI⟩ := hrel
    by_cases hlt : j < ps.length
    · obtain ⟨p, he⟩ : ∃ p, ps[j]? = some p := ⟨ps[j], List.getElem?_eq_getElem hlt⟩
      obtain ⟨b, off, cap', hv, hb1, hb2, h5⟩ := HK.out.at_ he
      simp only [Value.slice.injEq, true_and] at hv
      obtain ⟨rfl, rfl⟩ := hv
      have hb := hI.below
      have hc : CV wr b (off + j * 5) (blockC p) := h5.kept (hb.block b (by omega))
      have hz : Calls Tryz.prog 182 #[.agg (blockC p).toArray] wr fun e w' => e = .returned (.agg (blockC p).toArray) ∧ Below wr.heap.size wr w' := toBlock_any wr p
      have HI : Hid (ToG blockE w w.heap.size ps j wr) := hI
      have HE : Hid (ps[j]? = some p) := he
      clear hI hb he h5
      go_wp2_with (refine wpList_loadG Tryz.isAgg248 Tryz.sizeOf248 _ rfl rfl rfl rfl hc ?_)
      refine hz.mono ?_
      rintro e1 w2 ⟨rfl, g2⟩
      obtain ⟨hs, hf⟩ := HI.out.stores g2 hlt p
      have hs : ∀ y, j * 5 ≤ y → y < j * 5 + (blockC p).length → (w2.cell? ⟨w.heap.size, y, none⟩).isSome = true := hs
      have hf : ∀ y, j * 5 ≤ y → y < j * 5 + (blockC p).length → w2.frozen? ⟨w.heap.size, y, none⟩ = false := hf
      clear hc hz
      go_wp2_with (refine wpList_storeG Tryz.sizeOf165 _ _ rfl rfl rfl rfl rfl (blockC_one p) hs hf ?_)
      intro u L
      have HN : Hid (ToG blockE w w.heap.size ps (j + 1) u) := HI.out.next HE.out g2 L
      clear hs hf L g2
      go_wp2
      go_roundw
      case rel => exact ⟨j + 1, by omega, by go_num, HN.out⟩
      case measure => simp [intOf]; omega
    · obtain rfl : j = ps.length := by omega
      have HI : Hid (ToG blockE w w.heap.size ps ps.length wr) := hI
      clear hI
      go_wp2
      go_ret
      exact ⟨_, rfl, HI.out.go (by unfold maxLen; omega), HI.out.below⟩

theorem szBlockS_any (w : World) (lo hi : Nat) (v : Value) (ps : List BlockD) (left : Int) (h : GR blockE w lo hi v ps) (hl : 0 ≤ left) (hl' : left ≤ 1048576) :
    Calls Tryz.prog 98 #[v, .int .i64 left] w fun e w' => e = .returned (.int .i64 (if left < ps.length then -1 else left - ps.length)) ∧ w' = w := by
  obtain ⟨a, cap, rfl, h1, h2⟩ := h.shape
  clear h
  unfold maxLen at h2
  by_cases h : left < ps.length
  · rw [if_pos h]
    go_enter Tryz.func98, Tryz.ntmps98
    go_wp2
    go_ret
    exact ⟨rfl, rfl⟩
  · rw [if_neg h]
    go_enter Tryz.func98, Tryz.ntmps98
    go_wp2
    go_ret
    exact ⟨rfl, rfl⟩

theorem zero_stateT : (Tryz.prog.info? 46).map (fun i => (i.zero, i.size)) = some (some (.agg [Value.slice none 0 0, Value.slice none 0 0].toArray), 2) := by kernel_rfl

theorem slicesSt_one {x y : Value} (hx : x.oneCell' = true) (hy : y.oneCell' = true) : ∀ v ∈ [x, y], v.oneCell' = true := by
  intro v hv; simp only [List.mem_cons, List.not_mem_nil, or_false] at hv
  rcases hv with rfl | rfl
  · exact hx
  · exact hy

set_option maxHeartbeats 8000000 in
theorem toState_any (w : World) (lo hi : Nat) (v : Value) (n : StateD) (h : StR w lo hi v n) (hhi : hi ≤ w.heap.size) (hm : n.many ≤ 1048576) :
    Calls Tryz.prog 34 #[v] w fun e w' => ∃ v', e = .returned v' ∧ StO w' w.heap.size w'.heap.size v' n ∧ Below w.heap.size w w' := by
  have hZ := (zero_of_info (P := Tryz.prog) zero_stateT).1
  obtain ⟨va, vb, rfl, hA, hB⟩ := h
  obtain ⟨ad, cap, rfl, _, _⟩ := hA.shape
  obtain ⟨ad', cap', rfl, _, _⟩ := hB.shape
  have HA : Hid (GR blockE w lo hi (.slice ad n.bs.length cap) n.bs ∧ GR bool2 w lo hi (.slice ad' n.ls.length cap') n.ls) := ⟨hA, hB⟩
  clear hA hB
  unfold StateD.many at hm
  have hm1 : n.bs.length ≤ 1048576 := by omega
  have hm2 : n.ls.length ≤ 1048576 := by omega
  clear hm
  go_enter Tryz.func34, Tryz.ntmps34
  go_wp2_with (refine wpList_boxG (vs := [.slice ad n.bs.length cap, .slice ad' n.ls.length cap']) rfl _ rfl rfl ?_)
  intro u1 g1 p1 s1
  go_wp2_with (refine wpList_allocG hZ rfl rfl ?_)
  intro u2 g2 q2 s2
  replace p1 := p1.below g2 (by omega)
  have G2 := g1.trans (g2.mono (by omega))
  clear g1 g2
  go_wp2_with (refine wpList_allocG hZ rfl rfl ?_)
  intro u3 g3 r3 s3
  have p3 := p1.below g3 (by omega)
  have q3 := q2.below g3 (by omega)
  have G3 := G2.trans (g3.mono (by omega))
  clear g3 G2 p1 q2
  have c0 : u3.cell? ⟨w.heap.size, 0, none⟩ = some (.slice ad n.bs.length cap) := p3.c 0 _ rfl
  go_wp2_with fail
  clear c0
  refine (toBlockS_any _ lo hi _ n.bs (HA.out.1.under G3 hhi) (by omega) hm1).mono ?_
  rintro e4 u4 ⟨v4, rfl, O4, g4⟩
  have s4 := g4.size
  obtain ⟨ad4, cap4, rfl, _, _⟩ := O4.gr.shape
  have p4 := p3.below g4 (by omega)
  have q4 := q3.below g4 (by omega)
  have r4 := r3.below g4 (by omega)
  have G4 := G3.trans (g4.mono (by omega))
  clear g4 p3 q3 r3 G3
  go_wp2_with (refine wpList_store1G Tryz.sizeOf43 _ _ rfl rfl rfl rfl rfl rfl (r4.one (show 0 < 2 by decide)) (r4.f _) ?_)
  intro u5 L
  have s5 := L.size
  have r5 := r4.laid L (ws := [.slice ad4 n.bs.length cap4, .slice none 0 0]) rfl (show 0 + 1 ≤ 2 by decide)
  have p5 := L.other p4 (by omega)
  have q5 := L.other q4 (by omega)
  have O5 := O4.kept fun k h1 h2 => L.block k (by omega)
  have G5 := L.below _ _ (by omega) G4
  clear L r4 p4 q4 G4 O4
  have c1 : u5.cell? ⟨w.heap.size, 1, none⟩ = some (.slice ad' n.ls.length cap') := p5.c 1 _ rfl
  go_wp2_with fail
  clear c1
  refine (toBoolS_any _ lo hi _ n.ls (HA.out.2.under G5 hhi) (by omega) hm2).mono ?_
  rintro e6 u6 ⟨v6, rfl, O6, g6⟩
  have s6 := g6.size
  obtain ⟨ad6, cap6, rfl, _, _⟩ := O6.gr.shape
  have p6 := p5.below g6 (by omega)
  have q6 := q5.below g6 (by omega)
  have r6 := r5.below g6 (by omega)
  replace O5 := O5.under g6 (by omega)
  have G6 := G5.trans (g6.mono (by omega))
  clear g6 p5 q5 r5 G5
  go_wp2_with (refine wpList_store1G Tryz.sizeOf44 _ _ rfl rfl rfl rfl rfl rfl (r6.one (show 1 < 2 by decide)) (r6.f _) ?_)
  intro u7 L
  have s7 := L.size
  have r7 := r6.laid L (ws := [.slice ad4 n.bs.length cap4, .slice ad6 n.ls.length cap6]) rfl (show 1 + 1 ≤ 2 by decide)
  have q7 := L.other q6 (by omega)
  have O7 := O5.kept fun k h1 h2 => L.block k (by omega)
  have O7' := O6.kept fun k h1 h2 => L.block k (by omega)
  have G7 := L.below _ _ (by omega) G6
  clear L r6 p6 q6 G6 O5 O6
  have hr := q7.run 0 2 (show 0 + 2 ≤ 2 by decide)
  go_wp2_with (first
    | refine wpList_loadG Tryz.isAgg46 Tryz.sizeOf46 _ rfl rfl rfl rfl r7.c ?_
    | refine wpList_storeG Tryz.sizeOf46 _ _ rfl rfl rfl rfl rfl (slicesSt_one rfl rfl) hr.1 hr.2 ?_)
  intro u8 L
  have s8 := L.size
  have q8 := L.var q7
  have O8 := O7.kept fun k h1 h2 => L.block k (by omega)
  have O8' := O7'.kept fun k h1 h2 => L.block k (by omega)
  have G8 := L.below _ _ (by omega) G7
  clear L r7 q7 G7 O7 O7' hr
  go_wp2
  refine bodyPost_ret (v := .agg [.slice ad4 n.bs.length cap4, .slice ad6 n.ls.length cap6].toArray) ?_ rfl ⟨_, rfl, ⟨_, _, _, _, _, _, rfl, O8, O8', ⟨by omega, by omega⟩, ⟨by omega, by omega⟩, by omega⟩, G8⟩
  simp [results, Tryz.results34]
  exact run_loadVarG (P := Tryz.prog) Tryz.isAgg46 Tryz.sizeOf46 rfl q8.c

set_option maxHeartbeats 1000000 in
theorem szState_any (w : World) (lo hi : Nat) (m : Value) (d : StateD) (left : Int) (h : StR w lo hi m d) (hhi : hi ≤ w.heap.size) (hl : 0 ≤ left) (hl' : left ≤ 1048576) :
    Calls Tryz.prog 31 #[m, .int .i64 left] w fun e w' => e = .returned (.int .i64 (if left < d.many then -1 else left - d.many)) ∧ Below w.heap.size w w' := by
  obtain ⟨a, b, rfl, ha, hb⟩ := h
  obtain ⟨ad, cap, rfl, _, _⟩ := ha.shape
  obtain ⟨ad', cap', rfl, _, _⟩ := hb.shape
  have sa := fun o => ha.under (w' := w.alloc o) ((Below.refl _ _).alloc (Nat.le_refl _) o) hhi
  have sb := fun o => hb.under (w' := w.alloc o) ((Below.refl _ _).alloc (Nat.le_refl _) o) hhi
  clear ha hb
  unfold StateD.many
  by_cases h1 : left < d.bs.length
  · rw [if_pos (by omega)]
    go_enter Tryz.func31, Tryz.ntmps31
    go_wp2_with fail
    refine (szBlockS_any _ lo hi _ d.bs _ (sa _) hl hl').mono ?_
    rw [if_pos (by omega)]
    rintro e w1 ⟨rfl, rfl⟩
    go_wp2
    go_ret
    exact ⟨rfl, (Below.refl _ _).alloc (Nat.le_refl _) _⟩
  · by_cases h2 : left - d.bs.length < d.ls.length
    · rw [if_pos (by omega)]
      go_enter Tryz.func31, Tryz.ntmps31
      go_wp2_with fail
      refine (szBlockS_any _ lo hi _ d.bs _ (sa _) hl hl').mono ?_
      rw [if_neg (by omega)]
      rintro e w1 ⟨rfl, rfl⟩
      go_wp2_with fail
      refine (szBoolS_any _ lo hi _ d.ls _ (sb _) (by omega) (by omega)).mono ?_
      rw [if_pos (by omega)]
      rintro e w1 ⟨rfl, rfl⟩
      go_wp2
      go_ret
      exact ⟨rfl, (Below.refl _ _).alloc (Nat.le_refl _) _⟩
    · rw [if_neg (by omega)]
      go_enter Tryz.func31, Tryz.ntmps31
      go_wp2_with fail
      refine (szBlockS_any _ lo hi _ d.bs _ (sa _) hl hl').mono ?_
      rw [if_neg (by omega)]
      rintro e w1 ⟨rfl, rfl⟩
      go_wp2_with fail
      refine (szBoolS_any _ lo hi _ d.ls _ (sb _) (by omega) (by omega)).mono ?_
      rw [if_neg (by omega)]
      rintro e w1 ⟨rfl, rfl⟩
      go_wp2
      go_ret
      exact ⟨ret_int (by omega), (Below.refl _ _).alloc (Nat.le_refl _) _⟩
end Go.Proofs.YtaoiookfmgpmkaaGreatDoor
