import Derived.Test.YtaoiookfmgpmkaaGreatDoorQM1
import Derived.Test.YtaoiookfmgpmkaaGreatDoorQM2

/-
 toSrc, toWire, toDrive, toWireS, toDriveS, toNet, szNet: the laws' helpers that copy nets into new memory, and that count. (Written by our generator gen_netto.py.)
-/
namespace Go.Proofs.YtaoiookfmgpmkaaGreatDoor
open Go.ChangeShapes Go.WideShapes Go.ChangeAt Go.RowKit
set_option linter.unusedVariables false
set_option linter.unusedSimpArgs false
set_option maxRecDepth 100000

set_option maxHeartbeats 4000000 in
theorem toSrc_any (w : World) (s : SrcD) :
  Calls Tryz.prog 213 #[.agg (srcC s).toArray] w fun e w' => e = .returned (.agg (srcC s).toArray) ∧ Below w.heap.size w w' := by
 obtain ⟨k, t, ak, aat, no⟩ := s
 unfold srcC
 go_enter Tryz.func213, Tryz.ntmps213
 go_wp2
 refine bodyPost_ret (v := .agg #[.int .i64 ak, .int .i64 aat]) (by simp [results, Tryz.results140, go_sem]) rfl ?_
 go_wp2
 refine bodyPost_ret (v := .agg #[.int .i64 k, .int .i64 t, .int .i64 ak, .int .i64 aat, .bool no]) (by simp [results, Tryz.results213, go_sem]) rfl ⟨rfl, ?_⟩
 repeat' first
  | exact Below.refl _ _
  | refine Below.alloc ?_ ?_ _
  | refine Below.setCell ?_ ?_ _
 all_goals simp
 all_goals omega

set_option maxHeartbeats 4000000 in
theorem toDrive_any (w : World) (s : DriveD) :
  Calls Tryz.prog 143 #[.agg (driveC s).toArray] w fun e w' => e = .returned (.agg (driveC s).toArray) ∧ Below w.heap.size w w' := by
 obtain ⟨ak, aat, wi⟩ := s
 unfold driveC
 go_enter Tryz.func143, Tryz.ntmps143
 go_wp2
 refine bodyPost_ret (v := .agg #[.int .i64 ak, .int .i64 aat]) (by simp [results, Tryz.results140, go_sem]) rfl ?_
 go_wp2
 refine bodyPost_ret (v := .agg #[.int .i64 ak, .int .i64 aat, .int .i64 wi]) (by simp [results, Tryz.results143, go_sem]) rfl ⟨rfl, ?_⟩
 repeat' first
  | exact Below.refl _ _
  | refine Below.alloc ?_ ?_ _
  | refine Below.setCell ?_ ?_ _
 all_goals simp
 all_goals omega

theorem info_wire : (Tryz.prog.info? 171).map (fun i => (i.zero, i.size, i.bytes)) = some (some (.agg (wireC ⟨0, 0, noSrc, noSrc⟩).toArray), 12, 96) := by kernel_rfl
theorem zero_wire : (Tryz.prog.info? 171).map (fun i => (i.zero, i.size)) = some (some (.agg (wireC ⟨0, 0, noSrc, noSrc⟩).toArray), 12) := by kernel_rfl
theorem info_drive : (Tryz.prog.info? 173).map (fun i => (i.zero, i.size, i.bytes)) = some (some (.agg (driveC ⟨0, 0, 0⟩).toArray), 3, 24) := by kernel_rfl

set_option maxHeartbeats 8000000 in
theorem toWire_any (w : World) (p : WireD) :
  Calls Tryz.prog 142 #[.agg (wireC p).toArray] w fun e w' => e = .returned (.agg (wireC p).toArray) ∧ Below w.heap.size w w' := by
 have hZ := (zero_of_info (P := Tryz.prog) zero_wire).1
 go_enter Tryz.func142, Tryz.ntmps142
 go_wp2_with (refine wpList_boxG (vs := wireC p) rfl _ rfl rfl ?_)
 intro u1 g1 p1 s1
 go_wp2_with (refine wpList_allocG hZ rfl rfl ?_)
 intro u2 g2 q2 s2
 replace p1 := p1.below g2 (by omega)
 have G2 := g1.trans (g2.mono (by omega))
 clear g1 g2
 go_wp2_with (refine wpList_allocG hZ rfl rfl ?_)
 intro u3 g3 r3 s3
 replace p1 := p1.below g3 (by omega)
 replace q2 := q2.below g3 (by omega)
 have G3 := G2.trans (g3.mono (by omega))
 clear g3 G2
 obtain ⟨k, n, a, b⟩ := p
 have p3 := p1
 have q3 := q2
 clear p1 q2
 have c0 : u3.cell? ⟨w.heap.size, 0, none⟩ = some (.int .i64 k) := p3.c 0 _ rfl
 go_wp2_with (refine wpList_store1G Tryz.sizeOf3 _ _ rfl rfl rfl rfl rfl rfl (r3.one (show 0 < 12 by decide)) (r3.f _) ?_)
 intro u4 L
 have s4 := L.size
 have r4 := r3.laid L (ws := wireC ⟨k, 0, noSrc, noSrc⟩) rfl (show 0 + 1 ≤ 12 by decide)
 have p4 := L.other p3 (by omega)
 have q4 := L.other q3 (by omega)
 have G4 := L.below _ _ (by omega) G3
 clear L r3 p3 q3 G3
 clear c0
 have c1 : u4.cell? ⟨w.heap.size, 1, none⟩ = some (.int .i64 n) := p4.c 1 _ rfl
 go_wp2_with (refine wpList_store1G Tryz.sizeOf3 _ _ rfl rfl rfl rfl rfl rfl (r4.one (show 1 < 12 by decide)) (r4.f _) ?_)
 intro u5 L
 have s5 := L.size
 have r5 := r4.laid L (ws := wireC ⟨k, n, noSrc, noSrc⟩) rfl (show 1 + 1 ≤ 12 by decide)
 have p5 := L.other p4 (by omega)
 have q5 := L.other q4 (by omega)
 have G5 := L.below _ _ (by omega) G4
 clear L r4 p4 q4 G4
 clear c1
 have hc : CV u5 w.heap.size 2 (srcC a) := p5.c.part 2 5
 go_wp2_with (refine wpList_loadG Tryz.isAgg215 Tryz.sizeOf215 _ rfl rfl rfl rfl hc ?_)
 clear hc
 refine (toSrc_any _ a).mono ?_
 rintro e6 u6 ⟨rfl, g⟩
 have s6 := g.size
 have p6 := p5.below g (by omega)
 have q6 := q5.below g (by omega)
 have r6 := r5.below g (by omega)
 have G6 := G5.trans (g.mono (by omega))
 clear g p5 q5 r5 G5
 have hr := r6.run 2 5 (show 2 + 5 ≤ 12 by decide)
 go_wp2_with (refine wpList_storeG Tryz.sizeOf169 _ _ rfl rfl rfl rfl rfl (srcC_one a) hr.1 hr.2 ?_)
 intro u7 L
 have s7 := L.size
 have r7 := r6.laid L (ws := wireC ⟨k, n, a, noSrc⟩) rfl (show 2 + 5 ≤ 12 by decide)
 have p7 := L.other p6 (by omega)
 have q7 := L.other q6 (by omega)
 have G7 := L.below _ _ (by omega) G6
 clear L r6 p6 q6 G6 hr
 have hc : CV u7 w.heap.size 7 (srcC b) := p7.c.part 7 5
 go_wp2_with (refine wpList_loadG Tryz.isAgg215 Tryz.sizeOf215 _ rfl rfl rfl rfl hc ?_)
 clear hc
 refine (toSrc_any _ b).mono ?_
 rintro e8 u8 ⟨rfl, g⟩
 have s8 := g.size
 have p8 := p7.below g (by omega)
 have q8 := q7.below g (by omega)
 have r8 := r7.below g (by omega)
 have G8 := G7.trans (g.mono (by omega))
 clear g p7 q7 r7 G7
 have hr := r8.run 7 5 (show 7 + 5 ≤ 12 by decide)
 go_wp2_with (refine wpList_storeG Tryz.sizeOf169 _ _ rfl rfl rfl rfl rfl (srcC_one b) hr.1 hr.2 ?_)
 intro u9 L
 have s9 := L.size
 have r9 := r8.laid L (ws := wireC ⟨k, n, a, b⟩) rfl (show 7 + 5 ≤ 12 by decide)
 have p9 := L.other p8 (by omega)
 have q9 := L.other q8 (by omega)
 have G9 := L.below _ _ (by omega) G8
 clear L r8 p8 q8 G8 hr
 have hr := q9.run 0 12 (show 0 + 12 ≤ 12 by decide)
 go_wp2_with (first
  | refine wpList_loadG Tryz.isAgg171 Tryz.sizeOf171 _ rfl rfl rfl rfl r9.c ?_
  | refine wpList_storeG Tryz.sizeOf171 _ _ rfl rfl rfl rfl rfl (wireC_one _) hr.1 hr.2 ?_)
 intro u10 L
 have q10 := L.var q9
 have G10 := L.below _ _ (by omega) G9
 clear L r9 p9 q9 G9 hr
 go_wp2
 refine bodyPost_ret (v := .agg (wireC ⟨k, n, a, b⟩).toArray) ?_ rfl ⟨rfl, G10⟩
 simp [results, Tryz.results142]
 exact run_loadVarG (P := Tryz.prog) Tryz.isAgg171 Tryz.sizeOf171 rfl q10.c

set_option maxHeartbeats 2000000 in
theorem toWireS_any (w : World) (lo hi : Nat) (v : Value) (ps : List WireD) (h : GR wireE w lo hi v ps) (hhi : hi ≤ w.heap.size) (hm : ps.length ≤ 1048576) :
  Calls Tryz.prog 62 #[v] w fun e w' => ∃ v', e = .returned v' ∧ GO wireE w' w.heap.size w'.heap.size v' ps ∧ Below w.heap.size w w' := by
 obtain ⟨ad, cap, rfl, hc1, hc2⟩ := h.shape
 obtain ⟨i0, hi0, hz0, hz1, hz2⟩ := info_parts info_wire
 have HK : Hid (GR wireE w lo hi (.slice ad ps.length cap) ps) := h
 clear h hc1 hc2
 go_enter Tryz.func62, Tryz.ntmps62
 go_wp2_with (at_make; refine wpList_make_full _ rfl _ _ 35 rfl w.heap.size 171 i0 (.agg (wireC ⟨0, 0, noSrc, noSrc⟩).toArray) 12 Tryz.underlying35 hi0 hz0 hz1 .i64 .i64 _ _ ps.length rfl rfl rfl rfl (by rw [hz2]; omega) (by unfold maxLen; omega) (Nat.le_refl _) ?_; intro w1 hown hgrow)
 have hI : ToG wireE w w.heap.size ps 0 w1 := toG_start (E := wireE) hown hgrow
 clear hown hgrow hz0 hz1 hz2 hi0
 go_loopw [4] (fun i wr => ∃ j : Nat, j ≤ ps.length ∧ i = .int .i64 j ∧ ToG wireE w w.heap.size ps j wr) (fun i _ => ps.length - (intOf i).toNat)
 case atStart => exact ⟨0, Nat.zero_le _, rfl, hI⟩
 case round =>
  clear hI
  obtain ⟨j, hj, rfl, hI⟩ := hrel
  by_cases hlt : j < ps.length
  ·obtain ⟨p, he⟩ : ∃ p, ps[j]? = some p := ⟨ps[j], List.getElem?_eq_getElem hlt⟩
   obtain ⟨b, off, cap', hv, hb1, hb2, h5⟩ := HK.out.at_ he
   simp only [Value.slice.injEq, true_and] at hv
   obtain ⟨rfl, rfl⟩ := hv
   have hb := hI.below
   have hc : CV wr b (off + j * 12) (wireC p) := h5.kept (hb.block b (by omega))
   have hz := toWire_any wr p
   have HI : Hid (ToG wireE w w.heap.size ps j wr) := hI
   have HE : Hid (ps[j]? = some p) := he
   clear hI hb he h5
   go_wp2_with (refine wpList_loadG Tryz.isAgg217 Tryz.sizeOf217 _ rfl rfl rfl rfl hc ?_)
   refine hz.mono ?_
   rintro e1 w2 ⟨rfl, g2⟩
   obtain ⟨hs, hf⟩ := HI.out.stores g2 hlt p
   have hs : ∀ y, j * 12 ≤ y → y < j * 12 + (wireC p).length → (w2.cell? ⟨w.heap.size, y, none⟩).isSome = true := hs
   have hf : ∀ y, j * 12 ≤ y → y < j * 12 + (wireC p).length → w2.frozen? ⟨w.heap.size, y, none⟩ = false := hf
   clear hc hz
   go_wp2_with (refine wpList_storeG Tryz.sizeOf171 _ _ rfl rfl rfl rfl rfl (wireC_one p) hs hf ?_)
   intro u L
   have HN : Hid (ToG wireE w w.heap.size ps (j + 1) u) := HI.out.next HE.out g2 L
   clear hs hf L g2
   go_wp2
   go_roundw
   case rel => exact ⟨j + 1, by omega, by go_num, HN.out⟩
   case measure => simp [intOf]; omega
  ·obtain rfl : j = ps.length := by omega
   have HI : Hid (ToG wireE w w.heap.size ps ps.length wr) := hI
   clear hI
   go_wp2
   go_ret
   exact ⟨_, rfl, HI.out.go (by unfold maxLen; omega), HI.out.below⟩

theorem szWireS_any (w : World) (lo hi : Nat) (v : Value) (ps : List WireD) (left : Int) (h : GR wireE w lo hi v ps) (hl : 0 ≤ left) (hl' : left ≤ 1048576) :
  Calls Tryz.prog 50 #[v, .int .i64 left] w fun e w' => e = .returned (.int .i64 (if left < ps.length then -1 else left - ps.length)) ∧ w' = w := by
 obtain ⟨a, cap, rfl, h1, h2⟩ := h.shape
 clear h
 unfold maxLen at h2
 by_cases h : left < ps.length
 ·rw [if_pos h]
  go_enter Tryz.func50, Tryz.ntmps50
  go_wp2
  go_ret
  exact ⟨rfl, rfl⟩
 ·rw [if_neg h]
  go_enter Tryz.func50, Tryz.ntmps50
  go_wp2
  go_ret
  exact ⟨rfl, rfl⟩

set_option maxHeartbeats 2000000 in
theorem toDriveS_any (w : World) (lo hi : Nat) (v : Value) (ps : List DriveD) (h : GR driveE w lo hi v ps) (hhi : hi ≤ w.heap.size) (hm : ps.length ≤ 1048576) :
  Calls Tryz.prog 63 #[v] w fun e w' => ∃ v', e = .returned v' ∧ GO driveE w' w.heap.size w'.heap.size v' ps ∧ Below w.heap.size w w' := by
 obtain ⟨ad, cap, rfl, hc1, hc2⟩ := h.shape
 obtain ⟨i0, hi0, hz0, hz1, hz2⟩ := info_parts info_drive
 have HK : Hid (GR driveE w lo hi (.slice ad ps.length cap) ps) := h
 clear h hc1 hc2
 go_enter Tryz.func63, Tryz.ntmps63
 go_wp2_with (at_make; refine wpList_make_full _ rfl _ _ 36 rfl w.heap.size 173 i0 (.agg (driveC ⟨0, 0, 0⟩).toArray) 3 Tryz.underlying36 hi0 hz0 hz1 .i64 .i64 _ _ ps.length rfl rfl rfl rfl (by rw [hz2]; omega) (by unfold maxLen; omega) (Nat.le_refl _) ?_; intro w1 hown hgrow)
 have hI : ToG driveE w w.heap.size ps 0 w1 := toG_start (E := driveE) hown hgrow
 clear hown hgrow hz0 hz1 hz2 hi0
 go_loopw [4] (fun i wr => ∃ j : Nat, j ≤ ps.length ∧ i = .int .i64 j ∧ ToG driveE w w.heap.size ps j wr) (fun i _ => ps.length - (intOf i).toNat)
 case atStart => exact ⟨0, Nat.zero_le _, rfl, hI⟩
 case round =>
  clear hI
  obtain ⟨j, hj, rfl, hI⟩ := hrel
  by_cases hlt : j < ps.length
  ·obtain ⟨p, he⟩ : ∃ p, ps[j]? = some p := ⟨ps[j], List.getElem?_eq_getElem hlt⟩
   obtain ⟨b, off, cap', hv, hb1, hb2, h5⟩ := HK.out.at_ he
   simp only [Value.slice.injEq, true_and] at hv
   obtain ⟨rfl, rfl⟩ := hv
   have hb := hI.below
   have hc : CV wr b (off + j * 3) (driveC p) := h5.kept (hb.block b (by omega))
   have hz := toDrive_any wr p
   have HI : Hid (ToG driveE w w.heap.size ps j wr) := hI
   have HE : Hid (ps[j]? = some p) := he
   clear hI hb he h5
   go_wp2_with (refine wpList_loadG Tryz.isAgg220 Tryz.sizeOf220 _ rfl rfl rfl rfl hc ?_)
   refine hz.mono ?_
   rintro e1 w2 ⟨rfl, g2⟩
   obtain ⟨hs, hf⟩ := HI.out.stores g2 hlt p
   have hs : ∀ y, j * 3 ≤ y → y < j * 3 + (driveC p).length → (w2.cell? ⟨w.heap.size, y, none⟩).isSome = true := hs
   have hf : ∀ y, j * 3 ≤ y → y < j * 3 + (driveC p).length → w2.frozen? ⟨w.heap.size, y, none⟩ = false := hf
   clear hc hz
   go_wp2_with (refine wpList_storeG Tryz.sizeOf173 _ _ rfl rfl rfl rfl rfl (driveC_one p) hs hf ?_)
   intro u L
   have HN : Hid (ToG driveE w w.heap.size ps (j + 1) u) := HI.out.next HE.out g2 L
   clear hs hf L g2
   go_wp2
   go_roundw
   case rel => exact ⟨j + 1, by omega, by go_num, HN.out⟩
   case measure => simp [intOf]; omega
  ·obtain rfl : j = ps.length := by omega
   have HI : Hid (ToG driveE w w.heap.size ps ps.length wr) := hI
   clear hI
   go_wp2
   go_ret
   exact ⟨_, rfl, HI.out.go (by unfold maxLen; omega), HI.out.below⟩

theorem szDriveS_any (w : World) (lo hi : Nat) (v : Value) (ps : List DriveD) (left : Int) (h : GR driveE w lo hi v ps) (hl : 0 ≤ left) (hl' : left ≤ 1048576) :
  Calls Tryz.prog 51 #[v, .int .i64 left] w fun e w' => e = .returned (.int .i64 (if left < ps.length then -1 else left - ps.length)) ∧ w' = w := by
 obtain ⟨a, cap, rfl, h1, h2⟩ := h.shape
 clear h
 unfold maxLen at h2
 by_cases h : left < ps.length
 ·rw [if_pos h]
  go_enter Tryz.func51, Tryz.ntmps51
  go_wp2
  go_ret
  exact ⟨rfl, rfl⟩
 ·rw [if_neg h]
  go_enter Tryz.func51, Tryz.ntmps51
  go_wp2
  go_ret
  exact ⟨rfl, rfl⟩

theorem zero_net : (Tryz.prog.info? 38).map (fun i => (i.zero, i.size)) = some (some (.agg [Value.slice none 0 0, Value.slice none 0 0].toArray), 2) := by kernel_rfl

theorem slices_one {x y : Value} (hx : x.oneCell' = true) (hy : y.oneCell' = true) : ∀ v ∈ [x, y], v.oneCell' = true := by
 intro v hv; simp only [List.mem_cons, List.not_mem_nil, or_false] at hv
 rcases hv with rfl | rfl
 ·exact hx
 ·exact hy

set_option maxHeartbeats 8000000 in
theorem toNet_any (w : World) (lo hi : Nat) (v : Value) (n : NetD) (h : NI w lo hi v n) (hhi : hi ≤ w.heap.size) (hm : n.many ≤ 1048576) :
  Calls Tryz.prog 13 #[v] w fun e w' => ∃ v', e = .returned v' ∧ NOw w' w.heap.size w'.heap.size v' n ∧ Below w.heap.size w w' := by
 have hZ := (zero_of_info (P := Tryz.prog) zero_net).1
 obtain ⟨va, vb, rfl, hA, hB⟩ := h
 obtain ⟨ad, cap, rfl, _, _⟩ := hA.shape
 obtain ⟨ad', cap', rfl, _, _⟩ := hB.shape
 have HA : Hid (GR wireE w lo hi (.slice ad n.ws.length cap) n.ws ∧ GR driveE w lo hi (.slice ad' n.ds.length cap') n.ds) := ⟨hA, hB⟩
 clear hA hB
 unfold NetD.many at hm
 have hm1 : n.ws.length ≤ 1048576 := by omega
 have hm2 : n.ds.length ≤ 1048576 := by omega
 clear hm
 go_enter Tryz.func13, Tryz.ntmps13
 go_wp2_with (refine wpList_boxG (vs := [.slice ad n.ws.length cap, .slice ad' n.ds.length cap']) rfl _ rfl rfl ?_)
 intro u1 g1 p1 s1
 go_wp2_with (refine wpList_allocG hZ rfl rfl ?_)
 intro u2 g2 q2 s2
 replace p1 := p1.below g2 (by omega)
 have G2 := g1.trans (g2.mono (by omega))
 clear g1 g2
 go_wp2_with (refine wpList_allocG hZ rfl rfl ?_)
 intro u3 g3 r3 s3
 have p3 := p1.below g3 (by omega)
 have q3 := q2.below g3 (by omega)
 have G3 := G2.trans (g3.mono (by omega))
 clear g3 G2 p1 q2
 have c0 : u3.cell? ⟨w.heap.size, 0, none⟩ = some (.slice ad n.ws.length cap) := p3.c 0 _ rfl
 go_wp2_with fail
 clear c0
 refine (toWireS_any _ lo hi _ n.ws (HA.out.1.under G3 hhi) (by omega) hm1).mono ?_
 rintro e4 u4 ⟨v4, rfl, O4, g4⟩
 have s4 := g4.size
 obtain ⟨ad4, cap4, rfl, _, _⟩ := O4.gr.shape
 have p4 := p3.below g4 (by omega)
 have q4 := q3.below g4 (by omega)
 have r4 := r3.below g4 (by omega)
 have G4 := G3.trans (g4.mono (by omega))
 clear g4 p3 q3 r3 G3
 go_wp2_with (refine wpList_store1G Tryz.sizeOf35 _ _ rfl rfl rfl rfl rfl rfl (r4.one (show 0 < 2 by decide)) (r4.f _) ?_)
 intro u5 L
 have s5 := L.size
 have r5 := r4.laid L (ws := [.slice ad4 n.ws.length cap4, .slice none 0 0]) rfl (show 0 + 1 ≤ 2 by decide)
 have p5 := L.other p4 (by omega)
 have q5 := L.other q4 (by omega)
 have O5 := O4.kept fun k h1 h2 => L.block k (by omega)
 have G5 := L.below _ _ (by omega) G4
 clear L r4 p4 q4 G4 O4
 have c1 : u5.cell? ⟨w.heap.size, 1, none⟩ = some (.slice ad' n.ds.length cap') := p5.c 1 _ rfl
 go_wp2_with fail
 clear c1
 refine (toDriveS_any _ lo hi _ n.ds (HA.out.2.under G5 hhi) (by omega) hm2).mono ?_
 rintro e6 u6 ⟨v6, rfl, O6, g6⟩
 have s6 := g6.size
 obtain ⟨ad6, cap6, rfl, _, _⟩ := O6.gr.shape
 have p6 := p5.below g6 (by omega)
 have q6 := q5.below g6 (by omega)
 have r6 := r5.below g6 (by omega)
 replace O5 := O5.under g6 (by omega)
 have G6 := G5.trans (g6.mono (by omega))
 clear g6 p5 q5 r5 G5
 go_wp2_with (refine wpList_store1G Tryz.sizeOf36 _ _ rfl rfl rfl rfl rfl rfl (r6.one (show 1 < 2 by decide)) (r6.f _) ?_)
 intro u7 L
 have s7 := L.size
 have r7 := r6.laid L (ws := [.slice ad4 n.ws.length cap4, .slice ad6 n.ds.length cap6]) rfl (show 1 + 1 ≤ 2 by decide)
 have q7 := L.other q6 (by omega)
 have O7 := O5.kept fun k h1 h2 => L.block k (by omega)
 have O7' := O6.kept fun k h1 h2 => L.block k (by omega)
 have G7 := L.below _ _ (by omega) G6
 clear L r6 p6 q6 G6 O5 O6
 have hr := q7.run 0 2 (show 0 + 2 ≤ 2 by decide)
 go_wp2_with (first
  | refine wpList_loadG Tryz.isAgg38 Tryz.sizeOf38 _ rfl rfl rfl rfl r7.c ?_
  | refine wpList_storeG Tryz.sizeOf38 _ _ rfl rfl rfl rfl rfl (slices_one rfl rfl) hr.1 hr.2 ?_)
 intro u8 L
 have s8 := L.size
 have q8 := L.var q7
 have O8 := O7.kept fun k h1 h2 => L.block k (by omega)
 have O8' := O7'.kept fun k h1 h2 => L.block k (by omega)
 have G8 := L.below _ _ (by omega) G7
 clear L r7 q7 G7 O7 O7' hr
 go_wp2
 refine bodyPost_ret (v := .agg [.slice ad4 n.ws.length cap4, .slice ad6 n.ds.length cap6].toArray) ?_ rfl ⟨_, rfl, ⟨_, _, u4.heap.size, rfl, O8.wide (by omega) (by omega), O8'.wide (by omega) (by omega), by omega, by omega⟩, G8⟩
 simp [results, Tryz.results13]
 exact run_loadVarG (P := Tryz.prog) Tryz.isAgg38 Tryz.sizeOf38 rfl q8.c

set_option maxHeartbeats 1000000 in
theorem szNet_any (w : World) (lo hi : Nat) (m : Value) (d : NetD) (left : Int) (h : NI w lo hi m d) (hhi : hi ≤ w.heap.size) (hl : 0 ≤ left) (hl' : left ≤ 1048576) :
  Calls Tryz.prog 9 #[m, .int .i64 left] w fun e w' => e = .returned (.int .i64 (if left < d.many then -1 else left - d.many)) ∧ Below w.heap.size w w' := by
 obtain ⟨a, b, rfl, ha, hb⟩ := h
 obtain ⟨ad, cap, rfl, _, _⟩ := ha.shape
 obtain ⟨ad', cap', rfl, _, _⟩ := hb.shape
 have sa := fun o => ha.under (w' := w.alloc o) ((Below.refl _ _).alloc (Nat.le_refl _) o) hhi
 have sb := fun o => hb.under (w' := w.alloc o) ((Below.refl _ _).alloc (Nat.le_refl _) o) hhi
 clear ha hb
 unfold NetD.many
 by_cases h1 : left < d.ws.length
 ·rw [if_pos (by omega)]
  go_enter Tryz.func9, Tryz.ntmps9
  go_wp2_with fail
  refine (szWireS_any _ lo hi _ d.ws _ (sa _) hl hl').mono ?_
  rw [if_pos (by omega)]
  rintro e w1 ⟨rfl, rfl⟩
  go_wp2
  go_ret
  exact ⟨rfl, (Below.refl _ _).alloc (Nat.le_refl _) _⟩
 ·by_cases h2 : left - d.ws.length < d.ds.length
  ·rw [if_pos (by omega)]
   go_enter Tryz.func9, Tryz.ntmps9
   go_wp2_with fail
   refine (szWireS_any _ lo hi _ d.ws _ (sa _) hl hl').mono ?_
   rw [if_neg (by omega)]
   rintro e w1 ⟨rfl, rfl⟩
   go_wp2_with fail
   refine (szDriveS_any _ lo hi _ d.ds _ (sb _) (by omega) (by omega)).mono ?_
   rw [if_pos (by omega)]
   rintro e w1 ⟨rfl, rfl⟩
   go_wp2
   go_ret
   exact ⟨rfl, (Below.refl _ _).alloc (Nat.le_refl _) _⟩
  ·rw [if_neg (by omega)]
   go_enter Tryz.func9, Tryz.ntmps9
   go_wp2_with fail
   refine (szWireS_any _ lo hi _ d.ws _ (sa _) hl hl').mono ?_
   rw [if_neg (by omega)]
   rintro e w1 ⟨rfl, rfl⟩
   go_wp2_with fail
   refine (szDriveS_any _ lo hi _ d.ds _ (sb _) (by omega) (by omega)).mono ?_
   rw [if_neg (by omega)]
   rintro e w1 ⟨rfl, rfl⟩
   go_wp2
   go_ret
   exact ⟨ret_int (by omega), (Below.refl _ _).alloc (Nat.le_refl _) _⟩

end Go.Proofs.YtaoiookfmgpmkaaGreatDoor

/-
 eqSrc, eqWire, eqDrive, eqWireS, eqDriveS, eqNet: the laws' helpers that compare nets, of two that read the same. (Written by our generator gen_neteq.py.)
-/
namespace Go.Proofs.YtaoiookfmgpmkaaGreatDoor
open Go.ChangeShapes Go.WideShapes Go.ChangeAt Go.RowKit
set_option linter.unusedVariables false
set_option linter.unusedSimpArgs false
set_option maxRecDepth 100000

set_option maxHeartbeats 2000000 in
theorem eqSrc_same (w : World) (s : SrcD) :
  Calls Tryz.prog 223 #[.agg (srcC s).toArray, .agg (srcC s).toArray] w fun e w' => e = .returned (.bool true) ∧ Below w.heap.size w w' := by
 have e1 : (s.kind != s.kind) = false := by simp
 have e2 : (s.at_ != s.at_) = false := by simp
 have e3 : (s.no != s.no) = false := by simp
 go_enter Tryz.func223, Tryz.ntmps223
 go_wp2_with (refine wpList_boxG (vs := srcC s) rfl _ rfl rfl ?_)
 intro u1 g1 p1 s1
 go_wp2_with (refine wpList_boxG (vs := srcC s) rfl _ rfl rfl ?_)
 intro u2 g2 q2 s2
 have p2 := p1.below g2 (by omega)
 have G2 := g1.trans (g2.mono (by omega))
 clear g1 g2 p1
 have c0 : u2.cell? ⟨w.heap.size, 0, none⟩ = some (.int .i64 s.kind) := p2.c 0 _ rfl
 have c1 : u2.cell? ⟨w.heap.size, 1, none⟩ = some (.int .i64 s.at_) := p2.c 1 _ rfl
 have d0 : u2.cell? ⟨w.heap.size + 1, 0, none⟩ = some (.int .i64 s.kind) := q2.c 0 _ rfl
 have d1 : u2.cell? ⟨w.heap.size + 1, 1, none⟩ = some (.int .i64 s.at_) := q2.c 1 _ rfl
 have hc : CV u2 w.heap.size 2 [.int .i64 s.ak, .int .i64 s.aat] := p2.c.part 2 2
 have hd : CV u2 (w.heap.size + 1) 2 [.int .i64 s.ak, .int .i64 s.aat] := q2.c.part 2 2
 go_wp2_with (first
  | refine wpList_loadG Tryz.isAgg118 Tryz.sizeOf118 _ rfl rfl rfl rfl hc ?_
  | refine wpList_loadG Tryz.isAgg118 Tryz.sizeOf118 _ rfl rfl rfl rfl hd ?_)
 clear c0 c1 d0 d1 hc hd
 refine (eqAddr_any _ ⟨s.ak, s.aat⟩ ⟨s.ak, s.aat⟩).mono ?_
 rw [decide_eq_true rfl]
 rintro e3 u3 ⟨rfl, g3⟩
 have c4 : u3.cell? ⟨w.heap.size, 4, none⟩ = some (.bool s.no) := (p2.below g3 (by omega)).c 4 _ rfl
 have d4 : u3.cell? ⟨w.heap.size + 1, 4, none⟩ = some (.bool s.no) := (q2.below g3 (by omega)).c 4 _ rfl
 have G3 := G2.trans (g3.mono (by omega))
 clear g3 G2 p2 q2
 go_wp2
 go_ret
 exact ⟨rfl, G3⟩

set_option maxHeartbeats 2000000 in
theorem eqDrive_same (w : World) (s : DriveD) :
  Calls Tryz.prog 161 #[.agg (driveC s).toArray, .agg (driveC s).toArray] w fun e w' => e = .returned (.bool true) ∧ Below w.heap.size w w' := by
 have e1 : (s.wire != s.wire) = false := by simp
 go_enter Tryz.func161, Tryz.ntmps161
 go_wp2_with (refine wpList_boxG (vs := driveC s) rfl _ rfl rfl ?_)
 intro u1 g1 p1 s1
 go_wp2_with (refine wpList_boxG (vs := driveC s) rfl _ rfl rfl ?_)
 intro u2 g2 q2 s2
 have p2 := p1.below g2 (by omega)
 have G2 := g1.trans (g2.mono (by omega))
 clear g1 g2 p1
 have hc : CV u2 w.heap.size 0 [.int .i64 s.tk, .int .i64 s.ta] := p2.c.part 0 2
 have hd : CV u2 (w.heap.size + 1) 0 [.int .i64 s.tk, .int .i64 s.ta] := q2.c.part 0 2
 go_wp2_with (first
  | refine wpList_loadG Tryz.isAgg118 Tryz.sizeOf118 _ rfl rfl rfl rfl hc ?_
  | refine wpList_loadG Tryz.isAgg118 Tryz.sizeOf118 _ rfl rfl rfl rfl hd ?_)
 clear hc hd
 refine (eqAddr_any _ ⟨s.tk, s.ta⟩ ⟨s.tk, s.ta⟩).mono ?_
 rw [decide_eq_true rfl]
 rintro e3 u3 ⟨rfl, g3⟩
 have c4 : u3.cell? ⟨w.heap.size, 2, none⟩ = some (.int .i64 s.wire) := (p2.below g3 (by omega)).c 2 _ rfl
 have d4 : u3.cell? ⟨w.heap.size + 1, 2, none⟩ = some (.int .i64 s.wire) := (q2.below g3 (by omega)).c 2 _ rfl
 have G3 := G2.trans (g3.mono (by omega))
 clear g3 G2 p2 q2
 go_wp2
 go_ret
 exact ⟨rfl, G3⟩

set_option maxHeartbeats 2000000 in
theorem eqWire_same (w : World) (s : WireD) :
  Calls Tryz.prog 160 #[.agg (wireC s).toArray, .agg (wireC s).toArray] w fun e w' => e = .returned (.bool true) ∧ Below w.heap.size w w' := by
 have e1 : (s.kind != s.kind) = false := by simp
 have e2 : (s.n != s.n) = false := by simp
 go_enter Tryz.func160, Tryz.ntmps160
 go_wp2_with (refine wpList_boxG (vs := wireC s) rfl _ rfl rfl ?_)
 intro u1 g1 p1 s1
 go_wp2_with (refine wpList_boxG (vs := wireC s) rfl _ rfl rfl ?_)
 intro u2 g2 q2 s2
 have p2 := p1.below g2 (by omega)
 have G2 := g1.trans (g2.mono (by omega))
 clear g1 g2 p1
 have c0 : u2.cell? ⟨w.heap.size, 0, none⟩ = some (.int .i64 s.kind) := p2.c 0 _ rfl
 have c1 : u2.cell? ⟨w.heap.size, 1, none⟩ = some (.int .i64 s.n) := p2.c 1 _ rfl
 have d0 : u2.cell? ⟨w.heap.size + 1, 0, none⟩ = some (.int .i64 s.kind) := q2.c 0 _ rfl
 have d1 : u2.cell? ⟨w.heap.size + 1, 1, none⟩ = some (.int .i64 s.n) := q2.c 1 _ rfl
 have hc : CV u2 w.heap.size 2 (srcC s.a) := p2.c.part 2 5
 have hd : CV u2 (w.heap.size + 1) 2 (srcC s.a) := q2.c.part 2 5
 go_wp2_with (first
  | refine wpList_loadG Tryz.isAgg169 Tryz.sizeOf169 _ rfl rfl rfl rfl hc ?_
  | refine wpList_loadG Tryz.isAgg169 Tryz.sizeOf169 _ rfl rfl rfl rfl hd ?_)
 clear c0 c1 d0 d1 hc hd
 refine (eqSrc_same _ s.a).mono ?_
 rintro e3 u3 ⟨rfl, g3⟩
 have z3 := g3.size
 have hc : CV u3 w.heap.size 7 (srcC s.b) := (p2.below g3 (by omega)).c.part 7 5
 have hd : CV u3 (w.heap.size + 1) 7 (srcC s.b) := (q2.below g3 (by omega)).c.part 7 5
 have G3 := G2.trans (g3.mono (by omega))
 clear g3 G2 p2 q2
 go_wp2_with (first
  | refine wpList_loadG Tryz.isAgg169 Tryz.sizeOf169 _ rfl rfl rfl rfl hc ?_
  | refine wpList_loadG Tryz.isAgg169 Tryz.sizeOf169 _ rfl rfl rfl rfl hd ?_)
 clear hc hd
 refine (eqSrc_same _ s.b).mono ?_
 rintro e4 u4 ⟨rfl, g4⟩
 have G4 := G3.trans (g4.mono (by omega))
 clear g4 G3
 go_wp2
 go_ret
 exact ⟨rfl, G4⟩

set_option maxHeartbeats 4000000 in
theorem eqWireS_same (w : World) (lo hi lo' hi' : Nat) (va vb : Value) (ps : List WireD) (ha : GR wireE w lo hi va ps) (hb' : GR wireE w lo' hi' vb ps) (hhi : hi ≤ w.heap.size) (hhi' : hi' ≤ w.heap.size) :
  Calls Tryz.prog 75 #[va, vb] w fun e w' => e = .returned (.bool true) ∧ Below w.heap.size w w' := by
 obtain ⟨ad, cap, rfl, h1, h2⟩ := ha.shape
 obtain ⟨ad', cap', rfl, h1', h2'⟩ := hb'.shape
 have HK : Hid (GR wireE w lo hi (.slice ad ps.length cap) ps ∧ GR wireE w lo' hi' (.slice ad' ps.length cap') ps) := ⟨ha, hb'⟩
 clear ha hb'
 unfold maxLen at h2 h2'
 have hl2 : ((ps.length : Int) != (ps.length : Int)) = false := by simp
 go_enter Tryz.func75, Tryz.ntmps75
 go_wp2_with fail
 go_loopw [5] (fun i wr => ∃ j : Nat, j ≤ ps.length ∧ i = .int .i64 j ∧ Below w.heap.size w wr) (fun i _ => ps.length - (intOf i).toNat)
 case atStart => exact ⟨0, Nat.zero_le _, rfl, Below.refl _ _⟩
 case round =>
  obtain ⟨j, hj, rfl, hb⟩ := hrel
  have hsz := hb.size
  by_cases hlt : j < ps.length
  ·obtain ⟨x, hx⟩ : ∃ x, ps[j]? = some x := ⟨ps[j], List.getElem?_eq_getElem hlt⟩
   obtain ⟨b, off, capx, hv, hb1, hb2, h5⟩ := HK.out.1.at_ hx
   obtain ⟨b', off', capy, hv', hb1', hb2', h5'⟩ := HK.out.2.at_ hx
   simp only [Value.slice.injEq, true_and] at hv hv'
   obtain ⟨rfl, rfl⟩ := hv
   obtain ⟨rfl, rfl⟩ := hv'
   have h5 : CV w b (off + j * 12) (wireC x) := h5
   have h5' : CV w b' (off' + j * 12) (wireC x) := h5'
   clear hx
   go_wp2_with fail
   refine wp_region_dag (R := Grow) (Φ := fun i v u => match i with
     | 0 => v = .slice (some ⟨b, off, none⟩) ps.length cap
     | 1 => v = .int .i64 j
     | 2 => v = .pointer (some ⟨b, off + j * 12, none⟩)
     | 3 => v = .agg (wireC x).toArray
     | 4 => v = .slice (some ⟨b', off', none⟩) ps.length cap'
     | 5 => v = .int .i64 j
     | 6 => v = .pointer (some ⟨b', off' + j * 12, none⟩)
     | 7 => v = .agg (wireC x).toArray
     | 8 => v = .bool true
     | 9 => v = .bool false
     | _ => True) (by kernel_rfl) (by kernel_rfl) (by kernel_rfl) (Below.refl _ _) grow_trans ?_ ?_ ?_
   ·intro i v u u' hr
    match i with
    | 0 | 1 | 2 | 3 | 4 | 5 | 6 | 7 | 8 | 9 | _ + 10 => exact fun h => h
   ·intro i o ho a u hf hR0 he K' hK
    have hR : Grow wr u := (Below.drew (Below.refl _ _)).trans hR0
    have hsz' : a.tmps.size = 27 := hf.size
    have hus : wr.heap.size ≤ u.heap.size := hR.size
    rcases i with _ | _ | _ | _ | _ | _ | _ | _ | _ | _ | i
    ·obtain rfl := si ho
     have q0 : a.tmps.getD 0 undef = .slice (some ⟨b, off, none⟩) ps.length cap := hf.at_ 0 (by kernel_rfl)
     clear he
     go_simp
     exact hK _ _ (Below.refl _ _) (getD_put_self a 17 _ (by show _ < a.tmps.size; omega))
    ·obtain rfl := si ho
     have q5 : a.tmps.getD 5 undef = .int .i64 j := hf.at_ 5 (by kernel_rfl)
     clear he
     go_simp
     exact hK _ _ (Below.refl _ _) (getD_put_self a 18 _ (by show _ < a.tmps.size; omega))
    ·obtain rfl := si ho
     have q17 : a.tmps.getD 17 undef = .slice (some ⟨b, off, none⟩) ps.length cap := he _ (am (i := 0) rfl) (by kernel_rfl) _ rfl
     have q18 : a.tmps.getD 18 undef = .int .i64 j := he _ (am (i := 1) rfl) (by kernel_rfl) _ rfl
     clear he
     go_simp
     exact hK _ _ (Below.refl _ _) (getD_put_self a 19 _ (by show _ < a.tmps.size; omega))
    ·obtain rfl := si ho
     have q19 : a.tmps.getD 19 undef = .pointer (some ⟨b, off + j * 12, none⟩) := he _ (am (i := 0) rfl) (by kernel_rfl) _ rfl
     clear he
     refine wantedG rfl (wp_loadG Tryz.isAgg171 Tryz.sizeOf171 (vs := wireC x) _ rfl q19 rfl (h5.kept ((hb.trans (hR.mono hsz)).block b (by omega))) ?_)
     exact hK _ _ (Below.refl _ _) (getD_put_self a 20 _ (by show _ < a.tmps.size; omega))
    ·obtain rfl := si ho
     have q1 : a.tmps.getD 1 undef = .slice (some ⟨b', off', none⟩) ps.length cap' := hf.at_ 1 (by kernel_rfl)
     clear he
     go_simp
     exact hK _ _ (Below.refl _ _) (getD_put_self a 21 _ (by show _ < a.tmps.size; omega))
    ·obtain rfl := si ho
     have q5 : a.tmps.getD 5 undef = .int .i64 j := hf.at_ 5 (by kernel_rfl)
     clear he
     go_simp
     exact hK _ _ (Below.refl _ _) (getD_put_self a 22 _ (by show _ < a.tmps.size; omega))
    ·obtain rfl := si ho
     have q21 : a.tmps.getD 21 undef = .slice (some ⟨b', off', none⟩) ps.length cap' := he _ (am (i := 0) rfl) (by kernel_rfl) _ rfl
     have q22 : a.tmps.getD 22 undef = .int .i64 j := he _ (am (i := 1) rfl) (by kernel_rfl) _ rfl
     clear he
     go_simp
     exact hK _ _ (Below.refl _ _) (getD_put_self a 23 _ (by show _ < a.tmps.size; omega))
    ·obtain rfl := si ho
     have q23 : a.tmps.getD 23 undef = .pointer (some ⟨b', off' + j * 12, none⟩) := he _ (am (i := 0) rfl) (by kernel_rfl) _ rfl
     clear he
     refine wantedG rfl (wp_loadG Tryz.isAgg171 Tryz.sizeOf171 (vs := wireC x) _ rfl q23 rfl (h5'.kept ((hb.trans (hR.mono hsz)).block b' (by omega))) ?_)
     exact hK _ _ (Below.refl _ _) (getD_put_self a 24 _ (by show _ < a.tmps.size; omega))
    ·obtain rfl := si ho
     have q20 : a.tmps.getD 20 undef = .agg (wireC x).toArray := he _ (am (i := 0) rfl) (by kernel_rfl) _ rfl
     have q24 : a.tmps.getD 24 undef = .agg (wireC x).toArray := he _ (am (i := 1) rfl) (by kernel_rfl) _ rfl
     clear he
     go_simp
     refine (eqWire_same u x).mono ?_
     rintro e1 u' ⟨rfl, hbu⟩
     exact hK _ _ hbu (getD_put_self a 25 _ (by show _ < a.tmps.size; omega))
    ·obtain rfl := si ho
     have q25 : a.tmps.getD 25 undef = .bool true := he _ (am (i := 0) rfl) (by kernel_rfl) _ rfl
     clear he
     go_simp
     exact hK _ _ (Below.refl _ _) (getD_put_self a 26 _ (by show _ < a.tmps.size; omega))
    ·exact absurd ho (by simp)
   ·intro a u hf hR0 hp
    have hR : Grow wr u := (Below.drew (Below.refl _ _)).trans hR0
    have md : a.defers = [] := hf.defers
    have m0 : a.tmps.getD 0 undef = .slice (some ⟨b, off, none⟩) ps.length cap := hf.at_ 0 (by kernel_rfl)
    have m1 : a.tmps.getD 1 undef = .slice (some ⟨b', off', none⟩) ps.length cap' := hf.at_ 1 (by kernel_rfl)
    have m2 : a.tmps.getD 2 undef = undef := hf.at_ 2 (by kernel_rfl)
    have m3 : a.tmps.getD 3 undef = undef := hf.at_ 3 (by kernel_rfl)
    have m5 : a.tmps.getD 5 undef = .int .i64 j := hf.at_ 5 (by kernel_rfl)
    have m6 : a.tmps.getD 6 undef = .slice (some ⟨b, off, none⟩) ps.length cap := hf.at_ 6 (by kernel_rfl)
    have m7 : a.tmps.getD 7 undef = .int .i64 ps.length := hf.at_ 7 (by kernel_rfl)
    have m8 : a.tmps.getD 8 undef = .slice (some ⟨b', off', none⟩) ps.length cap' := hf.at_ 8 (by kernel_rfl)
    have m9 : a.tmps.getD 9 undef = .int .i64 ps.length := hf.at_ 9 (by kernel_rfl)
    have m10 : a.tmps.getD 10 undef = .bool false := hf.at_ 10 (by kernel_rfl)
    have m26 : a.tmps.getD 26 undef = .bool false := hp 9 _ rfl
    obtain ⟨f, ea, hfv⟩ := act_lit a 27 hf.size
    rw [← hfv] at m0 m1 m2 m3 m5 m6 m7 m8 m9 m10 m26
    rw [md] at ea
    simp only [List.range, List.range.loop, List.map_cons, List.map_nil, m0, m1, m2, m3, m5, m6, m7, m8, m9, m10, m26] at ea
    subst ea
    clear hfv hf md hp hR0
    clear h5 h5'
    go_wp2
    go_roundw
    case rel => exact ⟨j + 1, by omega, by go_num, hb.trans (hR.mono hsz)⟩
    case measure => simp [intOf]; omega
  ·obtain rfl : j = ps.length := by omega
   go_wp2
   go_ret
   exact ⟨rfl, hb⟩

set_option maxHeartbeats 4000000 in
theorem eqDriveS_same (w : World) (lo hi lo' hi' : Nat) (va vb : Value) (ps : List DriveD) (ha : GR driveE w lo hi va ps) (hb' : GR driveE w lo' hi' vb ps) (hhi : hi ≤ w.heap.size) (hhi' : hi' ≤ w.heap.size) :
  Calls Tryz.prog 76 #[va, vb] w fun e w' => e = .returned (.bool true) ∧ Below w.heap.size w w' := by
 obtain ⟨ad, cap, rfl, h1, h2⟩ := ha.shape
 obtain ⟨ad', cap', rfl, h1', h2'⟩ := hb'.shape
 have HK : Hid (GR driveE w lo hi (.slice ad ps.length cap) ps ∧ GR driveE w lo' hi' (.slice ad' ps.length cap') ps) := ⟨ha, hb'⟩
 clear ha hb'
 unfold maxLen at h2 h2'
 have hl2 : ((ps.length : Int) != (ps.length : Int)) = false := by simp
 go_enter Tryz.func76, Tryz.ntmps76
 go_wp2_with fail
 go_loopw [5] (fun i wr => ∃ j : Nat, j ≤ ps.length ∧ i = .int .i64 j ∧ Below w.heap.size w wr) (fun i _ => ps.length - (intOf i).toNat)
 case atStart => exact ⟨0, Nat.zero_le _, rfl, Below.refl _ _⟩
 case round =>
  obtain ⟨j, hj, rfl, hb⟩ := hrel
  have hsz := hb.size
  by_cases hlt : j < ps.length
  ·obtain ⟨x, hx⟩ : ∃ x, ps[j]? = some x := ⟨ps[j], List.getElem?_eq_getElem hlt⟩
   obtain ⟨b, off, capx, hv, hb1, hb2, h5⟩ := HK.out.1.at_ hx
   obtain ⟨b', off', capy, hv', hb1', hb2', h5'⟩ := HK.out.2.at_ hx
   simp only [Value.slice.injEq, true_and] at hv hv'
   obtain ⟨rfl, rfl⟩ := hv
   obtain ⟨rfl, rfl⟩ := hv'
   have h5 : CV w b (off + j * 3) (driveC x) := h5
   have h5' : CV w b' (off' + j * 3) (driveC x) := h5'
   clear hx
   go_wp2_with fail
   refine wp_region_dag (R := Grow) (Φ := fun i v u => match i with
     | 0 => v = .slice (some ⟨b, off, none⟩) ps.length cap
     | 1 => v = .int .i64 j
     | 2 => v = .pointer (some ⟨b, off + j * 3, none⟩)
     | 3 => v = .agg (driveC x).toArray
     | 4 => v = .slice (some ⟨b', off', none⟩) ps.length cap'
     | 5 => v = .int .i64 j
     | 6 => v = .pointer (some ⟨b', off' + j * 3, none⟩)
     | 7 => v = .agg (driveC x).toArray
     | 8 => v = .bool true
     | 9 => v = .bool false
     | _ => True) (by kernel_rfl) (by kernel_rfl) (by kernel_rfl) (Below.refl _ _) grow_trans ?_ ?_ ?_
   ·intro i v u u' hr
    match i with
    | 0 | 1 | 2 | 3 | 4 | 5 | 6 | 7 | 8 | 9 | _ + 10 => exact fun h => h
   ·intro i o ho a u hf hR0 he K' hK
    have hR : Grow wr u := (Below.drew (Below.refl _ _)).trans hR0
    have hsz' : a.tmps.size = 27 := hf.size
    have hus : wr.heap.size ≤ u.heap.size := hR.size
    rcases i with _ | _ | _ | _ | _ | _ | _ | _ | _ | _ | i
    ·obtain rfl := si ho
     have q0 : a.tmps.getD 0 undef = .slice (some ⟨b, off, none⟩) ps.length cap := hf.at_ 0 (by kernel_rfl)
     clear he
     go_simp
     exact hK _ _ (Below.refl _ _) (getD_put_self a 17 _ (by show _ < a.tmps.size; omega))
    ·obtain rfl := si ho
     have q5 : a.tmps.getD 5 undef = .int .i64 j := hf.at_ 5 (by kernel_rfl)
     clear he
     go_simp
     exact hK _ _ (Below.refl _ _) (getD_put_self a 18 _ (by show _ < a.tmps.size; omega))
    ·obtain rfl := si ho
     have q17 : a.tmps.getD 17 undef = .slice (some ⟨b, off, none⟩) ps.length cap := he _ (am (i := 0) rfl) (by kernel_rfl) _ rfl
     have q18 : a.tmps.getD 18 undef = .int .i64 j := he _ (am (i := 1) rfl) (by kernel_rfl) _ rfl
     clear he
     go_simp
     exact hK _ _ (Below.refl _ _) (getD_put_self a 19 _ (by show _ < a.tmps.size; omega))
    ·obtain rfl := si ho
     have q19 : a.tmps.getD 19 undef = .pointer (some ⟨b, off + j * 3, none⟩) := he _ (am (i := 0) rfl) (by kernel_rfl) _ rfl
     clear he
     refine wantedG rfl (wp_loadG Tryz.isAgg173 Tryz.sizeOf173 (vs := driveC x) _ rfl q19 rfl (h5.kept ((hb.trans (hR.mono hsz)).block b (by omega))) ?_)
     exact hK _ _ (Below.refl _ _) (getD_put_self a 20 _ (by show _ < a.tmps.size; omega))
    ·obtain rfl := si ho
     have q1 : a.tmps.getD 1 undef = .slice (some ⟨b', off', none⟩) ps.length cap' := hf.at_ 1 (by kernel_rfl)
     clear he
     go_simp
     exact hK _ _ (Below.refl _ _) (getD_put_self a 21 _ (by show _ < a.tmps.size; omega))
    ·obtain rfl := si ho
     have q5 : a.tmps.getD 5 undef = .int .i64 j := hf.at_ 5 (by kernel_rfl)
     clear he
     go_simp
     exact hK _ _ (Below.refl _ _) (getD_put_self a 22 _ (by show _ < a.tmps.size; omega))
    ·obtain rfl := si ho
     have q21 : a.tmps.getD 21 undef = .slice (some ⟨b', off', none⟩) ps.length cap' := he _ (am (i := 0) rfl) (by kernel_rfl) _ rfl
     have q22 : a.tmps.getD 22 undef = .int .i64 j := he _ (am (i := 1) rfl) (by kernel_rfl) _ rfl
     clear he
     go_simp
     exact hK _ _ (Below.refl _ _) (getD_put_self a 23 _ (by show _ < a.tmps.size; omega))
    ·obtain rfl := si ho
     have q23 : a.tmps.getD 23 undef = .pointer (some ⟨b', off' + j * 3, none⟩) := he _ (am (i := 0) rfl) (by kernel_rfl) _ rfl
     clear he
     refine wantedG rfl (wp_loadG Tryz.isAgg173 Tryz.sizeOf173 (vs := driveC x) _ rfl q23 rfl (h5'.kept ((hb.trans (hR.mono hsz)).block b' (by omega))) ?_)
     exact hK _ _ (Below.refl _ _) (getD_put_self a 24 _ (by show _ < a.tmps.size; omega))
    ·obtain rfl := si ho
     have q20 : a.tmps.getD 20 undef = .agg (driveC x).toArray := he _ (am (i := 0) rfl) (by kernel_rfl) _ rfl
     have q24 : a.tmps.getD 24 undef = .agg (driveC x).toArray := he _ (am (i := 1) rfl) (by kernel_rfl) _ rfl
     clear he
     go_simp
     refine (eqDrive_same u x).mono ?_
     rintro e1 u' ⟨rfl, hbu⟩
     exact hK _ _ hbu (getD_put_self a 25 _ (by show _ < a.tmps.size; omega))
    ·obtain rfl := si ho
     have q25 : a.tmps.getD 25 undef = .bool true := he _ (am (i := 0) rfl) (by kernel_rfl) _ rfl
     clear he
     go_simp
     exact hK _ _ (Below.refl _ _) (getD_put_self a 26 _ (by show _ < a.tmps.size; omega))
    ·exact absurd ho (by simp)
   ·intro a u hf hR0 hp
    have hR : Grow wr u := (Below.drew (Below.refl _ _)).trans hR0
    have md : a.defers = [] := hf.defers
    have m0 : a.tmps.getD 0 undef = .slice (some ⟨b, off, none⟩) ps.length cap := hf.at_ 0 (by kernel_rfl)
    have m1 : a.tmps.getD 1 undef = .slice (some ⟨b', off', none⟩) ps.length cap' := hf.at_ 1 (by kernel_rfl)
    have m2 : a.tmps.getD 2 undef = undef := hf.at_ 2 (by kernel_rfl)
    have m3 : a.tmps.getD 3 undef = undef := hf.at_ 3 (by kernel_rfl)
    have m5 : a.tmps.getD 5 undef = .int .i64 j := hf.at_ 5 (by kernel_rfl)
    have m6 : a.tmps.getD 6 undef = .slice (some ⟨b, off, none⟩) ps.length cap := hf.at_ 6 (by kernel_rfl)
    have m7 : a.tmps.getD 7 undef = .int .i64 ps.length := hf.at_ 7 (by kernel_rfl)
    have m8 : a.tmps.getD 8 undef = .slice (some ⟨b', off', none⟩) ps.length cap' := hf.at_ 8 (by kernel_rfl)
    have m9 : a.tmps.getD 9 undef = .int .i64 ps.length := hf.at_ 9 (by kernel_rfl)
    have m10 : a.tmps.getD 10 undef = .bool false := hf.at_ 10 (by kernel_rfl)
    have m26 : a.tmps.getD 26 undef = .bool false := hp 9 _ rfl
    obtain ⟨f, ea, hfv⟩ := act_lit a 27 hf.size
    rw [← hfv] at m0 m1 m2 m3 m5 m6 m7 m8 m9 m10 m26
    rw [md] at ea
    simp only [List.range, List.range.loop, List.map_cons, List.map_nil, m0, m1, m2, m3, m5, m6, m7, m8, m9, m10, m26] at ea
    subst ea
    clear hfv hf md hp hR0
    clear h5 h5'
    go_wp2
    go_roundw
    case rel => exact ⟨j + 1, by omega, by go_num, hb.trans (hR.mono hsz)⟩
    case measure => simp [intOf]; omega
  ·obtain rfl : j = ps.length := by omega
   go_wp2
   go_ret
   exact ⟨rfl, hb⟩

set_option maxHeartbeats 2000000 in
theorem eqNet_same (w : World) (lo hi lo' hi' : Nat) (va vb : Value) (n : NetD) (ha : NI w lo hi va n) (hb : NI w lo' hi' vb n) (hhi : hi ≤ w.heap.size) (hhi' : hi' ≤ w.heap.size) :
  Calls Tryz.prog 18 #[va, vb] w fun e w' => e = .returned (.bool true) ∧ Below w.heap.size w w' := by
 obtain ⟨xa, xb, rfl, hxa, hxb⟩ := ha
 obtain ⟨ya, yb, rfl, hya, hyb⟩ := hb
 obtain ⟨ad1, cap1, rfl, _, _⟩ := hxa.shape
 obtain ⟨ad2, cap2, rfl, _, _⟩ := hxb.shape
 obtain ⟨ad3, cap3, rfl, _, _⟩ := hya.shape
 obtain ⟨ad4, cap4, rfl, _, _⟩ := hyb.shape
 have HK : Hid ((GR wireE w lo hi (.slice ad1 n.ws.length cap1) n.ws ∧ GR driveE w lo hi (.slice ad2 n.ds.length cap2) n.ds) ∧ (GR wireE w lo' hi' (.slice ad3 n.ws.length cap3) n.ws ∧ GR driveE w lo' hi' (.slice ad4 n.ds.length cap4) n.ds)) := ⟨⟨hxa, hxb⟩, hya, hyb⟩
 clear hxa hxb hya hyb
 go_enter Tryz.func18, Tryz.ntmps18
 go_wp2_with (refine wpList_boxG (vs := [.slice ad1 n.ws.length cap1, .slice ad2 n.ds.length cap2]) rfl _ rfl rfl ?_)
 intro u1 g1 p1 s1
 go_wp2_with (refine wpList_boxG (vs := [.slice ad3 n.ws.length cap3, .slice ad4 n.ds.length cap4]) rfl _ rfl rfl ?_)
 intro u2 g2 q2 s2
 have p2 := p1.below g2 (by omega)
 have G2 := g1.trans (g2.mono (by omega))
 clear g1 g2 p1
 have c0 : u2.cell? ⟨w.heap.size, 0, none⟩ = some (.slice ad1 n.ws.length cap1) := p2.c 0 _ rfl
 have d0 : u2.cell? ⟨w.heap.size + 1, 0, none⟩ = some (.slice ad3 n.ws.length cap3) := q2.c 0 _ rfl
 go_wp2_with fail
 clear c0 d0
 refine (eqWireS_same _ _ _ _ _ _ _ n.ws (HK.out.1.1.under G2 hhi) (HK.out.2.1.under G2 hhi') (by omega) (by omega)).mono ?_
 rintro e3 u3 ⟨rfl, g3⟩
 have z3 := g3.size
 have c1 : u3.cell? ⟨w.heap.size, 1, none⟩ = some (.slice ad2 n.ds.length cap2) := (p2.below g3 (by omega)).c 1 _ rfl
 have d1 : u3.cell? ⟨w.heap.size + 1, 1, none⟩ = some (.slice ad4 n.ds.length cap4) := (q2.below g3 (by omega)).c 1 _ rfl
 have G3 := G2.trans (g3.mono (by omega))
 clear g3 G2 p2 q2
 go_wp2_with fail
 clear c1 d1
 refine (eqDriveS_same _ _ _ _ _ _ _ n.ds (HK.out.1.2.under G3 hhi) (HK.out.2.2.under G3 hhi') (by omega) (by omega)).mono ?_
 rintro e4 u4 ⟨rfl, g4⟩
 have G4 := G3.trans (g4.mono (by omega))
 clear g4 G3
 go_wp2
 go_ret
 exact ⟨rfl, G4⟩

end Go.Proofs.YtaoiookfmgpmkaaGreatDoor
