import Derived.Test.YtaoiookfmgpmkaaGreatDoorQM23
import Derived.Test.YtaoiookfmgpmkaaGreatDoorNetImplB

/-
 The program's drives: drivesOk.
-/
namespace Go.Proofs.YtaoiookfmgpmkaaGreatDoor
open Go.ChangeShapes Go.WideShapes Go.ChangeAt Go.RowKit
set_option linter.unusedVariables false
set_option linter.unusedSimpArgs false
set_option maxRecDepth 100000

theorem kindOk_of {k t : Int} (h : addrOk ⟨k, t⟩ = true) : kindOk k = true := by
 rw [kindOk_addr] at h
 simp only [Bool.and_eq_true] at h
 exact h.1.1

theorem zero_driveG : (Tryz.prog.info? 173).map (fun i => (i.zero, i.size)) = some (some (.agg (driveC ⟨0, 0, 0⟩).toArray), 3) := by kernel_rfl

set_option maxHeartbeats 8000000 in
theorem iDrivesOk_any (w : World) (lo hi : Nat) (v : Value) (ds : List DriveD) (n : Nat) (h : GR driveE w lo hi v ds) (hhi : hi ≤ w.heap.size) :
  Calls Tryz.prog 186 #[v, .int .i64 n] w fun e w' => e = .returned (.bool (drivesOk ds n)) ∧ Below w.heap.size w w' := by
 obtain ⟨R, hR⟩ : ∃ R, drivesOk ds n = R := ⟨_, rfl⟩
 rw [hR]
 have HR : Hid (drivesOk ds n = R) := hR
 clear hR
 obtain ⟨ad, cap, rfl, h1, h2⟩ := h.shape
 have HK : Hid (GR driveE w lo hi (.slice ad ds.length cap) ds) := h
 clear h
 unfold maxLen at h2
 have hZ := (zero_of_info (P := Tryz.prog) zero_driveG).1
 go_enter Tryz.func186, Tryz.ntmps186
 go_wp2_with fail
 go_loopw [10] (fun i wr => ∃ j : Nat, j ≤ ds.length ∧ i = .int .i64 j ∧ Below w.heap.size w wr ∧ DrivesTo ds n j) (fun i _ => ds.length - (intOf i).toNat)
 case atStart => exact ⟨0, Nat.zero_le _, rfl, Below.refl _ _, fun i y hi _ => by omega⟩
 case round =>
  obtain ⟨j, hj, rfl, hb, hto⟩ := hrel
  have HT : Hid (DrivesTo ds n j) := hto
  clear hto
  have hsz := hb.size
  by_cases hlt : j < ds.length
  rotate_left
  ·obtain rfl : j = ds.length := by omega
   have HF : Hid (R = true) := by
    show R = true
    rw [← HR.out]
    exact drivesOk_of fun i d hd => HT.out i d (List.getElem?_eq_some_iff.mp hd).1 hd
   clear hZ
   go_wp2
   go_ret
   exact ⟨ret_bool HF.out.symm, hb⟩
  obtain ⟨d, hd⟩ : ∃ d, ds[j]? = some d := ⟨ds[j], List.getElem?_eq_getElem hlt⟩
  obtain ⟨b, off, capx, hv, hb1, hb2, h5⟩ := HK.out.at_ hd
  simp only [Value.slice.injEq, true_and] at hv
  obtain ⟨rfl, rfl⟩ := hv
  have h5 : CV wr b (off + j * 3) (driveC d) := h5.below hb (by omega)
  have HX : Hid (ds[j]? = some d) := hd
  clear hd
  go_wp2_with (first
   | refine wpList_loadG Tryz.isAgg173 Tryz.sizeOf173 _ rfl rfl rfl rfl h5 ?_
   | refine wpList_allocG hZ rfl rfl ?_)
  intro u1 g1 q1 s1
  clear h5
  have hr3 := q1.run 0 3 (show 0 + 3 ≤ 3 by decide)
  go_wp2_with (refine wpList_storeG Tryz.sizeOf173 _ _ rfl rfl rfl rfl rfl (driveC_one d) hr3.1 hr3.2 ?_)
  intro u2 L
  have q2 := L.var q1
  have s2 := L.size
  have G2 : Below w.heap.size w u2 := L.below _ _ (by omega) (hb.trans (g1.mono (by omega)))
  obtain ⟨DB, hDB⟩ : ∃ DB, wr.heap.size = DB := ⟨_, rfl⟩
  rw [hDB] at q2 ⊢
  have hDB2 : DB < u2.heap.size := by omega
  clear s1 s2 hDB hsz L hr3 q1 g1 hb hZ
  have hCF := containsFunc_any u2 lo hi _ (ds.take j) d DB ((HK.out.under G2 hhi).take j (by omega)) (by have := G2.size; omega) q2 hDB2
  obtain ⟨fr, hfr⟩ : ∃ fr, freshD (ds.take j) d = fr := ⟨_, rfl⟩
  rw [hfr] at hCF
  have HFR : Hid (freshD (ds.take j) d = fr) := hfr
  clear hfr
  unfold sameF_ at hCF
  go_wp2_with fail
  refine hCF.mono ?_
  clear hCF
  rintro e3 u3 ⟨rfl, g3⟩
  have q3 := q2.below g3 hDB2
  have G3 : Below w.heap.size w u3 := G2.trans (g3.mono (by have := G2.size; omega))
  have hDB3 : DB < u3.heap.size := by have := g3.size; omega
  clear q2 G2 g3 hDB2
  cases fr
  ·have HF : Hid (R = false) := by show R = false; rw [← HR.out]; exact drivesOk_false HX.out (by rw [HFR.out, Bool.and_false])
   go_wp2
   go_ret
   exact ⟨ret_bool HF.out.symm, G3⟩
  have k0 : u3.cell? ⟨DB, 0, none⟩ = some (.int .i64 d.tk) := q3.c 0 _ rfl
  have k1 : u3.cell? ⟨DB, 1, none⟩ = some (.int .i64 d.ta) := q3.c 1 _ rfl
  have hA := iAddrOk_any u3 d.tk d.ta
  unfold AddrD.val at hA
  go_wp2_with fail
  clear k0 k1
  refine hA.mono ?_
  clear hA
  rintro e4 u4 ⟨rfl, g4⟩
  have q4 := q3.below g4 hDB3
  have G4 : Below w.heap.size w u4 := G3.trans (g4.mono (by have := G3.size; omega))
  clear q3 G3 g4 hDB3
  cases hok : addrOk ⟨d.tk, d.ta⟩ with
  | false =>
   have HF : Hid (R = false) := by show R = false; rw [← HR.out]; exact drivesOk_false HX.out (by unfold driveOk; rw [hok]; rfl)
   clear hok
   go_wp2
   go_ret
   exact ⟨ret_bool HF.out.symm, G4⟩
  | true =>
  have HOK : Hid (addrOk ⟨d.tk, d.ta⟩ = true) := hok
  have hkk := kindOk_of hok
  clear hok
  have hT := fun u => takes_any u d.tk
  rw [hkk, Bool.true_and] at hT
  clear hkk
  have hI := fun u => wireIn_any u d.wire n
  have k0 : u4.cell? ⟨DB, 0, none⟩ = some (.int .i64 d.tk) := q4.c 0 _ rfl
  have k2 : u4.cell? ⟨DB, 2, none⟩ = some (.int .i64 d.wire) := q4.c 2 _ rfl
  obtain ⟨tk, htk⟩ : ∃ tk, (d.tk != 1) = tk := ⟨_, rfl⟩
  rw [htk] at hT
  have HTK : Hid ((d.tk != 1) = tk) := htk
  clear htk
  obtain ⟨wi, hwi⟩ : ∃ wi, (decide (0 ≤ d.wire) && decide (d.wire < (n : Int))) = wi := ⟨_, rfl⟩
  rw [hwi] at hI
  have HWI : Hid ((decide (0 ≤ d.wire) && decide (d.wire < (n : Int))) = wi) := hwi
  clear hwi
  have HD : Hid (driveOk d n = (tk && wi)) := by show _ = _; unfold driveOk; rw [HOK.out, HTK.out, HWI.out, Bool.true_and]
  cases tk
  ·have HF : Hid (R = false) := by show R = false; rw [← HR.out]; exact drivesOk_false HX.out (by rw [HD.out]; rfl)
   go_wp2_with fail
   refine (hT _).mono ?_
   rintro e5 u5 ⟨rfl, rfl⟩
   go_wp2
   go_ret
   exact ⟨ret_bool HF.out.symm, G4⟩
  go_wp2_with fail
  refine (hT _).mono ?_
  rintro e5 u5 ⟨rfl, rfl⟩
  go_wp2_with fail
  refine (hI _).mono ?_
  rintro e6 u6 ⟨rfl, rfl⟩
  clear hT hI k0 k2 q4
  cases wi
  ·have HF : Hid (R = false) := by show R = false; rw [← HR.out]; exact drivesOk_false HX.out (by rw [HD.out]; rfl)
   go_wp2
   go_ret
   exact ⟨ret_bool HF.out.symm, G4⟩
  ·have HN : Hid (DrivesTo ds n (j + 1)) := drives_next HT.out HX.out HD.out HFR.out
   go_wp2
   go_roundw
   case rel => exact ⟨j + 1, by omega, by go_num, G4, HN.out⟩
   case measure => simp [intOf]; omega
end Go.Proofs.YtaoiookfmgpmkaaGreatDoor

/-
 The program's NetOk. (Written by our generator gen_netimplh.py.)
-/
namespace Go.Proofs.YtaoiookfmgpmkaaGreatDoor
open Go.ChangeShapes Go.WideShapes Go.ChangeAt Go.RowKit
set_option linter.unusedVariables false
set_option linter.unusedSimpArgs false
set_option maxRecDepth 100000

set_option maxHeartbeats 16000000 in
theorem iNetOk_any (w : World) (hF : FormsAt w) (v : Value) (lo hi : Nat) (n : NetD) (h : NI w lo hi v n) (hhi : hi ≤ w.heap.size) :
  Calls Tryz.prog 109 #[v] w fun e w' => e = .returned (.bool (netOk n)) ∧ Below w.heap.size w w' := by
 obtain ⟨R, hR⟩ : ∃ R, netOk n = R := ⟨_, rfl⟩
 rw [hR]
 have HR : Hid (netOk n = R) := hR
 clear hR
 obtain ⟨va, vb, rfl, hxa, hxb⟩ := h
 obtain ⟨ad, cap, rfl, k1, k1'⟩ := hxa.shape
 obtain ⟨add, capd, rfl, k2, k2'⟩ := hxb.shape
 unfold maxLen at k1' k2'
 have HA : Hid (GR wireE w lo hi (.slice ad n.ws.length cap) n.ws) := hxa
 have HD : Hid (GR driveE w lo hi (.slice add n.ds.length capd) n.ds) := hxb
 clear hxa hxb
 by_cases l1 : 8 < n.ws.length
 ·have HFF : Hid (R = false) := by show R = false; rw [← HR.out]; exact netOk_big l1
  have l1' : (8 : Int) < (n.ws.length : Int) := by omega
  go_enter Tryz.func109, Tryz.ntmps109
  go_wp2_with (refine wpList_boxG (vs := [.slice ad n.ws.length cap, .slice add n.ds.length capd]) rfl _ rfl rfl ?_)
  intro w0 g0 pv s0
  have c0 : w0.cell? ⟨w.heap.size, 0, none⟩ = some (.slice ad n.ws.length cap) := pv.c 0 _ rfl
  have c1 : w0.cell? ⟨w.heap.size, 1, none⟩ = some (.slice add n.ds.length capd) := pv.c 1 _ rfl
  clear pv HA HD hF
  go_wp2
  go_ret
  exact ⟨ret_bool HFF.out.symm, g0⟩
 by_cases l2 : 4 < n.ds.length
 ·have HFF : Hid (R = false) := by show R = false; rw [← HR.out]; exact netOk_big2 l2
  have l2' : (4 : Int) < (n.ds.length : Int) := by omega
  have l1' : ¬ (8 : Int) < (n.ws.length : Int) := by omega
  go_enter Tryz.func109, Tryz.ntmps109
  go_wp2_with (refine wpList_boxG (vs := [.slice ad n.ws.length cap, .slice add n.ds.length capd]) rfl _ rfl rfl ?_)
  intro w0 g0 pv s0
  have c0 : w0.cell? ⟨w.heap.size, 0, none⟩ = some (.slice ad n.ws.length cap) := pv.c 0 _ rfl
  have c1 : w0.cell? ⟨w.heap.size, 1, none⟩ = some (.slice add n.ds.length capd) := pv.c 1 _ rfl
  clear pv HA HD hF
  go_wp2
  go_ret
  exact ⟨ret_bool HFF.out.symm, g0⟩
 have l1' : ¬ (8 : Int) < (n.ws.length : Int) := by omega
 have l2' : ¬ (4 : Int) < (n.ds.length : Int) := by omega
 have HL : Hid (n.ws.length ≤ 8 ∧ n.ds.length ≤ 4) := ⟨by omega, by omega⟩
 clear l1 l2
 have hZ := (zero_of_info (P := Tryz.prog) zero_wireB).1
 go_enter Tryz.func109, Tryz.ntmps109
 go_wp2_with (refine wpList_boxG (vs := [.slice ad n.ws.length cap, .slice add n.ds.length capd]) rfl _ rfl rfl ?_)
 intro w0 g0 pv s0
 have c0 : w0.cell? ⟨w.heap.size, 0, none⟩ = some (.slice ad n.ws.length cap) := pv.c 0 _ rfl
 have c1 : w0.cell? ⟨w.heap.size, 1, none⟩ = some (.slice add n.ds.length capd) := pv.c 1 _ rfl
 go_wp2_with fail
 clear c0 c1
 replace HA : Hid (GR wireE w0 lo hi (.slice ad n.ws.length cap) n.ws) := HA.out.under g0 hhi
 replace HD : Hid (GR driveE w0 lo hi (.slice add n.ds.length capd) n.ds) := HD.out.under g0 hhi
 have hhi0 : hi ≤ w0.heap.size := by omega
 replace hF := hF.grow g0
 go_loopw [18] (fun i wr => ∃ j : Nat, j ≤ n.ws.length ∧ i = .int .i64 j ∧ Below w0.heap.size w0 wr ∧ WiresTo n.ws n.ws.length j) (fun i _ => n.ws.length - (intOf i).toNat)
 case atStart => exact ⟨0, Nat.zero_le _, rfl, Below.refl _ _, fun i y hi _ => by omega⟩
 case round =>
  obtain ⟨j, hj, rfl, hb, hto⟩ := hrel
  have HT : Hid (WiresTo n.ws n.ws.length j) := hto
  clear hto
  have hsz := hb.size
  by_cases hlt : j < n.ws.length
  ·obtain ⟨x, hx⟩ : ∃ x, n.ws[j]? = some x := ⟨n.ws[j], List.getElem?_eq_getElem hlt⟩
   obtain ⟨b, off, capx, hv, hb1, hb2, h5⟩ := HA.out.at_ hx
   simp only [Value.slice.injEq, true_and] at hv
   obtain ⟨rfl, rfl⟩ := hv
   have h5 : CV wr b (off + j * 12) (wireC x) := h5.below hb (by omega)
   have HX : Hid (n.ws[j]? = some x) := hx
   clear hx
   go_wp2_with (first
    | refine wpList_loadG Tryz.isAgg171 Tryz.sizeOf171 _ rfl rfl rfl rfl h5 ?_
    | refine wpList_allocG hZ rfl rfl ?_)
   intro u1 g1 q1 s1
   clear h5
   have hr12 := q1.run 0 12 (show 0 + 12 ≤ 12 by decide)
   go_wp2_with (refine wpList_storeG Tryz.sizeOf171 _ _ rfl rfl rfl rfl rfl (wireC_one x) hr12.1 hr12.2 ?_)
   intro u2 L
   have q2 := L.var q1
   have s2 := L.size
   have G2 : Below w0.heap.size w0 u2 := L.below _ _ (by omega) (hb.trans (g1.mono (by omega)))
   have hc : CV u2 wr.heap.size 0 (wireC x) := q2.c
   have c0 : u2.cell? ⟨w.heap.size, 0, none⟩ = some (.slice (some ⟨b, off, none⟩) n.ws.length cap) := (pv.below G2 (by omega)).c 0 _ rfl
   clear L q1 g1 hr12 hb q2
   go_wp2_with (refine wpList_loadG Tryz.isAgg171 Tryz.sizeOf171 _ rfl rfl rfl rfl hc ?_)
   clear hc c0
   refine (iWireOk_any u2 x n.ws.length (hF.grow G2)).mono ?_
   obtain ⟨c, hc⟩ : ∃ c, wireOk x n.ws.length = c := ⟨_, rfl⟩
   rw [hc]
   rintro e3 u3 ⟨rfl, g3⟩
   have G3 : Below w0.heap.size w0 u3 := G2.trans (g3.mono (by omega))
   clear g3 G2 hsz
   cases c
   ·have HFF : Hid (R = false) := by show R = false; rw [← HR.out]; exact netOk_wire HX.out hc
    clear hc
    go_wp2
    go_ret
    exact ⟨ret_bool HFF.out.symm, g0.trans (G3.mono (by omega))⟩
   ·have HN : Hid (WiresTo n.ws n.ws.length (j + 1)) := wires_next HT.out HX.out hc
    clear hc
    go_wp2
    go_roundw
    case rel => exact ⟨j + 1, by omega, by go_num, G3, HN.out⟩
    case measure => simp [intOf]; omega
  ·obtain rfl : j = n.ws.length := by omega
   have hO := fun u (b : Below w0.heap.size w0 u) => told_any u lo hi _ n.ws (HA.out.under b (by omega)) (Nat.le_trans hhi0 b.size) (by omega) (fun x hx => by
    obtain ⟨k, hk⟩ := List.mem_iff_getElem?.mp hx
    exact HT.out k x (List.getElem?_eq_some_iff.mp hk).1 hk)
   have hDr := fun u (b : Below w0.heap.size w0 u) => iDrivesOk_any u lo hi _ n.ds n.ws.length (HD.out.under b (by omega)) (Nat.le_trans hhi0 b.size)
   obtain ⟨g, hg⟩ : ∃ g, drivesOk n.ds n.ws.length = g := ⟨_, rfl⟩
   obtain ⟨c, hc⟩ : ∃ c, (((orderW n.ws).length : Int) == (n.ws.length : Int)) = c := ⟨_, rfl⟩
   rw [hg] at hDr
   have HCN : Hid (R = (g && c)) := by
    show R = (g && c)
    rw [← HR.out]
    cases g
    ·rw [netOk_drives hg]; rfl
    ·rw [netOk_end HL.out.1 HL.out.2 (fun i x hx => HT.out i x (List.getElem?_eq_some_iff.mp hx).1 hx) hg, Bool.true_and, ← hc, Bool.eq_iff_iff]
     simp only [beq_iff_eq]
     omega
   have HCC : Hid ((((orderW n.ws).length : Int) == (n.ws.length : Int)) = c) := hc
   clear hc hg HT hF hZ
   go_wp2_with fail
   refine wp_region_dag (R := Grow) (Φ := fun i v u => match i with
     | 0 => v = .pointer (some ⟨w.heap.size, 1, none⟩)
     | 1 => v = .slice add n.ds.length capd
     | 2 => v = .pointer (some ⟨w.heap.size, 0, none⟩)
     | 3 => v = .slice ad n.ws.length cap
     | 4 => v = .int .i64 n.ws.length
     | 5 => v = .bool g
     | 6 => v = .bool g
     | 7 => v = cond g (.pointer (some ⟨w.heap.size, 0, none⟩)) undef
     | 8 => v = cond g (.slice ad n.ws.length cap) undef
     | 9 => g = true → ∃ ad9 cap9, v = .slice ad9 (orderW n.ws).length cap9
     | 10 => v = cond g (.int .i64 (orderW n.ws).length) undef
     | 11 => v = cond g (.pointer (some ⟨w.heap.size, 0, none⟩)) undef
     | 12 => v = cond g (.slice ad n.ws.length cap) undef
     | 13 => v = cond g (.int .i64 n.ws.length) undef
     | 14 => v = cond g (.bool c) undef
     | 15 => v = .bool (g && c)
     | 16 => v = .bool (g && c)
     | _ => True) (by kernel_rfl) (by kernel_rfl) (by kernel_rfl) (Below.refl _ _) grow_trans ?_ ?_ ?_
   ·intro i v u u' hr
    match i with
    | 0 | 1 | 2 | 3 | 4 | 5 | 6 | 7 | 8 | 10 | 11 | 12 | 13 | 14 | 15 | 16 | _ + 17 => exact fun h => h
    | 9 => exact fun h => h
   ·intro i o ho a u hf hR0 he K' hK
    have hR : Grow wr u := (Below.drew (Below.refl _ _)).trans hR0
    have hsz' : a.tmps.size = 45 := hf.size
    have hus := hR.size
    rcases i with _ | _ | _ | _ | _ | _ | _ | _ | _ | _ | _ | _ | _ | _ | _ | _ | _ | i
    ·obtain rfl := si ho
     have q1 : a.tmps.getD 1 undef = .pointer (some ⟨w.heap.size, 0, none⟩) := hf.at_ 1 (by kernel_rfl)
     clear he
     go_simp
     exact hK _ _ (Below.refl _ _) (getD_put_self a 29 _ (by show _ < a.tmps.size; omega))
    ·obtain rfl := si ho
     have q29 : a.tmps.getD 29 undef = .pointer (some ⟨w.heap.size, 1, none⟩) := he _ (am (i := 0) rfl) (by kernel_rfl) _ rfl
     clear he
     have cc : u.cell? ⟨w.heap.size, 1, none⟩ = some (.slice add n.ds.length capd) := (pv.below (hb.trans (hR.mono hsz)) (by omega)).c 1 _ rfl
     go_simp
     exact hK _ _ (Below.refl _ _) (getD_put_self a 30 _ (by show _ < a.tmps.size; omega))
    ·obtain rfl := si ho
     have q1 : a.tmps.getD 1 undef = .pointer (some ⟨w.heap.size, 0, none⟩) := hf.at_ 1 (by kernel_rfl)
     clear he
     go_simp
     exact hK _ _ (Below.refl _ _) (getD_put_self a 31 _ (by show _ < a.tmps.size; omega))
    ·obtain rfl := si ho
     have q31 : a.tmps.getD 31 undef = .pointer (some ⟨w.heap.size, 0, none⟩) := he _ (am (i := 0) rfl) (by kernel_rfl) _ rfl
     clear he
     have cc : u.cell? ⟨w.heap.size, 0, none⟩ = some (.slice ad n.ws.length cap) := (pv.below (hb.trans (hR.mono hsz)) (by omega)).c 0 _ rfl
     go_simp
     exact hK _ _ (Below.refl _ _) (getD_put_self a 32 _ (by show _ < a.tmps.size; omega))
    ·obtain rfl := si ho
     have q32 : a.tmps.getD 32 undef = .slice ad n.ws.length cap := he _ (am (i := 0) rfl) (by kernel_rfl) _ rfl
     clear he
     go_simp
     exact hK _ _ (Below.refl _ _) (getD_put_self a 33 _ (by show _ < a.tmps.size; omega))
    ·obtain rfl := si ho
     have q30 : a.tmps.getD 30 undef = .slice add n.ds.length capd := he _ (am (i := 0) rfl) (by kernel_rfl) _ rfl
     have q33 : a.tmps.getD 33 undef = .int .i64 n.ws.length := he _ (am (i := 1) rfl) (by kernel_rfl) _ rfl
     clear he
     go_simp
     refine (hDr u (hb.trans (hR.mono hsz))).mono ?_
     rintro e1 u' ⟨rfl, hbu⟩
     exact hK _ _ hbu (getD_put_self a 34 _ (by show _ < a.tmps.size; omega))
    ·obtain rfl := si ho
     have q34 : a.tmps.getD 34 undef = .bool g := he _ (am (i := 0) rfl) (by kernel_rfl) _ rfl
     clear he
     go_simp
     exact hK _ _ (Below.refl _ _) (getD_put_self a 35 _ (by show _ < a.tmps.size; omega))
    ·obtain rfl := si ho
     have qg : a.tmps.getD 35 undef = .bool g := he _ (am (i := 0) rfl) (by kernel_rfl) _ rfl
     cases g with
     | false =>
      refine wanted_off rfl (yielded_g (i := 6) rfl rfl (by show 35 < a.tmps.size; omega) qg) ?_
      exact hK undef u (Below.refl _ _) (getD_put_self a 36 _ (by show _ < a.tmps.size; omega))
     | true =>
      have q1 : a.tmps.getD 1 undef = .pointer (some ⟨w.heap.size, 0, none⟩) := hf.at_ 1 (by kernel_rfl)
      clear he
      refine wanted_on rfl (yielded_g (i := 6) rfl rfl (by show 35 < a.tmps.size; omega) qg) ?_
      go_simp
      exact hK _ _ (Below.refl _ _) (getD_put_self a 36 _ (by show _ < a.tmps.size; omega))
    ·obtain rfl := si ho
     have qg : a.tmps.getD 35 undef = .bool g := he _ (am (i := 1) rfl) (by kernel_rfl) _ rfl
     cases g with
     | false =>
      refine wanted_off rfl (yielded_g (i := 6) rfl rfl (by show 35 < a.tmps.size; omega) qg) ?_
      exact hK undef u (Below.refl _ _) (getD_put_self a 37 _ (by show _ < a.tmps.size; omega))
     | true =>
      have q36 : a.tmps.getD 36 undef = .pointer (some ⟨w.heap.size, 0, none⟩) := he _ (am (i := 0) rfl) (by kernel_rfl) _ rfl
      clear he
      have cc : u.cell? ⟨w.heap.size, 0, none⟩ = some (.slice ad n.ws.length cap) := (pv.below (hb.trans (hR.mono hsz)) (by omega)).c 0 _ rfl
      refine wanted_on rfl (yielded_g (i := 6) rfl rfl (by show 35 < a.tmps.size; omega) qg) ?_
      go_simp
      exact hK _ _ (Below.refl _ _) (getD_put_self a 37 _ (by show _ < a.tmps.size; omega))
    ·obtain rfl := si ho
     have qg : a.tmps.getD 35 undef = .bool g := he _ (am (i := 1) rfl) (by kernel_rfl) _ rfl
     cases g with
     | false =>
      refine wanted_off rfl (yielded_g (i := 6) rfl rfl (by show 35 < a.tmps.size; omega) qg) ?_
      exact hK undef u (Below.refl _ _) (fun h => by cases h)
     | true =>
      have q37 : a.tmps.getD 37 undef = .slice ad n.ws.length cap := he _ (am (i := 0) rfl) (by kernel_rfl) _ rfl
      clear he
      refine wanted_on rfl (yielded_g (i := 6) rfl rfl (by show 35 < a.tmps.size; omega) qg) ?_
      go_simp
      refine (hO u (hb.trans (hR.mono hsz))).mono ?_
      rintro e1 u' ⟨v9, rfl, hR9, hbu⟩
      obtain ⟨ad9, cap9, hv9, _, _⟩ := hR9.shape; exact hK _ _ hbu (fun _ => ⟨ad9, cap9, by rw [List.length_map] at hv9; rw [← hv9]; exact getD_put_self a 38 _ (by show _ < a.tmps.size; omega)⟩)
    ·obtain rfl := si ho
     have qg : a.tmps.getD 35 undef = .bool g := he _ (am (i := 1) rfl) (by kernel_rfl) _ rfl
     cases g with
     | false =>
      refine wanted_off rfl (yielded_g (i := 6) rfl rfl (by show 35 < a.tmps.size; omega) qg) ?_
      exact hK undef u (Below.refl _ _) (getD_put_self a 39 _ (by show _ < a.tmps.size; omega))
     | true =>
      obtain ⟨ad9, cap9, q38⟩ := he _ (am (i := 0) rfl) (by kernel_rfl) _ rfl rfl
      have q38 : a.tmps.getD 38 undef = .slice ad9 (orderW n.ws).length cap9 := q38
      clear he
      refine wanted_on rfl (yielded_g (i := 6) rfl rfl (by show 35 < a.tmps.size; omega) qg) ?_
      go_simp
      exact hK _ _ (Below.refl _ _) (getD_put_self a 39 _ (by show _ < a.tmps.size; omega))
    ·obtain rfl := si ho
     have qg : a.tmps.getD 35 undef = .bool g := he _ (am (i := 0) rfl) (by kernel_rfl) _ rfl
     cases g with
     | false =>
      refine wanted_off rfl (yielded_g (i := 6) rfl rfl (by show 35 < a.tmps.size; omega) qg) ?_
      exact hK undef u (Below.refl _ _) (getD_put_self a 40 _ (by show _ < a.tmps.size; omega))
     | true =>
      have q1 : a.tmps.getD 1 undef = .pointer (some ⟨w.heap.size, 0, none⟩) := hf.at_ 1 (by kernel_rfl)
      clear he
      refine wanted_on rfl (yielded_g (i := 6) rfl rfl (by show 35 < a.tmps.size; omega) qg) ?_
      go_simp
      exact hK _ _ (Below.refl _ _) (getD_put_self a 40 _ (by show _ < a.tmps.size; omega))
    ·obtain rfl := si ho
     have qg : a.tmps.getD 35 undef = .bool g := he _ (am (i := 1) rfl) (by kernel_rfl) _ rfl
     cases g with
     | false =>
      refine wanted_off rfl (yielded_g (i := 6) rfl rfl (by show 35 < a.tmps.size; omega) qg) ?_
      exact hK undef u (Below.refl _ _) (getD_put_self a 41 _ (by show _ < a.tmps.size; omega))
     | true =>
      have q40 : a.tmps.getD 40 undef = .pointer (some ⟨w.heap.size, 0, none⟩) := he _ (am (i := 0) rfl) (by kernel_rfl) _ rfl
      clear he
      have cc : u.cell? ⟨w.heap.size, 0, none⟩ = some (.slice ad n.ws.length cap) := (pv.below (hb.trans (hR.mono hsz)) (by omega)).c 0 _ rfl
      refine wanted_on rfl (yielded_g (i := 6) rfl rfl (by show 35 < a.tmps.size; omega) qg) ?_
      go_simp
      exact hK _ _ (Below.refl _ _) (getD_put_self a 41 _ (by show _ < a.tmps.size; omega))
    ·obtain rfl := si ho
     have qg : a.tmps.getD 35 undef = .bool g := he _ (am (i := 1) rfl) (by kernel_rfl) _ rfl
     cases g with
     | false =>
      refine wanted_off rfl (yielded_g (i := 6) rfl rfl (by show 35 < a.tmps.size; omega) qg) ?_
      exact hK undef u (Below.refl _ _) (getD_put_self a 42 _ (by show _ < a.tmps.size; omega))
     | true =>
      have q41 : a.tmps.getD 41 undef = .slice ad n.ws.length cap := he _ (am (i := 0) rfl) (by kernel_rfl) _ rfl
      clear he
      refine wanted_on rfl (yielded_g (i := 6) rfl rfl (by show 35 < a.tmps.size; omega) qg) ?_
      go_simp
      exact hK _ _ (Below.refl _ _) (getD_put_self a 42 _ (by show _ < a.tmps.size; omega))
    ·obtain rfl := si ho
     have qg : a.tmps.getD 35 undef = .bool g := he _ (am (i := 2) rfl) (by kernel_rfl) _ rfl
     cases g with
     | false =>
      refine wanted_off rfl (yielded_g (i := 6) rfl rfl (by show 35 < a.tmps.size; omega) qg) ?_
      exact hK undef u (Below.refl _ _) (getD_put_self a 43 _ (by show _ < a.tmps.size; omega))
     | true =>
      have q39 : a.tmps.getD 39 undef = .int .i64 (orderW n.ws).length := he _ (am (i := 0) rfl) (by kernel_rfl) _ rfl
      have q42 : a.tmps.getD 42 undef = .int .i64 n.ws.length := he _ (am (i := 1) rfl) (by kernel_rfl) _ rfl
      clear he
      have hcc := HCC.out
      refine wanted_on rfl (yielded_g (i := 6) rfl rfl (by show 35 < a.tmps.size; omega) qg) ?_
      go_simp
      exact hK _ _ (Below.refl _ _) (getD_put_self a 43 _ (by show _ < a.tmps.size; omega))
    ·obtain rfl := si ho
     cases g with
     | true =>
      have q35 : a.tmps.getD 35 undef = .bool true := he _ (am (i := 0) rfl) (by kernel_rfl) _ rfl
      have q43 : a.tmps.getD 43 undef = .bool c := he _ (am (i := 1) rfl) (by kernel_rfl) _ rfl
      clear he
      go_simp
      exact hK _ _ (Below.refl _ _) (getD_put_self a 44 _ (by show _ < a.tmps.size; omega))
     | false =>
      have q35 : a.tmps.getD 35 undef = .bool false := he _ (am (i := 0) rfl) (by kernel_rfl) _ rfl
      clear he
      go_simp
      exact hK _ _ (Below.refl _ _) (getD_put_self a 44 _ (by show _ < a.tmps.size; omega))
    ·obtain rfl := si ho
     have q44 : a.tmps.getD 44 undef = .bool (g && c) := he _ (am (i := 0) rfl) (by kernel_rfl) _ rfl
     clear he
     go_simp
     exact hK _ _ (Below.refl _ _) (getD_put_self a 2 _ (by show _ < a.tmps.size; omega))
    ·exact absurd ho (by simp)
   ·intro a u hf hR0 hp
    have hR : Grow wr u := (Below.drew (Below.refl _ _)).trans hR0
    have m2 : a.tmps.getD 2 undef = .bool (g && c) := hp 16 _ rfl
    have hbu : Below w0.heap.size w0 u := hb.trans (hR.mono hsz)
    clear hp hR hR0 hO hDr
    obtain ⟨fq, ea, hfv⟩ := act_lit a 45 hf.size
    have md : a.defers = [] := hf.defers
    rw [md] at ea
    have m0 := hf.at_ 0 (by kernel_rfl)
    have m1 := hf.at_ 1 (by kernel_rfl)
    have m3 := hf.at_ 3 (by kernel_rfl)
    have m4 := hf.at_ 4 (by kernel_rfl)
    have m5 := hf.at_ 5 (by kernel_rfl)
    have m6 := hf.at_ 6 (by kernel_rfl)
    have m7 := hf.at_ 7 (by kernel_rfl)
    have m8 := hf.at_ 8 (by kernel_rfl)
    have m9 := hf.at_ 9 (by kernel_rfl)
    have m10 := hf.at_ 10 (by kernel_rfl)
    have m11 := hf.at_ 11 (by kernel_rfl)
    have m12 := hf.at_ 12 (by kernel_rfl)
    have m13 := hf.at_ 13 (by kernel_rfl)
    have m14 := hf.at_ 14 (by kernel_rfl)
    have m15 := hf.at_ 15 (by kernel_rfl)
    have m16 := hf.at_ 16 (by kernel_rfl)
    have m17 := hf.at_ 17 (by kernel_rfl)
    have m18 := hf.at_ 18 (by kernel_rfl)
    have m19 := hf.at_ 19 (by kernel_rfl)
    have m20 := hf.at_ 20 (by kernel_rfl)
    have m21 := hf.at_ 21 (by kernel_rfl)
    have m22 := hf.at_ 22 (by kernel_rfl)
    have m23 := hf.at_ 23 (by kernel_rfl)
    have m24 := hf.at_ 24 (by kernel_rfl)
    have m25 := hf.at_ 25 (by kernel_rfl)
    have m26 := hf.at_ 26 (by kernel_rfl)
    have m27 := hf.at_ 27 (by kernel_rfl)
    have m28 := hf.at_ 28 (by kernel_rfl)
    rw [← hfv] at m0 m1 m3 m4 m5 m6 m7 m8 m9 m10 m11 m12 m13 m14 m15 m16 m17 m18 m19 m20 m21 m22 m23 m24 m25 m26 m27 m28 m2
    simp only [Array.getD_eq_getD_getElem?, List.getElem?_toArray, List.getElem?_cons_succ, List.getElem?_cons_zero, Option.getD_some] at m0 m1 m3 m4 m5 m6 m7 m8 m9 m10 m11 m12 m13 m14 m15 m16 m17 m18 m19 m20 m21 m22 m23 m24 m25 m26 m27 m28
    simp only [List.range, List.range.loop, List.map_cons, List.map_nil, m0, m1, m3, m4, m5, m6, m7, m8, m9, m10, m11, m12, m13, m14, m15, m16, m17, m18, m19, m20, m21, m22, m23, m24, m25, m26, m27, m28, m2] at ea
    subst ea
    clear m0 m1 m3 m4 m5 m6 m7 m8 m9 m10 m11 m12 m13 m14 m15 m16 m17 m18 m19 m20 m21 m22 m23 m24 m25 m26 m27 m28 m2 hfv md hf
    go_wp2
    go_ret
    exact ⟨ret_bool HCN.out.symm, g0.trans (hbu.mono (by omega))⟩
end Go.Proofs.YtaoiookfmgpmkaaGreatDoor
