/-
 What chapter 7's model (package spec) answers: NetOk. (Written by our generator gen_netspecn.py.)
-/
import Derived.Test.YtaoiookfmgpmkaaGreatDoorQM15
import Derived.Test.YtaoiookfmgpmkaaGreatDoorQM2
namespace Go.Proofs.YtaoiookfmgpmkaaGreatDoor
open Go.ChangeShapes Go.WideShapes Go.ChangeAt Go.RowKit
set_option linter.unusedVariables false
set_option linter.unusedSimpArgs false
set_option maxRecDepth 100000

theorem zero_driveS : (Tryz.prog.info? 173).map (fun i => (i.zero, i.size)) = some (some (.agg (driveC ⟨0, 0, 0⟩).toArray), 3) := by kernel_rfl

set_option maxHeartbeats 16000000 in
theorem sNetOk_any (w : World) (lo hi : Nat) (v : Value) (n : NetD) (h : NI w lo hi v n) (hhi : hi ≤ w.heap.size) :
  Calls Tryz.prog 101 #[v] w fun e w' => e = .returned (.bool (netOk n)) ∧ Below w.heap.size w w' := by
 obtain ⟨R, hR⟩ : ∃ R, netOk n = R := ⟨_, rfl⟩
 rw [hR]
 have HR : Hid (netOk n = R) := hR
 clear hR
 obtain ⟨va, vb, rfl, hxa, hxb⟩ := h
 obtain ⟨ad, cap, rfl, k1, k1'⟩ := hxa.shape
 obtain ⟨add, capd, rfl, k2, k2'⟩ := hxb.shape
 unfold maxLen at k1' k2'
 have HA : Hid (GR wireE w lo hi (.slice ad n.ws.length cap) n.ws) := hxa
 have HD : Hid (GR driveE w lo hi (.slice add n.ds.length capd) n.ds) := hxb
 clear hxa hxb
 by_cases l1 : 8 < n.ws.length
 ·have HF : Hid (R = false) := by show R = false; rw [← HR.out]; exact netOk_big l1
  have l1' : (8 : Int) < (n.ws.length : Int) := by omega
  go_enter Tryz.func101, Tryz.ntmps101
  go_wp2_with (refine wpList_boxG (vs := [.slice ad n.ws.length cap, .slice add n.ds.length capd]) rfl _ rfl rfl ?_)
  intro w0 g0 pv s0
  have c0 : w0.cell? ⟨w.heap.size, 0, none⟩ = some (.slice ad n.ws.length cap) := pv.c 0 _ rfl
  have c1 : w0.cell? ⟨w.heap.size, 1, none⟩ = some (.slice add n.ds.length capd) := pv.c 1 _ rfl
  clear pv HA HD
  go_wp2
  go_ret
  exact ⟨ret_bool HF.out.symm, g0⟩
 by_cases l2 : 4 < n.ds.length
 ·have HF : Hid (R = false) := by show R = false; rw [← HR.out]; exact netOk_big2 l2
  have l2' : (4 : Int) < (n.ds.length : Int) := by omega
  have l1' : ¬ (8 : Int) < (n.ws.length : Int) := by omega
  go_enter Tryz.func101, Tryz.ntmps101
  go_wp2_with (refine wpList_boxG (vs := [.slice ad n.ws.length cap, .slice add n.ds.length capd]) rfl _ rfl rfl ?_)
  intro w0 g0 pv s0
  have c0 : w0.cell? ⟨w.heap.size, 0, none⟩ = some (.slice ad n.ws.length cap) := pv.c 0 _ rfl
  have c1 : w0.cell? ⟨w.heap.size, 1, none⟩ = some (.slice add n.ds.length capd) := pv.c 1 _ rfl
  clear pv HA HD
  go_wp2
  go_ret
  exact ⟨ret_bool HF.out.symm, g0⟩
 have l1' : ¬ (8 : Int) < (n.ws.length : Int) := by omega
 have l2' : ¬ (4 : Int) < (n.ds.length : Int) := by omega
 have HL : Hid (n.ws.length ≤ 8 ∧ n.ds.length ≤ 4) := ⟨by omega, by omega⟩
 clear l1 l2
 go_enter Tryz.func101, Tryz.ntmps101
 go_wp2_with (refine wpList_boxG (vs := [.slice ad n.ws.length cap, .slice add n.ds.length capd]) rfl _ rfl rfl ?_)
 intro w0 g0 pv s0
 have c0 : w0.cell? ⟨w.heap.size, 0, none⟩ = some (.slice ad n.ws.length cap) := pv.c 0 _ rfl
 have c1 : w0.cell? ⟨w.heap.size, 1, none⟩ = some (.slice add n.ds.length capd) := pv.c 1 _ rfl
 go_wp2_with fail
 clear c0 c1
 replace HA : Hid (GR wireE w0 lo hi (.slice ad n.ws.length cap) n.ws) := HA.out.under g0 hhi
 replace HD : Hid (GR driveE w0 lo hi (.slice add n.ds.length capd) n.ds) := HD.out.under g0 hhi
 have hhi0 : hi ≤ w0.heap.size := by omega
 go_loopw [3] (fun i wr => ∃ j : Nat, j ≤ n.ws.length ∧ i = .int .i64 j ∧ Below w0.heap.size w0 wr ∧ WiresTo n.ws n.ws.length j) (fun i _ => n.ws.length - (intOf i).toNat)
 case atStart => exact ⟨0, Nat.zero_le _, rfl, Below.refl _ _, fun i y hi _ => by omega⟩
 case round =>
  obtain ⟨j, hj, rfl, hb, hto⟩ := hrel
  have HT : Hid (WiresTo n.ws n.ws.length j) := hto
  clear hto
  have hsz := hb.size
  have c0 : wr.cell? ⟨w.heap.size, 0, none⟩ = some (.slice ad n.ws.length cap) := (pv.below hb (by omega)).c 0 _ rfl
  by_cases hlt : j < n.ws.length
  ·obtain ⟨x, hx⟩ : ∃ x, n.ws[j]? = some x := ⟨n.ws[j], List.getElem?_eq_getElem hlt⟩
   obtain ⟨b, off, capx, hv, hb1, hb2, h5⟩ := HA.out.at_ hx
   simp only [Value.slice.injEq, true_and] at hv
   obtain ⟨rfl, rfl⟩ := hv
   have h5 : CV w0 b (off + j * 12) (wireC x) := h5
   have HX : Hid (n.ws[j]? = some x) := hx
   clear hx
   have hW := fun u => l7Wire_any u x n.ws.length (by omega)
   obtain ⟨c, hc⟩ : ∃ c, wireOk x n.ws.length = c := ⟨_, rfl⟩
   rw [hc] at hW
   have HC : Hid (wireOk x n.ws.length = c) := hc
   clear hc
   go_wp2_with fail
   clear c0
   refine wp_region_dag (R := Grow) (Φ := fun i v u => match i with
     | 0 => v = .pointer (some ⟨w.heap.size, 0, none⟩)
     | 1 => v = .slice (some ⟨b, off, none⟩) n.ws.length cap
     | 2 => v = .int .i64 j
     | 3 => v = .pointer (some ⟨b, off + j * 12, none⟩)
     | 4 => v = .agg (wireC x).toArray
     | 5 => v = .pointer (some ⟨w.heap.size, 0, none⟩)
     | 6 => v = .slice (some ⟨b, off, none⟩) n.ws.length cap
     | 7 => v = .int .i64 n.ws.length
     | 8 => v = .bool c
     | 9 => v = .bool (!c)
     | _ => True) (by kernel_rfl) (by kernel_rfl) (by kernel_rfl) (Below.refl _ _) grow_trans ?_ ?_ ?_
   ·intro i v u u' hr
    match i with
    | 0 | 1 | 2 | 3 | 4 | 5 | 6 | 7 | 8 | 9 | _ + 10 => exact fun h => h
   ·intro i o ho a u hf hR0 he K' hK
    have hR : Grow wr u := (Below.drew (Below.refl _ _)).trans hR0
    have hsz' : a.tmps.size = 91 := hf.size
    have hus : wr.heap.size ≤ u.heap.size := hR.size
    rcases i with _ | _ | _ | _ | _ | _ | _ | _ | _ | _ | i
    ·obtain rfl := si ho
     have q1 : a.tmps.getD 1 undef = .pointer (some ⟨w.heap.size, 0, none⟩) := hf.at_ 1 (by kernel_rfl)
     clear he
     go_simp
     exact hK _ _ (Below.refl _ _) (getD_put_self a 24 _ (by show _ < a.tmps.size; omega))
    ·obtain rfl := si ho
     have q24 : a.tmps.getD 24 undef = .pointer (some ⟨w.heap.size, 0, none⟩) := he _ (am (i := 0) rfl) (by kernel_rfl) _ rfl
     clear he
     have cc : u.cell? ⟨w.heap.size, 0, none⟩ = some (.slice (some ⟨b, off, none⟩) n.ws.length cap) := (pv.below (hb.trans (hR.mono hsz)) (by omega)).c 0 _ rfl
     go_simp
     exact hK _ _ (Below.refl _ _) (getD_put_self a 25 _ (by show _ < a.tmps.size; omega))
    ·obtain rfl := si ho
     have q3 : a.tmps.getD 3 undef = .int .i64 j := hf.at_ 3 (by kernel_rfl)
     clear he
     go_simp
     exact hK _ _ (Below.refl _ _) (getD_put_self a 26 _ (by show _ < a.tmps.size; omega))
    ·obtain rfl := si ho
     have q25 : a.tmps.getD 25 undef = .slice (some ⟨b, off, none⟩) n.ws.length cap := he _ (am (i := 0) rfl) (by kernel_rfl) _ rfl
     have q26 : a.tmps.getD 26 undef = .int .i64 j := he _ (am (i := 1) rfl) (by kernel_rfl) _ rfl
     clear he
     go_simp
     exact hK _ _ (Below.refl _ _) (getD_put_self a 27 _ (by show _ < a.tmps.size; omega))
    ·obtain rfl := si ho
     have q27 : a.tmps.getD 27 undef = .pointer (some ⟨b, off + j * 12, none⟩) := he _ (am (i := 0) rfl) (by kernel_rfl) _ rfl
     clear he
     refine wantedG rfl (wp_loadG Tryz.isAgg171 Tryz.sizeOf171 (vs := wireC x) _ rfl q27 rfl (h5.kept ((hb.trans (hR.mono hsz)).block b (by omega))) ?_)
     exact hK _ _ (Below.refl _ _) (getD_put_self a 28 _ (by show _ < a.tmps.size; omega))
    ·obtain rfl := si ho
     have q1 : a.tmps.getD 1 undef = .pointer (some ⟨w.heap.size, 0, none⟩) := hf.at_ 1 (by kernel_rfl)
     clear he
     go_simp
     exact hK _ _ (Below.refl _ _) (getD_put_self a 29 _ (by show _ < a.tmps.size; omega))
    ·obtain rfl := si ho
     have q29 : a.tmps.getD 29 undef = .pointer (some ⟨w.heap.size, 0, none⟩) := he _ (am (i := 0) rfl) (by kernel_rfl) _ rfl
     clear he
     have cc : u.cell? ⟨w.heap.size, 0, none⟩ = some (.slice (some ⟨b, off, none⟩) n.ws.length cap) := (pv.below (hb.trans (hR.mono hsz)) (by omega)).c 0 _ rfl
     go_simp
     exact hK _ _ (Below.refl _ _) (getD_put_self a 30 _ (by show _ < a.tmps.size; omega))
    ·obtain rfl := si ho
     have q30 : a.tmps.getD 30 undef = .slice (some ⟨b, off, none⟩) n.ws.length cap := he _ (am (i := 0) rfl) (by kernel_rfl) _ rfl
     clear he
     go_simp
     exact hK _ _ (Below.refl _ _) (getD_put_self a 31 _ (by show _ < a.tmps.size; omega))
    ·obtain rfl := si ho
     have q28 : a.tmps.getD 28 undef = .agg (wireC x).toArray := he _ (am (i := 0) rfl) (by kernel_rfl) _ rfl
     have q31 : a.tmps.getD 31 undef = .int .i64 n.ws.length := he _ (am (i := 1) rfl) (by kernel_rfl) _ rfl
     clear he
     go_simp
     refine (hW u).mono ?_
     rintro e1 u' ⟨rfl, hbu⟩
     exact hK _ _ hbu (getD_put_self a 32 _ (by show _ < a.tmps.size; omega))
    ·obtain rfl := si ho
     have q32 : a.tmps.getD 32 undef = .bool c := he _ (am (i := 0) rfl) (by kernel_rfl) _ rfl
     clear he
     go_simp
     exact hK _ _ (Below.refl _ _) (getD_put_self a 33 _ (by show _ < a.tmps.size; omega))
    ·exact absurd ho (by simp)
   ·intro a u hf hR0 hp
    have hR : Grow wr u := (Below.drew (Below.refl _ _)).trans hR0
    have m33 : a.tmps.getD 33 undef = .bool (!c) := hp 9 _ rfl
    have hbu : Below w0.heap.size w0 u := hb.trans (hR.mono hsz)
    have husz := hR.size
    clear hp hR hR0 hW h5
    cases c with
    | true =>
     have m33 : a.tmps.getD 33 undef = .bool false := m33
     have HN : Hid (WiresTo n.ws n.ws.length (j + 1)) := wires_next HT.out HX.out HC.out
     obtain ⟨fq, ea, hfv⟩ := act_lit a 91 hf.size
     have md : a.defers = [] := hf.defers
     rw [md] at ea
     have m0 := hf.at_ 0 (by kernel_rfl)
     have m1 := hf.at_ 1 (by kernel_rfl)
     have m2 := hf.at_ 2 (by kernel_rfl)
     have m3 := hf.at_ 3 (by kernel_rfl)
     have m4 := hf.at_ 4 (by kernel_rfl)
     have m5 := hf.at_ 5 (by kernel_rfl)
     have m6 := hf.at_ 6 (by kernel_rfl)
     have m7 := hf.at_ 7 (by kernel_rfl)
     have m8 := hf.at_ 8 (by kernel_rfl)
     have m9 := hf.at_ 9 (by kernel_rfl)
     have m10 := hf.at_ 10 (by kernel_rfl)
     have m11 := hf.at_ 11 (by kernel_rfl)
     have m12 := hf.at_ 12 (by kernel_rfl)
     have m13 := hf.at_ 13 (by kernel_rfl)
     have m14 := hf.at_ 14 (by kernel_rfl)
     have m15 := hf.at_ 15 (by kernel_rfl)
     have m16 := hf.at_ 16 (by kernel_rfl)
     have m17 := hf.at_ 17 (by kernel_rfl)
     have m18 := hf.at_ 18 (by kernel_rfl)
     have m19 := hf.at_ 19 (by kernel_rfl)
     have m20 := hf.at_ 20 (by kernel_rfl)
     have m21 := hf.at_ 21 (by kernel_rfl)
     have m22 := hf.at_ 22 (by kernel_rfl)
     have m23 := hf.at_ 23 (by kernel_rfl)
     have m34 := hf.at_ 34 (by kernel_rfl)
     have m35 := hf.at_ 35 (by kernel_rfl)
     have m36 := hf.at_ 36 (by kernel_rfl)
     have m37 := hf.at_ 37 (by kernel_rfl)
     have m38 := hf.at_ 38 (by kernel_rfl)
     have m39 := hf.at_ 39 (by kernel_rfl)
     have m40 := hf.at_ 40 (by kernel_rfl)
     have m41 := hf.at_ 41 (by kernel_rfl)
     have m42 := hf.at_ 42 (by kernel_rfl)
     have m43 := hf.at_ 43 (by kernel_rfl)
     have m44 := hf.at_ 44 (by kernel_rfl)
     have m45 := hf.at_ 45 (by kernel_rfl)
     have m46 := hf.at_ 46 (by kernel_rfl)
     have m47 := hf.at_ 47 (by kernel_rfl)
     have m48 := hf.at_ 48 (by kernel_rfl)
     have m49 := hf.at_ 49 (by kernel_rfl)
     have m50 := hf.at_ 50 (by kernel_rfl)
     have m51 := hf.at_ 51 (by kernel_rfl)
     have m52 := hf.at_ 52 (by kernel_rfl)
     have m53 := hf.at_ 53 (by kernel_rfl)
     have m54 := hf.at_ 54 (by kernel_rfl)
     have m55 := hf.at_ 55 (by kernel_rfl)
     have m56 := hf.at_ 56 (by kernel_rfl)
     have m57 := hf.at_ 57 (by kernel_rfl)
     have m58 := hf.at_ 58 (by kernel_rfl)
     have m59 := hf.at_ 59 (by kernel_rfl)
     have m60 := hf.at_ 60 (by kernel_rfl)
     have m61 := hf.at_ 61 (by kernel_rfl)
     have m62 := hf.at_ 62 (by kernel_rfl)
     have m63 := hf.at_ 63 (by kernel_rfl)
     have m64 := hf.at_ 64 (by kernel_rfl)
     have m65 := hf.at_ 65 (by kernel_rfl)
     have m66 := hf.at_ 66 (by kernel_rfl)
     have m67 := hf.at_ 67 (by kernel_rfl)
     have m68 := hf.at_ 68 (by kernel_rfl)
     have m69 := hf.at_ 69 (by kernel_rfl)
     have m70 := hf.at_ 70 (by kernel_rfl)
     have m71 := hf.at_ 71 (by kernel_rfl)
     have m72 := hf.at_ 72 (by kernel_rfl)
     have m73 := hf.at_ 73 (by kernel_rfl)
     have m74 := hf.at_ 74 (by kernel_rfl)
     have m75 := hf.at_ 75 (by kernel_rfl)
     have m76 := hf.at_ 76 (by kernel_rfl)
     have m77 := hf.at_ 77 (by kernel_rfl)
     have m78 := hf.at_ 78 (by kernel_rfl)
     have m79 := hf.at_ 79 (by kernel_rfl)
     have m80 := hf.at_ 80 (by kernel_rfl)
     have m81 := hf.at_ 81 (by kernel_rfl)
     have m82 := hf.at_ 82 (by kernel_rfl)
     have m83 := hf.at_ 83 (by kernel_rfl)
     have m84 := hf.at_ 84 (by kernel_rfl)
     have m85 := hf.at_ 85 (by kernel_rfl)
     have m86 := hf.at_ 86 (by kernel_rfl)
     have m87 := hf.at_ 87 (by kernel_rfl)
     have m88 := hf.at_ 88 (by kernel_rfl)
     have m89 := hf.at_ 89 (by kernel_rfl)
     have m90 := hf.at_ 90 (by kernel_rfl)
     rw [← hfv] at m0 m1 m2 m3 m4 m5 m6 m7 m8 m9 m10 m11 m12 m13 m14 m15 m16 m17 m18 m19 m20 m21 m22 m23 m34 m35 m36 m37 m38 m39 m40 m41 m42 m43 m44 m45 m46 m47 m48 m49 m50 m51 m52 m53 m54 m55 m56 m57 m58 m59 m60 m61 m62 m63 m64 m65 m66 m67 m68 m69 m70 m71 m72 m73 m74 m75 m76 m77 m78 m79 m80 m81 m82 m83 m84 m85 m86 m87 m88 m89 m90 m33
     simp only [Array.getD_eq_getD_getElem?, List.getElem?_toArray, List.getElem?_cons_succ, List.getElem?_cons_zero, Option.getD_some] at m0 m1 m2 m3 m4 m5 m6 m7 m8 m9 m10 m11 m12 m13 m14 m15 m16 m17 m18 m19 m20 m21 m22 m23 m34 m35 m36 m37 m38 m39 m40 m41 m42 m43 m44 m45 m46 m47 m48 m49 m50 m51 m52 m53 m54 m55 m56 m57 m58 m59 m60 m61 m62 m63 m64 m65 m66 m67 m68 m69 m70 m71 m72 m73 m74 m75 m76 m77 m78 m79 m80 m81 m82 m83 m84 m85 m86 m87 m88 m89 m90
     simp only [List.range, List.range.loop, List.map_cons, List.map_nil, m0, m1, m2, m3, m4, m5, m6, m7, m8, m9, m10, m11, m12, m13, m14, m15, m16, m17, m18, m19, m20, m21, m22, m23, m34, m35, m36, m37, m38, m39, m40, m41, m42, m43, m44, m45, m46, m47, m48, m49, m50, m51, m52, m53, m54, m55, m56, m57, m58, m59, m60, m61, m62, m63, m64, m65, m66, m67, m68, m69, m70, m71, m72, m73, m74, m75, m76, m77, m78, m79, m80, m81, m82, m83, m84, m85, m86, m87, m88, m89, m90, m33] at ea
     subst ea
     clear m0 m1 m2 m3 m4 m5 m6 m7 m8 m9 m10 m11 m12 m13 m14 m15 m16 m17 m18 m19 m20 m21 m22 m23 m34 m35 m36 m37 m38 m39 m40 m41 m42 m43 m44 m45 m46 m47 m48 m49 m50 m51 m52 m53 m54 m55 m56 m57 m58 m59 m60 m61 m62 m63 m64 m65 m66 m67 m68 m69 m70 m71 m72 m73 m74 m75 m76 m77 m78 m79 m80 m81 m82 m83 m84 m85 m86 m87 m88 m89 m90 m33 hfv md hf
     go_wp2
     go_roundw
     case rel => exact ⟨j + 1, by omega, by go_num, hbu, HN.out⟩
     case measure => simp [intOf]; omega
    | false =>
     have m33 : a.tmps.getD 33 undef = .bool true := m33
     have HF : Hid (R = false) := by show R = false; rw [← HR.out]; exact netOk_wire HX.out HC.out
     obtain ⟨fq, ea, hfv⟩ := act_lit a 91 hf.size
     have md : a.defers = [] := hf.defers
     rw [md] at ea
     have m0 := hf.at_ 0 (by kernel_rfl)
     have m1 := hf.at_ 1 (by kernel_rfl)
     have m2 := hf.at_ 2 (by kernel_rfl)
     have m3 := hf.at_ 3 (by kernel_rfl)
     have m4 := hf.at_ 4 (by kernel_rfl)
     have m5 := hf.at_ 5 (by kernel_rfl)
     have m6 := hf.at_ 6 (by kernel_rfl)
     have m7 := hf.at_ 7 (by kernel_rfl)
     have m8 := hf.at_ 8 (by kernel_rfl)
     have m9 := hf.at_ 9 (by kernel_rfl)
     have m10 := hf.at_ 10 (by kernel_rfl)
     have m11 := hf.at_ 11 (by kernel_rfl)
     have m12 := hf.at_ 12 (by kernel_rfl)
     have m13 := hf.at_ 13 (by kernel_rfl)
     have m14 := hf.at_ 14 (by kernel_rfl)
     have m15 := hf.at_ 15 (by kernel_rfl)
     have m16 := hf.at_ 16 (by kernel_rfl)
     have m17 := hf.at_ 17 (by kernel_rfl)
     have m18 := hf.at_ 18 (by kernel_rfl)
     have m19 := hf.at_ 19 (by kernel_rfl)
     have m20 := hf.at_ 20 (by kernel_rfl)
     have m21 := hf.at_ 21 (by kernel_rfl)
     have m22 := hf.at_ 22 (by kernel_rfl)
     have m23 := hf.at_ 23 (by kernel_rfl)
     have m34 := hf.at_ 34 (by kernel_rfl)
     have m35 := hf.at_ 35 (by kernel_rfl)
     have m36 := hf.at_ 36 (by kernel_rfl)
     have m37 := hf.at_ 37 (by kernel_rfl)
     have m38 := hf.at_ 38 (by kernel_rfl)
     have m39 := hf.at_ 39 (by kernel_rfl)
     have m40 := hf.at_ 40 (by kernel_rfl)
     have m41 := hf.at_ 41 (by kernel_rfl)
     have m42 := hf.at_ 42 (by kernel_rfl)
     have m43 := hf.at_ 43 (by kernel_rfl)
     have m44 := hf.at_ 44 (by kernel_rfl)
     have m45 := hf.at_ 45 (by kernel_rfl)
     have m46 := hf.at_ 46 (by kernel_rfl)
     have m47 := hf.at_ 47 (by kernel_rfl)
     have m48 := hf.at_ 48 (by kernel_rfl)
     have m49 := hf.at_ 49 (by kernel_rfl)
     have m50 := hf.at_ 50 (by kernel_rfl)
     have m51 := hf.at_ 51 (by kernel_rfl)
     have m52 := hf.at_ 52 (by kernel_rfl)
     have m53 := hf.at_ 53 (by kernel_rfl)
     have m54 := hf.at_ 54 (by kernel_rfl)
     have m55 := hf.at_ 55 (by kernel_rfl)
     have m56 := hf.at_ 56 (by kernel_rfl)
     have m57 := hf.at_ 57 (by kernel_rfl)
     have m58 := hf.at_ 58 (by kernel_rfl)
     have m59 := hf.at_ 59 (by kernel_rfl)
     have m60 := hf.at_ 60 (by kernel_rfl)
     have m61 := hf.at_ 61 (by kernel_rfl)
     have m62 := hf.at_ 62 (by kernel_rfl)
     have m63 := hf.at_ 63 (by kernel_rfl)
     have m64 := hf.at_ 64 (by kernel_rfl)
     have m65 := hf.at_ 65 (by kernel_rfl)
     have m66 := hf.at_ 66 (by kernel_rfl)
     have m67 := hf.at_ 67 (by kernel_rfl)
     have m68 := hf.at_ 68 (by kernel_rfl)
     have m69 := hf.at_ 69 (by kernel_rfl)
     have m70 := hf.at_ 70 (by kernel_rfl)
     have m71 := hf.at_ 71 (by kernel_rfl)
     have m72 := hf.at_ 72 (by kernel_rfl)
     have m73 := hf.at_ 73 (by kernel_rfl)
     have m74 := hf.at_ 74 (by kernel_rfl)
     have m75 := hf.at_ 75 (by kernel_rfl)
     have m76 := hf.at_ 76 (by kernel_rfl)
     have m77 := hf.at_ 77 (by kernel_rfl)
     have m78 := hf.at_ 78 (by kernel_rfl)
     have m79 := hf.at_ 79 (by kernel_rfl)
     have m80 := hf.at_ 80 (by kernel_rfl)
     have m81 := hf.at_ 81 (by kernel_rfl)
     have m82 := hf.at_ 82 (by kernel_rfl)
     have m83 := hf.at_ 83 (by kernel_rfl)
     have m84 := hf.at_ 84 (by kernel_rfl)
     have m85 := hf.at_ 85 (by kernel_rfl)
     have m86 := hf.at_ 86 (by kernel_rfl)
     have m87 := hf.at_ 87 (by kernel_rfl)
     have m88 := hf.at_ 88 (by kernel_rfl)
     have m89 := hf.at_ 89 (by kernel_rfl)
     have m90 := hf.at_ 90 (by kernel_rfl)
     rw [← hfv] at m0 m1 m2 m3 m4 m5 m6 m7 m8 m9 m10 m11 m12 m13 m14 m15 m16 m17 m18 m19 m20 m21 m22 m23 m34 m35 m36 m37 m38 m39 m40 m41 m42 m43 m44 m45 m46 m47 m48 m49 m50 m51 m52 m53 m54 m55 m56 m57 m58 m59 m60 m61 m62 m63 m64 m65 m66 m67 m68 m69 m70 m71 m72 m73 m74 m75 m76 m77 m78 m79 m80 m81 m82 m83 m84 m85 m86 m87 m88 m89 m90 m33
     simp only [Array.getD_eq_getD_getElem?, List.getElem?_toArray, List.getElem?_cons_succ, List.getElem?_cons_zero, Option.getD_some] at m0 m1 m2 m3 m4 m5 m6 m7 m8 m9 m10 m11 m12 m13 m14 m15 m16 m17 m18 m19 m20 m21 m22 m23 m34 m35 m36 m37 m38 m39 m40 m41 m42 m43 m44 m45 m46 m47 m48 m49 m50 m51 m52 m53 m54 m55 m56 m57 m58 m59 m60 m61 m62 m63 m64 m65 m66 m67 m68 m69 m70 m71 m72 m73 m74 m75 m76 m77 m78 m79 m80 m81 m82 m83 m84 m85 m86 m87 m88 m89 m90
     simp only [List.range, List.range.loop, List.map_cons, List.map_nil, m0, m1, m2, m3, m4, m5, m6, m7, m8, m9, m10, m11, m12, m13, m14, m15, m16, m17, m18, m19, m20, m21, m22, m23, m34, m35, m36, m37, m38, m39, m40, m41, m42, m43, m44, m45, m46, m47, m48, m49, m50, m51, m52, m53, m54, m55, m56, m57, m58, m59, m60, m61, m62, m63, m64, m65, m66, m67, m68, m69, m70, m71, m72, m73, m74, m75, m76, m77, m78, m79, m80, m81, m82, m83, m84, m85, m86, m87, m88, m89, m90, m33] at ea
     subst ea
     clear m0 m1 m2 m3 m4 m5 m6 m7 m8 m9 m10 m11 m12 m13 m14 m15 m16 m17 m18 m19 m20 m21 m22 m23 m34 m35 m36 m37 m38 m39 m40 m41 m42 m43 m44 m45 m46 m47 m48 m49 m50 m51 m52 m53 m54 m55 m56 m57 m58 m59 m60 m61 m62 m63 m64 m65 m66 m67 m68 m69 m70 m71 m72 m73 m74 m75 m76 m77 m78 m79 m80 m81 m82 m83 m84 m85 m86 m87 m88 m89 m90 m33 hfv md hf
     go_wp2
     go_ret
     exact ⟨ret_bool HF.out.symm, g0.trans (hbu.mono (by omega))⟩
  ·obtain rfl : j = n.ws.length := by omega
   have HB1 : Hid (Below w0.heap.size w0 wr) := hb
   go_wp2_with fail
   clear c0 hb hsz
   go_loopw [4] (fun i wr => ∃ j : Nat, j ≤ n.ds.length ∧ i = .int .i64 j ∧ Below w0.heap.size w0 wr ∧ DrivesTo n.ds n.ws.length j) (fun i _ => n.ds.length - (intOf i).toNat)
   case atStart => exact ⟨0, Nat.zero_le _, rfl, HB1.out, fun i y hi _ => by omega⟩
   case round =>
    clear HB1
    obtain ⟨i, hi', rfl, hb, hto⟩ := hrel
    have HTD : Hid (DrivesTo n.ds n.ws.length i) := hto
    clear hto
    have hsz := hb.size
    have c1 : wr.cell? ⟨w.heap.size, 1, none⟩ = some (.slice add n.ds.length capd) := (pv.below hb (by omega)).c 1 _ rfl
    by_cases hlt : i < n.ds.length
    ·obtain ⟨d, hd⟩ : ∃ d, n.ds[i]? = some d := ⟨n.ds[i], List.getElem?_eq_getElem hlt⟩
     obtain ⟨b, off, capx, hv, hb1, hb2, h5⟩ := HD.out.at_ hd
     simp only [Value.slice.injEq, true_and] at hv
     obtain ⟨rfl, rfl⟩ := hv
     have h5 : CV wr b (off + i * 3) (driveC d) := h5.below hb (by omega)
     have HX : Hid (n.ds[i]? = some d) := hd
     clear hd
     have hZ := (zero_of_info (P := Tryz.prog) zero_driveS).1
     go_wp2_with (first
      | refine wpList_loadG Tryz.isAgg173 Tryz.sizeOf173 _ rfl rfl rfl rfl h5 ?_
      | refine wpList_allocG hZ rfl rfl ?_)
     intro u1 g1 q1 s1
     clear c1 h5 hZ
     have hr := q1.run 0 3 (show 0 + 3 ≤ 3 by decide)
     go_wp2_with (refine wpList_storeG Tryz.sizeOf173 _ _ rfl rfl rfl rfl rfl (driveC_one d) hr.1 hr.2 ?_)
     intro u2 L
     have q2 := L.var q1
     have s2 := L.size
     have G2 : Below w0.heap.size w0 u2 := L.below _ _ (by omega) (hb.trans (g1.mono (by omega)))
     clear L hr q1 g1 hb
     obtain ⟨DB, hDB⟩ : ∃ DB, wr.heap.size = DB := ⟨_, rfl⟩
     rw [hDB] at q2 ⊢
     have hDB0 : w0.heap.size ≤ DB := by omega
     have hDB2 : DB < u2.heap.size := by omega
     have hDBw : w.heap.size < DB := by omega
     clear s1 s2 hDB hsz
     have ha : CV u2 DB 0 [.int .i64 d.tk, .int .i64 d.ta] := q2.c.part 0 2
     have hA := fun u => sAddrOk_any u ⟨d.tk, d.ta⟩
     go_wp2_with (refine wpList_loadG Tryz.isAgg118 Tryz.sizeOf118 _ rfl rfl rfl rfl ha ?_)
     refine (hA _).mono ?_
     clear ha hA
     rintro e3 wd ⟨rfl, g3⟩
     have q3 := q2.below g3 hDB2
     have G3 : Below w0.heap.size w0 wd := G2.trans (g3.mono (by omega))
     have s3 := g3.size
     clear q2 G2 g3
     have pd := pv.below G3 (by omega)
     have k0 : wd.cell? ⟨DB, 0, none⟩ = some (.int .i64 d.tk) := q3.c 0 _ rfl
     have k2 : wd.cell? ⟨DB, 2, none⟩ = some (.int .i64 d.wire) := q3.c 2 _ rfl
     have c0 : wd.cell? ⟨w.heap.size, 0, none⟩ = some (.slice ad n.ws.length cap) := pd.c 0 _ rfl
     cases hok : addrOk ⟨d.tk, d.ta⟩ with
     | false =>
      have HF : Hid (R = false) := by show R = false; rw [← HR.out]; exact netOk_drive HX.out (by unfold driveOk; rw [hok, Bool.false_and])
      clear hok
      go_wp2
      go_ret
      exact ⟨ret_bool HF.out.symm, g0.trans (G3.mono (by omega))⟩
     | true =>
     have HOK : Hid (addrOk ⟨d.tk, d.ta⟩ = true) := hok
     clear hok
     by_cases ht : d.tk = 1
     ·have ht' : (d.tk == 1) = true := by simpa using ht
      have HF : Hid (R = false) := by show R = false; rw [← HR.out]; exact netOk_drive HX.out (by unfold driveOk; rw [HOK.out, ht]; rfl)
      clear ht
      go_wp2
      go_ret
      exact ⟨ret_bool HF.out.symm, g0.trans (G3.mono (by omega))⟩
     have ht' : (d.tk == 1) = false := by simpa using ht
     have HT1 : Hid ((d.tk != 1) = true) := by show (d.tk != 1) = true; simpa using ht
     clear ht
     by_cases hw0 : d.wire < 0
     ·have HF : Hid (R = false) := by show R = false; rw [← HR.out]; exact netOk_drive HX.out (by unfold driveOk; rw [decide_eq_false (show ¬ 0 ≤ d.wire by omega), Bool.false_and, Bool.and_false, Bool.and_false])
      go_wp2
      go_ret
      exact ⟨ret_bool HF.out.symm, g0.trans (G3.mono (by omega))⟩
     by_cases hw1 : (n.ws.length : Int) ≤ d.wire
     ·have HF : Hid (R = false) := by show R = false; rw [← HR.out]; exact netOk_drive HX.out (by unfold driveOk; rw [decide_eq_false (show ¬ d.wire < (n.ws.length : Int) by omega), Bool.and_false, Bool.and_false, Bool.and_false])
      go_wp2
      go_ret
      exact ⟨ret_bool HF.out.symm, g0.trans (G3.mono (by omega))⟩
     have HOKD : Hid (driveOk d n.ws.length = true) := by show _ = _; unfold driveOk; rw [HOK.out, HT1.out, decide_eq_true (show 0 ≤ d.wire by omega), decide_eq_true (show d.wire < (n.ws.length : Int) by omega)]; rfl
     go_wp2_with fail
     clear k0 k2 c0 HOK HT1 ht' hw0 hw1
     go_loopw [6] (fun q wr => ∃ k : Nat, k ≤ i ∧ q = .int .i64 k ∧ Below wd.heap.size wd wr ∧ FreshTo n.ds d k) (fun q _ => i - (intOf q).toNat)
     case atStart => exact ⟨0, Nat.zero_le _, rfl, Below.refl _ _, fun k e hk _ => by omega⟩
     case round =>
      obtain ⟨j, hj, rfl, hb, hto⟩ := hrel
      have HT : Hid (FreshTo n.ds d j) := hto
      clear hto
      have hsz := hb.size
      by_cases hlt : j < i
      ·have hjd : j < n.ds.length := by omega
       obtain ⟨x, hx⟩ : ∃ x, n.ds[j]? = some x := ⟨n.ds[j], List.getElem?_eq_getElem hjd⟩
       obtain ⟨b', off', capx, hv, hb1', hb2', h5⟩ := HD.out.at_ hx
       simp only [Value.slice.injEq, Option.some.injEq, Addr.mk.injEq, and_true, true_and] at hv
       obtain ⟨⟨rfl, rfl⟩, rfl⟩ := hv
       have h5 : CV wd b (off + j * 3) (driveC x) := h5.below G3 (by omega)
       have HX2 : Hid (n.ds[j]? = some x) := hx
       clear hx
       obtain ⟨c, hc⟩ : ∃ c, (x.tk == d.tk && x.ta == d.ta) = c := ⟨_, rfl⟩
       have HC : Hid ((x.tk == d.tk && x.ta == d.ta) = c) := hc
       clear hc
       go_wp2_with fail

       refine wp_region_dag (R := Grow) (Φ := fun i v u => match i with
         | 0 => v = .pointer (some ⟨w.heap.size, 1, none⟩)
         | 1 => v = .slice (some ⟨b, off, none⟩) n.ds.length capd
         | 2 => v = .int .i64 j
         | 3 => v = .pointer (some ⟨b, off + j * 3, none⟩)
         | 4 => v = .pointer (some ⟨b, off + j * 3, none⟩)
         | 5 => v = .agg [.int .i64 x.tk, .int .i64 x.ta].toArray
         | 6 => v = .pointer (some ⟨DB, 0, none⟩)
         | 7 => v = .agg [.int .i64 d.tk, .int .i64 d.ta].toArray
         | 8 => v = .bool c
         | _ => True) (by kernel_rfl) (by kernel_rfl) (by kernel_rfl) (Below.refl _ _) grow_trans ?_ ?_ ?_
       ·intro i v u u' hr
        match i with
        | 0 | 1 | 2 | 3 | 4 | 5 | 6 | 7 | 8 | _ + 9 => exact fun h => h
       ·intro i o ho a u hf hR0 he K' hK
        have hR : Grow wr u := (Below.drew (Below.refl _ _)).trans hR0
        have hsz' : a.tmps.size = 91 := hf.size
        have hus : wr.heap.size ≤ u.heap.size := hR.size
        rcases i with _ | _ | _ | _ | _ | _ | _ | _ | _ | i
        ·obtain rfl := si ho
         have q1 : a.tmps.getD 1 undef = .pointer (some ⟨w.heap.size, 0, none⟩) := hf.at_ 1 (by kernel_rfl)
         clear he
         go_simp
         exact hK _ _ (Below.refl _ _) (getD_put_self a 74 _ (by show _ < a.tmps.size; omega))
        ·obtain rfl := si ho
         have q74 : a.tmps.getD 74 undef = .pointer (some ⟨w.heap.size, 1, none⟩) := he _ (am (i := 0) rfl) (by kernel_rfl) _ rfl
         clear he
         have cc : u.cell? ⟨w.heap.size, 1, none⟩ = some (.slice (some ⟨b, off, none⟩) n.ds.length capd) := (pd.below (hb.trans (hR.mono hsz)) (by omega)).c 1 _ rfl
         go_simp
         exact hK _ _ (Below.refl _ _) (getD_put_self a 75 _ (by show _ < a.tmps.size; omega))
        ·obtain rfl := si ho
         have q6 : a.tmps.getD 6 undef = .int .i64 j := hf.at_ 6 (by kernel_rfl)
         clear he
         go_simp
         exact hK _ _ (Below.refl _ _) (getD_put_self a 76 _ (by show _ < a.tmps.size; omega))
        ·obtain rfl := si ho
         have q75 : a.tmps.getD 75 undef = .slice (some ⟨b, off, none⟩) n.ds.length capd := he _ (am (i := 0) rfl) (by kernel_rfl) _ rfl
         have q76 : a.tmps.getD 76 undef = .int .i64 j := he _ (am (i := 1) rfl) (by kernel_rfl) _ rfl
         clear he
         go_simp
         exact hK _ _ (Below.refl _ _) (getD_put_self a 77 _ (by show _ < a.tmps.size; omega))
        ·obtain rfl := si ho
         have q77 : a.tmps.getD 77 undef = .pointer (some ⟨b, off + j * 3, none⟩) := he _ (am (i := 0) rfl) (by kernel_rfl) _ rfl
         clear he
         go_simp
         exact hK _ _ (Below.refl _ _) (getD_put_self a 78 _ (by show _ < a.tmps.size; omega))
        ·obtain rfl := si ho
         have q78 : a.tmps.getD 78 undef = .pointer (some ⟨b, off + j * 3, none⟩) := he _ (am (i := 0) rfl) (by kernel_rfl) _ rfl
         clear he
         refine wantedG rfl (wp_loadG Tryz.isAgg118 Tryz.sizeOf118 (vs := [.int .i64 x.tk, .int .i64 x.ta]) _ rfl q78 rfl ((h5.below (hb.trans (hR.mono hsz)) (by omega)).part 0 2) ?_)
         exact hK _ _ (Below.refl _ _) (getD_put_self a 79 _ (by show _ < a.tmps.size; omega))
        ·obtain rfl := si ho
         have q5 : a.tmps.getD 5 undef = .pointer (some ⟨DB, 0, none⟩) := hf.at_ 5 (by kernel_rfl)
         clear he
         go_simp
         exact hK _ _ (Below.refl _ _) (getD_put_self a 80 _ (by show _ < a.tmps.size; omega))
        ·obtain rfl := si ho
         have q80 : a.tmps.getD 80 undef = .pointer (some ⟨DB, 0, none⟩) := he _ (am (i := 0) rfl) (by kernel_rfl) _ rfl
         clear he
         refine wantedG rfl (wp_loadG Tryz.isAgg118 Tryz.sizeOf118 (vs := [.int .i64 d.tk, .int .i64 d.ta]) _ rfl q80 rfl ((q3.below (hb.trans (hR.mono hsz)) (by omega)).c.part 0 2) ?_)
         exact hK _ _ (Below.refl _ _) (getD_put_self a 81 _ (by show _ < a.tmps.size; omega))
        ·obtain rfl := si ho
         have q79 : a.tmps.getD 79 undef = .agg [.int .i64 x.tk, .int .i64 x.ta].toArray := he _ (am (i := 0) rfl) (by kernel_rfl) _ rfl
         have q81 : a.tmps.getD 81 undef = .agg [.int .i64 d.tk, .int .i64 d.ta].toArray := he _ (am (i := 1) rfl) (by kernel_rfl) _ rfl
         clear he
         have hn := eql_addrK x.tk x.ta d.tk d.ta u
         rw [HC.out] at hn
         exact wantedG rfl (wp_binG (.tmp 79) (.tmp 81) rfl q79 q81 (guard_addrK .eql (.tmp 79) (.tmp 81) x.tk x.ta d.tk d.ta u) hn (hK _ _ (Below.refl _ _) (getD_put_self a 82 _ (by show _ < a.tmps.size; omega))))
        ·exact absurd ho (by simp)
       ·intro a u hf hR0 hp
        have hR : Grow wr u := (Below.drew (Below.refl _ _)).trans hR0
        have m82 : a.tmps.getD 82 undef = .bool c := hp 8 _ rfl
        have hbu : Below wd.heap.size wd u := hb.trans (hR.mono hsz)
        have husz := hR.size
        clear hp hR hR0 h5
        cases c with
        | false =>
         have HN : Hid (FreshTo n.ds d (j + 1)) := fresh_next HT.out HX2.out HC.out
         obtain ⟨fq, ea, hfv⟩ := act_lit a 91 hf.size
         have md : a.defers = [] := hf.defers
         rw [md] at ea
         have m0 := hf.at_ 0 (by kernel_rfl)
         have m1 := hf.at_ 1 (by kernel_rfl)
         have m2 := hf.at_ 2 (by kernel_rfl)
         have m3 := hf.at_ 3 (by kernel_rfl)
         have m4 := hf.at_ 4 (by kernel_rfl)
         have m5 := hf.at_ 5 (by kernel_rfl)
         have m6 := hf.at_ 6 (by kernel_rfl)
         have m7 := hf.at_ 7 (by kernel_rfl)
         have m8 := hf.at_ 8 (by kernel_rfl)
         have m9 := hf.at_ 9 (by kernel_rfl)
         have m10 := hf.at_ 10 (by kernel_rfl)
         have m11 := hf.at_ 11 (by kernel_rfl)
         have m12 := hf.at_ 12 (by kernel_rfl)
         have m13 := hf.at_ 13 (by kernel_rfl)
         have m14 := hf.at_ 14 (by kernel_rfl)
         have m15 := hf.at_ 15 (by kernel_rfl)
         have m16 := hf.at_ 16 (by kernel_rfl)
         have m17 := hf.at_ 17 (by kernel_rfl)
         have m18 := hf.at_ 18 (by kernel_rfl)
         have m19 := hf.at_ 19 (by kernel_rfl)
         have m20 := hf.at_ 20 (by kernel_rfl)
         have m21 := hf.at_ 21 (by kernel_rfl)
         have m22 := hf.at_ 22 (by kernel_rfl)
         have m23 := hf.at_ 23 (by kernel_rfl)
         have m24 := hf.at_ 24 (by kernel_rfl)
         have m25 := hf.at_ 25 (by kernel_rfl)
         have m26 := hf.at_ 26 (by kernel_rfl)
         have m27 := hf.at_ 27 (by kernel_rfl)
         have m28 := hf.at_ 28 (by kernel_rfl)
         have m29 := hf.at_ 29 (by kernel_rfl)
         have m30 := hf.at_ 30 (by kernel_rfl)
         have m31 := hf.at_ 31 (by kernel_rfl)
         have m32 := hf.at_ 32 (by kernel_rfl)
         have m33 := hf.at_ 33 (by kernel_rfl)
         have m34 := hf.at_ 34 (by kernel_rfl)
         have m35 := hf.at_ 35 (by kernel_rfl)
         have m36 := hf.at_ 36 (by kernel_rfl)
         have m37 := hf.at_ 37 (by kernel_rfl)
         have m38 := hf.at_ 38 (by kernel_rfl)
         have m39 := hf.at_ 39 (by kernel_rfl)
         have m40 := hf.at_ 40 (by kernel_rfl)
         have m41 := hf.at_ 41 (by kernel_rfl)
         have m42 := hf.at_ 42 (by kernel_rfl)
         have m43 := hf.at_ 43 (by kernel_rfl)
         have m44 := hf.at_ 44 (by kernel_rfl)
         have m45 := hf.at_ 45 (by kernel_rfl)
         have m46 := hf.at_ 46 (by kernel_rfl)
         have m47 := hf.at_ 47 (by kernel_rfl)
         have m48 := hf.at_ 48 (by kernel_rfl)
         have m49 := hf.at_ 49 (by kernel_rfl)
         have m50 := hf.at_ 50 (by kernel_rfl)
         have m51 := hf.at_ 51 (by kernel_rfl)
         have m52 := hf.at_ 52 (by kernel_rfl)
         have m53 := hf.at_ 53 (by kernel_rfl)
         have m54 := hf.at_ 54 (by kernel_rfl)
         have m55 := hf.at_ 55 (by kernel_rfl)
         have m56 := hf.at_ 56 (by kernel_rfl)
         have m57 := hf.at_ 57 (by kernel_rfl)
         have m58 := hf.at_ 58 (by kernel_rfl)
         have m59 := hf.at_ 59 (by kernel_rfl)
         have m60 := hf.at_ 60 (by kernel_rfl)
         have m61 := hf.at_ 61 (by kernel_rfl)
         have m62 := hf.at_ 62 (by kernel_rfl)
         have m63 := hf.at_ 63 (by kernel_rfl)
         have m64 := hf.at_ 64 (by kernel_rfl)
         have m65 := hf.at_ 65 (by kernel_rfl)
         have m66 := hf.at_ 66 (by kernel_rfl)
         have m67 := hf.at_ 67 (by kernel_rfl)
         have m68 := hf.at_ 68 (by kernel_rfl)
         have m69 := hf.at_ 69 (by kernel_rfl)
         have m70 := hf.at_ 70 (by kernel_rfl)
         have m71 := hf.at_ 71 (by kernel_rfl)
         have m72 := hf.at_ 72 (by kernel_rfl)
         have m73 := hf.at_ 73 (by kernel_rfl)
         have m83 := hf.at_ 83 (by kernel_rfl)
         have m84 := hf.at_ 84 (by kernel_rfl)
         have m85 := hf.at_ 85 (by kernel_rfl)
         have m86 := hf.at_ 86 (by kernel_rfl)
         have m87 := hf.at_ 87 (by kernel_rfl)
         have m88 := hf.at_ 88 (by kernel_rfl)
         have m89 := hf.at_ 89 (by kernel_rfl)
         have m90 := hf.at_ 90 (by kernel_rfl)
         rw [← hfv] at m0 m1 m2 m3 m4 m5 m6 m7 m8 m9 m10 m11 m12 m13 m14 m15 m16 m17 m18 m19 m20 m21 m22 m23 m24 m25 m26 m27 m28 m29 m30 m31 m32 m33 m34 m35 m36 m37 m38 m39 m40 m41 m42 m43 m44 m45 m46 m47 m48 m49 m50 m51 m52 m53 m54 m55 m56 m57 m58 m59 m60 m61 m62 m63 m64 m65 m66 m67 m68 m69 m70 m71 m72 m73 m83 m84 m85 m86 m87 m88 m89 m90 m82
         simp only [Array.getD_eq_getD_getElem?, List.getElem?_toArray, List.getElem?_cons_succ, List.getElem?_cons_zero, Option.getD_some] at m0 m1 m2 m3 m4 m5 m6 m7 m8 m9 m10 m11 m12 m13 m14 m15 m16 m17 m18 m19 m20 m21 m22 m23 m24 m25 m26 m27 m28 m29 m30 m31 m32 m33 m34 m35 m36 m37 m38 m39 m40 m41 m42 m43 m44 m45 m46 m47 m48 m49 m50 m51 m52 m53 m54 m55 m56 m57 m58 m59 m60 m61 m62 m63 m64 m65 m66 m67 m68 m69 m70 m71 m72 m73 m83 m84 m85 m86 m87 m88 m89 m90
         simp only [List.range, List.range.loop, List.map_cons, List.map_nil, m0, m1, m2, m3, m4, m5, m6, m7, m8, m9, m10, m11, m12, m13, m14, m15, m16, m17, m18, m19, m20, m21, m22, m23, m24, m25, m26, m27, m28, m29, m30, m31, m32, m33, m34, m35, m36, m37, m38, m39, m40, m41, m42, m43, m44, m45, m46, m47, m48, m49, m50, m51, m52, m53, m54, m55, m56, m57, m58, m59, m60, m61, m62, m63, m64, m65, m66, m67, m68, m69, m70, m71, m72, m73, m83, m84, m85, m86, m87, m88, m89, m90, m82] at ea
         subst ea
         clear m0 m1 m2 m3 m4 m5 m6 m7 m8 m9 m10 m11 m12 m13 m14 m15 m16 m17 m18 m19 m20 m21 m22 m23 m24 m25 m26 m27 m28 m29 m30 m31 m32 m33 m34 m35 m36 m37 m38 m39 m40 m41 m42 m43 m44 m45 m46 m47 m48 m49 m50 m51 m52 m53 m54 m55 m56 m57 m58 m59 m60 m61 m62 m63 m64 m65 m66 m67 m68 m69 m70 m71 m72 m73 m83 m84 m85 m86 m87 m88 m89 m90 m82 hfv md hf
         go_wp2
         go_roundw
         case rel => exact ⟨j + 1, by omega, by go_num, hbu, HN.out⟩
         case measure => simp [intOf]; omega
        | true =>
         have HF : Hid (R = false) := by show R = false; rw [← HR.out]; exact netOk_twice HX.out HX2.out hlt HC.out
         obtain ⟨fq, ea, hfv⟩ := act_lit a 91 hf.size
         have md : a.defers = [] := hf.defers
         rw [md] at ea
         have m0 := hf.at_ 0 (by kernel_rfl)
         have m1 := hf.at_ 1 (by kernel_rfl)
         have m2 := hf.at_ 2 (by kernel_rfl)
         have m3 := hf.at_ 3 (by kernel_rfl)
         have m4 := hf.at_ 4 (by kernel_rfl)
         have m5 := hf.at_ 5 (by kernel_rfl)
         have m6 := hf.at_ 6 (by kernel_rfl)
         have m7 := hf.at_ 7 (by kernel_rfl)
         have m8 := hf.at_ 8 (by kernel_rfl)
         have m9 := hf.at_ 9 (by kernel_rfl)
         have m10 := hf.at_ 10 (by kernel_rfl)
         have m11 := hf.at_ 11 (by kernel_rfl)
         have m12 := hf.at_ 12 (by kernel_rfl)
         have m13 := hf.at_ 13 (by kernel_rfl)
         have m14 := hf.at_ 14 (by kernel_rfl)
         have m15 := hf.at_ 15 (by kernel_rfl)
         have m16 := hf.at_ 16 (by kernel_rfl)
         have m17 := hf.at_ 17 (by kernel_rfl)
         have m18 := hf.at_ 18 (by kernel_rfl)
         have m19 := hf.at_ 19 (by kernel_rfl)
         have m20 := hf.at_ 20 (by kernel_rfl)
         have m21 := hf.at_ 21 (by kernel_rfl)
         have m22 := hf.at_ 22 (by kernel_rfl)
         have m23 := hf.at_ 23 (by kernel_rfl)
         have m24 := hf.at_ 24 (by kernel_rfl)
         have m25 := hf.at_ 25 (by kernel_rfl)
         have m26 := hf.at_ 26 (by kernel_rfl)
         have m27 := hf.at_ 27 (by kernel_rfl)
         have m28 := hf.at_ 28 (by kernel_rfl)
         have m29 := hf.at_ 29 (by kernel_rfl)
         have m30 := hf.at_ 30 (by kernel_rfl)
         have m31 := hf.at_ 31 (by kernel_rfl)
         have m32 := hf.at_ 32 (by kernel_rfl)
         have m33 := hf.at_ 33 (by kernel_rfl)
         have m34 := hf.at_ 34 (by kernel_rfl)
         have m35 := hf.at_ 35 (by kernel_rfl)
         have m36 := hf.at_ 36 (by kernel_rfl)
         have m37 := hf.at_ 37 (by kernel_rfl)
         have m38 := hf.at_ 38 (by kernel_rfl)
         have m39 := hf.at_ 39 (by kernel_rfl)
         have m40 := hf.at_ 40 (by kernel_rfl)
         have m41 := hf.at_ 41 (by kernel_rfl)
         have m42 := hf.at_ 42 (by kernel_rfl)
         have m43 := hf.at_ 43 (by kernel_rfl)
         have m44 := hf.at_ 44 (by kernel_rfl)
         have m45 := hf.at_ 45 (by kernel_rfl)
         have m46 := hf.at_ 46 (by kernel_rfl)
         have m47 := hf.at_ 47 (by kernel_rfl)
         have m48 := hf.at_ 48 (by kernel_rfl)
         have m49 := hf.at_ 49 (by kernel_rfl)
         have m50 := hf.at_ 50 (by kernel_rfl)
         have m51 := hf.at_ 51 (by kernel_rfl)
         have m52 := hf.at_ 52 (by kernel_rfl)
         have m53 := hf.at_ 53 (by kernel_rfl)
         have m54 := hf.at_ 54 (by kernel_rfl)
         have m55 := hf.at_ 55 (by kernel_rfl)
         have m56 := hf.at_ 56 (by kernel_rfl)
         have m57 := hf.at_ 57 (by kernel_rfl)
         have m58 := hf.at_ 58 (by kernel_rfl)
         have m59 := hf.at_ 59 (by kernel_rfl)
         have m60 := hf.at_ 60 (by kernel_rfl)
         have m61 := hf.at_ 61 (by kernel_rfl)
         have m62 := hf.at_ 62 (by kernel_rfl)
         have m63 := hf.at_ 63 (by kernel_rfl)
         have m64 := hf.at_ 64 (by kernel_rfl)
         have m65 := hf.at_ 65 (by kernel_rfl)
         have m66 := hf.at_ 66 (by kernel_rfl)
         have m67 := hf.at_ 67 (by kernel_rfl)
         have m68 := hf.at_ 68 (by kernel_rfl)
         have m69 := hf.at_ 69 (by kernel_rfl)
         have m70 := hf.at_ 70 (by kernel_rfl)
         have m71 := hf.at_ 71 (by kernel_rfl)
         have m72 := hf.at_ 72 (by kernel_rfl)
         have m73 := hf.at_ 73 (by kernel_rfl)
         have m83 := hf.at_ 83 (by kernel_rfl)
         have m84 := hf.at_ 84 (by kernel_rfl)
         have m85 := hf.at_ 85 (by kernel_rfl)
         have m86 := hf.at_ 86 (by kernel_rfl)
         have m87 := hf.at_ 87 (by kernel_rfl)
         have m88 := hf.at_ 88 (by kernel_rfl)
         have m89 := hf.at_ 89 (by kernel_rfl)
         have m90 := hf.at_ 90 (by kernel_rfl)
         rw [← hfv] at m0 m1 m2 m3 m4 m5 m6 m7 m8 m9 m10 m11 m12 m13 m14 m15 m16 m17 m18 m19 m20 m21 m22 m23 m24 m25 m26 m27 m28 m29 m30 m31 m32 m33 m34 m35 m36 m37 m38 m39 m40 m41 m42 m43 m44 m45 m46 m47 m48 m49 m50 m51 m52 m53 m54 m55 m56 m57 m58 m59 m60 m61 m62 m63 m64 m65 m66 m67 m68 m69 m70 m71 m72 m73 m83 m84 m85 m86 m87 m88 m89 m90 m82
         simp only [Array.getD_eq_getD_getElem?, List.getElem?_toArray, List.getElem?_cons_succ, List.getElem?_cons_zero, Option.getD_some] at m0 m1 m2 m3 m4 m5 m6 m7 m8 m9 m10 m11 m12 m13 m14 m15 m16 m17 m18 m19 m20 m21 m22 m23 m24 m25 m26 m27 m28 m29 m30 m31 m32 m33 m34 m35 m36 m37 m38 m39 m40 m41 m42 m43 m44 m45 m46 m47 m48 m49 m50 m51 m52 m53 m54 m55 m56 m57 m58 m59 m60 m61 m62 m63 m64 m65 m66 m67 m68 m69 m70 m71 m72 m73 m83 m84 m85 m86 m87 m88 m89 m90
         simp only [List.range, List.range.loop, List.map_cons, List.map_nil, m0, m1, m2, m3, m4, m5, m6, m7, m8, m9, m10, m11, m12, m13, m14, m15, m16, m17, m18, m19, m20, m21, m22, m23, m24, m25, m26, m27, m28, m29, m30, m31, m32, m33, m34, m35, m36, m37, m38, m39, m40, m41, m42, m43, m44, m45, m46, m47, m48, m49, m50, m51, m52, m53, m54, m55, m56, m57, m58, m59, m60, m61, m62, m63, m64, m65, m66, m67, m68, m69, m70, m71, m72, m73, m83, m84, m85, m86, m87, m88, m89, m90, m82] at ea
         subst ea
         clear m0 m1 m2 m3 m4 m5 m6 m7 m8 m9 m10 m11 m12 m13 m14 m15 m16 m17 m18 m19 m20 m21 m22 m23 m24 m25 m26 m27 m28 m29 m30 m31 m32 m33 m34 m35 m36 m37 m38 m39 m40 m41 m42 m43 m44 m45 m46 m47 m48 m49 m50 m51 m52 m53 m54 m55 m56 m57 m58 m59 m60 m61 m62 m63 m64 m65 m66 m67 m68 m69 m70 m71 m72 m73 m83 m84 m85 m86 m87 m88 m89 m90 m82 hfv md hf
         go_wp2
         go_ret
         exact ⟨ret_bool HF.out.symm, g0.trans ((G3.trans (hbu.mono (by omega))).mono (by omega))⟩
      ·obtain rfl : j = i := by omega
       have HN : Hid (DrivesTo n.ds n.ws.length (j + 1)) := drives_next HTD.out HX.out HOKD.out (freshD_of HT.out)
       have hbu : Below w0.heap.size w0 wr := G3.trans (hb.mono (by omega))
       clear HT hb hsz
       go_wp2
       go_roundw
       case rel => exact ⟨j + 1, by omega, by go_num, hbu, HN.out⟩
       case measure => simp [intOf]; omega
    ·obtain rfl : i = n.ds.length := by omega
     have HE : Hid (netOk n = ((orderW n.ws).length == n.ws.length)) := netOk_end HL.out.1 HL.out.2 (fun i x hx => HT.out i x (List.getElem?_eq_some_iff.mp hx).1 hx) (drivesOk_of fun i d hd => HTD.out i d (List.getElem?_eq_some_iff.mp hd).1 hd)
     have hO := fun u (b : Below w0.heap.size w0 u) => l7Order_any u lo hi _ n.ws (HA.out.under b (by omega)) (Nat.le_trans hhi0 b.size) (by omega) (fun x hx => by
      obtain ⟨k, hk⟩ := List.mem_iff_getElem?.mp hx
      exact HT.out k x (List.getElem?_eq_some_iff.mp hk).1 hk)
     clear HT HTD
     go_wp2_with fail
     clear c1
     obtain ⟨c, hc⟩ : ∃ c, (((orderW n.ws).length : Int) == (n.ws.length : Int)) = c := ⟨_, rfl⟩
     have HCC : Hid ((((orderW n.ws).length : Int) == (n.ws.length : Int)) = c) := hc
     have HCN : Hid (R = c) := by
      show R = c
      rw [← HR.out, HE.out, ← hc, Bool.eq_iff_iff]
      simp only [beq_iff_eq]
      omega
     clear hc
     refine wp_region_dag (R := Grow) (Φ := fun i v u => match i with
       | 0 => v = .pointer (some ⟨w.heap.size, 0, none⟩)
       | 1 => v = .slice ad n.ws.length cap
       | 2 => ∃ ad9 cap9, v = .slice ad9 (orderW n.ws).length cap9
       | 3 => v = .int .i64 (orderW n.ws).length
       | 4 => v = .pointer (some ⟨w.heap.size, 0, none⟩)
       | 5 => v = .slice ad n.ws.length cap
       | 6 => v = .int .i64 n.ws.length
       | 7 => v = .bool c
       | 8 => v = .bool c
       | _ => True) (by kernel_rfl) (by kernel_rfl) (by kernel_rfl) (Below.refl _ _) grow_trans ?_ ?_ ?_
     ·intro i v u u' hr
      match i with
      | 0 | 1 | 3 | 4 | 5 | 6 | 7 | 8 | _ + 9 => exact fun h => h
      | 2 => exact fun h => h
     ·intro i o ho a u hf hR0 he K' hK
      have hR : Grow wr u := (Below.drew (Below.refl _ _)).trans hR0
      have hsz' : a.tmps.size = 91 := hf.size
      have hus : wr.heap.size ≤ u.heap.size := hR.size
      rcases i with _ | _ | _ | _ | _ | _ | _ | _ | _ | i
      ·obtain rfl := si ho
       have q1 : a.tmps.getD 1 undef = .pointer (some ⟨w.heap.size, 0, none⟩) := hf.at_ 1 (by kernel_rfl)
       clear he
       go_simp
       exact hK _ _ (Below.refl _ _) (getD_put_self a 83 _ (by show _ < a.tmps.size; omega))
      ·obtain rfl := si ho
       have q83 : a.tmps.getD 83 undef = .pointer (some ⟨w.heap.size, 0, none⟩) := he _ (am (i := 0) rfl) (by kernel_rfl) _ rfl
       clear he
       have cc : u.cell? ⟨w.heap.size, 0, none⟩ = some (.slice ad n.ws.length cap) := (pv.below (hb.trans (hR.mono hsz)) (by omega)).c 0 _ rfl
       go_simp
       exact hK _ _ (Below.refl _ _) (getD_put_self a 84 _ (by show _ < a.tmps.size; omega))
      ·obtain rfl := si ho
       have q84 : a.tmps.getD 84 undef = .slice ad n.ws.length cap := he _ (am (i := 0) rfl) (by kernel_rfl) _ rfl
       clear he
       go_simp
       refine (hO u (hb.trans (hR.mono hsz))).mono ?_
       rintro e1 u' ⟨v9, rfl, hR9, hbu⟩
       obtain ⟨ad9, cap9, hv9, _, _⟩ := hR9.shape; exact hK _ _ hbu ⟨ad9, cap9, by rw [List.length_map] at hv9; rw [← hv9]; exact getD_put_self a 85 _ (by show _ < a.tmps.size; omega)⟩
      ·obtain rfl := si ho
       obtain ⟨ad9, cap9, q85⟩ := he _ (am (i := 0) rfl) (by kernel_rfl) _ rfl; have q85 : a.tmps.getD 85 undef = .slice ad9 (orderW n.ws).length cap9 := q85
       clear he
       go_simp
       exact hK _ _ (Below.refl _ _) (getD_put_self a 86 _ (by show _ < a.tmps.size; omega))
      ·obtain rfl := si ho
       have q1 : a.tmps.getD 1 undef = .pointer (some ⟨w.heap.size, 0, none⟩) := hf.at_ 1 (by kernel_rfl)
       clear he
       go_simp
       exact hK _ _ (Below.refl _ _) (getD_put_self a 87 _ (by show _ < a.tmps.size; omega))
      ·obtain rfl := si ho
       have q87 : a.tmps.getD 87 undef = .pointer (some ⟨w.heap.size, 0, none⟩) := he _ (am (i := 0) rfl) (by kernel_rfl) _ rfl
       clear he
       have cc : u.cell? ⟨w.heap.size, 0, none⟩ = some (.slice ad n.ws.length cap) := (pv.below (hb.trans (hR.mono hsz)) (by omega)).c 0 _ rfl
       go_simp
       exact hK _ _ (Below.refl _ _) (getD_put_self a 88 _ (by show _ < a.tmps.size; omega))
      ·obtain rfl := si ho
       have q88 : a.tmps.getD 88 undef = .slice ad n.ws.length cap := he _ (am (i := 0) rfl) (by kernel_rfl) _ rfl
       clear he
       go_simp
       exact hK _ _ (Below.refl _ _) (getD_put_self a 89 _ (by show _ < a.tmps.size; omega))
      ·obtain rfl := si ho
       have q86 : a.tmps.getD 86 undef = .int .i64 (orderW n.ws).length := he _ (am (i := 0) rfl) (by kernel_rfl) _ rfl
       have q89 : a.tmps.getD 89 undef = .int .i64 n.ws.length := he _ (am (i := 1) rfl) (by kernel_rfl) _ rfl
       clear he
       have hcc := HCC.out
       go_simp
       exact hK _ _ (Below.refl _ _) (getD_put_self a 90 _ (by show _ < a.tmps.size; omega))
      ·obtain rfl := si ho
       have q90 : a.tmps.getD 90 undef = .bool c := he _ (am (i := 0) rfl) (by kernel_rfl) _ rfl
       clear he
       go_simp
       exact hK _ _ (Below.refl _ _) (getD_put_self a 2 _ (by show _ < a.tmps.size; omega))
      ·exact absurd ho (by simp)
     ·intro a u hf hR0 hp
      have hR : Grow wr u := (Below.drew (Below.refl _ _)).trans hR0
      have m2 : a.tmps.getD 2 undef = .bool c := hp 8 _ rfl
      have hbu : Below w0.heap.size w0 u := hb.trans (hR.mono hsz)
      clear hp hR hR0 hO
      obtain ⟨fq, ea, hfv⟩ := act_lit a 91 hf.size
      have md : a.defers = [] := hf.defers
      rw [md] at ea
      have m0 := hf.at_ 0 (by kernel_rfl)
      have m1 := hf.at_ 1 (by kernel_rfl)
      have m3 := hf.at_ 3 (by kernel_rfl)
      have m4 := hf.at_ 4 (by kernel_rfl)
      have m5 := hf.at_ 5 (by kernel_rfl)
      have m6 := hf.at_ 6 (by kernel_rfl)
      have m7 := hf.at_ 7 (by kernel_rfl)
      have m8 := hf.at_ 8 (by kernel_rfl)
      have m9 := hf.at_ 9 (by kernel_rfl)
      have m10 := hf.at_ 10 (by kernel_rfl)
      have m11 := hf.at_ 11 (by kernel_rfl)
      have m12 := hf.at_ 12 (by kernel_rfl)
      have m13 := hf.at_ 13 (by kernel_rfl)
      have m14 := hf.at_ 14 (by kernel_rfl)
      have m15 := hf.at_ 15 (by kernel_rfl)
      have m16 := hf.at_ 16 (by kernel_rfl)
      have m17 := hf.at_ 17 (by kernel_rfl)
      have m18 := hf.at_ 18 (by kernel_rfl)
      have m19 := hf.at_ 19 (by kernel_rfl)
      have m20 := hf.at_ 20 (by kernel_rfl)
      have m21 := hf.at_ 21 (by kernel_rfl)
      have m22 := hf.at_ 22 (by kernel_rfl)
      have m23 := hf.at_ 23 (by kernel_rfl)
      have m24 := hf.at_ 24 (by kernel_rfl)
      have m25 := hf.at_ 25 (by kernel_rfl)
      have m26 := hf.at_ 26 (by kernel_rfl)
      have m27 := hf.at_ 27 (by kernel_rfl)
      have m28 := hf.at_ 28 (by kernel_rfl)
      have m29 := hf.at_ 29 (by kernel_rfl)
      have m30 := hf.at_ 30 (by kernel_rfl)
      have m31 := hf.at_ 31 (by kernel_rfl)
      have m32 := hf.at_ 32 (by kernel_rfl)
      have m33 := hf.at_ 33 (by kernel_rfl)
      have m34 := hf.at_ 34 (by kernel_rfl)
      have m35 := hf.at_ 35 (by kernel_rfl)
      have m36 := hf.at_ 36 (by kernel_rfl)
      have m37 := hf.at_ 37 (by kernel_rfl)
      have m38 := hf.at_ 38 (by kernel_rfl)
      have m39 := hf.at_ 39 (by kernel_rfl)
      have m40 := hf.at_ 40 (by kernel_rfl)
      have m41 := hf.at_ 41 (by kernel_rfl)
      have m42 := hf.at_ 42 (by kernel_rfl)
      have m43 := hf.at_ 43 (by kernel_rfl)
      have m44 := hf.at_ 44 (by kernel_rfl)
      have m45 := hf.at_ 45 (by kernel_rfl)
      have m46 := hf.at_ 46 (by kernel_rfl)
      have m47 := hf.at_ 47 (by kernel_rfl)
      have m48 := hf.at_ 48 (by kernel_rfl)
      have m49 := hf.at_ 49 (by kernel_rfl)
      have m50 := hf.at_ 50 (by kernel_rfl)
      have m51 := hf.at_ 51 (by kernel_rfl)
      have m52 := hf.at_ 52 (by kernel_rfl)
      have m53 := hf.at_ 53 (by kernel_rfl)
      have m54 := hf.at_ 54 (by kernel_rfl)
      have m55 := hf.at_ 55 (by kernel_rfl)
      have m56 := hf.at_ 56 (by kernel_rfl)
      have m57 := hf.at_ 57 (by kernel_rfl)
      have m58 := hf.at_ 58 (by kernel_rfl)
      have m59 := hf.at_ 59 (by kernel_rfl)
      have m60 := hf.at_ 60 (by kernel_rfl)
      have m61 := hf.at_ 61 (by kernel_rfl)
      have m62 := hf.at_ 62 (by kernel_rfl)
      have m63 := hf.at_ 63 (by kernel_rfl)
      have m64 := hf.at_ 64 (by kernel_rfl)
      have m65 := hf.at_ 65 (by kernel_rfl)
      have m66 := hf.at_ 66 (by kernel_rfl)
      have m67 := hf.at_ 67 (by kernel_rfl)
      have m68 := hf.at_ 68 (by kernel_rfl)
      have m69 := hf.at_ 69 (by kernel_rfl)
      have m70 := hf.at_ 70 (by kernel_rfl)
      have m71 := hf.at_ 71 (by kernel_rfl)
      have m72 := hf.at_ 72 (by kernel_rfl)
      have m73 := hf.at_ 73 (by kernel_rfl)
      have m74 := hf.at_ 74 (by kernel_rfl)
      have m75 := hf.at_ 75 (by kernel_rfl)
      have m76 := hf.at_ 76 (by kernel_rfl)
      have m77 := hf.at_ 77 (by kernel_rfl)
      have m78 := hf.at_ 78 (by kernel_rfl)
      have m79 := hf.at_ 79 (by kernel_rfl)
      have m80 := hf.at_ 80 (by kernel_rfl)
      have m81 := hf.at_ 81 (by kernel_rfl)
      have m82 := hf.at_ 82 (by kernel_rfl)
      rw [← hfv] at m0 m1 m3 m4 m5 m6 m7 m8 m9 m10 m11 m12 m13 m14 m15 m16 m17 m18 m19 m20 m21 m22 m23 m24 m25 m26 m27 m28 m29 m30 m31 m32 m33 m34 m35 m36 m37 m38 m39 m40 m41 m42 m43 m44 m45 m46 m47 m48 m49 m50 m51 m52 m53 m54 m55 m56 m57 m58 m59 m60 m61 m62 m63 m64 m65 m66 m67 m68 m69 m70 m71 m72 m73 m74 m75 m76 m77 m78 m79 m80 m81 m82 m2
      simp only [Array.getD_eq_getD_getElem?, List.getElem?_toArray, List.getElem?_cons_succ, List.getElem?_cons_zero, Option.getD_some] at m0 m1 m3 m4 m5 m6 m7 m8 m9 m10 m11 m12 m13 m14 m15 m16 m17 m18 m19 m20 m21 m22 m23 m24 m25 m26 m27 m28 m29 m30 m31 m32 m33 m34 m35 m36 m37 m38 m39 m40 m41 m42 m43 m44 m45 m46 m47 m48 m49 m50 m51 m52 m53 m54 m55 m56 m57 m58 m59 m60 m61 m62 m63 m64 m65 m66 m67 m68 m69 m70 m71 m72 m73 m74 m75 m76 m77 m78 m79 m80 m81 m82
      simp only [List.range, List.range.loop, List.map_cons, List.map_nil, m0, m1, m3, m4, m5, m6, m7, m8, m9, m10, m11, m12, m13, m14, m15, m16, m17, m18, m19, m20, m21, m22, m23, m24, m25, m26, m27, m28, m29, m30, m31, m32, m33, m34, m35, m36, m37, m38, m39, m40, m41, m42, m43, m44, m45, m46, m47, m48, m49, m50, m51, m52, m53, m54, m55, m56, m57, m58, m59, m60, m61, m62, m63, m64, m65, m66, m67, m68, m69, m70, m71, m72, m73, m74, m75, m76, m77, m78, m79, m80, m81, m82, m2] at ea
      subst ea
      clear m0 m1 m3 m4 m5 m6 m7 m8 m9 m10 m11 m12 m13 m14 m15 m16 m17 m18 m19 m20 m21 m22 m23 m24 m25 m26 m27 m28 m29 m30 m31 m32 m33 m34 m35 m36 m37 m38 m39 m40 m41 m42 m43 m44 m45 m46 m47 m48 m49 m50 m51 m52 m53 m54 m55 m56 m57 m58 m59 m60 m61 m62 m63 m64 m65 m66 m67 m68 m69 m70 m71 m72 m73 m74 m75 m76 m77 m78 m79 m80 m81 m82 m2 hfv md hf
      go_wp2
      go_ret
      exact ⟨ret_bool HCN.out.symm, g0.trans (hbu.mono (by omega))⟩
end Go.Proofs.YtaoiookfmgpmkaaGreatDoor
