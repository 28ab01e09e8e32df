/-
 The model's l7State: what a net keeps fits it. (Written by our generator gen_stateok.py.)
-/
import Derived.Test.YtaoiookfmgpmkaaGreatDoorQM12
import Derived.Test.YtaoiookfmgpmkaaGreatDoorQM13
import Derived.Test.YtaoiookfmgpmkaaGreatDoorQM2
namespace Go.Proofs.YtaoiookfmgpmkaaGreatDoor
open Go.ChangeShapes Go.WideShapes Go.ChangeAt Go.RowKit
set_option linter.unusedVariables false
set_option linter.unusedSimpArgs false
set_option maxRecDepth 100000
theorem zero_blockS : (Tryz.prog.info? 165).map (fun i => (i.zero, i.size)) = some (some (.agg (blockC noB).toArray), 5) := by kernel_rfl

set_option maxHeartbeats 16000000 in
theorem sL7State_any (w : World) (lo hi lo1 hi1 : Nat) (vn vs : Value) (n : NetD) (s : StateD) (hN : NI w lo hi vn n) (hS : StR w lo1 hi1 vs s) (hhi : hi ≤ w.heap.size) (hhi1 : hi1 ≤ w.heap.size) :
  Calls Tryz.prog 90 #[vn, vs] w fun e w' => e = .returned (.bool (stateFit n s)) ∧ Below w.heap.size w w' := by
 obtain ⟨R, hR⟩ : ∃ R, stateFit n s = R := ⟨_, rfl⟩
 rw [hR]
 have HR : Hid (stateFit n s = R) := hR
 clear hR
 obtain ⟨xa, xb, rfl, hxa, hxb⟩ := hN
 obtain ⟨ya, yb, rfl, hya, hyb⟩ := hS
 obtain ⟨ad, cap, rfl, k1, k1'⟩ := hxa.shape
 obtain ⟨add, capd, rfl, k2, k2'⟩ := hxb.shape
 obtain ⟨ad', cap', rfl, k3, k3'⟩ := hya.shape
 obtain ⟨add', capd', rfl, k4, k4'⟩ := hyb.shape
 unfold maxLen at k1' k2' k3' k4'
 have HK0 : Hid (GR wireE w lo hi (.slice ad n.ws.length cap) n.ws ∧ GR blockE w lo1 hi1 (.slice ad' s.bs.length cap') s.bs) := ⟨hxa, hya⟩
 clear hxa hxb hya hyb
 by_cases hl : s.bs.length = n.ws.length
 rotate_left
 ·have hl2 : ((s.bs.length : Int) != (n.ws.length : Int)) = true := by simp; omega
  have HF : Hid (R = false) := by show R = false; rw [← HR.out]; exact stateFit_len hl
  go_enter Tryz.func90, Tryz.ntmps90
  go_wp2_with (refine wpList_boxG (vs := [.slice ad n.ws.length cap, .slice add n.ds.length capd]) rfl _ rfl rfl ?_)
  intro u1 g1 p1 s1
  go_wp2_with (refine wpList_boxG (vs := [.slice ad' s.bs.length cap', .slice add' s.ls.length capd']) rfl _ rfl rfl ?_)
  intro w0 g2 qv s2
  have pv := p1.below g2 (by omega)
  have G2 := g1.trans (g2.mono (by omega))
  clear g1 g2 p1
  have c0 : w0.cell? ⟨w.heap.size, 0, none⟩ = some (.slice ad n.ws.length cap) := pv.c 0 _ rfl
  have d0 : w0.cell? ⟨w.heap.size + 1, 0, none⟩ = some (.slice ad' s.bs.length cap') := qv.c 0 _ rfl
  have d1 : w0.cell? ⟨w.heap.size + 1, 1, none⟩ = some (.slice add' s.ls.length capd') := qv.c 1 _ rfl
  go_wp2_with fail
  go_ret
  exact ⟨ret_bool HF.out.symm, G2⟩
 have hl2 : ((s.bs.length : Int) != (n.ws.length : Int)) = false := by simp; omega
 have HL : Hid (s.bs.length = n.ws.length) := hl
 clear hl
 by_cases hl : s.ls.length = n.ws.length
 rotate_left
 ·have hl3 : ((s.ls.length : Int) != (n.ws.length : Int)) = true := by simp; omega
  have HF : Hid (R = false) := by show R = false; rw [← HR.out]; exact stateFit_len2 hl
  go_enter Tryz.func90, Tryz.ntmps90
  go_wp2_with (refine wpList_boxG (vs := [.slice ad n.ws.length cap, .slice add n.ds.length capd]) rfl _ rfl rfl ?_)
  intro u1 g1 p1 s1
  go_wp2_with (refine wpList_boxG (vs := [.slice ad' s.bs.length cap', .slice add' s.ls.length capd']) rfl _ rfl rfl ?_)
  intro w0 g2 qv s2
  have pv := p1.below g2 (by omega)
  have G2 := g1.trans (g2.mono (by omega))
  clear g1 g2 p1
  have c0 : w0.cell? ⟨w.heap.size, 0, none⟩ = some (.slice ad n.ws.length cap) := pv.c 0 _ rfl
  have d0 : w0.cell? ⟨w.heap.size + 1, 0, none⟩ = some (.slice ad' s.bs.length cap') := qv.c 0 _ rfl
  have d1 : w0.cell? ⟨w.heap.size + 1, 1, none⟩ = some (.slice add' s.ls.length capd') := qv.c 1 _ rfl
  go_wp2_with fail
  go_ret
  exact ⟨ret_bool HF.out.symm, G2⟩
 have hl3 : ((s.ls.length : Int) != (n.ws.length : Int)) = false := by simp; omega
 have HLd : Hid (s.ls.length = n.ws.length) := hl
 clear hl
 go_enter Tryz.func90, Tryz.ntmps90
 go_wp2_with (refine wpList_boxG (vs := [.slice ad n.ws.length cap, .slice add n.ds.length capd]) rfl _ rfl rfl ?_)
 intro u1 g1 p1 s1
 go_wp2_with (refine wpList_boxG (vs := [.slice ad' s.bs.length cap', .slice add' s.ls.length capd']) rfl _ rfl rfl ?_)
 intro w0 g2 qv s2
 have pv := p1.below g2 (by omega)
 have G2 := g1.trans (g2.mono (by omega))
 clear g1 g2 p1
 have c0 : w0.cell? ⟨w.heap.size, 0, none⟩ = some (.slice ad n.ws.length cap) := pv.c 0 _ rfl
 have d0 : w0.cell? ⟨w.heap.size + 1, 0, none⟩ = some (.slice ad' s.bs.length cap') := qv.c 0 _ rfl
 have d1 : w0.cell? ⟨w.heap.size + 1, 1, none⟩ = some (.slice add' s.ls.length capd') := qv.c 1 _ rfl
 go_wp2_with fail

 clear c0 d0 d1
 have HK : Hid (GR wireE w0 lo hi (.slice ad n.ws.length cap) n.ws ∧ GR blockE w0 lo1 hi1 (.slice ad' s.bs.length cap') s.bs) := ⟨HK0.out.1.under G2 hhi, HK0.out.2.under G2 hhi1⟩
 clear HK0
 go_loopw [5] (fun i wr => ∃ j : Nat, j ≤ s.bs.length ∧ i = .int .i64 j ∧ Below w0.heap.size w0 wr ∧ FitTo n.ws s.bs j) (fun i _ => s.bs.length - (intOf i).toNat)
 case atStart => exact ⟨0, Nat.zero_le _, rfl, Below.refl _ _, fun i x b h => by omega⟩
 case round =>
  obtain ⟨j, hj, rfl, hb, ht⟩ := hrel
  have HT : Hid (FitTo n.ws s.bs j) := ht
  clear ht
  have hsz := hb.size
  have c0 : wr.cell? ⟨w.heap.size, 0, none⟩ = some (.slice ad n.ws.length cap) := (pv.below hb (by omega)).c 0 _ rfl
  have d0 : wr.cell? ⟨w.heap.size + 1, 0, none⟩ = some (.slice ad' s.bs.length cap') := (qv.below hb (by omega)).c 0 _ rfl
  by_cases hlt : j < s.bs.length
  ·have hlt' : j < n.ws.length := by have := HL.out; omega
   obtain ⟨bl, hbl⟩ : ∃ x, s.bs[j]? = some x := ⟨s.bs[j], List.getElem?_eq_getElem hlt⟩
   obtain ⟨x, hx⟩ : ∃ x, n.ws[j]? = some x := ⟨n.ws[j], List.getElem?_eq_getElem hlt'⟩
   obtain ⟨b, off, capx, hv, hb1, hb2, h5⟩ := HK.out.1.at_ hx
   obtain ⟨b', off', capy, hv', hb1', hb2', h5'⟩ := HK.out.2.at_ hbl
   simp only [Value.slice.injEq, true_and] at hv hv'
   obtain ⟨rfl, rfl⟩ := hv
   obtain ⟨rfl, rfl⟩ := hv'
   have h5 : CV w0 b (off + j * 12) (wireC x) := h5
   have h5' : CV wr b' (off' + j * 5) (blockC bl) := h5'.kept (hb.block b' (by omega))
   have HX1 : Hid (n.ws[j]? = some x ∧ s.bs[j]? = some bl) := ⟨hx, hbl⟩
   have hzB := (zero_of_info (P := Tryz.prog) zero_blockS).1
   clear hx hbl
   go_wp2_with (first
    | refine wpList_loadG Tryz.isAgg165 Tryz.sizeOf165 _ rfl rfl rfl rfl h5' ?_
    | refine wpList_allocG hzB rfl rfl ?_)
   intro uA gA vA sA
   have hrun := vA.run 0 5 (show 0 + 5 ≤ 5 by decide)
   go_wp2_with (refine wpList_storeG Tryz.sizeOf165 _ _ rfl rfl rfl rfl rfl (blockC_one bl) hrun.1 hrun.2 ?_)
   intro uX L
   have sX := L.size
   have HX : Hid (VarG uX wr.heap.size (blockC bl)) := L.var vA
   have HB : Hid (Below w0.heap.size w0 uX) := L.below _ _ hsz (hb.trans (gA.mono hsz))
   obtain ⟨X, hX⟩ : ∃ X, wr.heap.size = X := ⟨_, rfl⟩
   rw [hX] at HX
   rw [hX]
   have HC0 : Hid (uX.cell? ⟨w.heap.size, 0, none⟩ = some (.slice (some ⟨b, off, none⟩) n.ws.length cap)) := (pv.below HB.out (by omega)).c 0 _ rfl
   have HCK : Hid (uX.cell? ⟨b, off + j * 12, none⟩ = some (.int .i64 x.kind) ∧ uX.cell? ⟨b, off + j * 12 + 1, none⟩ = some (.int .i64 x.n)) :=
    ⟨(h5.kept (HB.out.block b (by omega))) 0 _ rfl, (h5.kept (HB.out.block b (by omega))) 1 _ rfl⟩
   have hszX : w0.heap.size ≤ X ∧ X < uX.heap.size := by omega
   have hwX : w.heap.size + 1 < X ∧ b < X := by omega
   clear L vA gA hrun c0 d0 h5' h5 hb hzB
   go_wp2_with fail
   obtain ⟨zz, hzz⟩ : ∃ z, decide (bl = noB) = z := ⟨_, rfl⟩
   obtain ⟨oo, hoo⟩ : ∃ z, blockOk bl = z := ⟨_, rfl⟩
   have HO : Hid (blockOk bl = oo) := hoo
   have HZ : Hid (decide (bl = noB) = zz) := hzz
   have hfit : fitWB x bl = if gateK x.kind then zz else oo && (bl.kind == x.kind && bl.n == x.n) := by unfold fitWB; rw [hzz, hoo]
   have HFIT : Hid (fitWB x bl = if gateK x.kind then zz else oo && (bl.kind == x.kind && bl.n == x.n)) := hfit
   clear hfit hzz hoo
   by_cases hg : gateK x.kind = true
   ·have HG : Hid (gateK x.kind = true) := hg
    clear hg
    cases zz with
    | false =>
     have HF : Hid (R = false) := by
      show R = false
      rw [← HR.out]
      refine stateFit_not (allFit_not HX1.out.1 HX1.out.2 ?_)
      rw [HFIT.out, HG.out]; rfl
     refine wp_region_dag (R := Grow) (Φ := fun i v u => match i with
       | 0 => v = .pointer (some ⟨w.heap.size, 0, none⟩)
       | 1 => v = .slice (some ⟨b, off, none⟩) n.ws.length cap
       | 2 => v = .int .i64 j
       | 3 => v = .pointer (some ⟨b, off + j * 12, none⟩)
       | 4 => v = .pointer (some ⟨b, off + j * 12, none⟩)
       | 5 => v = .int .i64 x.kind
       | 6 => v = .bool true
       | 7 => v = .bool true
       | 8 => v = .agg (blockC bl).toArray
       | 9 => v = .agg (blockC noB).toArray
       | 10 => v = .bool true
       | 11 => v = .bool true
       | 12 => v = .bool true
       | 13 => v = undef
       | 14 => v = undef
       | 15 => v = undef
       | 16 => v = undef
       | 17 => v = undef
       | 18 => v = undef
       | 19 => v = undef
       | 20 => v = undef
       | 21 => v = undef
       | 22 => v = undef
       | 23 => v = undef
       | 24 => v = undef
       | 25 => v = undef
       | 26 => v = undef
       | 27 => v = undef
       | 28 => v = undef
       | 29 => v = undef
       | 30 => v = undef
       | 31 => v = undef
       | 32 => v = undef
       | 33 => v = undef
       | 34 => v = undef
       | 35 => v = undef
       | 36 => v = undef
       | 37 => v = undef
       | 38 => v = undef
       | 39 => v = undef
       | 40 => v = undef
       | 41 => v = undef
       | 42 => v = undef
       | 43 => v = undef
       | 44 => v = undef
       | 45 => v = undef
       | 46 => v = undef
       | 47 => v = undef
       | 48 => v = .bool true
       | _ => True) (by kernel_rfl) (by kernel_rfl) (by kernel_rfl) (Below.refl _ _) grow_trans ?_ ?_ ?_
     ·intro i v u u' hr
      match i with
      | 0 | 1 | 2 | 3 | 4 | 5 | 6 | 7 | 8 | 9 | 10 | 11 | 12 | 13 | 14 | 15 | 16 | 17 | 18 | 19 | 20 | 21 | 22 | 23 | 24 | 25 | 26 | 27 | 28 | 29 | 30 | 31 | 32 | 33 | 34 | 35 | 36 | 37 | 38 | 39 | 40 | 41 | 42 | 43 | 44 | 45 | 46 | 47 | 48 | _ + 49 => exact fun h => h
     ·intro i o ho a u hf hR0 he K' hK
      have hR : Grow uX u := (Below.drew (Below.refl _ _)).trans hR0
      have hsz' : a.tmps.size = 84 := hf.size
      have hus := hR.size
      have q2 : a.tmps.getD 2 undef = .pointer (some ⟨w.heap.size, 0, none⟩) := hf.at_ 2 (by kernel_rfl)
      have q5 : a.tmps.getD 5 undef = .int .i64 j := hf.at_ 5 (by kernel_rfl)
      have q6 : a.tmps.getD 6 undef = .pointer (some ⟨X, 0, none⟩) := hf.at_ 6 (by kernel_rfl)
      have c0 : u.cell? ⟨w.heap.size, 0, none⟩ = some (.slice (some ⟨b, off, none⟩) n.ws.length cap) := by rw [hR.cell (p := ⟨w.heap.size, 0, none⟩) (by show w.heap.size < _; omega)]; exact HC0.out
      have ck : u.cell? ⟨b, off + j * 12, none⟩ = some (.int .i64 x.kind) := by rw [hR.cell (p := ⟨b, off + j * 12, none⟩) (by show b < _; omega)]; exact HCK.out.1
      have cn : u.cell? ⟨b, off + j * 12 + 1, none⟩ = some (.int .i64 x.n) := by rw [hR.cell (p := ⟨b, off + j * 12 + 1, none⟩) (by show b < _; omega)]; exact HCK.out.2
      have hX := HX.out.below hR (by omega)
      have cx0 : u.cell? ⟨X, 0, none⟩ = some (.int .i64 bl.kind) := hX.c 0 _ rfl
      have cx1 : u.cell? ⟨X, 1, none⟩ = some (.int .i64 bl.n) := hX.c 1 _ rfl
      rcases i with _ | _ | _ | _ | _ | _ | _ | _ | _ | _ | _ | _ | _ | _ | _ | _ | _ | _ | _ | _ | _ | _ | _ | _ | _ | _ | _ | _ | _ | _ | _ | _ | _ | _ | _ | _ | _ | _ | _ | _ | _ | _ | _ | _ | _ | _ | _ | _ | _ | i
      rotate_right
      ·exact absurd ho (by simp)
      all_goals
       obtain rfl := si ho
       try have e0 : a.tmps.getD _ undef = _ := he _ (am (i := 0) rfl) (by kernel_rfl) _ rfl
       try have e1 : a.tmps.getD _ undef = _ := he _ (am (i := 1) rfl) (by kernel_rfl) _ rfl
       try have e2 : a.tmps.getD _ undef = _ := he _ (am (i := 2) rfl) (by kernel_rfl) _ rfl
       clear he
       first
       | exact wanted_off rfl (yielded_g rfl rfl (by show _ < a.tmps.size; omega) (by assumption)) (hK undef u (Below.refl _ _) (getD_put_self a _ _ (by show _ < a.tmps.size; omega)))
       | exact wanted_un rfl (yielded_u rfl rfl (by show _ < a.tmps.size; omega) (by assumption)) (hK undef u (Below.refl _ _) (getD_put_self a _ _ (by show _ < a.tmps.size; omega)))
       | (refine wanted_on rfl (yielded_g rfl rfl (by show _ < a.tmps.size; omega) (by assumption)) ?_; go_simp; exact hK _ _ (Below.refl _ _) (getD_put_self a _ _ (by show _ < a.tmps.size; omega)))
       | (go_simp; exact hK _ _ (Below.refl _ _) (getD_put_self a _ _ (by show _ < a.tmps.size; omega)))
       | (go_simp; refine (l7Gate_any u x.kind).mono ?_; rintro e1 u' ⟨rfl, rfl⟩; rw [HG.out]; exact hK _ _ (Below.refl _ _) (getD_put_self a _ _ (by show _ < a.tmps.size; omega)))
       | (refine wanted_on rfl (yielded_g rfl rfl (by show _ < a.tmps.size; omega) (by assumption)) ?_; go_simp; refine (l7Gate_any u x.kind).mono ?_; rintro e1 u' ⟨rfl, rfl⟩; rw [HG.out]; exact hK _ _ (Below.refl _ _) (getD_put_self a _ _ (by show _ < a.tmps.size; omega)))
       | (refine wanted_on rfl (yielded_g rfl rfl (by show _ < a.tmps.size; omega) (by assumption)) ?_; refine wp_loadG Tryz.isAgg165 Tryz.sizeOf165 (vs := blockC bl) _ rfl q6 rfl hX.c ?_; exact hK _ _ (Below.refl _ _) (getD_put_self a _ _ (by show _ < a.tmps.size; omega)))
       | (refine wanted_on rfl (yielded_g rfl rfl (by show _ < a.tmps.size; omega) (by assumption)) ?_; have hn := neq_blockC bl noB u; rw [HZ.out] at hn; exact wp_binG (.tmp 43) (.tmp 44) rfl e0 e1 (guard_blockC .neq (.tmp 43) (.tmp 44) bl noB u) hn (hK _ _ (Below.refl _ _) (getD_put_self a _ _ (by show _ < a.tmps.size; omega))))
     ·intro a u hf hR0 hp
      have hR : Grow uX u := (Below.drew (Below.refl _ _)).trans hR0
      have hB := HB.out.trans (hR.mono (by have := HB.out.size; omega))
      have m83 : a.tmps.getD 83 undef = .bool true := hp 48 _ rfl
      clear hp hR0 hR
      obtain ⟨fq, ea, hfv⟩ := act_lit a 84 hf.size
      have md : a.defers = [] := hf.defers
      rw [md] at ea
      have m0 := hf.at_ 0 (by kernel_rfl)
      have m1 := hf.at_ 1 (by kernel_rfl)
      have m2 := hf.at_ 2 (by kernel_rfl)
      have m3 := hf.at_ 3 (by kernel_rfl)
      have m4 := hf.at_ 4 (by kernel_rfl)
      have m5 := hf.at_ 5 (by kernel_rfl)
      have m6 := hf.at_ 6 (by kernel_rfl)
      have m7 := hf.at_ 7 (by kernel_rfl)
      have m8 := hf.at_ 8 (by kernel_rfl)
      have m9 := hf.at_ 9 (by kernel_rfl)
      have m10 := hf.at_ 10 (by kernel_rfl)
      have m11 := hf.at_ 11 (by kernel_rfl)
      have m12 := hf.at_ 12 (by kernel_rfl)
      have m13 := hf.at_ 13 (by kernel_rfl)
      have m14 := hf.at_ 14 (by kernel_rfl)
      have m15 := hf.at_ 15 (by kernel_rfl)
      have m16 := hf.at_ 16 (by kernel_rfl)
      have m17 := hf.at_ 17 (by kernel_rfl)
      have m18 := hf.at_ 18 (by kernel_rfl)
      have m19 := hf.at_ 19 (by kernel_rfl)
      have m20 := hf.at_ 20 (by kernel_rfl)
      have m21 := hf.at_ 21 (by kernel_rfl)
      have m22 := hf.at_ 22 (by kernel_rfl)
      have m23 := hf.at_ 23 (by kernel_rfl)
      have m24 := hf.at_ 24 (by kernel_rfl)
      have m25 := hf.at_ 25 (by kernel_rfl)
      have m26 := hf.at_ 26 (by kernel_rfl)
      have m27 := hf.at_ 27 (by kernel_rfl)
      have m28 := hf.at_ 28 (by kernel_rfl)
      have m29 := hf.at_ 29 (by kernel_rfl)
      have m30 := hf.at_ 30 (by kernel_rfl)
      have m31 := hf.at_ 31 (by kernel_rfl)
      have m32 := hf.at_ 32 (by kernel_rfl)
      have m33 := hf.at_ 33 (by kernel_rfl)
      have m34 := hf.at_ 34 (by kernel_rfl)
      rw [← hfv] at m0 m1 m2 m3 m4 m5 m6 m7 m8 m9 m10 m11 m12 m13 m14 m15 m16 m17 m18 m19 m20 m21 m22 m23 m24 m25 m26 m27 m28 m29 m30 m31 m32 m33 m34 m83
      simp only [Array.getD_eq_getD_getElem?, List.getElem?_toArray, List.getElem?_cons_succ, List.getElem?_cons_zero, Option.getD_some] at m0 m1 m2 m3 m4 m5 m6 m7 m8 m9 m10 m11 m12 m13 m14 m15 m16 m17 m18 m19 m20 m21 m22 m23 m24 m25 m26 m27 m28 m29 m30 m31 m32 m33 m34
      simp only [List.range, List.range.loop, List.map_cons, List.map_nil, m0, m1, m2, m3, m4, m5, m6, m7, m8, m9, m10, m11, m12, m13, m14, m15, m16, m17, m18, m19, m20, m21, m22, m23, m24, m25, m26, m27, m28, m29, m30, m31, m32, m33, m34, m83] at ea
      subst ea
      clear m0 m1 m2 m3 m4 m5 m6 m7 m8 m9 m10 m11 m12 m13 m14 m15 m16 m17 m18 m19 m20 m21 m22 m23 m24 m25 m26 m27 m28 m29 m30 m31 m32 m33 m34 m83 hfv md hf
      go_wp2
      go_ret
      exact ⟨ret_bool HF.out.symm, G2.trans (hB.mono (by omega))⟩
    | true =>
     have HN : Hid (FitTo n.ws s.bs (j + 1)) := fit_next HT.out HX1.out.1 HX1.out.2 (by rw [HFIT.out, HG.out]; rfl)
     refine wp_region_dag (R := Grow) (Φ := fun i v u => match i with
       | 0 => v = .pointer (some ⟨w.heap.size, 0, none⟩)
       | 1 => v = .slice (some ⟨b, off, none⟩) n.ws.length cap
       | 2 => v = .int .i64 j
       | 3 => v = .pointer (some ⟨b, off + j * 12, none⟩)
       | 4 => v = .pointer (some ⟨b, off + j * 12, none⟩)
       | 5 => v = .int .i64 x.kind
       | 6 => v = .bool true
       | 7 => v = .bool true
       | 8 => v = .agg (blockC bl).toArray
       | 9 => v = .agg (blockC noB).toArray
       | 10 => v = .bool false
       | 11 => v = .bool false
       | 12 => v = .bool false
       | 13 => v = .pointer (some ⟨w.heap.size, 0, none⟩)
       | 14 => v = .slice (some ⟨b, off, none⟩) n.ws.length cap
       | 15 => v = .int .i64 j
       | 16 => v = .pointer (some ⟨b, off + j * 12, none⟩)
       | 17 => v = .pointer (some ⟨b, off + j * 12, none⟩)
       | 18 => v = .int .i64 x.kind
       | 19 => v = .bool true
       | 20 => v = .bool false
       | 21 => v = .bool false
       | 22 => v = undef
       | 23 => v = undef
       | 24 => v = undef
       | 25 => v = undef
       | 26 => v = undef
       | 27 => v = undef
       | 28 => v = undef
       | 29 => v = undef
       | 30 => v = undef
       | 31 => v = undef
       | 32 => v = undef
       | 33 => v = undef
       | 34 => v = undef
       | 35 => v = undef
       | 36 => v = undef
       | 37 => v = undef
       | 38 => v = undef
       | 39 => v = undef
       | 40 => v = undef
       | 41 => v = undef
       | 42 => v = undef
       | 43 => v = undef
       | 44 => v = undef
       | 45 => v = undef
       | 46 => v = undef
       | 47 => v = .bool false
       | 48 => v = .bool false
       | _ => True) (by kernel_rfl) (by kernel_rfl) (by kernel_rfl) (Below.refl _ _) grow_trans ?_ ?_ ?_
     ·intro i v u u' hr
      match i with
      | 0 | 1 | 2 | 3 | 4 | 5 | 6 | 7 | 8 | 9 | 10 | 11 | 12 | 13 | 14 | 15 | 16 | 17 | 18 | 19 | 20 | 21 | 22 | 23 | 24 | 25 | 26 | 27 | 28 | 29 | 30 | 31 | 32 | 33 | 34 | 35 | 36 | 37 | 38 | 39 | 40 | 41 | 42 | 43 | 44 | 45 | 46 | 47 | 48 | _ + 49 => exact fun h => h
     ·intro i o ho a u hf hR0 he K' hK
      have hR : Grow uX u := (Below.drew (Below.refl _ _)).trans hR0
      have hsz' : a.tmps.size = 84 := hf.size
      have hus := hR.size
      have q2 : a.tmps.getD 2 undef = .pointer (some ⟨w.heap.size, 0, none⟩) := hf.at_ 2 (by kernel_rfl)
      have q5 : a.tmps.getD 5 undef = .int .i64 j := hf.at_ 5 (by kernel_rfl)
      have q6 : a.tmps.getD 6 undef = .pointer (some ⟨X, 0, none⟩) := hf.at_ 6 (by kernel_rfl)
      have c0 : u.cell? ⟨w.heap.size, 0, none⟩ = some (.slice (some ⟨b, off, none⟩) n.ws.length cap) := by rw [hR.cell (p := ⟨w.heap.size, 0, none⟩) (by show w.heap.size < _; omega)]; exact HC0.out
      have ck : u.cell? ⟨b, off + j * 12, none⟩ = some (.int .i64 x.kind) := by rw [hR.cell (p := ⟨b, off + j * 12, none⟩) (by show b < _; omega)]; exact HCK.out.1
      have cn : u.cell? ⟨b, off + j * 12 + 1, none⟩ = some (.int .i64 x.n) := by rw [hR.cell (p := ⟨b, off + j * 12 + 1, none⟩) (by show b < _; omega)]; exact HCK.out.2
      have hX := HX.out.below hR (by omega)
      have cx0 : u.cell? ⟨X, 0, none⟩ = some (.int .i64 bl.kind) := hX.c 0 _ rfl
      have cx1 : u.cell? ⟨X, 1, none⟩ = some (.int .i64 bl.n) := hX.c 1 _ rfl
      rcases i with _ | _ | _ | _ | _ | _ | _ | _ | _ | _ | _ | _ | _ | _ | _ | _ | _ | _ | _ | _ | _ | _ | _ | _ | _ | _ | _ | _ | _ | _ | _ | _ | _ | _ | _ | _ | _ | _ | _ | _ | _ | _ | _ | _ | _ | _ | _ | _ | _ | i
      rotate_right
      ·exact absurd ho (by simp)
      all_goals
       obtain rfl := si ho
       try have e0 : a.tmps.getD _ undef = _ := he _ (am (i := 0) rfl) (by kernel_rfl) _ rfl
       try have e1 : a.tmps.getD _ undef = _ := he _ (am (i := 1) rfl) (by kernel_rfl) _ rfl
       try have e2 : a.tmps.getD _ undef = _ := he _ (am (i := 2) rfl) (by kernel_rfl) _ rfl
       clear he
       first
       | exact wanted_off rfl (yielded_g rfl rfl (by show _ < a.tmps.size; omega) (by assumption)) (hK undef u (Below.refl _ _) (getD_put_self a _ _ (by show _ < a.tmps.size; omega)))
       | exact wanted_un rfl (yielded_u rfl rfl (by show _ < a.tmps.size; omega) (by assumption)) (hK undef u (Below.refl _ _) (getD_put_self a _ _ (by show _ < a.tmps.size; omega)))
       | (refine wanted_on rfl (yielded_g rfl rfl (by show _ < a.tmps.size; omega) (by assumption)) ?_; go_simp; exact hK _ _ (Below.refl _ _) (getD_put_self a _ _ (by show _ < a.tmps.size; omega)))
       | (go_simp; exact hK _ _ (Below.refl _ _) (getD_put_self a _ _ (by show _ < a.tmps.size; omega)))
       | (go_simp; refine (l7Gate_any u x.kind).mono ?_; rintro e1 u' ⟨rfl, rfl⟩; rw [HG.out]; exact hK _ _ (Below.refl _ _) (getD_put_self a _ _ (by show _ < a.tmps.size; omega)))
       | (refine wanted_on rfl (yielded_g rfl rfl (by show _ < a.tmps.size; omega) (by assumption)) ?_; go_simp; refine (l7Gate_any u x.kind).mono ?_; rintro e1 u' ⟨rfl, rfl⟩; rw [HG.out]; exact hK _ _ (Below.refl _ _) (getD_put_self a _ _ (by show _ < a.tmps.size; omega)))
       | (refine wanted_on rfl (yielded_g rfl rfl (by show _ < a.tmps.size; omega) (by assumption)) ?_; refine wp_loadG Tryz.isAgg165 Tryz.sizeOf165 (vs := blockC bl) _ rfl q6 rfl hX.c ?_; exact hK _ _ (Below.refl _ _) (getD_put_self a _ _ (by show _ < a.tmps.size; omega)))
       | (refine wanted_on rfl (yielded_g rfl rfl (by show _ < a.tmps.size; omega) (by assumption)) ?_; have hn := neq_blockC bl noB u; rw [HZ.out] at hn; exact wp_binG (.tmp 43) (.tmp 44) rfl e0 e1 (guard_blockC .neq (.tmp 43) (.tmp 44) bl noB u) hn (hK _ _ (Below.refl _ _) (getD_put_self a _ _ (by show _ < a.tmps.size; omega))))
     ·intro a u hf hR0 hp
      have hR : Grow uX u := (Below.drew (Below.refl _ _)).trans hR0
      have hB := HB.out.trans (hR.mono (by have := HB.out.size; omega))
      have m83 : a.tmps.getD 83 undef = .bool false := hp 48 _ rfl
      clear hp hR0 hR
      obtain ⟨fq, ea, hfv⟩ := act_lit a 84 hf.size
      have md : a.defers = [] := hf.defers
      rw [md] at ea
      have m0 := hf.at_ 0 (by kernel_rfl)
      have m1 := hf.at_ 1 (by kernel_rfl)
      have m2 := hf.at_ 2 (by kernel_rfl)
      have m3 := hf.at_ 3 (by kernel_rfl)
      have m4 := hf.at_ 4 (by kernel_rfl)
      have m5 := hf.at_ 5 (by kernel_rfl)
      have m6 := hf.at_ 6 (by kernel_rfl)
      have m7 := hf.at_ 7 (by kernel_rfl)
      have m8 := hf.at_ 8 (by kernel_rfl)
      have m9 := hf.at_ 9 (by kernel_rfl)
      have m10 := hf.at_ 10 (by kernel_rfl)
      have m11 := hf.at_ 11 (by kernel_rfl)
      have m12 := hf.at_ 12 (by kernel_rfl)
      have m13 := hf.at_ 13 (by kernel_rfl)
      have m14 := hf.at_ 14 (by kernel_rfl)
      have m15 := hf.at_ 15 (by kernel_rfl)
      have m16 := hf.at_ 16 (by kernel_rfl)
      have m17 := hf.at_ 17 (by kernel_rfl)
      have m18 := hf.at_ 18 (by kernel_rfl)
      have m19 := hf.at_ 19 (by kernel_rfl)
      have m20 := hf.at_ 20 (by kernel_rfl)
      have m21 := hf.at_ 21 (by kernel_rfl)
      have m22 := hf.at_ 22 (by kernel_rfl)
      have m23 := hf.at_ 23 (by kernel_rfl)
      have m24 := hf.at_ 24 (by kernel_rfl)
      have m25 := hf.at_ 25 (by kernel_rfl)
      have m26 := hf.at_ 26 (by kernel_rfl)
      have m27 := hf.at_ 27 (by kernel_rfl)
      have m28 := hf.at_ 28 (by kernel_rfl)
      have m29 := hf.at_ 29 (by kernel_rfl)
      have m30 := hf.at_ 30 (by kernel_rfl)
      have m31 := hf.at_ 31 (by kernel_rfl)
      have m32 := hf.at_ 32 (by kernel_rfl)
      have m33 := hf.at_ 33 (by kernel_rfl)
      have m34 := hf.at_ 34 (by kernel_rfl)
      rw [← hfv] at m0 m1 m2 m3 m4 m5 m6 m7 m8 m9 m10 m11 m12 m13 m14 m15 m16 m17 m18 m19 m20 m21 m22 m23 m24 m25 m26 m27 m28 m29 m30 m31 m32 m33 m34 m83
      simp only [Array.getD_eq_getD_getElem?, List.getElem?_toArray, List.getElem?_cons_succ, List.getElem?_cons_zero, Option.getD_some] at m0 m1 m2 m3 m4 m5 m6 m7 m8 m9 m10 m11 m12 m13 m14 m15 m16 m17 m18 m19 m20 m21 m22 m23 m24 m25 m26 m27 m28 m29 m30 m31 m32 m33 m34
      simp only [List.range, List.range.loop, List.map_cons, List.map_nil, m0, m1, m2, m3, m4, m5, m6, m7, m8, m9, m10, m11, m12, m13, m14, m15, m16, m17, m18, m19, m20, m21, m22, m23, m24, m25, m26, m27, m28, m29, m30, m31, m32, m33, m34, m83] at ea
      subst ea
      clear m0 m1 m2 m3 m4 m5 m6 m7 m8 m9 m10 m11 m12 m13 m14 m15 m16 m17 m18 m19 m20 m21 m22 m23 m24 m25 m26 m27 m28 m29 m30 m31 m32 m33 m34 m83 hfv md hf
      go_wp2
      go_roundw
      case rel => exact ⟨j + 1, by omega, by go_num, hB, HN.out⟩
      case measure => simp [intOf]; omega
   ·have hg : gateK x.kind = false := by simpa using hg
    have HG : Hid (gateK x.kind = false) := hg
    clear hg
    cases oo with
    | false =>
     have HF : Hid (R = false) := by
      show R = false
      rw [← HR.out]
      refine stateFit_not (allFit_not HX1.out.1 HX1.out.2 ?_)
      rw [HFIT.out, HG.out]; rfl
     refine wp_region_dag (R := Grow) (Φ := fun i v u => match i with
       | 0 => v = .pointer (some ⟨w.heap.size, 0, none⟩)
       | 1 => v = .slice (some ⟨b, off, none⟩) n.ws.length cap
       | 2 => v = .int .i64 j
       | 3 => v = .pointer (some ⟨b, off + j * 12, none⟩)
       | 4 => v = .pointer (some ⟨b, off + j * 12, none⟩)
       | 5 => v = .int .i64 x.kind
       | 6 => v = .bool false
       | 7 => v = .bool false
       | 8 => v = undef
       | 9 => v = undef
       | 10 => v = undef
       | 11 => v = .bool false
       | 12 => v = .bool false
       | 13 => v = .pointer (some ⟨w.heap.size, 0, none⟩)
       | 14 => v = .slice (some ⟨b, off, none⟩) n.ws.length cap
       | 15 => v = .int .i64 j
       | 16 => v = .pointer (some ⟨b, off + j * 12, none⟩)
       | 17 => v = .pointer (some ⟨b, off + j * 12, none⟩)
       | 18 => v = .int .i64 x.kind
       | 19 => v = .bool false
       | 20 => v = .bool true
       | 21 => v = .bool true
       | 22 => v = .agg (blockC bl).toArray
       | 23 => v = .bool false
       | 24 => v = .bool true
       | 25 => v = .bool true
       | 26 => v = undef
       | 27 => v = undef
       | 28 => v = undef
       | 29 => v = undef
       | 30 => v = undef
       | 31 => v = undef
       | 32 => v = undef
       | 33 => v = undef
       | 34 => v = undef
       | 35 => v = .bool true
       | 36 => v = .bool true
       | 37 => v = undef
       | 38 => v = undef
       | 39 => v = undef
       | 40 => v = undef
       | 41 => v = undef
       | 42 => v = undef
       | 43 => v = undef
       | 44 => v = undef
       | 45 => v = undef
       | 46 => v = .bool true
       | 47 => v = .bool true
       | 48 => v = .bool true
       | _ => True) (by kernel_rfl) (by kernel_rfl) (by kernel_rfl) (Below.refl _ _) grow_trans ?_ ?_ ?_
     ·intro i v u u' hr
      match i with
      | 0 | 1 | 2 | 3 | 4 | 5 | 6 | 7 | 8 | 9 | 10 | 11 | 12 | 13 | 14 | 15 | 16 | 17 | 18 | 19 | 20 | 21 | 22 | 23 | 24 | 25 | 26 | 27 | 28 | 29 | 30 | 31 | 32 | 33 | 34 | 35 | 36 | 37 | 38 | 39 | 40 | 41 | 42 | 43 | 44 | 45 | 46 | 47 | 48 | _ + 49 => exact fun h => h
     ·intro i o ho a u hf hR0 he K' hK
      have hR : Grow uX u := (Below.drew (Below.refl _ _)).trans hR0
      have hsz' : a.tmps.size = 84 := hf.size
      have hus := hR.size
      have q2 : a.tmps.getD 2 undef = .pointer (some ⟨w.heap.size, 0, none⟩) := hf.at_ 2 (by kernel_rfl)
      have q5 : a.tmps.getD 5 undef = .int .i64 j := hf.at_ 5 (by kernel_rfl)
      have q6 : a.tmps.getD 6 undef = .pointer (some ⟨X, 0, none⟩) := hf.at_ 6 (by kernel_rfl)
      have c0 : u.cell? ⟨w.heap.size, 0, none⟩ = some (.slice (some ⟨b, off, none⟩) n.ws.length cap) := by rw [hR.cell (p := ⟨w.heap.size, 0, none⟩) (by show w.heap.size < _; omega)]; exact HC0.out
      have ck : u.cell? ⟨b, off + j * 12, none⟩ = some (.int .i64 x.kind) := by rw [hR.cell (p := ⟨b, off + j * 12, none⟩) (by show b < _; omega)]; exact HCK.out.1
      have cn : u.cell? ⟨b, off + j * 12 + 1, none⟩ = some (.int .i64 x.n) := by rw [hR.cell (p := ⟨b, off + j * 12 + 1, none⟩) (by show b < _; omega)]; exact HCK.out.2
      have hX := HX.out.below hR (by omega)
      have cx0 : u.cell? ⟨X, 0, none⟩ = some (.int .i64 bl.kind) := hX.c 0 _ rfl
      have cx1 : u.cell? ⟨X, 1, none⟩ = some (.int .i64 bl.n) := hX.c 1 _ rfl
      rcases i with _ | _ | _ | _ | _ | _ | _ | _ | _ | _ | _ | _ | _ | _ | _ | _ | _ | _ | _ | _ | _ | _ | _ | _ | _ | _ | _ | _ | _ | _ | _ | _ | _ | _ | _ | _ | _ | _ | _ | _ | _ | _ | _ | _ | _ | _ | _ | _ | _ | i
      rotate_right
      ·exact absurd ho (by simp)
      all_goals
       obtain rfl := si ho
       try have e0 : a.tmps.getD _ undef = _ := he _ (am (i := 0) rfl) (by kernel_rfl) _ rfl
       try have e1 : a.tmps.getD _ undef = _ := he _ (am (i := 1) rfl) (by kernel_rfl) _ rfl
       try have e2 : a.tmps.getD _ undef = _ := he _ (am (i := 2) rfl) (by kernel_rfl) _ rfl
       clear he
       first
       | exact wanted_off rfl (yielded_g rfl rfl (by show _ < a.tmps.size; omega) (by assumption)) (hK undef u (Below.refl _ _) (getD_put_self a _ _ (by show _ < a.tmps.size; omega)))
       | exact wanted_un rfl (yielded_u rfl rfl (by show _ < a.tmps.size; omega) (by assumption)) (hK undef u (Below.refl _ _) (getD_put_self a _ _ (by show _ < a.tmps.size; omega)))
       | (refine wanted_on rfl (yielded_g rfl rfl (by show _ < a.tmps.size; omega) (by assumption)) ?_; go_simp; exact hK _ _ (Below.refl _ _) (getD_put_self a _ _ (by show _ < a.tmps.size; omega)))
       | (go_simp; exact hK _ _ (Below.refl _ _) (getD_put_self a _ _ (by show _ < a.tmps.size; omega)))
       | (go_simp; refine (l7Gate_any u x.kind).mono ?_; rintro e1 u' ⟨rfl, rfl⟩; rw [HG.out]; exact hK _ _ (Below.refl _ _) (getD_put_self a _ _ (by show _ < a.tmps.size; omega)))
       | (refine wanted_on rfl (yielded_g rfl rfl (by show _ < a.tmps.size; omega) (by assumption)) ?_; go_simp; refine (l7Gate_any u x.kind).mono ?_; rintro e1 u' ⟨rfl, rfl⟩; rw [HG.out]; exact hK _ _ (Below.refl _ _) (getD_put_self a _ _ (by show _ < a.tmps.size; omega)))
       | (refine wanted_on rfl (yielded_g rfl rfl (by show _ < a.tmps.size; omega) (by assumption)) ?_; refine wp_loadG Tryz.isAgg165 Tryz.sizeOf165 (vs := blockC bl) _ rfl q6 rfl hX.c ?_; exact hK _ _ (Below.refl _ _) (getD_put_self a _ _ (by show _ < a.tmps.size; omega)))
       | (refine wanted_on rfl (yielded_g rfl rfl (by show _ < a.tmps.size; omega) (by assumption)) ?_; go_simp; refine (sBlockOk_any u bl).mono ?_; rintro e1 u' ⟨rfl, hbu⟩; rw [HO.out]; exact hK _ _ hbu (getD_put_self a _ _ (by show _ < a.tmps.size; omega)))
     ·intro a u hf hR0 hp
      have hR : Grow uX u := (Below.drew (Below.refl _ _)).trans hR0
      have hB := HB.out.trans (hR.mono (by have := HB.out.size; omega))
      have m83 : a.tmps.getD 83 undef = .bool true := hp 48 _ rfl
      clear hp hR0 hR
      obtain ⟨fq, ea, hfv⟩ := act_lit a 84 hf.size
      have md : a.defers = [] := hf.defers
      rw [md] at ea
      have m0 := hf.at_ 0 (by kernel_rfl)
      have m1 := hf.at_ 1 (by kernel_rfl)
      have m2 := hf.at_ 2 (by kernel_rfl)
      have m3 := hf.at_ 3 (by kernel_rfl)
      have m4 := hf.at_ 4 (by kernel_rfl)
      have m5 := hf.at_ 5 (by kernel_rfl)
      have m6 := hf.at_ 6 (by kernel_rfl)
      have m7 := hf.at_ 7 (by kernel_rfl)
      have m8 := hf.at_ 8 (by kernel_rfl)
      have m9 := hf.at_ 9 (by kernel_rfl)
      have m10 := hf.at_ 10 (by kernel_rfl)
      have m11 := hf.at_ 11 (by kernel_rfl)
      have m12 := hf.at_ 12 (by kernel_rfl)
      have m13 := hf.at_ 13 (by kernel_rfl)
      have m14 := hf.at_ 14 (by kernel_rfl)
      have m15 := hf.at_ 15 (by kernel_rfl)
      have m16 := hf.at_ 16 (by kernel_rfl)
      have m17 := hf.at_ 17 (by kernel_rfl)
      have m18 := hf.at_ 18 (by kernel_rfl)
      have m19 := hf.at_ 19 (by kernel_rfl)
      have m20 := hf.at_ 20 (by kernel_rfl)
      have m21 := hf.at_ 21 (by kernel_rfl)
      have m22 := hf.at_ 22 (by kernel_rfl)
      have m23 := hf.at_ 23 (by kernel_rfl)
      have m24 := hf.at_ 24 (by kernel_rfl)
      have m25 := hf.at_ 25 (by kernel_rfl)
      have m26 := hf.at_ 26 (by kernel_rfl)
      have m27 := hf.at_ 27 (by kernel_rfl)
      have m28 := hf.at_ 28 (by kernel_rfl)
      have m29 := hf.at_ 29 (by kernel_rfl)
      have m30 := hf.at_ 30 (by kernel_rfl)
      have m31 := hf.at_ 31 (by kernel_rfl)
      have m32 := hf.at_ 32 (by kernel_rfl)
      have m33 := hf.at_ 33 (by kernel_rfl)
      have m34 := hf.at_ 34 (by kernel_rfl)
      rw [← hfv] at m0 m1 m2 m3 m4 m5 m6 m7 m8 m9 m10 m11 m12 m13 m14 m15 m16 m17 m18 m19 m20 m21 m22 m23 m24 m25 m26 m27 m28 m29 m30 m31 m32 m33 m34 m83
      simp only [Array.getD_eq_getD_getElem?, List.getElem?_toArray, List.getElem?_cons_succ, List.getElem?_cons_zero, Option.getD_some] at m0 m1 m2 m3 m4 m5 m6 m7 m8 m9 m10 m11 m12 m13 m14 m15 m16 m17 m18 m19 m20 m21 m22 m23 m24 m25 m26 m27 m28 m29 m30 m31 m32 m33 m34
      simp only [List.range, List.range.loop, List.map_cons, List.map_nil, m0, m1, m2, m3, m4, m5, m6, m7, m8, m9, m10, m11, m12, m13, m14, m15, m16, m17, m18, m19, m20, m21, m22, m23, m24, m25, m26, m27, m28, m29, m30, m31, m32, m33, m34, m83] at ea
      subst ea
      clear m0 m1 m2 m3 m4 m5 m6 m7 m8 m9 m10 m11 m12 m13 m14 m15 m16 m17 m18 m19 m20 m21 m22 m23 m24 m25 m26 m27 m28 m29 m30 m31 m32 m33 m34 m83 hfv md hf
      go_wp2
      go_ret
      exact ⟨ret_bool HF.out.symm, G2.trans (hB.mono (by omega))⟩
    | true =>
     by_cases hk : bl.kind = x.kind
     ·have HKD : Hid ((bl.kind != x.kind) = false) := by show _ = false; simp [hk]
      have HKE : Hid ((bl.kind == x.kind) = true) := by show _ = true; simp [hk]
      clear hk
      by_cases hn : bl.n = x.n
      ·have HNN : Hid ((bl.n != x.n) = false) := by show _ = false; simp [hn]
       have HNE : Hid ((bl.n == x.n) = true) := by show _ = true; simp [hn]
       clear hn
       have HN : Hid (FitTo n.ws s.bs (j + 1)) := fit_next HT.out HX1.out.1 HX1.out.2 (by rw [HFIT.out, HG.out, HKE.out, HNE.out]; rfl)
       refine wp_region_dag (R := Grow) (Φ := fun i v u => match i with
         | 0 => v = .pointer (some ⟨w.heap.size, 0, none⟩)
         | 1 => v = .slice (some ⟨b, off, none⟩) n.ws.length cap
         | 2 => v = .int .i64 j
         | 3 => v = .pointer (some ⟨b, off + j * 12, none⟩)
         | 4 => v = .pointer (some ⟨b, off + j * 12, none⟩)
         | 5 => v = .int .i64 x.kind
         | 6 => v = .bool false
         | 7 => v = .bool false
         | 8 => v = undef
         | 9 => v = undef
         | 10 => v = undef
         | 11 => v = .bool false
         | 12 => v = .bool false
         | 13 => v = .pointer (some ⟨w.heap.size, 0, none⟩)
         | 14 => v = .slice (some ⟨b, off, none⟩) n.ws.length cap
         | 15 => v = .int .i64 j
         | 16 => v = .pointer (some ⟨b, off + j * 12, none⟩)
         | 17 => v = .pointer (some ⟨b, off + j * 12, none⟩)
         | 18 => v = .int .i64 x.kind
         | 19 => v = .bool false
         | 20 => v = .bool true
         | 21 => v = .bool true
         | 22 => v = .agg (blockC bl).toArray
         | 23 => v = .bool true
         | 24 => v = .bool false
         | 25 => v = .bool false
         | 26 => v = .pointer (some ⟨X, 0, none⟩)
         | 27 => v = .int .i64 bl.kind
         | 28 => v = .pointer (some ⟨w.heap.size, 0, none⟩)
         | 29 => v = .slice (some ⟨b, off, none⟩) n.ws.length cap
         | 30 => v = .int .i64 j
         | 31 => v = .pointer (some ⟨b, off + j * 12, none⟩)
         | 32 => v = .pointer (some ⟨b, off + j * 12, none⟩)
         | 33 => v = .int .i64 x.kind
         | 34 => v = .bool false
         | 35 => v = .bool false
         | 36 => v = .bool false
         | 37 => v = .pointer (some ⟨X, 1, none⟩)
         | 38 => v = .int .i64 bl.n
         | 39 => v = .pointer (some ⟨w.heap.size, 0, none⟩)
         | 40 => v = .slice (some ⟨b, off, none⟩) n.ws.length cap
         | 41 => v = .int .i64 j
         | 42 => v = .pointer (some ⟨b, off + j * 12, none⟩)
         | 43 => v = .pointer (some ⟨b, off + j * 12 + 1, none⟩)
         | 44 => v = .int .i64 x.n
         | 45 => v = .bool false
         | 46 => v = .bool false
         | 47 => v = .bool false
         | 48 => v = .bool false
         | _ => True) (by kernel_rfl) (by kernel_rfl) (by kernel_rfl) (Below.refl _ _) grow_trans ?_ ?_ ?_
       ·intro i v u u' hr
        match i with
        | 0 | 1 | 2 | 3 | 4 | 5 | 6 | 7 | 8 | 9 | 10 | 11 | 12 | 13 | 14 | 15 | 16 | 17 | 18 | 19 | 20 | 21 | 22 | 23 | 24 | 25 | 26 | 27 | 28 | 29 | 30 | 31 | 32 | 33 | 34 | 35 | 36 | 37 | 38 | 39 | 40 | 41 | 42 | 43 | 44 | 45 | 46 | 47 | 48 | _ + 49 => exact fun h => h
       ·intro i o ho a u hf hR0 he K' hK
        have hR : Grow uX u := (Below.drew (Below.refl _ _)).trans hR0
        have hsz' : a.tmps.size = 84 := hf.size
        have hus := hR.size
        have q2 : a.tmps.getD 2 undef = .pointer (some ⟨w.heap.size, 0, none⟩) := hf.at_ 2 (by kernel_rfl)
        have q5 : a.tmps.getD 5 undef = .int .i64 j := hf.at_ 5 (by kernel_rfl)
        have q6 : a.tmps.getD 6 undef = .pointer (some ⟨X, 0, none⟩) := hf.at_ 6 (by kernel_rfl)
        have c0 : u.cell? ⟨w.heap.size, 0, none⟩ = some (.slice (some ⟨b, off, none⟩) n.ws.length cap) := by rw [hR.cell (p := ⟨w.heap.size, 0, none⟩) (by show w.heap.size < _; omega)]; exact HC0.out
        have ck : u.cell? ⟨b, off + j * 12, none⟩ = some (.int .i64 x.kind) := by rw [hR.cell (p := ⟨b, off + j * 12, none⟩) (by show b < _; omega)]; exact HCK.out.1
        have cn : u.cell? ⟨b, off + j * 12 + 1, none⟩ = some (.int .i64 x.n) := by rw [hR.cell (p := ⟨b, off + j * 12 + 1, none⟩) (by show b < _; omega)]; exact HCK.out.2
        have hX := HX.out.below hR (by omega)
        have cx0 : u.cell? ⟨X, 0, none⟩ = some (.int .i64 bl.kind) := hX.c 0 _ rfl
        have cx1 : u.cell? ⟨X, 1, none⟩ = some (.int .i64 bl.n) := hX.c 1 _ rfl
        have hkd := HKD.out
        have hnn := HNN.out
        rcases i with _ | _ | _ | _ | _ | _ | _ | _ | _ | _ | _ | _ | _ | _ | _ | _ | _ | _ | _ | _ | _ | _ | _ | _ | _ | _ | _ | _ | _ | _ | _ | _ | _ | _ | _ | _ | _ | _ | _ | _ | _ | _ | _ | _ | _ | _ | _ | _ | _ | i
        rotate_right
        ·exact absurd ho (by simp)
        all_goals
         obtain rfl := si ho
         try have e0 : a.tmps.getD _ undef = _ := he _ (am (i := 0) rfl) (by kernel_rfl) _ rfl
         try have e1 : a.tmps.getD _ undef = _ := he _ (am (i := 1) rfl) (by kernel_rfl) _ rfl
         try have e2 : a.tmps.getD _ undef = _ := he _ (am (i := 2) rfl) (by kernel_rfl) _ rfl
         clear he
         first
         | exact wanted_off rfl (yielded_g rfl rfl (by show _ < a.tmps.size; omega) (by assumption)) (hK undef u (Below.refl _ _) (getD_put_self a _ _ (by show _ < a.tmps.size; omega)))
         | exact wanted_un rfl (yielded_u rfl rfl (by show _ < a.tmps.size; omega) (by assumption)) (hK undef u (Below.refl _ _) (getD_put_self a _ _ (by show _ < a.tmps.size; omega)))
         | (refine wanted_on rfl (yielded_g rfl rfl (by show _ < a.tmps.size; omega) (by assumption)) ?_; go_simp; exact hK _ _ (Below.refl _ _) (getD_put_self a _ _ (by show _ < a.tmps.size; omega)))
         | (go_simp; exact hK _ _ (Below.refl _ _) (getD_put_self a _ _ (by show _ < a.tmps.size; omega)))
         | (go_simp; refine (l7Gate_any u x.kind).mono ?_; rintro e1 u' ⟨rfl, rfl⟩; rw [HG.out]; exact hK _ _ (Below.refl _ _) (getD_put_self a _ _ (by show _ < a.tmps.size; omega)))
         | (refine wanted_on rfl (yielded_g rfl rfl (by show _ < a.tmps.size; omega) (by assumption)) ?_; go_simp; refine (l7Gate_any u x.kind).mono ?_; rintro e1 u' ⟨rfl, rfl⟩; rw [HG.out]; exact hK _ _ (Below.refl _ _) (getD_put_self a _ _ (by show _ < a.tmps.size; omega)))
         | (refine wanted_on rfl (yielded_g rfl rfl (by show _ < a.tmps.size; omega) (by assumption)) ?_; refine wp_loadG Tryz.isAgg165 Tryz.sizeOf165 (vs := blockC bl) _ rfl q6 rfl hX.c ?_; exact hK _ _ (Below.refl _ _) (getD_put_self a _ _ (by show _ < a.tmps.size; omega)))
         | (refine wanted_on rfl (yielded_g rfl rfl (by show _ < a.tmps.size; omega) (by assumption)) ?_; go_simp; refine (sBlockOk_any u bl).mono ?_; rintro e1 u' ⟨rfl, hbu⟩; rw [HO.out]; exact hK _ _ hbu (getD_put_self a _ _ (by show _ < a.tmps.size; omega)))
       ·intro a u hf hR0 hp
        have hR : Grow uX u := (Below.drew (Below.refl _ _)).trans hR0
        have hB := HB.out.trans (hR.mono (by have := HB.out.size; omega))
        have m83 : a.tmps.getD 83 undef = .bool false := hp 48 _ rfl
        clear hp hR0 hR
        obtain ⟨fq, ea, hfv⟩ := act_lit a 84 hf.size
        have md : a.defers = [] := hf.defers
        rw [md] at ea
        have m0 := hf.at_ 0 (by kernel_rfl)
        have m1 := hf.at_ 1 (by kernel_rfl)
        have m2 := hf.at_ 2 (by kernel_rfl)
        have m3 := hf.at_ 3 (by kernel_rfl)
        have m4 := hf.at_ 4 (by kernel_rfl)
        have m5 := hf.at_ 5 (by kernel_rfl)
        have m6 := hf.at_ 6 (by kernel_rfl)
        have m7 := hf.at_ 7 (by kernel_rfl)
        have m8 := hf.at_ 8 (by kernel_rfl)
        have m9 := hf.at_ 9 (by kernel_rfl)
        have m10 := hf.at_ 10 (by kernel_rfl)
        have m11 := hf.at_ 11 (by kernel_rfl)
        have m12 := hf.at_ 12 (by kernel_rfl)
        have m13 := hf.at_ 13 (by kernel_rfl)
        have m14 := hf.at_ 14 (by kernel_rfl)
        have m15 := hf.at_ 15 (by kernel_rfl)
        have m16 := hf.at_ 16 (by kernel_rfl)
        have m17 := hf.at_ 17 (by kernel_rfl)
        have m18 := hf.at_ 18 (by kernel_rfl)
        have m19 := hf.at_ 19 (by kernel_rfl)
        have m20 := hf.at_ 20 (by kernel_rfl)
        have m21 := hf.at_ 21 (by kernel_rfl)
        have m22 := hf.at_ 22 (by kernel_rfl)
        have m23 := hf.at_ 23 (by kernel_rfl)
        have m24 := hf.at_ 24 (by kernel_rfl)
        have m25 := hf.at_ 25 (by kernel_rfl)
        have m26 := hf.at_ 26 (by kernel_rfl)
        have m27 := hf.at_ 27 (by kernel_rfl)
        have m28 := hf.at_ 28 (by kernel_rfl)
        have m29 := hf.at_ 29 (by kernel_rfl)
        have m30 := hf.at_ 30 (by kernel_rfl)
        have m31 := hf.at_ 31 (by kernel_rfl)
        have m32 := hf.at_ 32 (by kernel_rfl)
        have m33 := hf.at_ 33 (by kernel_rfl)
        have m34 := hf.at_ 34 (by kernel_rfl)
        rw [← hfv] at m0 m1 m2 m3 m4 m5 m6 m7 m8 m9 m10 m11 m12 m13 m14 m15 m16 m17 m18 m19 m20 m21 m22 m23 m24 m25 m26 m27 m28 m29 m30 m31 m32 m33 m34 m83
        simp only [Array.getD_eq_getD_getElem?, List.getElem?_toArray, List.getElem?_cons_succ, List.getElem?_cons_zero, Option.getD_some] at m0 m1 m2 m3 m4 m5 m6 m7 m8 m9 m10 m11 m12 m13 m14 m15 m16 m17 m18 m19 m20 m21 m22 m23 m24 m25 m26 m27 m28 m29 m30 m31 m32 m33 m34
        simp only [List.range, List.range.loop, List.map_cons, List.map_nil, m0, m1, m2, m3, m4, m5, m6, m7, m8, m9, m10, m11, m12, m13, m14, m15, m16, m17, m18, m19, m20, m21, m22, m23, m24, m25, m26, m27, m28, m29, m30, m31, m32, m33, m34, m83] at ea
        subst ea
        clear m0 m1 m2 m3 m4 m5 m6 m7 m8 m9 m10 m11 m12 m13 m14 m15 m16 m17 m18 m19 m20 m21 m22 m23 m24 m25 m26 m27 m28 m29 m30 m31 m32 m33 m34 m83 hfv md hf
        go_wp2
        go_roundw
        case rel => exact ⟨j + 1, by omega, by go_num, hB, HN.out⟩
        case measure => simp [intOf]; omega
      ·have HNN : Hid ((bl.n != x.n) = true) := by show _ = true; simp [hn]
       have HNE : Hid ((bl.n == x.n) = false) := by show _ = false; simp [hn]
       clear hn
       have HF : Hid (R = false) := by
        show R = false
        rw [← HR.out]
        refine stateFit_not (allFit_not HX1.out.1 HX1.out.2 ?_)
        rw [HFIT.out, HG.out, HNE.out, Bool.and_false, Bool.and_false]; rfl
       refine wp_region_dag (R := Grow) (Φ := fun i v u => match i with
         | 0 => v = .pointer (some ⟨w.heap.size, 0, none⟩)
         | 1 => v = .slice (some ⟨b, off, none⟩) n.ws.length cap
         | 2 => v = .int .i64 j
         | 3 => v = .pointer (some ⟨b, off + j * 12, none⟩)
         | 4 => v = .pointer (some ⟨b, off + j * 12, none⟩)
         | 5 => v = .int .i64 x.kind
         | 6 => v = .bool false
         | 7 => v = .bool false
         | 8 => v = undef
         | 9 => v = undef
         | 10 => v = undef
         | 11 => v = .bool false
         | 12 => v = .bool false
         | 13 => v = .pointer (some ⟨w.heap.size, 0, none⟩)
         | 14 => v = .slice (some ⟨b, off, none⟩) n.ws.length cap
         | 15 => v = .int .i64 j
         | 16 => v = .pointer (some ⟨b, off + j * 12, none⟩)
         | 17 => v = .pointer (some ⟨b, off + j * 12, none⟩)
         | 18 => v = .int .i64 x.kind
         | 19 => v = .bool false
         | 20 => v = .bool true
         | 21 => v = .bool true
         | 22 => v = .agg (blockC bl).toArray
         | 23 => v = .bool true
         | 24 => v = .bool false
         | 25 => v = .bool false
         | 26 => v = .pointer (some ⟨X, 0, none⟩)
         | 27 => v = .int .i64 bl.kind
         | 28 => v = .pointer (some ⟨w.heap.size, 0, none⟩)
         | 29 => v = .slice (some ⟨b, off, none⟩) n.ws.length cap
         | 30 => v = .int .i64 j
         | 31 => v = .pointer (some ⟨b, off + j * 12, none⟩)
         | 32 => v = .pointer (some ⟨b, off + j * 12, none⟩)
         | 33 => v = .int .i64 x.kind
         | 34 => v = .bool false
         | 35 => v = .bool false
         | 36 => v = .bool false
         | 37 => v = .pointer (some ⟨X, 1, none⟩)
         | 38 => v = .int .i64 bl.n
         | 39 => v = .pointer (some ⟨w.heap.size, 0, none⟩)
         | 40 => v = .slice (some ⟨b, off, none⟩) n.ws.length cap
         | 41 => v = .int .i64 j
         | 42 => v = .pointer (some ⟨b, off + j * 12, none⟩)
         | 43 => v = .pointer (some ⟨b, off + j * 12 + 1, none⟩)
         | 44 => v = .int .i64 x.n
         | 45 => v = .bool true
         | 46 => v = .bool true
         | 47 => v = .bool true
         | 48 => v = .bool true
         | _ => True) (by kernel_rfl) (by kernel_rfl) (by kernel_rfl) (Below.refl _ _) grow_trans ?_ ?_ ?_
       ·intro i v u u' hr
        match i with
        | 0 | 1 | 2 | 3 | 4 | 5 | 6 | 7 | 8 | 9 | 10 | 11 | 12 | 13 | 14 | 15 | 16 | 17 | 18 | 19 | 20 | 21 | 22 | 23 | 24 | 25 | 26 | 27 | 28 | 29 | 30 | 31 | 32 | 33 | 34 | 35 | 36 | 37 | 38 | 39 | 40 | 41 | 42 | 43 | 44 | 45 | 46 | 47 | 48 | _ + 49 => exact fun h => h
       ·intro i o ho a u hf hR0 he K' hK
        have hR : Grow uX u := (Below.drew (Below.refl _ _)).trans hR0
        have hsz' : a.tmps.size = 84 := hf.size
        have hus := hR.size
        have q2 : a.tmps.getD 2 undef = .pointer (some ⟨w.heap.size, 0, none⟩) := hf.at_ 2 (by kernel_rfl)
        have q5 : a.tmps.getD 5 undef = .int .i64 j := hf.at_ 5 (by kernel_rfl)
        have q6 : a.tmps.getD 6 undef = .pointer (some ⟨X, 0, none⟩) := hf.at_ 6 (by kernel_rfl)
        have c0 : u.cell? ⟨w.heap.size, 0, none⟩ = some (.slice (some ⟨b, off, none⟩) n.ws.length cap) := by rw [hR.cell (p := ⟨w.heap.size, 0, none⟩) (by show w.heap.size < _; omega)]; exact HC0.out
        have ck : u.cell? ⟨b, off + j * 12, none⟩ = some (.int .i64 x.kind) := by rw [hR.cell (p := ⟨b, off + j * 12, none⟩) (by show b < _; omega)]; exact HCK.out.1
        have cn : u.cell? ⟨b, off + j * 12 + 1, none⟩ = some (.int .i64 x.n) := by rw [hR.cell (p := ⟨b, off + j * 12 + 1, none⟩) (by show b < _; omega)]; exact HCK.out.2
        have hX := HX.out.below hR (by omega)
        have cx0 : u.cell? ⟨X, 0, none⟩ = some (.int .i64 bl.kind) := hX.c 0 _ rfl
        have cx1 : u.cell? ⟨X, 1, none⟩ = some (.int .i64 bl.n) := hX.c 1 _ rfl
        have hkd := HKD.out
        have hnn := HNN.out
        rcases i with _ | _ | _ | _ | _ | _ | _ | _ | _ | _ | _ | _ | _ | _ | _ | _ | _ | _ | _ | _ | _ | _ | _ | _ | _ | _ | _ | _ | _ | _ | _ | _ | _ | _ | _ | _ | _ | _ | _ | _ | _ | _ | _ | _ | _ | _ | _ | _ | _ | i
        rotate_right
        ·exact absurd ho (by simp)
        all_goals
         obtain rfl := si ho
         try have e0 : a.tmps.getD _ undef = _ := he _ (am (i := 0) rfl) (by kernel_rfl) _ rfl
         try have e1 : a.tmps.getD _ undef = _ := he _ (am (i := 1) rfl) (by kernel_rfl) _ rfl
         try have e2 : a.tmps.getD _ undef = _ := he _ (am (i := 2) rfl) (by kernel_rfl) _ rfl
         clear he
         first
         | exact wanted_off rfl (yielded_g rfl rfl (by show _ < a.tmps.size; omega) (by assumption)) (hK undef u (Below.refl _ _) (getD_put_self a _ _ (by show _ < a.tmps.size; omega)))
         | exact wanted_un rfl (yielded_u rfl rfl (by show _ < a.tmps.size; omega) (by assumption)) (hK undef u (Below.refl _ _) (getD_put_self a _ _ (by show _ < a.tmps.size; omega)))
         | (refine wanted_on rfl (yielded_g rfl rfl (by show _ < a.tmps.size; omega) (by assumption)) ?_; go_simp; exact hK _ _ (Below.refl _ _) (getD_put_self a _ _ (by show _ < a.tmps.size; omega)))
         | (go_simp; exact hK _ _ (Below.refl _ _) (getD_put_self a _ _ (by show _ < a.tmps.size; omega)))
         | (go_simp; refine (l7Gate_any u x.kind).mono ?_; rintro e1 u' ⟨rfl, rfl⟩; rw [HG.out]; exact hK _ _ (Below.refl _ _) (getD_put_self a _ _ (by show _ < a.tmps.size; omega)))
         | (refine wanted_on rfl (yielded_g rfl rfl (by show _ < a.tmps.size; omega) (by assumption)) ?_; go_simp; refine (l7Gate_any u x.kind).mono ?_; rintro e1 u' ⟨rfl, rfl⟩; rw [HG.out]; exact hK _ _ (Below.refl _ _) (getD_put_self a _ _ (by show _ < a.tmps.size; omega)))
         | (refine wanted_on rfl (yielded_g rfl rfl (by show _ < a.tmps.size; omega) (by assumption)) ?_; refine wp_loadG Tryz.isAgg165 Tryz.sizeOf165 (vs := blockC bl) _ rfl q6 rfl hX.c ?_; exact hK _ _ (Below.refl _ _) (getD_put_self a _ _ (by show _ < a.tmps.size; omega)))
         | (refine wanted_on rfl (yielded_g rfl rfl (by show _ < a.tmps.size; omega) (by assumption)) ?_; go_simp; refine (sBlockOk_any u bl).mono ?_; rintro e1 u' ⟨rfl, hbu⟩; rw [HO.out]; exact hK _ _ hbu (getD_put_self a _ _ (by show _ < a.tmps.size; omega)))
       ·intro a u hf hR0 hp
        have hR : Grow uX u := (Below.drew (Below.refl _ _)).trans hR0
        have hB := HB.out.trans (hR.mono (by have := HB.out.size; omega))
        have m83 : a.tmps.getD 83 undef = .bool true := hp 48 _ rfl
        clear hp hR0 hR
        obtain ⟨fq, ea, hfv⟩ := act_lit a 84 hf.size
        have md : a.defers = [] := hf.defers
        rw [md] at ea
        have m0 := hf.at_ 0 (by kernel_rfl)
        have m1 := hf.at_ 1 (by kernel_rfl)
        have m2 := hf.at_ 2 (by kernel_rfl)
        have m3 := hf.at_ 3 (by kernel_rfl)
        have m4 := hf.at_ 4 (by kernel_rfl)
        have m5 := hf.at_ 5 (by kernel_rfl)
        have m6 := hf.at_ 6 (by kernel_rfl)
        have m7 := hf.at_ 7 (by kernel_rfl)
        have m8 := hf.at_ 8 (by kernel_rfl)
        have m9 := hf.at_ 9 (by kernel_rfl)
        have m10 := hf.at_ 10 (by kernel_rfl)
        have m11 := hf.at_ 11 (by kernel_rfl)
        have m12 := hf.at_ 12 (by kernel_rfl)
        have m13 := hf.at_ 13 (by kernel_rfl)
        have m14 := hf.at_ 14 (by kernel_rfl)
        have m15 := hf.at_ 15 (by kernel_rfl)
        have m16 := hf.at_ 16 (by kernel_rfl)
        have m17 := hf.at_ 17 (by kernel_rfl)
        have m18 := hf.at_ 18 (by kernel_rfl)
        have m19 := hf.at_ 19 (by kernel_rfl)
        have m20 := hf.at_ 20 (by kernel_rfl)
        have m21 := hf.at_ 21 (by kernel_rfl)
        have m22 := hf.at_ 22 (by kernel_rfl)
        have m23 := hf.at_ 23 (by kernel_rfl)
        have m24 := hf.at_ 24 (by kernel_rfl)
        have m25 := hf.at_ 25 (by kernel_rfl)
        have m26 := hf.at_ 26 (by kernel_rfl)
        have m27 := hf.at_ 27 (by kernel_rfl)
        have m28 := hf.at_ 28 (by kernel_rfl)
        have m29 := hf.at_ 29 (by kernel_rfl)
        have m30 := hf.at_ 30 (by kernel_rfl)
        have m31 := hf.at_ 31 (by kernel_rfl)
        have m32 := hf.at_ 32 (by kernel_rfl)
        have m33 := hf.at_ 33 (by kernel_rfl)
        have m34 := hf.at_ 34 (by kernel_rfl)
        rw [← hfv] at m0 m1 m2 m3 m4 m5 m6 m7 m8 m9 m10 m11 m12 m13 m14 m15 m16 m17 m18 m19 m20 m21 m22 m23 m24 m25 m26 m27 m28 m29 m30 m31 m32 m33 m34 m83
        simp only [Array.getD_eq_getD_getElem?, List.getElem?_toArray, List.getElem?_cons_succ, List.getElem?_cons_zero, Option.getD_some] at m0 m1 m2 m3 m4 m5 m6 m7 m8 m9 m10 m11 m12 m13 m14 m15 m16 m17 m18 m19 m20 m21 m22 m23 m24 m25 m26 m27 m28 m29 m30 m31 m32 m33 m34
        simp only [List.range, List.range.loop, List.map_cons, List.map_nil, m0, m1, m2, m3, m4, m5, m6, m7, m8, m9, m10, m11, m12, m13, m14, m15, m16, m17, m18, m19, m20, m21, m22, m23, m24, m25, m26, m27, m28, m29, m30, m31, m32, m33, m34, m83] at ea
        subst ea
        clear m0 m1 m2 m3 m4 m5 m6 m7 m8 m9 m10 m11 m12 m13 m14 m15 m16 m17 m18 m19 m20 m21 m22 m23 m24 m25 m26 m27 m28 m29 m30 m31 m32 m33 m34 m83 hfv md hf
        go_wp2
        go_ret
        exact ⟨ret_bool HF.out.symm, G2.trans (hB.mono (by omega))⟩
     ·have HKD : Hid ((bl.kind != x.kind) = true) := by show _ = true; simp [hk]
      have HKE : Hid ((bl.kind == x.kind) = false) := by show _ = false; simp [hk]
      clear hk
      have HF : Hid (R = false) := by
       show R = false
       rw [← HR.out]
       refine stateFit_not (allFit_not HX1.out.1 HX1.out.2 ?_)
       rw [HFIT.out, HG.out, HKE.out, Bool.false_and, Bool.and_false]; rfl
      refine wp_region_dag (R := Grow) (Φ := fun i v u => match i with
        | 0 => v = .pointer (some ⟨w.heap.size, 0, none⟩)
        | 1 => v = .slice (some ⟨b, off, none⟩) n.ws.length cap
        | 2 => v = .int .i64 j
        | 3 => v = .pointer (some ⟨b, off + j * 12, none⟩)
        | 4 => v = .pointer (some ⟨b, off + j * 12, none⟩)
        | 5 => v = .int .i64 x.kind
        | 6 => v = .bool false
        | 7 => v = .bool false
        | 8 => v = undef
        | 9 => v = undef
        | 10 => v = undef
        | 11 => v = .bool false
        | 12 => v = .bool false
        | 13 => v = .pointer (some ⟨w.heap.size, 0, none⟩)
        | 14 => v = .slice (some ⟨b, off, none⟩) n.ws.length cap
        | 15 => v = .int .i64 j
        | 16 => v = .pointer (some ⟨b, off + j * 12, none⟩)
        | 17 => v = .pointer (some ⟨b, off + j * 12, none⟩)
        | 18 => v = .int .i64 x.kind
        | 19 => v = .bool false
        | 20 => v = .bool true
        | 21 => v = .bool true
        | 22 => v = .agg (blockC bl).toArray
        | 23 => v = .bool true
        | 24 => v = .bool false
        | 25 => v = .bool false
        | 26 => v = .pointer (some ⟨X, 0, none⟩)
        | 27 => v = .int .i64 bl.kind
        | 28 => v = .pointer (some ⟨w.heap.size, 0, none⟩)
        | 29 => v = .slice (some ⟨b, off, none⟩) n.ws.length cap
        | 30 => v = .int .i64 j
        | 31 => v = .pointer (some ⟨b, off + j * 12, none⟩)
        | 32 => v = .pointer (some ⟨b, off + j * 12, none⟩)
        | 33 => v = .int .i64 x.kind
        | 34 => v = .bool true
        | 35 => v = .bool true
        | 36 => v = .bool true
        | 37 => v = undef
        | 38 => v = undef
        | 39 => v = undef
        | 40 => v = undef
        | 41 => v = undef
        | 42 => v = undef
        | 43 => v = undef
        | 44 => v = undef
        | 45 => v = undef
        | 46 => v = .bool true
        | 47 => v = .bool true
        | 48 => v = .bool true
        | _ => True) (by kernel_rfl) (by kernel_rfl) (by kernel_rfl) (Below.refl _ _) grow_trans ?_ ?_ ?_
      ·intro i v u u' hr
       match i with
       | 0 | 1 | 2 | 3 | 4 | 5 | 6 | 7 | 8 | 9 | 10 | 11 | 12 | 13 | 14 | 15 | 16 | 17 | 18 | 19 | 20 | 21 | 22 | 23 | 24 | 25 | 26 | 27 | 28 | 29 | 30 | 31 | 32 | 33 | 34 | 35 | 36 | 37 | 38 | 39 | 40 | 41 | 42 | 43 | 44 | 45 | 46 | 47 | 48 | _ + 49 => exact fun h => h
      ·intro i o ho a u hf hR0 he K' hK
       have hR : Grow uX u := (Below.drew (Below.refl _ _)).trans hR0
       have hsz' : a.tmps.size = 84 := hf.size
       have hus := hR.size
       have q2 : a.tmps.getD 2 undef = .pointer (some ⟨w.heap.size, 0, none⟩) := hf.at_ 2 (by kernel_rfl)
       have q5 : a.tmps.getD 5 undef = .int .i64 j := hf.at_ 5 (by kernel_rfl)
       have q6 : a.tmps.getD 6 undef = .pointer (some ⟨X, 0, none⟩) := hf.at_ 6 (by kernel_rfl)
       have c0 : u.cell? ⟨w.heap.size, 0, none⟩ = some (.slice (some ⟨b, off, none⟩) n.ws.length cap) := by rw [hR.cell (p := ⟨w.heap.size, 0, none⟩) (by show w.heap.size < _; omega)]; exact HC0.out
       have ck : u.cell? ⟨b, off + j * 12, none⟩ = some (.int .i64 x.kind) := by rw [hR.cell (p := ⟨b, off + j * 12, none⟩) (by show b < _; omega)]; exact HCK.out.1
       have cn : u.cell? ⟨b, off + j * 12 + 1, none⟩ = some (.int .i64 x.n) := by rw [hR.cell (p := ⟨b, off + j * 12 + 1, none⟩) (by show b < _; omega)]; exact HCK.out.2
       have hX := HX.out.below hR (by omega)
       have cx0 : u.cell? ⟨X, 0, none⟩ = some (.int .i64 bl.kind) := hX.c 0 _ rfl
       have cx1 : u.cell? ⟨X, 1, none⟩ = some (.int .i64 bl.n) := hX.c 1 _ rfl
       have hkd := HKD.out
       rcases i with _ | _ | _ | _ | _ | _ | _ | _ | _ | _ | _ | _ | _ | _ | _ | _ | _ | _ | _ | _ | _ | _ | _ | _ | _ | _ | _ | _ | _ | _ | _ | _ | _ | _ | _ | _ | _ | _ | _ | _ | _ | _ | _ | _ | _ | _ | _ | _ | _ | i
       rotate_right
       ·exact absurd ho (by simp)
       all_goals
        obtain rfl := si ho
        try have e0 : a.tmps.getD _ undef = _ := he _ (am (i := 0) rfl) (by kernel_rfl) _ rfl
        try have e1 : a.tmps.getD _ undef = _ := he _ (am (i := 1) rfl) (by kernel_rfl) _ rfl
        try have e2 : a.tmps.getD _ undef = _ := he _ (am (i := 2) rfl) (by kernel_rfl) _ rfl
        clear he
        first
        | exact wanted_off rfl (yielded_g rfl rfl (by show _ < a.tmps.size; omega) (by assumption)) (hK undef u (Below.refl _ _) (getD_put_self a _ _ (by show _ < a.tmps.size; omega)))
        | exact wanted_un rfl (yielded_u rfl rfl (by show _ < a.tmps.size; omega) (by assumption)) (hK undef u (Below.refl _ _) (getD_put_self a _ _ (by show _ < a.tmps.size; omega)))
        | (refine wanted_on rfl (yielded_g rfl rfl (by show _ < a.tmps.size; omega) (by assumption)) ?_; go_simp; exact hK _ _ (Below.refl _ _) (getD_put_self a _ _ (by show _ < a.tmps.size; omega)))
        | (go_simp; exact hK _ _ (Below.refl _ _) (getD_put_self a _ _ (by show _ < a.tmps.size; omega)))
        | (go_simp; refine (l7Gate_any u x.kind).mono ?_; rintro e1 u' ⟨rfl, rfl⟩; rw [HG.out]; exact hK _ _ (Below.refl _ _) (getD_put_self a _ _ (by show _ < a.tmps.size; omega)))
        | (refine wanted_on rfl (yielded_g rfl rfl (by show _ < a.tmps.size; omega) (by assumption)) ?_; go_simp; refine (l7Gate_any u x.kind).mono ?_; rintro e1 u' ⟨rfl, rfl⟩; rw [HG.out]; exact hK _ _ (Below.refl _ _) (getD_put_self a _ _ (by show _ < a.tmps.size; omega)))
        | (refine wanted_on rfl (yielded_g rfl rfl (by show _ < a.tmps.size; omega) (by assumption)) ?_; refine wp_loadG Tryz.isAgg165 Tryz.sizeOf165 (vs := blockC bl) _ rfl q6 rfl hX.c ?_; exact hK _ _ (Below.refl _ _) (getD_put_self a _ _ (by show _ < a.tmps.size; omega)))
        | (refine wanted_on rfl (yielded_g rfl rfl (by show _ < a.tmps.size; omega) (by assumption)) ?_; go_simp; refine (sBlockOk_any u bl).mono ?_; rintro e1 u' ⟨rfl, hbu⟩; rw [HO.out]; exact hK _ _ hbu (getD_put_self a _ _ (by show _ < a.tmps.size; omega)))
      ·intro a u hf hR0 hp
       have hR : Grow uX u := (Below.drew (Below.refl _ _)).trans hR0
       have hB := HB.out.trans (hR.mono (by have := HB.out.size; omega))
       have m83 : a.tmps.getD 83 undef = .bool true := hp 48 _ rfl
       clear hp hR0 hR
       obtain ⟨fq, ea, hfv⟩ := act_lit a 84 hf.size
       have md : a.defers = [] := hf.defers
       rw [md] at ea
       have m0 := hf.at_ 0 (by kernel_rfl)
       have m1 := hf.at_ 1 (by kernel_rfl)
       have m2 := hf.at_ 2 (by kernel_rfl)
       have m3 := hf.at_ 3 (by kernel_rfl)
       have m4 := hf.at_ 4 (by kernel_rfl)
       have m5 := hf.at_ 5 (by kernel_rfl)
       have m6 := hf.at_ 6 (by kernel_rfl)
       have m7 := hf.at_ 7 (by kernel_rfl)
       have m8 := hf.at_ 8 (by kernel_rfl)
       have m9 := hf.at_ 9 (by kernel_rfl)
       have m10 := hf.at_ 10 (by kernel_rfl)
       have m11 := hf.at_ 11 (by kernel_rfl)
       have m12 := hf.at_ 12 (by kernel_rfl)
       have m13 := hf.at_ 13 (by kernel_rfl)
       have m14 := hf.at_ 14 (by kernel_rfl)
       have m15 := hf.at_ 15 (by kernel_rfl)
       have m16 := hf.at_ 16 (by kernel_rfl)
       have m17 := hf.at_ 17 (by kernel_rfl)
       have m18 := hf.at_ 18 (by kernel_rfl)
       have m19 := hf.at_ 19 (by kernel_rfl)
       have m20 := hf.at_ 20 (by kernel_rfl)
       have m21 := hf.at_ 21 (by kernel_rfl)
       have m22 := hf.at_ 22 (by kernel_rfl)
       have m23 := hf.at_ 23 (by kernel_rfl)
       have m24 := hf.at_ 24 (by kernel_rfl)
       have m25 := hf.at_ 25 (by kernel_rfl)
       have m26 := hf.at_ 26 (by kernel_rfl)
       have m27 := hf.at_ 27 (by kernel_rfl)
       have m28 := hf.at_ 28 (by kernel_rfl)
       have m29 := hf.at_ 29 (by kernel_rfl)
       have m30 := hf.at_ 30 (by kernel_rfl)
       have m31 := hf.at_ 31 (by kernel_rfl)
       have m32 := hf.at_ 32 (by kernel_rfl)
       have m33 := hf.at_ 33 (by kernel_rfl)
       have m34 := hf.at_ 34 (by kernel_rfl)
       rw [← hfv] at m0 m1 m2 m3 m4 m5 m6 m7 m8 m9 m10 m11 m12 m13 m14 m15 m16 m17 m18 m19 m20 m21 m22 m23 m24 m25 m26 m27 m28 m29 m30 m31 m32 m33 m34 m83
       simp only [Array.getD_eq_getD_getElem?, List.getElem?_toArray, List.getElem?_cons_succ, List.getElem?_cons_zero, Option.getD_some] at m0 m1 m2 m3 m4 m5 m6 m7 m8 m9 m10 m11 m12 m13 m14 m15 m16 m17 m18 m19 m20 m21 m22 m23 m24 m25 m26 m27 m28 m29 m30 m31 m32 m33 m34
       simp only [List.range, List.range.loop, List.map_cons, List.map_nil, m0, m1, m2, m3, m4, m5, m6, m7, m8, m9, m10, m11, m12, m13, m14, m15, m16, m17, m18, m19, m20, m21, m22, m23, m24, m25, m26, m27, m28, m29, m30, m31, m32, m33, m34, m83] at ea
       subst ea
       clear m0 m1 m2 m3 m4 m5 m6 m7 m8 m9 m10 m11 m12 m13 m14 m15 m16 m17 m18 m19 m20 m21 m22 m23 m24 m25 m26 m27 m28 m29 m30 m31 m32 m33 m34 m83 hfv md hf
       go_wp2
       go_ret
       exact ⟨ret_bool HF.out.symm, G2.trans (hB.mono (by omega))⟩
  ·obtain rfl : j = s.bs.length := by omega
   have HF : Hid (R = true) := by
    show R = true
    rw [← HR.out]
    refine stateFit_yes HL.out HLd.out ?_
    have := HT.out; rwa [HL.out] at this
   go_wp2
   go_ret
   exact ⟨ret_bool HF.out.symm, G2.trans (hb.mono (by omega))⟩
end Go.Proofs.YtaoiookfmgpmkaaGreatDoor
