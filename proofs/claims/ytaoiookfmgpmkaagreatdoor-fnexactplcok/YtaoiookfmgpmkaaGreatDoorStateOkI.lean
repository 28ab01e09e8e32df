/-
 The program's stateOk, of a net that is ok. (Written by our generator gen_stateok.py.)
-/
import Derived.Test.YtaoiookfmgpmkaaGreatDoorQM12
import Derived.Test.YtaoiookfmgpmkaaGreatDoorQM13
import Derived.Test.YtaoiookfmgpmkaaGreatDoorQM18
import Derived.Test.YtaoiookfmgpmkaaGreatDoorQM14
import Derived.Test.YtaoiookfmgpmkaaGreatDoorQM15
namespace Go.Proofs.YtaoiookfmgpmkaaGreatDoor
open Go.ChangeShapes Go.WideShapes Go.ChangeAt Go.RowKit
set_option linter.unusedVariables false
set_option linter.unusedSimpArgs false
set_option maxRecDepth 100000
def TwoB (n0 : Nat) (f g : BlockD) (L : Array Bool) (a : Act) (w : World) : Prop :=
 (L.getD 10 true = true → ∃ B, a.tmps.getD 7 undef = .pointer (some ⟨B, 0, none⟩) ∧ n0 ≤ B ∧ B < w.heap.size ∧ VarG w B (if L.getD 12 true = true then blockC f else blockC noB)) ∧
 (L.getD 11 true = true → ∃ B, a.tmps.getD 8 undef = .pointer (some ⟨B, 0, none⟩) ∧ n0 ≤ B ∧ B < w.heap.size ∧ VarG w B (if L.getD 13 true = true then blockC g else blockC noB)) ∧
 (L.getD 10 true = true → L.getD 11 true = true → a.tmps.getD 7 undef ≠ a.tmps.getD 8 undef)

theorem TwoB.keep {n0 : Nat} {f g : BlockD} {L : Array Bool} {a : Act} {w w' : World} (h : TwoB n0 f g L a w) (hb : Below w.heap.size w w') {i d : Nat} {v : Value} (h10 : i ≠ 10) (h11 : i ≠ 11) (h12 : i ≠ 12) (h13 : i ≠ 13) (h7 : d ≠ 7) (h8 : d ≠ 8) :
  TwoB n0 f g (L.setIfInBounds i true) (a.put (some d) v) w' := by
 obtain ⟨h1, h2, h3⟩ := h
 unfold TwoB
 rw [getD_set_ne true h10, getD_set_ne true h11, getD_set_ne true h12, getD_set_ne true h13, getD_put_ne a d 7 v h7, getD_put_ne a d 8 v h8]
 have hs := hb.size
 refine ⟨fun e => ?_, fun e => ?_, h3⟩
 ·obtain ⟨B, e1, e2, e3, e4⟩ := h1 e
  exact ⟨B, e1, e2, by omega, e4.below hb e3⟩
 ·obtain ⟨B, e1, e2, e3, e4⟩ := h2 e
  exact ⟨B, e1, e2, by omega, e4.below hb e3⟩

theorem TwoB.made7 {n0 : Nat} {f g : BlockD} {L : Array Bool} {a : Act} {w u : World} (h : TwoB n0 f g L a w) (hb : Below w.heap.size w u) (hv : VarG u w.heap.size (blockC noB)) (hs : u.heap.size = w.heap.size + 1) (hn : n0 ≤ w.heap.size) (h12 : L.getD 12 true = false) (hz : 7 < a.tmps.size) :
  TwoB n0 f g (L.setIfInBounds 10 true) (a.put (some 7) (.pointer (some ⟨w.heap.size, 0, none⟩))) u := by
 obtain ⟨h1, h2, h3⟩ := h
 unfold TwoB
 rw [getD_set_ne true (show (10 : Nat) ≠ 11 by decide), getD_set_ne true (show (10 : Nat) ≠ 12 by decide), getD_set_ne true (show (10 : Nat) ≠ 13 by decide), getD_put_ne a 7 8 _ (by decide), getD_put_self a 7 _ hz, h12]
 refine ⟨fun _ => ⟨_, rfl, hn, by omega, hv⟩, fun e => ?_, fun _ e hq => ?_⟩
 ·obtain ⟨B, e1, e2, e3, e4⟩ := h2 e
  exact ⟨B, e1, e2, by omega, e4.below hb e3⟩
 ·obtain ⟨B, e1, e2, e3, e4⟩ := h2 e
  rw [e1] at hq
  simp at hq
  try omega

theorem TwoB.made8 {n0 : Nat} {f g : BlockD} {L : Array Bool} {a : Act} {w u : World} (h : TwoB n0 f g L a w) (hb : Below w.heap.size w u) (hv : VarG u w.heap.size (blockC noB)) (hs : u.heap.size = w.heap.size + 1) (hn : n0 ≤ w.heap.size) (h13 : L.getD 13 true = false) (hz : 8 < a.tmps.size) :
  TwoB n0 f g (L.setIfInBounds 11 true) (a.put (some 8) (.pointer (some ⟨w.heap.size, 0, none⟩))) u := by
 obtain ⟨h1, h2, h3⟩ := h
 unfold TwoB
 rw [getD_set_ne true (show (11 : Nat) ≠ 10 by decide), getD_set_ne true (show (11 : Nat) ≠ 12 by decide), getD_set_ne true (show (11 : Nat) ≠ 13 by decide), getD_put_ne a 8 7 _ (by decide), getD_put_self a 8 _ hz, h13]
 refine ⟨fun e => ?_, fun _ => ⟨_, rfl, hn, by omega, hv⟩, fun e _ hq => ?_⟩
 ·obtain ⟨B, e1, e2, e3, e4⟩ := h1 e
  exact ⟨B, e1, e2, by omega, e4.below hb e3⟩
 ·obtain ⟨B, e1, e2, e3, e4⟩ := h1 e
  rw [e1] at hq
  simp at hq
  try omega

theorem TwoB.laid7 {n0 : Nat} {f g : BlockD} {L : Array Bool} {a : Act} {w u : World} (h : TwoB n0 f g L a w) {B : Nat} (h7 : a.tmps.getD 7 undef = .pointer (some ⟨B, 0, none⟩)) (h10 : L.getD 10 true = true) (hl : 12 < L.size) (hL : LaidG w u B 0 (blockC f)) : TwoB n0 f g (L.setIfInBounds 12 true) (a.put none undef) u := by
 obtain ⟨h1, h2, h3⟩ := h
 unfold TwoB
 rw [getD_set_ne true (show (12 : Nat) ≠ 10 by decide), getD_set_ne true (show (12 : Nat) ≠ 11 by decide), getD_set_ne true (show (12 : Nat) ≠ 13 by decide), getD_set_self' hl]
 have hs := hL.size
 refine ⟨fun e => ?_, fun e => ?_, h3⟩
 ·obtain ⟨B', e1, e2, e3, e4⟩ := h1 e
  rw [h7] at e1
  simp only [Value.pointer.injEq, Option.some.injEq, Go.Addr.mk.injEq, and_true] at e1
  subst e1
  exact ⟨B, h7, e2, by omega, by rw [if_pos rfl]; exact hL.var e4⟩
 ·obtain ⟨B', e1, e2, e3, e4⟩ := h2 e
  refine ⟨B', e1, e2, by omega, hL.other e4 fun q => h3 h10 e ?_⟩
  rw [h7, e1, q]

theorem TwoB.laid8 {n0 : Nat} {f g : BlockD} {L : Array Bool} {a : Act} {w u : World} (h : TwoB n0 f g L a w) {B : Nat} (h8 : a.tmps.getD 8 undef = .pointer (some ⟨B, 0, none⟩)) (h11 : L.getD 11 true = true) (hl : 13 < L.size) (hL : LaidG w u B 0 (blockC g)) : TwoB n0 f g (L.setIfInBounds 13 true) (a.put none undef) u := by
 obtain ⟨h1, h2, h3⟩ := h
 unfold TwoB
 rw [getD_set_ne true (show (13 : Nat) ≠ 10 by decide), getD_set_ne true (show (13 : Nat) ≠ 11 by decide), getD_set_ne true (show (13 : Nat) ≠ 12 by decide), getD_set_self' hl]
 have hs := hL.size
 refine ⟨fun e => ?_, fun e => ?_, h3⟩
 ·obtain ⟨B', e1, e2, e3, e4⟩ := h1 e
  refine ⟨B', e1, e2, by omega, hL.other e4 fun q => h3 e h11 ?_⟩
  rw [h8, e1, q]
 ·obtain ⟨B', e1, e2, e3, e4⟩ := h2 e
  rw [h8] at e1
  simp only [Value.pointer.injEq, Option.some.injEq, Go.Addr.mk.injEq, and_true] at e1
  subst e1
  exact ⟨B, h8, e2, by omega, by rw [if_pos rfl]; exact hL.var e4⟩

theorem zero_blockI : (Tryz.prog.info? 165).map (fun i => (i.zero, i.size)) = some (some (.agg (blockC noB).toArray), 5) := by kernel_rfl
theorem zero_wireI : (Tryz.prog.info? 171).map (fun i => (i.zero, i.size)) = some (some (.agg (wireC ⟨0, 0, noSrc, noSrc⟩).toArray), 12) := by kernel_rfl

set_option maxHeartbeats 16000000 in
theorem iStateOk_any (w : World) (lo hi lo1 hi1 : Nat) (vn vs : Value) (n : NetD) (s : StateD) (hN : NI w lo hi vn n) (hS : StR w lo1 hi1 vs s) (hhi : hi ≤ w.heap.size) (hhi1 : hi1 ≤ w.heap.size) (hok : netOk n = true) :
  Calls Tryz.prog 94 #[vn, vs] w fun e w' => e = .returned (.bool (stateFit n s)) ∧ Below w.heap.size w w' := by
 obtain ⟨R, hR⟩ : ∃ R, stateFit n s = R := ⟨_, rfl⟩
 rw [hR]
 have HR : Hid (stateFit n s = R) := hR
 clear hR
 obtain ⟨xa, xb, rfl, hxa, hxb⟩ := hN
 obtain ⟨ya, yb, rfl, hya, hyb⟩ := hS
 obtain ⟨ad, cap, rfl, k1, k1'⟩ := hxa.shape
 obtain ⟨add, capd, rfl, k2, k2'⟩ := hxb.shape
 obtain ⟨ad', cap', rfl, k3, k3'⟩ := hya.shape
 obtain ⟨add', capd', rfl, k4, k4'⟩ := hyb.shape
 unfold maxLen at k1' k2' k3' k4'
 have HK0 : Hid (GR wireE w lo hi (.slice ad n.ws.length cap) n.ws ∧ GR blockE w lo1 hi1 (.slice ad' s.bs.length cap') s.bs) := ⟨hxa, hya⟩
 clear hxa hxb hya hyb
 have HOK : Hid (∀ (i : Nat) (x : WireD), n.ws[i]? = some x → wireOk x n.ws.length = true) := by
  intro i x hx
  cases hw : wireOk x n.ws.length with
  | true => rfl
  | false => rw [netOk_wire hx hw] at hok; cases hok
 clear hok
 by_cases hl : s.bs.length = n.ws.length
 rotate_left
 ·have hl2 : ((s.bs.length : Int) != (n.ws.length : Int)) = true := by simp; omega
  have HF : Hid (R = false) := by show R = false; rw [← HR.out]; exact stateFit_len hl
  go_enter Tryz.func94, Tryz.ntmps94
  go_wp2_with (refine wpList_boxG (vs := [.slice ad n.ws.length cap, .slice add n.ds.length capd]) rfl _ rfl rfl ?_)
  intro u1 g1 p1 s1
  go_wp2_with (refine wpList_boxG (vs := [.slice ad' s.bs.length cap', .slice add' s.ls.length capd']) rfl _ rfl rfl ?_)
  intro w0 g2 qv s2
  have pv := p1.below g2 (by omega)
  have G2 := g1.trans (g2.mono (by omega))
  clear g1 g2 p1
  have c0 : w0.cell? ⟨w.heap.size, 0, none⟩ = some (.slice ad n.ws.length cap) := pv.c 0 _ rfl
  have d0 : w0.cell? ⟨w.heap.size + 1, 0, none⟩ = some (.slice ad' s.bs.length cap') := qv.c 0 _ rfl
  have d1 : w0.cell? ⟨w.heap.size + 1, 1, none⟩ = some (.slice add' s.ls.length capd') := qv.c 1 _ rfl
  go_wp2_with fail
  go_ret
  exact ⟨ret_bool HF.out.symm, G2⟩
 have hl2 : ((s.bs.length : Int) != (n.ws.length : Int)) = false := by simp; omega
 have HL : Hid (s.bs.length = n.ws.length) := hl
 clear hl
 by_cases hl : s.ls.length = n.ws.length
 rotate_left
 ·have hl3 : ((s.ls.length : Int) != (n.ws.length : Int)) = true := by simp; omega
  have HF : Hid (R = false) := by show R = false; rw [← HR.out]; exact stateFit_len2 hl
  go_enter Tryz.func94, Tryz.ntmps94
  go_wp2_with (refine wpList_boxG (vs := [.slice ad n.ws.length cap, .slice add n.ds.length capd]) rfl _ rfl rfl ?_)
  intro u1 g1 p1 s1
  go_wp2_with (refine wpList_boxG (vs := [.slice ad' s.bs.length cap', .slice add' s.ls.length capd']) rfl _ rfl rfl ?_)
  intro w0 g2 qv s2
  have pv := p1.below g2 (by omega)
  have G2 := g1.trans (g2.mono (by omega))
  clear g1 g2 p1
  have c0 : w0.cell? ⟨w.heap.size, 0, none⟩ = some (.slice ad n.ws.length cap) := pv.c 0 _ rfl
  have d0 : w0.cell? ⟨w.heap.size + 1, 0, none⟩ = some (.slice ad' s.bs.length cap') := qv.c 0 _ rfl
  have d1 : w0.cell? ⟨w.heap.size + 1, 1, none⟩ = some (.slice add' s.ls.length capd') := qv.c 1 _ rfl
  go_wp2_with fail
  go_ret
  exact ⟨ret_bool HF.out.symm, G2⟩
 have hl3 : ((s.ls.length : Int) != (n.ws.length : Int)) = false := by simp; omega
 have HLd : Hid (s.ls.length = n.ws.length) := hl
 clear hl
 go_enter Tryz.func94, Tryz.ntmps94
 go_wp2_with (refine wpList_boxG (vs := [.slice ad n.ws.length cap, .slice add n.ds.length capd]) rfl _ rfl rfl ?_)
 intro u1 g1 p1 s1
 go_wp2_with (refine wpList_boxG (vs := [.slice ad' s.bs.length cap', .slice add' s.ls.length capd']) rfl _ rfl rfl ?_)
 intro w0 g2 qv s2
 have pv := p1.below g2 (by omega)
 have G2 := g1.trans (g2.mono (by omega))
 clear g1 g2 p1
 have c0 : w0.cell? ⟨w.heap.size, 0, none⟩ = some (.slice ad n.ws.length cap) := pv.c 0 _ rfl
 have d0 : w0.cell? ⟨w.heap.size + 1, 0, none⟩ = some (.slice ad' s.bs.length cap') := qv.c 0 _ rfl
 have d1 : w0.cell? ⟨w.heap.size + 1, 1, none⟩ = some (.slice add' s.ls.length capd') := qv.c 1 _ rfl
 go_wp2_with fail

 clear d0 d1
 have HK : Hid (GR wireE w0 lo hi (.slice ad n.ws.length cap) n.ws ∧ GR blockE w0 lo1 hi1 (.slice ad' s.bs.length cap') s.bs) := ⟨HK0.out.1.under G2 hhi, HK0.out.2.under G2 hhi1⟩
 clear HK0 c0
 go_loopw [28] (fun i wr => ∃ j : Nat, j ≤ n.ws.length ∧ i = .int .i64 j ∧ Below w0.heap.size w0 wr ∧ FitTo n.ws s.bs j) (fun i _ => n.ws.length - (intOf i).toNat)
 case atStart => exact ⟨0, Nat.zero_le _, rfl, Below.refl _ _, fun i x b h => by omega⟩
 case round =>
  obtain ⟨j, hj, rfl, hb, ht⟩ := hrel
  have HT : Hid (FitTo n.ws s.bs j) := ht
  clear ht
  have hsz := hb.size
  by_cases hlt : j < n.ws.length
  ·have hlt' : j < s.bs.length := by have := HL.out; omega
   obtain ⟨bl, hbl⟩ : ∃ x, s.bs[j]? = some x := ⟨s.bs[j], List.getElem?_eq_getElem hlt'⟩
   obtain ⟨x, hx⟩ : ∃ x, n.ws[j]? = some x := ⟨n.ws[j], List.getElem?_eq_getElem hlt⟩
   obtain ⟨b, off, capx, hv, hb1, hb2, h5⟩ := HK.out.1.at_ hx
   obtain ⟨b', off', capy, hv', hb1', hb2', h5'⟩ := HK.out.2.at_ hbl
   simp only [Value.slice.injEq, true_and] at hv hv'
   obtain ⟨rfl, rfl⟩ := hv
   obtain ⟨rfl, rfl⟩ := hv'
   have h5 : CV wr b (off + j * 12) (wireC x) := h5.kept (hb.block b (by omega))
   have h5' : CV w0 b' (off' + j * 5) (blockC bl) := h5'
   have HX1 : Hid (n.ws[j]? = some x ∧ s.bs[j]? = some bl) := ⟨hx, hbl⟩
   have hzW := (zero_of_info (P := Tryz.prog) zero_wireI).1
   obtain ⟨f, hf0⟩ : ∃ f, blockNew x.kind x.n = f := ⟨_, rfl⟩
   have HF0 : Hid ((blockNew x.kind x.n).val = .agg (blockC f).toArray) := by show _ = _; rw [hf0]; rfl
   have HFIT : Hid (fitWB x bl = (bl.kind == f.kind && (bl.n == f.n && (decide (bl = f) || blockOk bl)))) := by show _ = _; rw [fitWB_first (HOK.out j x hx), hf0]
   clear hx hbl hf0
   go_wp2_with (first
    | refine wpList_loadG Tryz.isAgg171 Tryz.sizeOf171 _ rfl rfl rfl rfl h5 ?_
    | refine wpList_allocG hzW rfl rfl ?_)
   intro uA gA vA sA
   have hrun := vA.run 0 12 (show 0 + 12 ≤ 12 by decide)
   go_wp2_with (refine wpList_storeG Tryz.sizeOf171 _ _ rfl rfl rfl rfl rfl (wireC_one x) hrun.1 hrun.2 ?_)
   intro uX L
   have sX := L.size
   have HX : Hid (VarG uX wr.heap.size (wireC x)) := L.var vA
   have HB : Hid (Below w0.heap.size w0 uX) := L.below _ _ hsz (hb.trans (gA.mono hsz))
   obtain ⟨X, hX⟩ : ∃ X, wr.heap.size = X := ⟨_, rfl⟩
   rw [hX] at HX
   rw [hX]
   have HS : Hid (CV uX b' (off' + j * 5) (blockC bl)) := h5'.kept (HB.out.block b' (by omega))
   have HQ : Hid (VarG uX (w.heap.size + 1) [.slice (some ⟨b', off', none⟩) s.bs.length cap', .slice add' s.ls.length capd']) := qv.below HB.out (by omega)
   have hszX : w0.heap.size ≤ X ∧ X < uX.heap.size := by omega
   have hwX : w.heap.size + 1 < X ∧ b' < X := by omega
   clear L vA gA hrun h5' h5 hb hzW
   go_wp2_with fail
   refine wp_region_dagC (R := fun u u' => Below uX.heap.size u u' ∧ u.heap.size ≤ u'.heap.size) (Φ := fun i v u => match i with
     | 0 => v = .pointer (some ⟨X, 0, none⟩)
     | 1 => v = .int .i64 x.kind
     | 2 => v = .pointer (some ⟨X, 1, none⟩)
     | 3 => v = .int .i64 x.n
     | 4 => v = .agg (blockC f).toArray
     | 5 => v = .pointer (some ⟨w.heap.size + 1, 0, none⟩)
     | 6 => v = .slice (some ⟨b', off', none⟩) s.bs.length cap'
     | 7 => v = .int .i64 j
     | 8 => v = .pointer (some ⟨b', off' + j * 5, none⟩)
     | 9 => v = .agg (blockC bl).toArray
     | _ => True)
    (J := fun L a u => TwoB uX.heap.size f bl L a u) (by kernel_rfl) (by kernel_rfl) (by kernel_rfl) ⟨Below.refl _ _, Nat.le_refl _⟩ (fun _ _ _ h1 h2 => ⟨h1.1.trans h2.1, Nat.le_trans h1.2 h2.2⟩) ?_ ⟨fun h => absurd h (by decide), fun h => absurd h (by decide), fun h => absurd h (by decide)⟩ ?_ ?_
   ·intro i v u u' hr
    match i with
    | 0 | 1 | 2 | 3 | 4 | 5 | 6 | 7 | 8 | 9 | _ + 10 => exact fun h => h
   ·intro i o ho L ac u hf hR0 hLs hLi hcl hp he hJ K' hK
    have hR : Below uX.heap.size uX u := (Below.drew (Below.refl _ _)).trans hR0.1
    have hsz' : ac.tmps.size = 66 := hf.size
    have hus := hR.size
    have hLs : L.size = 14 := hLs
    rcases i with _ | _ | _ | _ | _ | _ | _ | _ | _ | _ | _ | _ | _ | _ | i
    ·obtain rfl := si ho
     have q6 : ac.tmps.getD 6 undef = .pointer (some ⟨X, 0, none⟩) := hf.at_ 6 (by kernel_rfl)
     clear hp he
     go_simp
     exact hK _ _ ⟨Below.refl _ _, Nat.le_refl _⟩ (getD_put_self ac 33 _ (by show _ < ac.tmps.size; omega)) (hJ.keep (Below.refl _ _) (by decide) (by decide) (by decide) (by decide) (by decide) (by decide))
    ·obtain rfl := si ho
     have q33 : ac.tmps.getD 33 undef = .pointer (some ⟨X, 0, none⟩) := hp 0 _ rfl (he _ (am (i := 0) rfl) (by kernel_rfl))
     clear hp he
     have ck : u.cell? ⟨X, 0, none⟩ = some (.int .i64 x.kind) := (HX.out.below hR (by omega)).c 0 _ rfl
     go_simp
     exact hK _ _ ⟨Below.refl _ _, Nat.le_refl _⟩ (getD_put_self ac 34 _ (by show _ < ac.tmps.size; omega)) (hJ.keep (Below.refl _ _) (by decide) (by decide) (by decide) (by decide) (by decide) (by decide))
    ·obtain rfl := si ho
     have q6 : ac.tmps.getD 6 undef = .pointer (some ⟨X, 0, none⟩) := hf.at_ 6 (by kernel_rfl)
     clear hp he
     go_simp
     exact hK _ _ ⟨Below.refl _ _, Nat.le_refl _⟩ (getD_put_self ac 35 _ (by show _ < ac.tmps.size; omega)) (hJ.keep (Below.refl _ _) (by decide) (by decide) (by decide) (by decide) (by decide) (by decide))
    ·obtain rfl := si ho
     have q35 : ac.tmps.getD 35 undef = .pointer (some ⟨X, 1, none⟩) := hp 2 _ rfl (he _ (am (i := 0) rfl) (by kernel_rfl))
     clear hp he
     have ck : u.cell? ⟨X, 1, none⟩ = some (.int .i64 x.n) := (HX.out.below hR (by omega)).c 1 _ rfl
     go_simp
     exact hK _ _ ⟨Below.refl _ _, Nat.le_refl _⟩ (getD_put_self ac 36 _ (by show _ < ac.tmps.size; omega)) (hJ.keep (Below.refl _ _) (by decide) (by decide) (by decide) (by decide) (by decide) (by decide))
    ·obtain rfl := si ho
     have q34 : ac.tmps.getD 34 undef = .int .i64 x.kind := hp 1 _ rfl (he _ (am (i := 0) rfl) (by kernel_rfl))
     have q36 : ac.tmps.getD 36 undef = .int .i64 x.n := hp 3 _ rfl (he _ (am (i := 1) rfl) (by kernel_rfl))
     clear hp he
     go_simp
     refine (iBlockNew_any u x.kind x.n).mono ?_
     rw [HF0.out]
     rintro e1 u' ⟨rfl, hbu⟩
     exact hK _ _ ⟨hbu.mono hus, hbu.size⟩ (getD_put_self ac 37 _ (by show _ < ac.tmps.size; omega)) (hJ.keep hbu (by decide) (by decide) (by decide) (by decide) (by decide) (by decide))
    ·obtain rfl := si ho
     have q3 : ac.tmps.getD 3 undef = .pointer (some ⟨w.heap.size + 1, 0, none⟩) := hf.at_ 3 (by kernel_rfl)
     clear hp he
     go_simp
     exact hK _ _ ⟨Below.refl _ _, Nat.le_refl _⟩ (getD_put_self ac 38 _ (by show _ < ac.tmps.size; omega)) (hJ.keep (Below.refl _ _) (by decide) (by decide) (by decide) (by decide) (by decide) (by decide))
    ·obtain rfl := si ho
     have q38 : ac.tmps.getD 38 undef = .pointer (some ⟨w.heap.size + 1, 0, none⟩) := hp 5 _ rfl (he _ (am (i := 0) rfl) (by kernel_rfl))
     clear hp he
     have c0 : u.cell? ⟨w.heap.size + 1, 0, none⟩ = some (.slice (some ⟨b', off', none⟩) s.bs.length cap') := (HQ.out.below hR (by omega)).c 0 _ rfl
     go_simp
     exact hK _ _ ⟨Below.refl _ _, Nat.le_refl _⟩ (getD_put_self ac 39 _ (by show _ < ac.tmps.size; omega)) (hJ.keep (Below.refl _ _) (by decide) (by decide) (by decide) (by decide) (by decide) (by decide))
    ·obtain rfl := si ho
     have q5 : ac.tmps.getD 5 undef = .int .i64 j := hf.at_ 5 (by kernel_rfl)
     clear hp he
     go_simp
     exact hK _ _ ⟨Below.refl _ _, Nat.le_refl _⟩ (getD_put_self ac 40 _ (by show _ < ac.tmps.size; omega)) (hJ.keep (Below.refl _ _) (by decide) (by decide) (by decide) (by decide) (by decide) (by decide))
    ·obtain rfl := si ho
     have q39 : ac.tmps.getD 39 undef = .slice (some ⟨b', off', none⟩) s.bs.length cap' := hp 6 _ rfl (he _ (am (i := 0) rfl) (by kernel_rfl))
     have q40 : ac.tmps.getD 40 undef = .int .i64 j := hp 7 _ rfl (he _ (am (i := 1) rfl) (by kernel_rfl))
     clear hp he
     go_simp
     exact hK _ _ ⟨Below.refl _ _, Nat.le_refl _⟩ (getD_put_self ac 41 _ (by show _ < ac.tmps.size; omega)) (hJ.keep (Below.refl _ _) (by decide) (by decide) (by decide) (by decide) (by decide) (by decide))
    ·obtain rfl := si ho
     have q41 : ac.tmps.getD 41 undef = .pointer (some ⟨b', off' + j * 5, none⟩) := hp 8 _ rfl (he _ (am (i := 0) rfl) (by kernel_rfl))
     clear hp he
     refine wantedG rfl (wp_loadG Tryz.isAgg165 Tryz.sizeOf165 (vs := blockC bl) _ rfl q41 rfl (HS.out.kept (hR.block b' (by omega))) ?_)
     exact hK _ _ ⟨Below.refl _ _, Nat.le_refl _⟩ (getD_put_self ac 42 _ (by show _ < ac.tmps.size; omega)) (hJ.keep (Below.refl _ _) (by decide) (by decide) (by decide) (by decide) (by decide) (by decide))
    ·obtain rfl := si ho
     have hw : L.getD 12 true = false := hcl.not (i := 12) (j := 10) (by kernel_rfl) hLi
     clear hp he
     refine wantedG rfl (wp_allocG (zero_of_info (P := Tryz.prog) zero_blockI).1 rfl ?_)
     intro u' g' v' s'
     exact hK _ _ ⟨g'.mono hus, g'.size⟩ trivial (hJ.made7 g' v' s' hus hw (by omega))
    ·obtain rfl := si ho
     have hw : L.getD 13 true = false := hcl.not (i := 13) (j := 11) (by kernel_rfl) hLi
     clear hp he
     refine wantedG rfl (wp_allocG (zero_of_info (P := Tryz.prog) zero_blockI).1 rfl ?_)
     intro u' g' v' s'
     exact hK _ _ ⟨g'.mono hus, g'.size⟩ trivial (hJ.made8 g' v' s' hus hw (by omega))
    ·obtain rfl := si ho
     have q37 : ac.tmps.getD 37 undef = .agg (blockC f).toArray := hp 4 _ rfl (he _ (am (i := 1) rfl) (by kernel_rfl))
     have h10 : L.getD 10 true = true := he _ (am (i := 0) rfl) (by kernel_rfl)
     clear hp he
     obtain ⟨B, q7, hB1, hB2, hB3⟩ := hJ.1 h10
     rw [hLi] at hB3
     have hrun := hB3.run 0 5 (show 0 + 5 ≤ 5 by decide)
     refine wantedG rfl (wp_storeG Tryz.sizeOf165 (vs := blockC f) (.tmp 7) (.tmp 37) rfl q7 q37 rfl (blockC_one f) hrun.1 hrun.2 ?_)
     intro u' Lu
     exact hK _ _ ⟨Lu.below _ _ (by omega) (Below.refl _ _), by rw [Lu.size]; exact Nat.le_refl _⟩ trivial (hJ.laid7 q7 h10 (by omega) Lu)
    ·obtain rfl := si ho
     have q42 : ac.tmps.getD 42 undef = .agg (blockC bl).toArray := hp 9 _ rfl (he _ (am (i := 1) rfl) (by kernel_rfl))
     have h11 : L.getD 11 true = true := he _ (am (i := 0) rfl) (by kernel_rfl)
     clear hp he
     obtain ⟨B, q8, hB1, hB2, hB3⟩ := hJ.2.1 h11
     rw [hLi] at hB3
     have hrun := hB3.run 0 5 (show 0 + 5 ≤ 5 by decide)
     refine wantedG rfl (wp_storeG Tryz.sizeOf165 (vs := blockC bl) (.tmp 8) (.tmp 42) rfl q8 q42 rfl (blockC_one bl) hrun.1 hrun.2 ?_)
     intro u' Lu
     exact hK _ _ ⟨Lu.below _ _ (by omega) (Below.refl _ _), by rw [Lu.size]; exact Nat.le_refl _⟩ trivial (hJ.laid8 q8 h11 (by omega) Lu)
    ·exact absurd ho (by simp)
   ·intro L a u hf hR0 hp hJ
    have hR : Below uX.heap.size uX u := (Below.drew (Below.refl _ _)).trans hR0.1
    have hus := hR.size
    obtain ⟨B7, m7, hB7, hC7, hV7⟩ := hJ.1 (hp 10 _ rfl).1
    obtain ⟨B8, m8, hB8, hC8, hV8⟩ := hJ.2.1 (hp 11 _ rfl).1
    rw [if_pos (hp 12 _ rfl).1] at hV7
    rw [if_pos (hp 13 _ rfl).1] at hV8
    have hB := HB.out.trans (hR.mono (by have := HB.out.size; omega))
    clear hp hR0 hR hJ
    obtain ⟨fq, ea, hfv⟩ := act_lit a 66 hf.size
    have md : a.defers = [] := hf.defers
    rw [md] at ea
    have m0 := hf.at_ 0 (by kernel_rfl)
    have m1 := hf.at_ 1 (by kernel_rfl)
    have m2 := hf.at_ 2 (by kernel_rfl)
    have m3 := hf.at_ 3 (by kernel_rfl)
    have m4 := hf.at_ 4 (by kernel_rfl)
    have m5 := hf.at_ 5 (by kernel_rfl)
    have m6 := hf.at_ 6 (by kernel_rfl)
    have m9 := hf.at_ 9 (by kernel_rfl)
    have m10 := hf.at_ 10 (by kernel_rfl)
    have m11 := hf.at_ 11 (by kernel_rfl)
    have m12 := hf.at_ 12 (by kernel_rfl)
    have m13 := hf.at_ 13 (by kernel_rfl)
    have m14 := hf.at_ 14 (by kernel_rfl)
    have m15 := hf.at_ 15 (by kernel_rfl)
    have m16 := hf.at_ 16 (by kernel_rfl)
    have m17 := hf.at_ 17 (by kernel_rfl)
    have m18 := hf.at_ 18 (by kernel_rfl)
    have m19 := hf.at_ 19 (by kernel_rfl)
    have m20 := hf.at_ 20 (by kernel_rfl)
    have m21 := hf.at_ 21 (by kernel_rfl)
    have m22 := hf.at_ 22 (by kernel_rfl)
    have m23 := hf.at_ 23 (by kernel_rfl)
    have m24 := hf.at_ 24 (by kernel_rfl)
    have m25 := hf.at_ 25 (by kernel_rfl)
    have m26 := hf.at_ 26 (by kernel_rfl)
    have m27 := hf.at_ 27 (by kernel_rfl)
    have m28 := hf.at_ 28 (by kernel_rfl)
    have m29 := hf.at_ 29 (by kernel_rfl)
    have m30 := hf.at_ 30 (by kernel_rfl)
    have m31 := hf.at_ 31 (by kernel_rfl)
    have m32 := hf.at_ 32 (by kernel_rfl)
    have m43 := hf.at_ 43 (by kernel_rfl)
    have m44 := hf.at_ 44 (by kernel_rfl)
    have m45 := hf.at_ 45 (by kernel_rfl)
    have m46 := hf.at_ 46 (by kernel_rfl)
    have m47 := hf.at_ 47 (by kernel_rfl)
    have m48 := hf.at_ 48 (by kernel_rfl)
    have m49 := hf.at_ 49 (by kernel_rfl)
    have m50 := hf.at_ 50 (by kernel_rfl)
    have m51 := hf.at_ 51 (by kernel_rfl)
    have m52 := hf.at_ 52 (by kernel_rfl)
    have m53 := hf.at_ 53 (by kernel_rfl)
    have m54 := hf.at_ 54 (by kernel_rfl)
    have m55 := hf.at_ 55 (by kernel_rfl)
    have m56 := hf.at_ 56 (by kernel_rfl)
    have m57 := hf.at_ 57 (by kernel_rfl)
    have m58 := hf.at_ 58 (by kernel_rfl)
    have m59 := hf.at_ 59 (by kernel_rfl)
    have m60 := hf.at_ 60 (by kernel_rfl)
    have m61 := hf.at_ 61 (by kernel_rfl)
    have m62 := hf.at_ 62 (by kernel_rfl)
    have m63 := hf.at_ 63 (by kernel_rfl)
    have m64 := hf.at_ 64 (by kernel_rfl)
    have m65 := hf.at_ 65 (by kernel_rfl)
    rw [← hfv] at m0 m1 m2 m3 m4 m5 m6 m9 m10 m11 m12 m13 m14 m15 m16 m17 m18 m19 m20 m21 m22 m23 m24 m25 m26 m27 m28 m29 m30 m31 m32 m43 m44 m45 m46 m47 m48 m49 m50 m51 m52 m53 m54 m55 m56 m57 m58 m59 m60 m61 m62 m63 m64 m65 m7 m8
    simp only [Array.getD_eq_getD_getElem?, List.getElem?_toArray, List.getElem?_cons_succ, List.getElem?_cons_zero, Option.getD_some] at m0 m1 m2 m3 m4 m5 m6 m9 m10 m11 m12 m13 m14 m15 m16 m17 m18 m19 m20 m21 m22 m23 m24 m25 m26 m27 m28 m29 m30 m31 m32 m43 m44 m45 m46 m47 m48 m49 m50 m51 m52 m53 m54 m55 m56 m57 m58 m59 m60 m61 m62 m63 m64 m65
    simp only [List.range, List.range.loop, List.map_cons, List.map_nil, m0, m1, m2, m3, m4, m5, m6, m9, m10, m11, m12, m13, m14, m15, m16, m17, m18, m19, m20, m21, m22, m23, m24, m25, m26, m27, m28, m29, m30, m31, m32, m43, m44, m45, m46, m47, m48, m49, m50, m51, m52, m53, m54, m55, m56, m57, m58, m59, m60, m61, m62, m63, m64, m65, m7, m8] at ea
    subst ea
    clear m0 m1 m2 m3 m4 m5 m6 m9 m10 m11 m12 m13 m14 m15 m16 m17 m18 m19 m20 m21 m22 m23 m24 m25 m26 m27 m28 m29 m30 m31 m32 m43 m44 m45 m46 m47 m48 m49 m50 m51 m52 m53 m54 m55 m56 m57 m58 m59 m60 m61 m62 m63 m64 m65 m7 m8 hfv md hf
    have e0 : u.cell? ⟨B7, 0, none⟩ = some (.int .i64 f.kind) := hV7.c 0 _ rfl
    have b0 : u.cell? ⟨B8, 0, none⟩ = some (.int .i64 bl.kind) := hV8.c 0 _ rfl
    have e1 : u.cell? ⟨B7, 1, none⟩ = some (.int .i64 f.n) := hV7.c 1 _ rfl
    have b1 : u.cell? ⟨B8, 1, none⟩ = some (.int .i64 bl.n) := hV8.c 1 _ rfl
    have e2 : u.cell? ⟨B7, 2, none⟩ = some (.bool f.on) := hV7.c 2 _ rfl
    have b2 : u.cell? ⟨B8, 2, none⟩ = some (.bool bl.on) := hV8.c 2 _ rfl
    have e3 : u.cell? ⟨B7, 3, none⟩ = some (.bool f.was) := hV7.c 3 _ rfl
    have b3 : u.cell? ⟨B8, 3, none⟩ = some (.bool bl.was) := hV8.c 3 _ rfl
    have e4 : u.cell? ⟨B7, 4, none⟩ = some (.int .i64 f.t) := hV7.c 4 _ rfl
    have b4 : u.cell? ⟨B8, 4, none⟩ = some (.int .i64 bl.t) := hV8.c 4 _ rfl
    have hn : ∀ u, Sem.run Tryz.prog (binOp .neq 165 (.agg #[.int .i64 bl.kind, .int .i64 bl.n, .bool bl.on, .bool bl.was, .int .i64 bl.t]) (.agg #[.int .i64 f.kind, .int .i64 f.n, .bool f.on, .bool f.was, .int .i64 f.t])) u = .ok (.bool (!decide (bl = f))) u := fun u => neq_blockC bl f u
    have hgd : ∀ (p q : Operand) u, Sem.run Tryz.prog (eqGuard .neq 165 p q (.agg #[.int .i64 bl.kind, .int .i64 bl.n, .bool bl.on, .bool bl.was, .int .i64 bl.t]) (.agg #[.int .i64 f.kind, .int .i64 f.n, .bool f.on, .bool f.was, .int .i64 f.t])) u = .ok () u := fun p q u => guard_blockC .neq p q bl f u
    have hbo := fun u => iBlockOk_any u bl
    clear hV7 hV8
    by_cases hk : bl.kind = f.kind
    ·have hk1 : (bl.kind != f.kind) = false := by simp [hk]
     have hk2 : (bl.kind == f.kind) = true := by simp [hk]
     have HKE : Hid ((bl.kind == f.kind) = true) := hk2
     clear hk hk2
     by_cases hnn : bl.n = f.n
     ·have hn1 : (bl.n != f.n) = false := by simp [hnn]
      have HNE : Hid ((bl.n == f.n) = true) := by show _ = true; simp [hnn]
      clear hnn
      by_cases hbf : bl = f
      ·have HN : Hid (FitTo n.ws s.bs (j + 1)) := fit_next HT.out HX1.out.1 HX1.out.2 (by rw [HFIT.out, HKE.out, HNE.out, decide_eq_true hbf]; rfl)
       have hd : decide (bl = f) = true := decide_eq_true hbf
       rw [hd] at hn
       clear hbf hd hbo
       go_wp2
       go_roundw
       case rel => exact ⟨j + 1, by omega, by go_num, hB, HN.out⟩
       case measure => simp [intOf]; omega
      ·have hd : decide (bl = f) = false := decide_eq_false hbf
       rw [hd] at hn
       have HD : Hid (decide (bl = f) = false) := hd
       clear hbf hd
       obtain ⟨oo, hoo⟩ : ∃ z, blockOk bl = z := ⟨_, rfl⟩
       have HO : Hid (blockOk bl = oo) := hoo
       clear hoo
       go_wp2_with fail
       refine (hbo _).mono ?_
       clear hbo
       rw [HO.out]
       rintro e1 u9 ⟨rfl, g9⟩
       have hB9 := hB.trans (g9.mono (by have := hB.size; omega))
       cases oo with
       | true =>
        have HN : Hid (FitTo n.ws s.bs (j + 1)) := fit_next HT.out HX1.out.1 HX1.out.2 (by rw [HFIT.out, HKE.out, HNE.out, HD.out, HO.out]; rfl)
        clear e0 e1 e2 e3 e4 b0 b1 b2 b3 b4 g9
        go_wp2
        go_roundw
        case rel => exact ⟨j + 1, by omega, by go_num, hB9, HN.out⟩
        case measure => simp [intOf]; omega
       | false =>
        have HF : Hid (R = false) := by
         show R = false
         rw [← HR.out]
         refine stateFit_not (allFit_not HX1.out.1 HX1.out.2 ?_)
         rw [HFIT.out, HKE.out, HNE.out, HD.out, HO.out]; rfl
        clear e0 e1 e2 e3 e4 b0 b1 b2 b3 b4 g9
        go_wp2
        go_ret
        exact ⟨ret_bool HF.out.symm, G2.trans (hB9.mono (by omega))⟩
     ·have hn1 : (bl.n != f.n) = true := by simp [hnn]
      have HF : Hid (R = false) := by
       show R = false
       rw [← HR.out]
       refine stateFit_not (allFit_not HX1.out.1 HX1.out.2 ?_)
       rw [HFIT.out, show (bl.n == f.n) = false by simp [hnn], Bool.false_and, Bool.and_false]
      clear hnn hbo hn hgd
      go_wp2
      go_ret
      exact ⟨ret_bool HF.out.symm, G2.trans (hB.mono (by omega))⟩
    ·have hk1 : (bl.kind != f.kind) = true := by simp [hk]
     have HF : Hid (R = false) := by
      show R = false
      rw [← HR.out]
      refine stateFit_not (allFit_not HX1.out.1 HX1.out.2 ?_)
      rw [HFIT.out, show (bl.kind == f.kind) = false by simp [hk], Bool.false_and]
     clear hk hbo hn hgd
     go_wp2
     go_ret
     exact ⟨ret_bool HF.out.symm, G2.trans (hB.mono (by omega))⟩
  ·obtain rfl : j = n.ws.length := by omega
   have HF : Hid (R = true) := by
    show R = true
    rw [← HR.out]
    exact stateFit_yes HL.out HLd.out HT.out
   go_wp2
   go_ret
   exact ⟨ret_bool HF.out.symm, G2.trans (hb.mono (by omega))⟩
end Go.Proofs.YtaoiookfmgpmkaaGreatDoor
