/-
 The program's order of wires: told. (Written by our generator gen_netimplb.py.)
-/
import Derived.Test.YtaoiookfmgpmkaaGreatDoorQM22
import Derived.Test.YtaoiookfmgpmkaaGreatDoorQM2
namespace Go.Proofs.YtaoiookfmgpmkaaGreatDoor
open Go.ChangeShapes Go.WideShapes Go.ChangeAt Go.RowKit
set_option linter.unusedVariables false
set_option linter.unusedSimpArgs false
set_option maxRecDepth 100000

structure CntB (w : World) (B n : Nat) (f : Nat → Int) : Prop where
 lt : B < w.heap.size
 c : ∀ i, i < n → w.cell? ⟨B, i, none⟩ = some (.int .i64 (f i))
 f : ∀ o, w.frozen? ⟨B, o, none⟩ = false

theorem CntB.at_ {w w' : World} {B n : Nat} {f : Nat → Int} (h : CntB w B n f) (hk : w'.heap[B]? = w.heap[B]?) : CntB w' B n f :=
 ⟨by have := (Array.getElem?_eq_some_iff.mp (hk.trans (Array.getElem?_eq_getElem h.lt))).1; exact this, fun i hi => by rw [World.cell?_of_block (w := w) hk]; exact h.c i hi, fun o => by rw [World.frozen?_of_block (w := w) hk]; exact h.f o⟩
theorem CntB.some_ {w : World} {B n k : Nat} {f : Nat → Int} (h : CntB w B n f) (hk : k < n) : (w.cell? ⟨B, k, none⟩).isSome = true := by rw [h.c k hk]; rfl
theorem CntB.set {w u : World} {B n k : Nat} {f g : Nat → Int} {z : Int} (h : CntB w B n f) (hL : LaidG w u B k [.int .i64 z]) (hk : k < n) (hg : ∀ i, i < n → g i = if i = k then z else f i) : CntB u B n g := by
 refine ⟨by rw [hL.size]; exact h.lt, fun i hi => ?_, fun o => by rw [hL.frozen]; exact h.f o⟩
 rw [hg i hi]
 by_cases e : i = k
 ·subst e
  rw [if_pos rfl]
  have := hL.cv 0 _ rfl
  rwa [Nat.add_zero] at this
 ·rw [if_neg e, hL.cell _ _ (by simp; omega)]
  exact h.c i hi
theorem CntB.same {w : World} {B n : Nat} {f g : Nat → Int} (h : CntB w B n f) (hg : ∀ i, i < n → g i = f i) : CntB w B n g := ⟨h.lt, fun i hi => by rw [hg i hi]; exact h.c i hi, h.f⟩
theorem CntB.si {w : World} {B n : Nat} {f : Nat → Int} (h : CntB w B n f) (hn : n ≤ maxLen) : SI w B (B + 1) (.slice (some ⟨B, 0, none⟩) n n) ((List.range n).map f) := by
 refine ⟨_, n, by simp, by simp, hn, .inr ⟨B, 0, rfl, Nat.le_refl _, Nat.lt_succ_self _, fun i x hx => ?_⟩⟩
 have hi : i < n := by have := (List.getElem?_eq_some_iff.mp hx).1; simpa using this
 simp [hi] at hx
 rw [Nat.zero_add, ← hx]
 exact h.c i hi
theorem cntB_start {w w1 : World} {n : Nat} (hown : w1.ownsRow w.heap.size 3 1 (.slice (some ⟨w.heap.size, 0, none⟩) n n) n (madeCells (Value.int .i64 0).cells (n * 1)).toList) : CntB w1 w.heap.size n fun _ => 0 := by
 have hl := hown.1
 refine ⟨hown.2.elim (fun h => by simp at h) fun ⟨g, cap, cur, hv, hg, hh, _⟩ => ?_, fun i hi => ?_, fun o => hown.frozenAt o⟩
 ·simp only [Value.slice.injEq, Option.some.injEq, Addr.mk.injEq, and_true, true_and] at hv
  obtain ⟨rfl, _⟩ := hv
  exact (Array.getElem?_eq_some_iff.mp hh).1
 ·rw [hown.cellAt i (by omega), show (Value.int .i64 0).cells = #[.int .i64 0] from rfl, toList_madeCells_one, List.getElem?_replicate, if_pos (by omega)]

def pw (ws : List WireD) (i k : Nat) : Int := match ws[i]? with | some x => partW x k | none => 0
def cnt1 (ws : List WireD) (r m i : Nat) : Int := if i < r then pw ws i ws.length else if i = r then pw ws i m else 0
theorem pw_bd (ws : List WireD) (i k : Nat) : 0 ≤ pw ws i k ∧ pw ws i k ≤ 2 := by unfold pw; split; exact partW_bd _ _; omega
theorem cnt1_at (ws : List WireD) (r m : Nat) : cnt1 ws r m r = pw ws r m := by unfold cnt1; rw [if_neg (by omega), if_pos rfl]
theorem cnt1_zero (ws : List WireD) (i : Nat) : cnt1 ws 0 0 i = 0 := by
 unfold cnt1 pw
 rw [if_neg (by omega)]
 split
 ·split
  ·exact partW_zero _
  ·rfl
 ·rfl
theorem cnt1_next {ws : List WireD} {r m : Nat} {x : WireD} (hx : ws[r]? = some x) (i : Nat) : cnt1 ws r (m + 1) i = if i = r then cnt1 ws r m r + cntW x m else cnt1 ws r m i := by
 by_cases e : i = r
 ·subst e
  rw [if_pos rfl, cnt1_at, cnt1_at]
  unfold pw
  rw [hx]
  exact partW_succ x m
 ·rw [if_neg e]
  unfold cnt1
  rw [if_neg e, if_neg e]
theorem cnt1_row (ws : List WireD) (r i : Nat) : cnt1 ws (r + 1) 0 i = cnt1 ws r ws.length i := by
 unfold cnt1
 by_cases h1 : i < r
 ·rw [if_pos (by omega), if_pos h1]
 ·by_cases h2 : i = r
  ·rw [if_pos (by omega), if_neg h1, if_pos h2]
  ·rw [if_neg (by omega), if_neg h1, if_neg h2]
   split
   ·unfold pw
    split
    ·exact partW_zero _
    ·rfl
   ·rfl
theorem cnt1_end {ws : List WireD} (hok : ∀ x ∈ ws, wireOk x ws.length = true) (i : Nat) (hi : i < ws.length) : waitZ ws [] i = cnt1 ws ws.length 0 i := by
 unfold cnt1 waitZ pw
 rw [if_pos hi, List.getElem?_eq_getElem hi]
 have := wireOk_at (hok ws[i] (List.getElem_mem hi))
 simp only [List.contains_nil, Bool.false_eq_true, if_false]
 exact (partW_all this).symm

theorem find_congr {p q : Nat → Bool} : ∀ (l : List Nat), (∀ i ∈ l, p i = q i) → l.find? p = l.find? q
 | [], _ => rfl
 | a :: l, h => by
  rw [List.find?_cons, List.find?_cons, h a (by simp), find_congr l fun i hi => h i (by simp [hi])]
theorem idx_pick (ws : List WireD) (ord : List Nat) : idxZ ((List.range ws.length).map (waitZ ws ord)) 0 = atW (pickW ws ord) := by
 have e : (List.range ws.length).find? (fun i => ((List.range ws.length).map (waitZ ws ord))[i]? == some 0) = (List.range ws.length).find? (canW ws ord) := by
  refine find_congr _ fun i hi => ?_
  have hil : i < ws.length := by simpa using hi
  have := waitZ_zero (ws := ws) (ord := ord) (List.getElem?_eq_getElem hil)
  rw [Bool.eq_iff_iff, ← this]
  simp [hil]
 unfold idxZ pickW atW
 rw [List.length_map, List.length_range, e]
 cases (List.range ws.length).find? (canW ws ord) <;> rfl

theorem order_end {ws : List WireD} {r : Nat} (hr : r ≤ ws.length) (hp : pickW ws (tellW ws r []) = none) : orderW ws = tellW ws r [] := by
 have go : ∀ k, tellW ws (r + k) [] = tellW ws r [] := by
  intro k
  induction k with
  | zero => rfl
  | succ k ih =>
   rw [← Nat.add_assoc, tellW_succ, ih]
   unfold oneW; rw [hp]
 unfold orderW
 have := go (ws.length - r)
 rwa [show r + (ws.length - r) = ws.length by omega] at this

def cnt2 (ws : List WireD) (ord : List Nat) (k m i : Nat) : Int := if i < m then waitZ ws (ord ++ [k]) i else if i = k then -1 else waitZ ws ord i
theorem waitZ_bd (ws : List WireD) (ord : List Nat) (i : Nat) : -1 ≤ waitZ ws ord i ∧ waitZ ws ord i ≤ 2 := by
 unfold waitZ
 split
 ·omega
 ·split
  ·have := leftW_bd ‹WireD› ord; omega
  ·omega
theorem cnt2_at (ws : List WireD) (ord : List Nat) (k m : Nat) : cnt2 ws ord k m m = if m = k then -1 else waitZ ws ord m := by unfold cnt2; rw [if_neg (by omega)]
theorem cnt2_bd (ws : List WireD) (ord : List Nat) (k m : Nat) : -1 ≤ cnt2 ws ord k m m ∧ cnt2 ws ord k m m ≤ 2 := by
 rw [cnt2_at]
 split
 ·omega
 ·exact waitZ_bd _ _ _
theorem cnt2_zero (ws : List WireD) (ord : List Nat) (k i : Nat) : cnt2 ws ord k 0 i = if i = k then -1 else waitZ ws ord i := by unfold cnt2; rw [if_neg (by omega)]
theorem cnt2_next {ws : List WireD} {ord : List Nat} {k m : Nat} {x : WireD} (hT : ToldW ws ord) (hc : canW ws ord k = true) (hx : ws[m]? = some x) (hok : (x.a.kind = 2 → 0 ≤ x.a.at_ ∧ x.a.at_ < ws.length) ∧ (x.b.kind = 2 → 0 ≤ x.b.at_ ∧ x.b.at_ < ws.length)) (i : Nat) : cnt2 ws ord k (m + 1) i = if i = m then cnt2 ws ord k m m - cntW x k else cnt2 ws ord k m i := by
 by_cases e : i = m
 ·subst e
  rw [if_pos rfl, cnt2_at, ← waitZ_next hT hc hx hok]
  unfold cnt2
  rw [if_pos (by omega)]
 ·rw [if_neg e]
  unfold cnt2
  by_cases h : i < m
  ·rw [if_pos (by omega), if_pos h]
  ·rw [if_neg (by omega), if_neg h]
theorem cnt2_end {ws : List WireD} {ord : List Nat} {k i : Nat} (hi : i < ws.length) : waitZ ws (ord ++ [k]) i = cnt2 ws ord k ws.length i := by unfold cnt2; rw [if_pos hi]

def sliceLen (v : Value) : Nat := match v with | .slice _ n _ => n | _ => 0

theorem zero_wireB : (Tryz.prog.info? 171).map (fun i => (i.zero, i.size)) = some (some (.agg (wireC ⟨0, 0, noSrc, noSrc⟩).toArray), 12) := by kernel_rfl

set_option maxHeartbeats 16000000 in
theorem told_any (w : World) (lo hi : Nat) (v : Value) (ws : List WireD) (h : GR wireE w lo hi v ws) (hhi : hi ≤ w.heap.size) (hlen : ws.length ≤ 1048576) (hok : ∀ x ∈ ws, wireOk x ws.length = true) :
  Calls Tryz.prog 111 #[v] w fun e w' => ∃ v', e = .returned v' ∧ RowZ w' w.heap.size v' ((orderW ws).map fun (i : Nat) => (i : Int)) ∧ Below w.heap.size w w' := by
 obtain ⟨ad, cap, rfl, hc1, hc2⟩ := h.shape
 obtain ⟨i0, hi0, hz0, hz1, hz2⟩ := info_parts info_int
 have HK : Hid (GR wireE w lo hi (.slice ad ws.length cap) ws) := h
 have HO : Hid (∀ x ∈ ws, wireOk x ws.length = true) := hok
 have hZ := (zero_of_info (P := Tryz.prog) zero_wireB).1
 clear h hok
 unfold maxLen at hc2
 go_enter Tryz.func111, Tryz.ntmps111
 go_wp2_with (at_make; refine wpList_make_full _ rfl _ _ 49 rfl w.heap.size 3 i0 (.int .i64 0) 1 Tryz.underlying49 hi0 hz0 hz1 .i64 .i64 _ _ ws.length rfl rfl rfl rfl (by rw [hz2]; omega) (by unfold maxLen; omega) (Nat.le_refl _) ?_; intro w1 hown hgrow)
 have hC1 : CntB w1 w.heap.size ws.length (cnt1 ws 0 0) := (cntB_start hown).same fun i _ => cnt1_zero ws i
 have hB1 : Below w.heap.size w w1 := (Below.refl _ _).grown hgrow (Nat.le_refl _) (fun k h => by cases h)
 clear hown hgrow hz0 hz1 hz2 hi0
 go_loopw [16] (fun i wr => ∃ r : Nat, r ≤ ws.length ∧ i = .int .i64 r ∧ Below w.heap.size w wr ∧ CntB wr w.heap.size ws.length (cnt1 ws r 0)) (fun i _ => ws.length - (intOf i).toNat)
 case atStart => exact ⟨0, Nat.zero_le _, rfl, hB1, hC1⟩
 case round =>
  clear hB1 hC1
  obtain ⟨r, hr, rfl, hb, hCr⟩ := hrel
  have hbz := hb.size
  have hclt := hCr.lt
  by_cases hlt : r < ws.length
  ·obtain ⟨x, hx⟩ : ∃ x, ws[r]? = some x := ⟨ws[r], List.getElem?_eq_getElem hlt⟩
   obtain ⟨b, off, cap', hv, hb1, hb2, h5⟩ := HK.out.at_ hx
   simp only [Value.slice.injEq, true_and] at hv
   obtain ⟨rfl, rfl⟩ := hv
   have h5 : CV wr b (off + r * 12) (wireC x) := h5.below hb (by omega)
   have HX : Hid (ws[r]? = some x) := hx
   clear hx
   go_wp2_with (first
    | refine wpList_loadG Tryz.isAgg171 Tryz.sizeOf171 _ rfl rfl rfl rfl h5 ?_
    | refine wpList_allocG hZ rfl rfl ?_)
   intro u1 g1 q1 s1
   clear h5
   have hr12 := q1.run 0 12 (show 0 + 12 ≤ 12 by decide)
   go_wp2_with (refine wpList_storeG Tryz.sizeOf171 _ _ rfl rfl rfl rfl rfl (wireC_one x) hr12.1 hr12.2 ?_)
   intro u2 L
   have hV2 := L.var q1
   have s2 := L.size
   have hB2 : Below w.heap.size w u2 := L.below _ _ (by omega) (hb.trans (g1.mono (by omega)))
   have hC2 : CntB u2 w.heap.size ws.length (cnt1 ws r 0) := (hCr.at_ (g1.block _ hclt)).at_ (L.block _ (by omega))
   obtain ⟨DB, hDB⟩ : ∃ DB, wr.heap.size = DB := ⟨_, rfl⟩
   rw [hDB] at hV2 ⊢
   have hDB0 : w.heap.size < DB := by omega
   have hDB2 : DB < u2.heap.size := by omega
   clear s1 s2 hDB hbz hclt L q1 g1 hr12 hb hCr
   go_wp2_with fail
   go_loopw [23] (fun i wr => ∃ m : Nat, m ≤ ws.length ∧ i = .int .i64 m ∧ Below w.heap.size w wr ∧ CntB wr w.heap.size ws.length (cnt1 ws r m) ∧ VarG wr DB (wireC x) ∧ DB < wr.heap.size) (fun i _ => ws.length - (intOf i).toNat)
   case atStart => exact ⟨0, Nat.zero_le _, rfl, hB2, hC2, hV2, hDB2⟩
   case round =>
    clear hB2 hC2 hV2 hDB2
    obtain ⟨m, hm, rfl, hB, hC, hV, hDB⟩ := hrel
    by_cases hlm : m < ws.length
    ·have hWF := fun u => waitsFor_any u x m
     have ha := pw_bd ws r m
     have hcb := cntW_bd x m
     have HN1 := fun i => cnt1_next (m := m) HX.out i
     obtain ⟨AA, hAA⟩ : ∃ AA, cnt1 ws r m r = AA := ⟨_, rfl⟩
     obtain ⟨CC, hCC⟩ : ∃ CC, cntW x m = CC := ⟨_, rfl⟩
     rw [hCC] at hWF hcb
     rw [← cnt1_at, hAA] at ha
     have HNX : Hid (∀ i, cnt1 ws r (m + 1) i = if i = r then AA + CC else cnt1 ws r m i) := fun i => by rw [HN1 i, hAA, hCC]
     have HAA : Hid (cnt1 ws r m r = AA) := hAA
     obtain ⟨ha1, ha2⟩ := ha
     obtain ⟨hcb1, hcb2⟩ := hcb
     clear hAA hCC HN1
     go_wp2_with fail
     refine wp_region_last (R := Grow) (Φ := fun i v u => match i with
       | 0 => v = .slice (some ⟨w.heap.size, 0, none⟩) ws.length ws.length
       | 1 => v = .int .i64 r
       | 2 => v = .pointer (some ⟨w.heap.size, r, none⟩)
       | 3 => v = .int .i64 AA
       | 4 => v = .agg (wireC x).toArray
       | 5 => v = .int .i64 m
       | 6 => v = .int .i64 CC
       | 7 => v = .int .i64 (AA + CC)
       | 8 => v = .pointer (some ⟨w.heap.size, r, none⟩)
       | _ => True)
      (J := fun L a u => True) 9 _ rfl rfl (by kernel_rfl) (by kernel_rfl) (by kernel_rfl) (by kernel_rfl) (Below.refl _ _) grow_trans ?_ trivial ?_ ?_
     ·intro i v u u' hr
      match i with
      | 0 | 1 | 2 | 3 | 4 | 5 | 6 | 7 | 8 | _ + 9 => exact fun h => h
     ·intro i o ho hin L ac u hf hR0 hLs hLi hp he hJ K' hK
      have hR : Grow wr u := (Below.drew (Below.refl _ _)).trans hR0
      have hsz' : ac.tmps.size = 66 := hf.size
      have hus := hR.size
      rcases i with _ | _ | _ | _ | _ | _ | _ | _ | _ | i
      ·obtain rfl := si ho
       have q3 : ac.tmps.getD 3 undef = .slice (some ⟨w.heap.size, 0, none⟩) ws.length ws.length := hf.at_ 3 (by kernel_rfl)
       clear hp he
       go_simp
       exact hK _ _ (Below.refl _ _) (getD_put_self ac 26 _ (by show _ < ac.tmps.size; omega)) trivial
      ·obtain rfl := si ho
       have q4 : ac.tmps.getD 4 undef = .int .i64 r := hf.at_ 4 (by kernel_rfl)
       clear hp he
       go_simp
       exact hK _ _ (Below.refl _ _) (getD_put_self ac 27 _ (by show _ < ac.tmps.size; omega)) trivial
      ·obtain rfl := si ho
       have q26 : ac.tmps.getD 26 undef = .slice (some ⟨w.heap.size, 0, none⟩) ws.length ws.length := hp 0 _ rfl (he _ (am (i := 0) rfl) (by kernel_rfl))
       have q27 : ac.tmps.getD 27 undef = .int .i64 r := hp 1 _ rfl (he _ (am (i := 1) rfl) (by kernel_rfl))
       clear hp he
       go_simp
       exact hK _ _ (Below.refl _ _) (getD_put_self ac 28 _ (by show _ < ac.tmps.size; omega)) trivial
      ·obtain rfl := si ho
       have q28 : ac.tmps.getD 28 undef = .pointer (some ⟨w.heap.size, r, none⟩) := hp 2 _ rfl (he _ (am (i := 0) rfl) (by kernel_rfl))
       clear hp he
       have cc : u.cell? ⟨w.heap.size, r, none⟩ = some (.int .i64 AA) := by rw [(hC.at_ (hR.block _ hC.lt)).c r hlt, HAA.out]
       go_simp
       exact hK _ _ (Below.refl _ _) (getD_put_self ac 29 _ (by show _ < ac.tmps.size; omega)) trivial
      ·obtain rfl := si ho
       have q5 : ac.tmps.getD 5 undef = .pointer (some ⟨DB, 0, none⟩) := hf.at_ 5 (by kernel_rfl)
       clear hp he
       refine wantedG rfl (wp_loadG Tryz.isAgg171 Tryz.sizeOf171 (vs := wireC x) _ rfl q5 rfl ((hV.below hR hDB).c) ?_)
       exact hK _ _ (Below.refl _ _) (getD_put_self ac 30 _ (by show _ < ac.tmps.size; omega)) trivial
      ·obtain rfl := si ho
       have q6 : ac.tmps.getD 6 undef = .int .i64 m := hf.at_ 6 (by kernel_rfl)
       clear hp he
       go_simp
       exact hK _ _ (Below.refl _ _) (getD_put_self ac 31 _ (by show _ < ac.tmps.size; omega)) trivial
      ·obtain rfl := si ho
       have q30 : ac.tmps.getD 30 undef = .agg (wireC x).toArray := hp 4 _ rfl (he _ (am (i := 0) rfl) (by kernel_rfl))
       have q31 : ac.tmps.getD 31 undef = .int .i64 m := hp 5 _ rfl (he _ (am (i := 1) rfl) (by kernel_rfl))
       clear hp he
       go_simp
       refine (hWF u).mono ?_
       rintro e1 u' ⟨rfl, hbu⟩
       exact hK _ _ hbu (getD_put_self ac 32 _ (by show _ < ac.tmps.size; omega)) trivial
      ·obtain rfl := si ho
       have q29 : ac.tmps.getD 29 undef = .int .i64 AA := hp 3 _ rfl (he _ (am (i := 0) rfl) (by kernel_rfl))
       have q32 : ac.tmps.getD 32 undef = .int .i64 CC := hp 6 _ rfl (he _ (am (i := 1) rfl) (by kernel_rfl))
       clear hp he
       go_simp
       try go_bits
       exact hK _ _ (Below.refl _ _) (getD_put_self ac 33 _ (by show _ < ac.tmps.size; omega)) trivial
      ·obtain rfl := si ho
       have q26 : ac.tmps.getD 26 undef = .slice (some ⟨w.heap.size, 0, none⟩) ws.length ws.length := hp 0 _ rfl (he _ (am (i := 0) rfl) (by kernel_rfl))
       have q27 : ac.tmps.getD 27 undef = .int .i64 r := hp 1 _ rfl (he _ (am (i := 1) rfl) (by kernel_rfl))
       clear hp he
       go_simp
       exact hK _ _ (Below.refl _ _) (getD_put_self ac 34 _ (by show _ < ac.tmps.size; omega)) trivial
      ·omega
     ·intro L ac u hf hR0 hp hJ K' hK
      have hR : Grow wr u := (Below.drew (Below.refl _ _)).trans hR0
      have hus := hR.size
      have m33 : ac.tmps.getD 33 undef = .int .i64 (AA + CC) := (hp 7 _ (by decide) rfl).2
      have m34 : ac.tmps.getD 34 undef = .pointer (some ⟨w.heap.size, r, none⟩) := (hp 8 _ (by decide) rfl).2
      have hCu := hC.at_ (hR.block _ hC.lt)
      have hVu := hV.below hR hDB
      have hBu : Below w.heap.size w u := hB.trans (hR.mono (by have := hB.size; omega))
      refine wantedG rfl (wp_store1G Tryz.sizeOf3 (.tmp 34) (.tmp 33) rfl m34 m33 rfl rfl (hCu.some_ hlt) (hCu.f _) ?_)
      intro u2 L
      refine hK ac u2 ?_
      have hV2 := L.other hVu (by omega)
      have hB2 := L.below _ _ (Nat.le_refl _) hBu
      have hz2 := L.size
      have hC2 : CntB u2 w.heap.size ws.length (cnt1 ws r (m + 1)) := hCu.set L hlt fun i _ => HNX.out i
      clear L hCu hVu hBu hp hJ hR0 hR hK hWF
      clear m33 m34
      obtain ⟨fq, ea, hfv⟩ := act_lit ac 66 hf.size
      have md : ac.defers = [] := hf.defers
      rw [md] at ea
      have m0 := hf.at_ 0 (by kernel_rfl)
      have m1 := hf.at_ 1 (by kernel_rfl)
      have m2 := hf.at_ 2 (by kernel_rfl)
      have m3 := hf.at_ 3 (by kernel_rfl)
      have m4 := hf.at_ 4 (by kernel_rfl)
      have m5 := hf.at_ 5 (by kernel_rfl)
      have m6 := hf.at_ 6 (by kernel_rfl)
      have m7 := hf.at_ 7 (by kernel_rfl)
      have m8 := hf.at_ 8 (by kernel_rfl)
      have m9 := hf.at_ 9 (by kernel_rfl)
      have m10 := hf.at_ 10 (by kernel_rfl)
      have m11 := hf.at_ 11 (by kernel_rfl)
      have m12 := hf.at_ 12 (by kernel_rfl)
      have m13 := hf.at_ 13 (by kernel_rfl)
      have m14 := hf.at_ 14 (by kernel_rfl)
      have m15 := hf.at_ 15 (by kernel_rfl)
      have m16 := hf.at_ 16 (by kernel_rfl)
      have m17 := hf.at_ 17 (by kernel_rfl)
      have m18 := hf.at_ 18 (by kernel_rfl)
      have m19 := hf.at_ 19 (by kernel_rfl)
      have m20 := hf.at_ 20 (by kernel_rfl)
      have m21 := hf.at_ 21 (by kernel_rfl)
      have m22 := hf.at_ 22 (by kernel_rfl)
      have m23 := hf.at_ 23 (by kernel_rfl)
      have m24 := hf.at_ 24 (by kernel_rfl)
      have m25 := hf.at_ 25 (by kernel_rfl)
      have m35 := hf.at_ 35 (by kernel_rfl)
      have m36 := hf.at_ 36 (by kernel_rfl)
      have m37 := hf.at_ 37 (by kernel_rfl)
      have m38 := hf.at_ 38 (by kernel_rfl)
      have m39 := hf.at_ 39 (by kernel_rfl)
      have m40 := hf.at_ 40 (by kernel_rfl)
      have m41 := hf.at_ 41 (by kernel_rfl)
      have m42 := hf.at_ 42 (by kernel_rfl)
      have m43 := hf.at_ 43 (by kernel_rfl)
      have m44 := hf.at_ 44 (by kernel_rfl)
      have m45 := hf.at_ 45 (by kernel_rfl)
      have m46 := hf.at_ 46 (by kernel_rfl)
      have m47 := hf.at_ 47 (by kernel_rfl)
      have m48 := hf.at_ 48 (by kernel_rfl)
      have m49 := hf.at_ 49 (by kernel_rfl)
      have m50 := hf.at_ 50 (by kernel_rfl)
      have m51 := hf.at_ 51 (by kernel_rfl)
      have m52 := hf.at_ 52 (by kernel_rfl)
      have m53 := hf.at_ 53 (by kernel_rfl)
      have m54 := hf.at_ 54 (by kernel_rfl)
      have m55 := hf.at_ 55 (by kernel_rfl)
      have m56 := hf.at_ 56 (by kernel_rfl)
      have m57 := hf.at_ 57 (by kernel_rfl)
      have m58 := hf.at_ 58 (by kernel_rfl)
      have m59 := hf.at_ 59 (by kernel_rfl)
      have m60 := hf.at_ 60 (by kernel_rfl)
      have m61 := hf.at_ 61 (by kernel_rfl)
      have m62 := hf.at_ 62 (by kernel_rfl)
      have m63 := hf.at_ 63 (by kernel_rfl)
      have m64 := hf.at_ 64 (by kernel_rfl)
      have m65 := hf.at_ 65 (by kernel_rfl)
      rw [← hfv] at m0 m1 m2 m3 m4 m5 m6 m7 m8 m9 m10 m11 m12 m13 m14 m15 m16 m17 m18 m19 m20 m21 m22 m23 m24 m25 m35 m36 m37 m38 m39 m40 m41 m42 m43 m44 m45 m46 m47 m48 m49 m50 m51 m52 m53 m54 m55 m56 m57 m58 m59 m60 m61 m62 m63 m64 m65
      simp only [Array.getD_eq_getD_getElem?, List.getElem?_toArray, List.getElem?_cons_succ, List.getElem?_cons_zero, Option.getD_some] at m0 m1 m2 m3 m4 m5 m6 m7 m8 m9 m10 m11 m12 m13 m14 m15 m16 m17 m18 m19 m20 m21 m22 m23 m24 m25 m35 m36 m37 m38 m39 m40 m41 m42 m43 m44 m45 m46 m47 m48 m49 m50 m51 m52 m53 m54 m55 m56 m57 m58 m59 m60 m61 m62 m63 m64 m65
      simp only [List.range, List.range.loop, List.map_cons, List.map_nil, m0, m1, m2, m3, m4, m5, m6, m7, m8, m9, m10, m11, m12, m13, m14, m15, m16, m17, m18, m19, m20, m21, m22, m23, m24, m25, m35, m36, m37, m38, m39, m40, m41, m42, m43, m44, m45, m46, m47, m48, m49, m50, m51, m52, m53, m54, m55, m56, m57, m58, m59, m60, m61, m62, m63, m64, m65] at ea
      subst ea
      clear m0 m1 m2 m3 m4 m5 m6 m7 m8 m9 m10 m11 m12 m13 m14 m15 m16 m17 m18 m19 m20 m21 m22 m23 m24 m25 m35 m36 m37 m38 m39 m40 m41 m42 m43 m44 m45 m46 m47 m48 m49 m50 m51 m52 m53 m54 m55 m56 m57 m58 m59 m60 m61 m62 m63 m64 m65 hfv md hf
      go_wp2
      go_roundw
      case rel => exact ⟨m + 1, by omega, by go_num, hB2, hC2, hV2, by have := hus; omega⟩
      case measure => simp [intOf]; omega
    ·obtain rfl : m = ws.length := by omega
     have hCN := hC.same fun i _ => cnt1_row ws r i
     clear hC hV hDB
     go_wp2
     go_roundw
     case rel => exact ⟨r + 1, by omega, by go_num, hB, hCN⟩
     case measure => simp [intOf]; omega
  ·obtain rfl : r = ws.length := by omega
   have hC0 : CntB wr w.heap.size ws.length (waitZ ws (tellW ws 0 [])) := hCr.same fun i hi => cnt1_end HO.out i hi
   have hR0 : RowZ wr (w.heap.size + 1) (.slice none 0 0) ((tellW ws 0 []).map fun (i : Nat) => (i : Int)) := ⟨rfl, .inl ⟨rfl, rfl⟩⟩
   have hT0 : ToldW ws (tellW ws 0 []) := fun i x hi _ => by cases hi
   clear hCr
   have hl0 : (tellW ws 0 []).length = 0 := rfl
   go_wp2_with fail
   go_loopw [7] (fun vv wr => ∃ (r : Nat) (vo : Value), vo = vv ∧ r ≤ ws.length ∧ (tellW ws r []).length = r ∧ RowZ wr (w.heap.size + 1) vo ((tellW ws r []).map fun (i : Nat) => (i : Int)) ∧ CntB wr w.heap.size ws.length (waitZ ws (tellW ws r [])) ∧ ToldW ws (tellW ws r []) ∧ Below w.heap.size w wr) (fun v _ => ws.length + 1 - sliceLen v)
   case atStart => exact ⟨0, _, rfl, Nat.zero_le _, hl0, hR0, hC0, hT0, hb⟩
   case round =>
    clear hR0 hC0 hT0 hl0 hb hbz hclt
    obtain ⟨r, vo, hvo, hr, hlr, hRow, hC, hT, hB⟩ := hrel
    subst hvo
    obtain ⟨wo, hwo⟩ : ∃ wo, wo = wr := ⟨_, rfl⟩
    subst hwo
    have hI := index_any wo _ _ _ _ 0 (hC.si (by unfold maxLen; omega))
    rw [idx_pick] at hI
    obtain ⟨ado, capo, hvo, _, _⟩ := hRow.shape
    rw [List.length_map, hlr] at hvo
    subst hvo
    cases hp : pickW ws (tellW ws r []) with
    | none =>
     rw [hp] at hI
     have HE : Hid (RowZ wo w.heap.size (.slice ado r capo) ((orderW ws).map fun (i : Nat) => (i : Int))) := by
      show RowZ _ _ _ _
      rw [order_end hr hp]; exact hRow.mono (by omega)
     clear hRow hC hT hp
     go_wp2_with fail
     refine hI.mono ?_
     clear hI
     rintro e1 w9 ⟨rfl, rfl⟩
     unfold atW
     go_wp2
     go_ret
     exact ⟨_, rfl, HE.out, hB⟩
    | some k =>
     rw [hp] at hI
     obtain ⟨hkn, hcan⟩ := pickW_some hp
     have HP : Hid (pickW ws (tellW ws r []) = some k) := hp
     have HT : Hid (ToldW ws (tellW ws r []) ∧ canW ws (tellW ws r []) k = true) := ⟨hT, hcan⟩
     have cS := hC.some_ hkn
     have fS := hC.f k
     have hsz := hB.size
     have hclt := hC.lt
     clear hp hT hcan
     go_wp2_with fail
     refine hI.mono ?_
     clear hI
     rintro e1 w9 ⟨rfl, rfl⟩
     unfold atW
     simp only
     go_wp2_with (refine wpList_store1G Tryz.sizeOf3 _ _ rfl rfl rfl rfl rfl rfl cS fS ?_)
     intro uS L
     have hC2 : CntB uS w.heap.size ws.length (cnt2 ws (tellW ws r []) k 0) := hC.set L hkn fun i _ => cnt2_zero _ _ _ i
     have hR2 : RowZ uS (w.heap.size + 1) (.slice ado r capo) ((tellW ws r []).map fun (i : Nat) => (i : Int)) := hRow.at_ fun g hg => L.block g (by have := (hRow.lt g hg).1; omega)
     have hB2 := L.below _ _ (Nat.le_refl _) hB
     have hzS := L.size
     clear L hC hRow hB cS fS
     have hRA := fun o => hR2.below ((Below.refl uS.heap.size uS).alloc (Nat.le_refl _) o) (Nat.le_refl _)
     have hcell : ∀ t, (uS.alloc (.cells #[.int .i64 k] t)).cell? ⟨w9.heap.size, 0, none⟩ = some (.int .i64 (k : Int)) := fun t => by rw [← hzS]; exact World.cell?_alloc_new _ _ _ _
     have hlen2 : ((tellW ws r []).map fun (i : Nat) => (i : Int)).length + 1 ≤ 16777216 := by
      rw [List.length_map]
      have := (tellW_ord r [] (ordW_nil ws)).le
      omega
     go_wp2_with (at_builtin; refine wpList_appZ rfl _ _ rfl (w.heap.size + 1) rfl rfl (hRA _) (hcell _) (by simp <;> omega) hlen2 ?_)
     intro v' u' hA
     have hAb : Below uS.heap.size uS (uS.alloc (.cells #[.int .i64 k] 3)) := (Below.refl _ _).alloc (Nat.le_refl _) _
     have hA2 : Below (w.heap.size + 1) (uS.alloc (.cells #[.int .i64 k] 3)) u' := hA.below (hRA _) (Nat.le_refl _) (by simp <;> omega)
     have HN : Hid (tellW ws (r + 1) [] = tellW ws r [] ++ [k]) := by show _ = _; rw [tellW_succ]; unfold oneW; rw [HP.out]
     have hlr1 : (tellW ws (r + 1) []).length = r + 1 := by rw [HN.out, List.length_append, hlr]; rfl
     have hrn : r + 1 ≤ ws.length := by have := (tellW_ord (r + 1) [] (ordW_nil ws)).le; omega
     have HR3 : RowZ u' (w.heap.size + 1) v' ((tellW ws (r + 1) []).map fun (i : Nat) => (i : Int)) := by
      rw [HN.out, List.map_append]; exact hA.row
     have HC3 := (hC2.at_ (hAb.block _ (by omega))).at_ (hA2.block _ (by omega))
     have HB3 : Below w.heap.size w u' := (hB2.trans (hAb.mono (by omega))).trans (hA2.mono (by omega))
     obtain ⟨adp, capp, hvp, _, _⟩ := HR3.shape
     rw [List.length_map, hlr1] at hvp
     subst hvp
     have HLR : Hid ((tellW ws (r + 1) []).length = r + 1) := hlr1
     clear hA hAb hA2 hRA hcell hR2 hC2 hB2 HP hlen2 hlr1 hzS hsz hclt
     go_wp2_with fail
     go_loopw [51] (fun i wr => ∃ m : Nat, m ≤ ws.length ∧ i = .int .i64 m ∧ Below w.heap.size w wr ∧ CntB wr w.heap.size ws.length (cnt2 ws (tellW ws r []) k m) ∧ RowZ wr (w.heap.size + 1) (.slice adp (r + 1) capp) ((tellW ws (r + 1) []).map fun (i : Nat) => (i : Int))) (fun i _ => ws.length - (intOf i).toNat)
     case atStart => exact ⟨0, Nat.zero_le _, rfl, HB3, HC3, HR3⟩
     case round =>
      clear HB3 HC3 HR3
      obtain ⟨m, hm, rfl, hb, hCm, hRm⟩ := hrel
      have hbz := hb.size
      have hclt := hCm.lt
      by_cases hlt : m < ws.length
      ·obtain ⟨x, hx⟩ : ∃ x, ws[m]? = some x := ⟨ws[m], List.getElem?_eq_getElem hlt⟩
       obtain ⟨b, off, cap', hv, hb1, hb2, h5⟩ := HK.out.at_ hx
       simp only [Value.slice.injEq, true_and] at hv
       obtain ⟨rfl, rfl⟩ := hv
       have h5 : CV wr b (off + m * 12) (wireC x) := h5.below hb (by omega)
       have HX : Hid (ws[m]? = some x) := hx
       clear hx
       go_wp2_with (first
        | refine wpList_loadG Tryz.isAgg171 Tryz.sizeOf171 _ rfl rfl rfl rfl h5 ?_
        | refine wpList_allocG hZ rfl rfl ?_)
       intro u1 g1 q1 s1
       clear h5
       have hr12 := q1.run 0 12 (show 0 + 12 ≤ 12 by decide)
       go_wp2_with (refine wpList_storeG Tryz.sizeOf171 _ _ rfl rfl rfl rfl rfl (wireC_one x) hr12.1 hr12.2 ?_)
       intro ub L
       have hV := L.var q1
       have s2 := L.size
       have hB : Below w.heap.size w ub := L.below _ _ (by omega) (hb.trans (g1.mono (by omega)))
       have hC : CntB ub w.heap.size ws.length (cnt2 ws (tellW ws r []) k m) := (hCm.at_ (g1.block _ hclt)).at_ (L.block _ (by omega))
       have hRb : RowZ ub (w.heap.size + 1) (.slice adp (r + 1) capp) ((tellW ws (r + 1) []).map fun (i : Nat) => (i : Int)) := (hRm.below g1 (Nat.le_refl _)).at_ fun g hg => L.block g (by have := (hRm.lt g hg).2; omega)
       obtain ⟨DB, hDBe⟩ : ∃ DB, wr.heap.size = DB := ⟨_, rfl⟩
       rw [hDBe] at hV ⊢
       have hDB0 : w.heap.size < DB := by omega
       have hDB : DB < ub.heap.size := by omega
       clear s1 s2 hDBe hbz hclt L q1 g1 hr12 hb hCm hRm
       have hWF := fun u => waitsFor_any u x k
       have ha := cnt2_bd ws (tellW ws r []) k m
       have hcb := cntW_bd x k
       have HN1 := fun i => cnt2_next HT.out.1 HT.out.2 HX.out (wireOk_at (HO.out x (List.mem_of_getElem? HX.out))) i
       obtain ⟨AA, hAA⟩ : ∃ AA, cnt2 ws (tellW ws r []) k m m = AA := ⟨_, rfl⟩
       obtain ⟨CC, hCC⟩ : ∃ CC, cntW x k = CC := ⟨_, rfl⟩
       rw [hCC] at hWF hcb
       rw [hAA] at ha
       have HNX : Hid (∀ i, cnt2 ws (tellW ws r []) k (m + 1) i = if i = m then AA - CC else cnt2 ws (tellW ws r []) k m i) := fun i => by rw [HN1 i, hAA, hCC]
       have HAA : Hid (cnt2 ws (tellW ws r []) k m m = AA) := hAA
       obtain ⟨ha1, ha2⟩ := ha
       obtain ⟨hcb1, hcb2⟩ := hcb
       clear hAA hCC HN1
       go_wp2_with fail
       refine wp_region_last (R := Grow) (Φ := fun i v u => match i with
         | 0 => v = .slice (some ⟨w.heap.size, 0, none⟩) ws.length ws.length
         | 1 => v = .int .i64 m
         | 2 => v = .pointer (some ⟨w.heap.size, m, none⟩)
         | 3 => v = .int .i64 AA
         | 4 => v = .agg (wireC x).toArray
         | 5 => v = .int .i64 k
         | 6 => v = .int .i64 CC
         | 7 => v = .int .i64 (AA - CC)
         | 8 => v = .pointer (some ⟨w.heap.size, m, none⟩)
         | _ => True)
        (J := fun L a u => True) 9 _ rfl rfl (by kernel_rfl) (by kernel_rfl) (by kernel_rfl) (by kernel_rfl) (Below.refl _ _) grow_trans ?_ trivial ?_ ?_
       ·intro i v u u' hr
        match i with
        | 0 | 1 | 2 | 3 | 4 | 5 | 6 | 7 | 8 | _ + 9 => exact fun h => h
       ·intro i o ho hin L ac u hf hR0 hLs hLi hp he hJ K' hK
        have hR : Grow ub u := (Below.drew (Below.refl _ _)).trans hR0
        have hsz' : ac.tmps.size = 66 := hf.size
        have hus := hR.size
        rcases i with _ | _ | _ | _ | _ | _ | _ | _ | _ | i
        ·obtain rfl := si ho
         have q3 : ac.tmps.getD 3 undef = .slice (some ⟨w.heap.size, 0, none⟩) ws.length ws.length := hf.at_ 3 (by kernel_rfl)
         clear hp he
         go_simp
         exact hK _ _ (Below.refl _ _) (getD_put_self ac 56 _ (by show _ < ac.tmps.size; omega)) trivial
        ·obtain rfl := si ho
         have q9 : ac.tmps.getD 9 undef = .int .i64 m := hf.at_ 9 (by kernel_rfl)
         clear hp he
         go_simp
         exact hK _ _ (Below.refl _ _) (getD_put_self ac 57 _ (by show _ < ac.tmps.size; omega)) trivial
        ·obtain rfl := si ho
         have q56 : ac.tmps.getD 56 undef = .slice (some ⟨w.heap.size, 0, none⟩) ws.length ws.length := hp 0 _ rfl (he _ (am (i := 0) rfl) (by kernel_rfl))
         have q57 : ac.tmps.getD 57 undef = .int .i64 m := hp 1 _ rfl (he _ (am (i := 1) rfl) (by kernel_rfl))
         clear hp he
         go_simp
         exact hK _ _ (Below.refl _ _) (getD_put_self ac 58 _ (by show _ < ac.tmps.size; omega)) trivial
        ·obtain rfl := si ho
         have q58 : ac.tmps.getD 58 undef = .pointer (some ⟨w.heap.size, m, none⟩) := hp 2 _ rfl (he _ (am (i := 0) rfl) (by kernel_rfl))
         clear hp he
         have cc : u.cell? ⟨w.heap.size, m, none⟩ = some (.int .i64 AA) := by rw [(hC.at_ (hR.block _ hC.lt)).c m hlt, HAA.out]
         go_simp
         exact hK _ _ (Below.refl _ _) (getD_put_self ac 59 _ (by show _ < ac.tmps.size; omega)) trivial
        ·obtain rfl := si ho
         have q10 : ac.tmps.getD 10 undef = .pointer (some ⟨DB, 0, none⟩) := hf.at_ 10 (by kernel_rfl)
         clear hp he
         refine wantedG rfl (wp_loadG Tryz.isAgg171 Tryz.sizeOf171 (vs := wireC x) _ rfl q10 rfl ((hV.below hR hDB).c) ?_)
         exact hK _ _ (Below.refl _ _) (getD_put_self ac 60 _ (by show _ < ac.tmps.size; omega)) trivial
        ·obtain rfl := si ho
         have q8 : ac.tmps.getD 8 undef = .int .i64 k := hf.at_ 8 (by kernel_rfl)
         clear hp he
         go_simp
         exact hK _ _ (Below.refl _ _) (getD_put_self ac 61 _ (by show _ < ac.tmps.size; omega)) trivial
        ·obtain rfl := si ho
         have q60 : ac.tmps.getD 60 undef = .agg (wireC x).toArray := hp 4 _ rfl (he _ (am (i := 0) rfl) (by kernel_rfl))
         have q61 : ac.tmps.getD 61 undef = .int .i64 k := hp 5 _ rfl (he _ (am (i := 1) rfl) (by kernel_rfl))
         clear hp he
         go_simp
         refine (hWF u).mono ?_
         rintro e1 u' ⟨rfl, hbu⟩
         exact hK _ _ hbu (getD_put_self ac 62 _ (by show _ < ac.tmps.size; omega)) trivial
        ·obtain rfl := si ho
         have q59 : ac.tmps.getD 59 undef = .int .i64 AA := hp 3 _ rfl (he _ (am (i := 0) rfl) (by kernel_rfl))
         have q62 : ac.tmps.getD 62 undef = .int .i64 CC := hp 6 _ rfl (he _ (am (i := 1) rfl) (by kernel_rfl))
         clear hp he
         go_simp
         try go_bits
         exact hK _ _ (Below.refl _ _) (getD_put_self ac 63 _ (by show _ < ac.tmps.size; omega)) trivial
        ·obtain rfl := si ho
         have q56 : ac.tmps.getD 56 undef = .slice (some ⟨w.heap.size, 0, none⟩) ws.length ws.length := hp 0 _ rfl (he _ (am (i := 0) rfl) (by kernel_rfl))
         have q57 : ac.tmps.getD 57 undef = .int .i64 m := hp 1 _ rfl (he _ (am (i := 1) rfl) (by kernel_rfl))
         clear hp he
         go_simp
         exact hK _ _ (Below.refl _ _) (getD_put_self ac 64 _ (by show _ < ac.tmps.size; omega)) trivial
        ·omega
       ·intro L ac u hf hR0 hp hJ K' hK
        have hR : Grow ub u := (Below.drew (Below.refl _ _)).trans hR0
        have hus := hR.size
        have m63 : ac.tmps.getD 63 undef = .int .i64 (AA - CC) := (hp 7 _ (by decide) rfl).2
        have m64 : ac.tmps.getD 64 undef = .pointer (some ⟨w.heap.size, m, none⟩) := (hp 8 _ (by decide) rfl).2
        have hCu := hC.at_ (hR.block _ hC.lt)
        have hVu := hV.below hR hDB
        have hBu : Below w.heap.size w u := hB.trans (hR.mono (by have := hB.size; omega))
        refine wantedG rfl (wp_store1G Tryz.sizeOf3 (.tmp 64) (.tmp 63) rfl m64 m63 rfl rfl (hCu.some_ hlt) (hCu.f _) ?_)
        intro u2 L
        refine hK ac u2 ?_
        have hV2 := L.other hVu (by omega)
        have hB2 := L.below _ _ (Nat.le_refl _) hBu
        have hz2 := L.size
        have hC2 : CntB u2 w.heap.size ws.length (cnt2 ws (tellW ws r []) k (m + 1)) := hCu.set L hlt fun i _ => HNX.out i
        have hRu := hRb.below hR (Nat.le_refl _)
        have hR2 : RowZ u2 (w.heap.size + 1) (.slice adp (r + 1) capp) ((tellW ws (r + 1) []).map fun (i : Nat) => (i : Int)) := hRu.at_ fun g hg => L.block g (by have := (hRu.lt g hg).1; omega)
        clear hRu
        clear L hCu hVu hBu hp hJ hR0 hR hK hWF
        clear m63 m64
        obtain ⟨fq, ea, hfv⟩ := act_lit ac 66 hf.size
        have md : ac.defers = [] := hf.defers
        rw [md] at ea
        have m0 := hf.at_ 0 (by kernel_rfl)
        have m1 := hf.at_ 1 (by kernel_rfl)
        have m2 := hf.at_ 2 (by kernel_rfl)
        have m3 := hf.at_ 3 (by kernel_rfl)
        have m4 := hf.at_ 4 (by kernel_rfl)
        have m5 := hf.at_ 5 (by kernel_rfl)
        have m6 := hf.at_ 6 (by kernel_rfl)
        have m7 := hf.at_ 7 (by kernel_rfl)
        have m8 := hf.at_ 8 (by kernel_rfl)
        have m9 := hf.at_ 9 (by kernel_rfl)
        have m10 := hf.at_ 10 (by kernel_rfl)
        have m11 := hf.at_ 11 (by kernel_rfl)
        have m12 := hf.at_ 12 (by kernel_rfl)
        have m13 := hf.at_ 13 (by kernel_rfl)
        have m14 := hf.at_ 14 (by kernel_rfl)
        have m15 := hf.at_ 15 (by kernel_rfl)
        have m16 := hf.at_ 16 (by kernel_rfl)
        have m17 := hf.at_ 17 (by kernel_rfl)
        have m18 := hf.at_ 18 (by kernel_rfl)
        have m19 := hf.at_ 19 (by kernel_rfl)
        have m20 := hf.at_ 20 (by kernel_rfl)
        have m21 := hf.at_ 21 (by kernel_rfl)
        have m22 := hf.at_ 22 (by kernel_rfl)
        have m23 := hf.at_ 23 (by kernel_rfl)
        have m24 := hf.at_ 24 (by kernel_rfl)
        have m25 := hf.at_ 25 (by kernel_rfl)
        have m26 := hf.at_ 26 (by kernel_rfl)
        have m27 := hf.at_ 27 (by kernel_rfl)
        have m28 := hf.at_ 28 (by kernel_rfl)
        have m29 := hf.at_ 29 (by kernel_rfl)
        have m30 := hf.at_ 30 (by kernel_rfl)
        have m31 := hf.at_ 31 (by kernel_rfl)
        have m32 := hf.at_ 32 (by kernel_rfl)
        have m33 := hf.at_ 33 (by kernel_rfl)
        have m34 := hf.at_ 34 (by kernel_rfl)
        have m35 := hf.at_ 35 (by kernel_rfl)
        have m36 := hf.at_ 36 (by kernel_rfl)
        have m37 := hf.at_ 37 (by kernel_rfl)
        have m38 := hf.at_ 38 (by kernel_rfl)
        have m39 := hf.at_ 39 (by kernel_rfl)
        have m40 := hf.at_ 40 (by kernel_rfl)
        have m41 := hf.at_ 41 (by kernel_rfl)
        have m42 := hf.at_ 42 (by kernel_rfl)
        have m43 := hf.at_ 43 (by kernel_rfl)
        have m44 := hf.at_ 44 (by kernel_rfl)
        have m45 := hf.at_ 45 (by kernel_rfl)
        have m46 := hf.at_ 46 (by kernel_rfl)
        have m47 := hf.at_ 47 (by kernel_rfl)
        have m48 := hf.at_ 48 (by kernel_rfl)
        have m49 := hf.at_ 49 (by kernel_rfl)
        have m50 := hf.at_ 50 (by kernel_rfl)
        have m51 := hf.at_ 51 (by kernel_rfl)
        have m52 := hf.at_ 52 (by kernel_rfl)
        have m53 := hf.at_ 53 (by kernel_rfl)
        have m54 := hf.at_ 54 (by kernel_rfl)
        have m55 := hf.at_ 55 (by kernel_rfl)
        have m65 := hf.at_ 65 (by kernel_rfl)
        rw [← hfv] at m0 m1 m2 m3 m4 m5 m6 m7 m8 m9 m10 m11 m12 m13 m14 m15 m16 m17 m18 m19 m20 m21 m22 m23 m24 m25 m26 m27 m28 m29 m30 m31 m32 m33 m34 m35 m36 m37 m38 m39 m40 m41 m42 m43 m44 m45 m46 m47 m48 m49 m50 m51 m52 m53 m54 m55 m65
        simp only [Array.getD_eq_getD_getElem?, List.getElem?_toArray, List.getElem?_cons_succ, List.getElem?_cons_zero, Option.getD_some] at m0 m1 m2 m3 m4 m5 m6 m7 m8 m9 m10 m11 m12 m13 m14 m15 m16 m17 m18 m19 m20 m21 m22 m23 m24 m25 m26 m27 m28 m29 m30 m31 m32 m33 m34 m35 m36 m37 m38 m39 m40 m41 m42 m43 m44 m45 m46 m47 m48 m49 m50 m51 m52 m53 m54 m55 m65
        simp only [List.range, List.range.loop, List.map_cons, List.map_nil, m0, m1, m2, m3, m4, m5, m6, m7, m8, m9, m10, m11, m12, m13, m14, m15, m16, m17, m18, m19, m20, m21, m22, m23, m24, m25, m26, m27, m28, m29, m30, m31, m32, m33, m34, m35, m36, m37, m38, m39, m40, m41, m42, m43, m44, m45, m46, m47, m48, m49, m50, m51, m52, m53, m54, m55, m65] at ea
        subst ea
        clear m0 m1 m2 m3 m4 m5 m6 m7 m8 m9 m10 m11 m12 m13 m14 m15 m16 m17 m18 m19 m20 m21 m22 m23 m24 m25 m26 m27 m28 m29 m30 m31 m32 m33 m34 m35 m36 m37 m38 m39 m40 m41 m42 m43 m44 m45 m46 m47 m48 m49 m50 m51 m52 m53 m54 m55 m65 hfv md hf
        go_wp2
        go_roundw
        case rel => exact ⟨m + 1, by omega, by go_num, hB2, hC2, hR2⟩
        case measure => simp [intOf]; omega
      ·obtain rfl : m = ws.length := by omega
       have HCN : CntB wr w.heap.size ws.length (waitZ ws (tellW ws (r + 1) [])) := hCm.same fun i hi => by rw [HN.out]; exact cnt2_end hi
       have HTN : ToldW ws (tellW ws (r + 1) []) := by rw [HN.out]; exact HT.out.1.next HT.out.2
       clear hCm
       go_wp2
       go_roundw
       case rel => exact ⟨r + 1, _, rfl, by omega, HLR.out, hRm, HCN, HTN, hb⟩
       case measure => simp [sliceLen]; omega
end Go.Proofs.YtaoiookfmgpmkaaGreatDoor
