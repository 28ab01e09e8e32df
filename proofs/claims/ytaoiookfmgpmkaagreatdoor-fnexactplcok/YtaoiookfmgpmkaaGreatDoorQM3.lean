import Derived.Test.YtaoiookfmgpmkaaGreatDoorQM2
import Derived.Test.YtaoiookfmgpmkaaGreatDoorQM1
import Derived.Laws.ResultCell

/-
 States of nets in memory: a list of blocks and a list of bools; eqState, markState, heldState. (Written by our generator gen_statekit.py.)
-/
namespace Go.Proofs.YtaoiookfmgpmkaaGreatDoor
open Go.ChangeShapes Go.WideShapes Go.ChangeAt Go.RowKit
set_option linter.unusedVariables false
set_option linter.unusedSimpArgs false
set_option maxRecDepth 100000

set_option maxHeartbeats 4000000 in
theorem eqBlockS_same (w : World) (lo hi lo' hi' : Nat) (va vb : Value) (ps : List BlockD) (ha : GR blockE w lo hi va ps) (hb' : GR blockE w lo' hi' vb ps) (hhi : hi ≤ w.heap.size) (hhi' : hi' ≤ w.heap.size) :
  Calls Tryz.prog 116 #[va, vb] w fun e w' => e = .returned (.bool true) ∧ Below w.heap.size w w' := by
 obtain ⟨ad, cap, rfl, h1, h2⟩ := ha.shape
 obtain ⟨ad', cap', rfl, h1', h2'⟩ := hb'.shape
 have HK : Hid (GR blockE w lo hi (.slice ad ps.length cap) ps ∧ GR blockE w lo' hi' (.slice ad' ps.length cap') ps) := ⟨ha, hb'⟩
 clear ha hb'
 unfold maxLen at h2 h2'
 have hl2 : ((ps.length : Int) != (ps.length : Int)) = false := by simp
 go_enter Tryz.func116, Tryz.ntmps116
 go_wp2_with fail
 go_loopw [5] (fun i wr => ∃ j : Nat, j ≤ ps.length ∧ i = .int .i64 j ∧ Below w.heap.size w wr) (fun i _ => ps.length - (intOf i).toNat)
 case atStart => exact ⟨0, Nat.zero_le _, rfl, Below.refl _ _⟩
 case round =>
  obtain ⟨j, hj, rfl, hb⟩ := hrel
  have hsz := hb.size
  by_cases hlt : j < ps.length
  ·obtain ⟨x, hx⟩ : ∃ x, ps[j]? = some x := ⟨ps[j], List.getElem?_eq_getElem hlt⟩
   obtain ⟨b, off, capx, hv, hb1, hb2, h5⟩ := HK.out.1.at_ hx
   obtain ⟨b', off', capy, hv', hb1', hb2', h5'⟩ := HK.out.2.at_ hx
   simp only [Value.slice.injEq, true_and] at hv hv'
   obtain ⟨rfl, rfl⟩ := hv
   obtain ⟨rfl, rfl⟩ := hv'
   have h5 : CV w b (off + j * 5) (blockC x) := h5
   have h5' : CV w b' (off' + j * 5) (blockC x) := h5'
   clear hx
   go_wp2_with fail
   refine wp_region_dag (R := Grow) (Φ := fun i v u => match i with
     | 0 => v = .slice (some ⟨b, off, none⟩) ps.length cap
     | 1 => v = .int .i64 j
     | 2 => v = .pointer (some ⟨b, off + j * 5, none⟩)
     | 3 => v = .agg (blockC x).toArray
     | 4 => v = .slice (some ⟨b', off', none⟩) ps.length cap'
     | 5 => v = .int .i64 j
     | 6 => v = .pointer (some ⟨b', off' + j * 5, none⟩)
     | 7 => v = .agg (blockC x).toArray
     | 8 => v = .bool true
     | 9 => v = .bool false
     | _ => True) (by kernel_rfl) (by kernel_rfl) (by kernel_rfl) (Below.refl _ _) grow_trans ?_ ?_ ?_
   ·intro i v u u' hr
    match i with
    | 0 | 1 | 2 | 3 | 4 | 5 | 6 | 7 | 8 | 9 | _ + 10 => exact fun h => h
   ·intro i o ho a u hf hR0 he K' hK
    have hR : Grow wr u := (Below.drew (Below.refl _ _)).trans hR0
    have hsz' : a.tmps.size = 27 := hf.size
    have hus : wr.heap.size ≤ u.heap.size := hR.size
    rcases i with _ | _ | _ | _ | _ | _ | _ | _ | _ | _ | i
    ·obtain rfl := si ho
     have q0 : a.tmps.getD 0 undef = .slice (some ⟨b, off, none⟩) ps.length cap := hf.at_ 0 (by kernel_rfl)
     clear he
     go_simp
     exact hK _ _ (Below.refl _ _) (getD_put_self a 17 _ (by show _ < a.tmps.size; omega))
    ·obtain rfl := si ho
     have q5 : a.tmps.getD 5 undef = .int .i64 j := hf.at_ 5 (by kernel_rfl)
     clear he
     go_simp
     exact hK _ _ (Below.refl _ _) (getD_put_self a 18 _ (by show _ < a.tmps.size; omega))
    ·obtain rfl := si ho
     have q17 : a.tmps.getD 17 undef = .slice (some ⟨b, off, none⟩) ps.length cap := he _ (am (i := 0) rfl) (by kernel_rfl) _ rfl
     have q18 : a.tmps.getD 18 undef = .int .i64 j := he _ (am (i := 1) rfl) (by kernel_rfl) _ rfl
     clear he
     go_simp
     exact hK _ _ (Below.refl _ _) (getD_put_self a 19 _ (by show _ < a.tmps.size; omega))
    ·obtain rfl := si ho
     have q19 : a.tmps.getD 19 undef = .pointer (some ⟨b, off + j * 5, none⟩) := he _ (am (i := 0) rfl) (by kernel_rfl) _ rfl
     clear he
     refine wantedG rfl (wp_loadG Tryz.isAgg165 Tryz.sizeOf165 (vs := blockC x) _ rfl q19 rfl (h5.kept ((hb.trans (hR.mono hsz)).block b (by omega))) ?_)
     exact hK _ _ (Below.refl _ _) (getD_put_self a 20 _ (by show _ < a.tmps.size; omega))
    ·obtain rfl := si ho
     have q1 : a.tmps.getD 1 undef = .slice (some ⟨b', off', none⟩) ps.length cap' := hf.at_ 1 (by kernel_rfl)
     clear he
     go_simp
     exact hK _ _ (Below.refl _ _) (getD_put_self a 21 _ (by show _ < a.tmps.size; omega))
    ·obtain rfl := si ho
     have q5 : a.tmps.getD 5 undef = .int .i64 j := hf.at_ 5 (by kernel_rfl)
     clear he
     go_simp
     exact hK _ _ (Below.refl _ _) (getD_put_self a 22 _ (by show _ < a.tmps.size; omega))
    ·obtain rfl := si ho
     have q21 : a.tmps.getD 21 undef = .slice (some ⟨b', off', none⟩) ps.length cap' := he _ (am (i := 0) rfl) (by kernel_rfl) _ rfl
     have q22 : a.tmps.getD 22 undef = .int .i64 j := he _ (am (i := 1) rfl) (by kernel_rfl) _ rfl
     clear he
     go_simp
     exact hK _ _ (Below.refl _ _) (getD_put_self a 23 _ (by show _ < a.tmps.size; omega))
    ·obtain rfl := si ho
     have q23 : a.tmps.getD 23 undef = .pointer (some ⟨b', off' + j * 5, none⟩) := he _ (am (i := 0) rfl) (by kernel_rfl) _ rfl
     clear he
     refine wantedG rfl (wp_loadG Tryz.isAgg165 Tryz.sizeOf165 (vs := blockC x) _ rfl q23 rfl (h5'.kept ((hb.trans (hR.mono hsz)).block b' (by omega))) ?_)
     exact hK _ _ (Below.refl _ _) (getD_put_self a 24 _ (by show _ < a.tmps.size; omega))
    ·obtain rfl := si ho
     have q20 : a.tmps.getD 20 undef = .agg (blockC x).toArray := he _ (am (i := 0) rfl) (by kernel_rfl) _ rfl
     have q24 : a.tmps.getD 24 undef = .agg (blockC x).toArray := he _ (am (i := 1) rfl) (by kernel_rfl) _ rfl
     clear he
     go_simp
     refine (eqBlock_same u x).mono ?_
     rintro e1 u' ⟨rfl, hbu⟩
     exact hK _ _ hbu (getD_put_self a 25 _ (by show _ < a.tmps.size; omega))
    ·obtain rfl := si ho
     have q25 : a.tmps.getD 25 undef = .bool true := he _ (am (i := 0) rfl) (by kernel_rfl) _ rfl
     clear he
     go_simp
     exact hK _ _ (Below.refl _ _) (getD_put_self a 26 _ (by show _ < a.tmps.size; omega))
    ·exact absurd ho (by simp)
   ·intro a u hf hR0 hp
    have hR : Grow wr u := (Below.drew (Below.refl _ _)).trans hR0
    have md : a.defers = [] := hf.defers
    have m0 : a.tmps.getD 0 undef = .slice (some ⟨b, off, none⟩) ps.length cap := hf.at_ 0 (by kernel_rfl)
    have m1 : a.tmps.getD 1 undef = .slice (some ⟨b', off', none⟩) ps.length cap' := hf.at_ 1 (by kernel_rfl)
    have m2 : a.tmps.getD 2 undef = undef := hf.at_ 2 (by kernel_rfl)
    have m3 : a.tmps.getD 3 undef = undef := hf.at_ 3 (by kernel_rfl)
    have m5 : a.tmps.getD 5 undef = .int .i64 j := hf.at_ 5 (by kernel_rfl)
    have m6 : a.tmps.getD 6 undef = .slice (some ⟨b, off, none⟩) ps.length cap := hf.at_ 6 (by kernel_rfl)
    have m7 : a.tmps.getD 7 undef = .int .i64 ps.length := hf.at_ 7 (by kernel_rfl)
    have m8 : a.tmps.getD 8 undef = .slice (some ⟨b', off', none⟩) ps.length cap' := hf.at_ 8 (by kernel_rfl)
    have m9 : a.tmps.getD 9 undef = .int .i64 ps.length := hf.at_ 9 (by kernel_rfl)
    have m10 : a.tmps.getD 10 undef = .bool false := hf.at_ 10 (by kernel_rfl)
    have m26 : a.tmps.getD 26 undef = .bool false := hp 9 _ rfl
    obtain ⟨f, ea, hfv⟩ := act_lit a 27 hf.size
    rw [← hfv] at m0 m1 m2 m3 m5 m6 m7 m8 m9 m10 m26
    rw [md] at ea
    simp only [List.range, List.range.loop, List.map_cons, List.map_nil, m0, m1, m2, m3, m5, m6, m7, m8, m9, m10, m26] at ea
    subst ea
    clear hfv hf md hp hR0
    clear h5 h5'
    go_wp2
    go_roundw
    case rel => exact ⟨j + 1, by omega, by go_num, hb.trans (hR.mono hsz)⟩
    case measure => simp [intOf]; omega
  ·obtain rfl : j = ps.length := by omega
   go_wp2
   go_ret
   exact ⟨rfl, hb⟩

structure StateD where
 bs : List BlockD
 ls : List Bool
deriving DecidableEq

def StR (w : World) (lo hi : Nat) (v : Value) (m : StateD) : Prop := ∃ a b, v = .agg #[a, b] ∧ GR blockE w lo hi a m.bs ∧ GR bool2 w lo hi b m.ls
def StO (w : World) (lo hi : Nat) (v : Value) (m : StateD) : Prop := ∃ a b l1 h1 l2 h2, v = .agg #[a, b] ∧ GO blockE w l1 h1 a m.bs ∧ GO bool2 w l2 h2 b m.ls ∧ (lo ≤ l1 ∧ h1 ≤ hi) ∧ (lo ≤ l2 ∧ h2 ≤ hi) ∧ (h1 ≤ l2 ∨ h2 ≤ l1)

theorem StO.r {w : World} {lo hi : Nat} {v : Value} {m : StateD} (h : StO w lo hi v m) : StR w lo hi v m := by
 obtain ⟨a, b, l1, h1, l2, h2, hv, ha, hb, q1, q2, _⟩ := h
 exact ⟨a, b, hv, ha.gr.wide q1.1 q1.2, hb.gr.wide q2.1 q2.2⟩
theorem StR.under {w w' : World} {lo hi n : Nat} {v : Value} {m : StateD} (h : StR w lo hi v m) (hb : Below n w w') (hn : hi ≤ n) : StR w' lo hi v m := by
 obtain ⟨a, b, hv, h1, h2⟩ := h; exact ⟨a, b, hv, h1.under hb hn, h2.under hb hn⟩
theorem StO.kept_ {w w' : World} {lo hi : Nat} {v : Value} {m : StateD} (h : StO w lo hi v m) (hk : ∀ k, lo ≤ k → k < hi → w'.heap[k]? = w.heap[k]?) : StO w' lo hi v m := by
 obtain ⟨a, b, l1, h1, l2, h2, hv, ha, hb, q1, q2, q3⟩ := h
 exact ⟨a, b, l1, h1, l2, h2, hv, ha.kept fun k r1 r2 => hk k (by omega) (by omega), hb.kept fun k r1 r2 => hk k (by omega) (by omega), q1, q2, q3⟩
theorem StO.below {w w' : World} {lo hi n : Nat} {v : Value} {m : StateD} (h : StO w lo hi v m) (hb : Below n w w') (hn : hi ≤ n) : StO w' lo hi v m := h.kept_ fun k _ hk => hb.block k (by omega)
theorem StO.out {w w' : World} {lo hi lo' hi' : Nat} {v : Value} {m : StateD} (h : StO w lo hi v m) (g : Out lo' hi' w w') (h1 : hi ≤ lo' ∨ hi' ≤ lo) (hs : hi ≤ w.heap.size) : StO w' lo hi v m := h.kept_ fun k q1 q2 => g.block k (by omega) (by omega)
theorem StO.wide {w : World} {lo hi lo' hi' : Nat} {v : Value} {m : StateD} (h : StO w lo hi v m) (hl : lo' ≤ lo) (hh : hi ≤ hi') : StO w lo' hi' v m := by
 obtain ⟨a, b, l1, h1, l2, h2, hv, ha, hb, q1, q2, q3⟩ := h
 exact ⟨a, b, l1, h1, l2, h2, hv, ha, hb, ⟨by omega, by omega⟩, ⟨by omega, by omega⟩, q3⟩
theorem StO.shape {w : World} {lo hi : Nat} {v : Value} {q : StateD} (h : StO w lo hi v q) : ∃ a c b e, v = .agg #[.slice a q.bs.length c, .slice b q.ls.length e] := by
 obtain ⟨a, b, l1, h1, l2, h2, rfl, ha, hb, _⟩ := h
 obtain ⟨x, c, rfl⟩ := ha.shapeO
 obtain ⟨y, e, rfl⟩ := hb.shapeO
 exact ⟨x, c, y, e, rfl⟩

set_option maxHeartbeats 2000000 in
theorem eqStO_same (w : World) (lo hi lo' hi' : Nat) (va vb : Value) (m : StateD) (ha : StR w lo hi va m) (hb : StR w lo' hi' vb m) (hhi : hi ≤ w.heap.size) (hhi' : hi' ≤ w.heap.size) :
  Calls Tryz.prog 37 #[va, vb] w fun e w' => e = .returned (.bool true) ∧ Below w.heap.size w w' := by
 obtain ⟨xa, xb, rfl, hxa, hxb⟩ := ha
 obtain ⟨ya, yb, rfl, hya, hyb⟩ := hb
 obtain ⟨ad1, cap1, rfl, _, _⟩ := hxa.shape
 obtain ⟨ad2, cap2, rfl, _, _⟩ := hxb.shape
 obtain ⟨ad3, cap3, rfl, _, _⟩ := hya.shape
 obtain ⟨ad4, cap4, rfl, _, _⟩ := hyb.shape
 have HK : Hid ((GR blockE w lo hi (.slice ad1 m.bs.length cap1) m.bs ∧ GR bool2 w lo hi (.slice ad2 m.ls.length cap2) m.ls) ∧ (GR blockE w lo' hi' (.slice ad3 m.bs.length cap3) m.bs ∧ GR bool2 w lo' hi' (.slice ad4 m.ls.length cap4) m.ls)) := ⟨⟨hxa, hxb⟩, hya, hyb⟩
 clear hxa hxb hya hyb
 go_enter Tryz.func37, Tryz.ntmps37
 go_wp2_with (refine wpList_boxG (vs := [.slice ad1 m.bs.length cap1, .slice ad2 m.ls.length cap2]) rfl _ rfl rfl ?_)
 intro u1 g1 p1 s1
 go_wp2_with (refine wpList_boxG (vs := [.slice ad3 m.bs.length cap3, .slice ad4 m.ls.length cap4]) rfl _ rfl rfl ?_)
 intro u2 g2 q2 s2
 have p2 := p1.below g2 (by omega)
 have G2 := g1.trans (g2.mono (by omega))
 clear g1 g2 p1
 have c0 : u2.cell? ⟨w.heap.size, 0, none⟩ = some (.slice ad1 m.bs.length cap1) := p2.c 0 _ rfl
 have d0 : u2.cell? ⟨w.heap.size + 1, 0, none⟩ = some (.slice ad3 m.bs.length cap3) := q2.c 0 _ rfl
 go_wp2_with fail
 clear c0 d0
 refine (eqBlockS_same _ _ _ _ _ _ _ m.bs (HK.out.1.1.under G2 hhi) (HK.out.2.1.under G2 hhi') (by omega) (by omega)).mono ?_
 rintro e3 u3 ⟨rfl, g3⟩
 have z3 := g3.size
 have c1 : u3.cell? ⟨w.heap.size, 1, none⟩ = some (.slice ad2 m.ls.length cap2) := (p2.below g3 (by omega)).c 1 _ rfl
 have d1 : u3.cell? ⟨w.heap.size + 1, 1, none⟩ = some (.slice ad4 m.ls.length cap4) := (q2.below g3 (by omega)).c 1 _ rfl
 have G3 := G2.trans (g3.mono (by omega))
 clear g3 G2 p2 q2
 go_wp2_with fail
 clear c1 d1
 refine (eqBoolS_same _ _ _ _ _ _ _ m.ls (HK.out.1.2.under G3 hhi) (HK.out.2.2.under G3 hhi') (by omega) (by omega)).mono ?_
 rintro e4 u4 ⟨rfl, g4⟩
 have G4 := G3.trans (g4.mono (by omega))
 clear g4 G3
 go_wp2
 go_ret
 exact ⟨rfl, G4⟩

end Go.Proofs.YtaoiookfmgpmkaaGreatDoor

/-
 Marks of charts in memory: two lists of bools; eqMarks, markMarks, heldMarks.
-/
namespace Go.Proofs.YtaoiookfmgpmkaaGreatDoor
open Go.ChangeShapes Go.WideShapes Go.ChangeAt Go.RowKit
set_option linter.unusedVariables false
set_option linter.unusedSimpArgs false
set_option maxRecDepth 100000

structure MarksD where
 on : List Bool
 kept : List Bool
deriving DecidableEq

def MkR (w : World) (lo hi : Nat) (v : Value) (m : MarksD) : Prop := ∃ a b, v = .agg #[a, b] ∧ GR bool2 w lo hi a m.on ∧ GR bool2 w lo hi b m.kept
def MkO (w : World) (lo hi : Nat) (v : Value) (m : MarksD) : Prop := ∃ a b l1 h1 l2 h2, v = .agg #[a, b] ∧ GO bool2 w l1 h1 a m.on ∧ GO bool2 w l2 h2 b m.kept ∧ (lo ≤ l1 ∧ h1 ≤ hi) ∧ (lo ≤ l2 ∧ h2 ≤ hi) ∧ (h1 ≤ l2 ∨ h2 ≤ l1)

theorem MkO.r {w : World} {lo hi : Nat} {v : Value} {m : MarksD} (h : MkO w lo hi v m) : MkR w lo hi v m := by
 obtain ⟨a, b, l1, h1, l2, h2, hv, ha, hb, q1, q2, _⟩ := h
 exact ⟨a, b, hv, ha.gr.wide q1.1 q1.2, hb.gr.wide q2.1 q2.2⟩
theorem MkR.under {w w' : World} {lo hi n : Nat} {v : Value} {m : MarksD} (h : MkR w lo hi v m) (hb : Below n w w') (hn : hi ≤ n) : MkR w' lo hi v m := by
 obtain ⟨a, b, hv, h1, h2⟩ := h; exact ⟨a, b, hv, h1.under hb hn, h2.under hb hn⟩
theorem MkO.kept_ {w w' : World} {lo hi : Nat} {v : Value} {m : MarksD} (h : MkO w lo hi v m) (hk : ∀ k, lo ≤ k → k < hi → w'.heap[k]? = w.heap[k]?) : MkO w' lo hi v m := by
 obtain ⟨a, b, l1, h1, l2, h2, hv, ha, hb, q1, q2, q3⟩ := h
 exact ⟨a, b, l1, h1, l2, h2, hv, ha.kept fun k r1 r2 => hk k (by omega) (by omega), hb.kept fun k r1 r2 => hk k (by omega) (by omega), q1, q2, q3⟩
theorem MkO.below {w w' : World} {lo hi n : Nat} {v : Value} {m : MarksD} (h : MkO w lo hi v m) (hb : Below n w w') (hn : hi ≤ n) : MkO w' lo hi v m := h.kept_ fun k _ hk => hb.block k (by omega)
theorem MkO.out {w w' : World} {lo hi lo' hi' : Nat} {v : Value} {m : MarksD} (h : MkO w lo hi v m) (g : Out lo' hi' w w') (h1 : hi ≤ lo' ∨ hi' ≤ lo) (hs : hi ≤ w.heap.size) : MkO w' lo hi v m := h.kept_ fun k q1 q2 => g.block k (by omega) (by omega)
theorem MkO.wide {w : World} {lo hi lo' hi' : Nat} {v : Value} {m : MarksD} (h : MkO w lo hi v m) (hl : lo' ≤ lo) (hh : hi ≤ hi') : MkO w lo' hi' v m := by
 obtain ⟨a, b, l1, h1, l2, h2, hv, ha, hb, q1, q2, q3⟩ := h
 exact ⟨a, b, l1, h1, l2, h2, hv, ha, hb, ⟨by omega, by omega⟩, ⟨by omega, by omega⟩, q3⟩
theorem MkO.shape {w : World} {lo hi : Nat} {v : Value} {q : MarksD} (h : MkO w lo hi v q) : ∃ a c b e, v = .agg #[.slice a q.on.length c, .slice b q.kept.length e] := by
 obtain ⟨a, b, l1, h1, l2, h2, rfl, ha, hb, _⟩ := h
 obtain ⟨x, c, rfl⟩ := ha.shapeO
 obtain ⟨y, e, rfl⟩ := hb.shapeO
 exact ⟨x, c, y, e, rfl⟩

set_option maxHeartbeats 2000000 in
theorem eqMkO_same (w : World) (lo hi lo' hi' : Nat) (va vb : Value) (m : MarksD) (ha : MkR w lo hi va m) (hb : MkR w lo' hi' vb m) (hhi : hi ≤ w.heap.size) (hhi' : hi' ≤ w.heap.size) :
  Calls Tryz.prog 73 #[va, vb] w fun e w' => e = .returned (.bool true) ∧ Below w.heap.size w w' := by
 obtain ⟨xa, xb, rfl, hxa, hxb⟩ := ha
 obtain ⟨ya, yb, rfl, hya, hyb⟩ := hb
 obtain ⟨ad1, cap1, rfl, _, _⟩ := hxa.shape
 obtain ⟨ad2, cap2, rfl, _, _⟩ := hxb.shape
 obtain ⟨ad3, cap3, rfl, _, _⟩ := hya.shape
 obtain ⟨ad4, cap4, rfl, _, _⟩ := hyb.shape
 have HK : Hid ((GR bool2 w lo hi (.slice ad1 m.on.length cap1) m.on ∧ GR bool2 w lo hi (.slice ad2 m.kept.length cap2) m.kept) ∧ (GR bool2 w lo' hi' (.slice ad3 m.on.length cap3) m.on ∧ GR bool2 w lo' hi' (.slice ad4 m.kept.length cap4) m.kept)) := ⟨⟨hxa, hxb⟩, hya, hyb⟩
 clear hxa hxb hya hyb
 go_enter Tryz.func73, Tryz.ntmps73
 go_wp2_with (refine wpList_boxG (vs := [.slice ad1 m.on.length cap1, .slice ad2 m.kept.length cap2]) rfl _ rfl rfl ?_)
 intro u1 g1 p1 s1
 go_wp2_with (refine wpList_boxG (vs := [.slice ad3 m.on.length cap3, .slice ad4 m.kept.length cap4]) rfl _ rfl rfl ?_)
 intro u2 g2 q2 s2
 have p2 := p1.below g2 (by omega)
 have G2 := g1.trans (g2.mono (by omega))
 clear g1 g2 p1
 have c0 : u2.cell? ⟨w.heap.size, 0, none⟩ = some (.slice ad1 m.on.length cap1) := p2.c 0 _ rfl
 have d0 : u2.cell? ⟨w.heap.size + 1, 0, none⟩ = some (.slice ad3 m.on.length cap3) := q2.c 0 _ rfl
 go_wp2_with fail
 clear c0 d0
 refine (eqBoolS_same _ _ _ _ _ _ _ m.on (HK.out.1.1.under G2 hhi) (HK.out.2.1.under G2 hhi') (by omega) (by omega)).mono ?_
 rintro e3 u3 ⟨rfl, g3⟩
 have z3 := g3.size
 have c1 : u3.cell? ⟨w.heap.size, 1, none⟩ = some (.slice ad2 m.kept.length cap2) := (p2.below g3 (by omega)).c 1 _ rfl
 have d1 : u3.cell? ⟨w.heap.size + 1, 1, none⟩ = some (.slice ad4 m.kept.length cap4) := (q2.below g3 (by omega)).c 1 _ rfl
 have G3 := G2.trans (g3.mono (by omega))
 clear g3 G2 p2 q2
 go_wp2_with fail
 clear c1 d1
 refine (eqBoolS_same _ _ _ _ _ _ _ m.kept (HK.out.1.2.under G3 hhi) (HK.out.2.2.under G3 hhi') (by omega) (by omega)).mono ?_
 rintro e4 u4 ⟨rfl, g4⟩
 have G4 := G3.trans (g4.mono (by omega))
 clear g4 G3
 go_wp2
 go_ret
 exact ⟨rfl, G4⟩

end Go.Proofs.YtaoiookfmgpmkaaGreatDoor

/-
 The laws' szMarks and toMarks. (Written by our generator gen_marksto.py.)
-/
namespace Go.Proofs.YtaoiookfmgpmkaaGreatDoor
open Go.ChangeShapes Go.WideShapes Go.ChangeAt Go.RowKit
set_option linter.unusedVariables false
set_option linter.unusedSimpArgs false
set_option maxRecDepth 100000

def MarksD.many (m : MarksD) : Nat := m.on.length + m.kept.length
theorem info_boolT : (Tryz.prog.info? 4).map (fun i => (i.zero, i.size, i.bytes)) = some (some (.bool false), 1, 1) := by kernel_rfl
set_option maxHeartbeats 4000000 in
theorem toBoolS_any (w : World) (lo hi : Nat) (v : Value) (ps : List Bool) (h : GR bool2 w lo hi v ps) (hhi : hi ≤ w.heap.size) (hx : ps.length ≤ 1048576) :
  Calls Tryz.prog 106 #[v] w fun e w' => ∃ v', e = .returned v' ∧ GO bool2 w' w.heap.size w'.heap.size v' ps ∧ Below w.heap.size w w' := by
 obtain ⟨i0, hi0, hz0, hz1, hz2⟩ := info_parts info_boolT
 obtain ⟨ad, cap, rfl, h1, h2⟩ := h.shape
 unfold maxLen at h2
 have HA : Hid (GR bool2 w lo hi (.slice ad ps.length cap) ps) := h
 clear h
 go_enter Tryz.func106, Tryz.ntmps106
 go_wp2_with (at_make; refine wpList_make_full _ rfl _ _ 44 rfl w.heap.size 4 i0 (.bool false) 1 Tryz.underlying44 hi0 hz0 hz1 .i64 .i64 _ _ ps.length rfl rfl rfl rfl (by rw [hz2]; omega) (by unfold maxLen; omega) (Nat.le_refl _) ?_; intro w1 hown hgrow)
 have hI : ToG bool2 w w.heap.size ps 0 w1 := toG_start (E := bool2) hown hgrow
 clear hown hgrow hz0 hz1 hz2 hi0
 go_loopw [4] (fun i wr => ∃ j : Nat, j ≤ ps.length ∧ i = .int .i64 j ∧ ToG bool2 w w.heap.size ps j wr) (fun i _ => ps.length - (intOf i).toNat)
 case atStart => exact ⟨0, Nat.zero_le _, rfl, hI⟩
 case round =>
  clear hI
  obtain ⟨j, hj, rfl, hI⟩ := hrel
  by_cases hlt : j < ps.length
  ·obtain ⟨x, hx⟩ : ∃ x, ps[j]? = some x := ⟨ps[j], List.getElem?_eq_getElem hlt⟩
   obtain ⟨b, off, capx, hv, hb1, hb2, h5⟩ := HA.out.at_ hx
   simp only [Value.slice.injEq, true_and] at hv
   obtain ⟨rfl, rfl⟩ := hv
   have c1 : wr.cell? ⟨b, off + j, none⟩ = some (.bool x) := by
    have := (h5.below hI.below (by omega)) 0 (.bool x) rfl
    rwa [Nat.add_zero, show j * bool2.k = j from Nat.mul_one j] at this
   obtain ⟨hs, hf⟩ := hI.stores (Below.refl _ wr) hlt x
   have hs' : (wr.cell? ⟨w.heap.size, j, none⟩).isSome = true := hs j (by show j * 1 ≤ j; omega) (by show j < j * 1 + 1; omega)
   have hf' : wr.frozen? ⟨w.heap.size, j, none⟩ = false := hf j (by show j * 1 ≤ j; omega) (by show j < j * 1 + 1; omega)
   have HI : Hid (ToG bool2 w w.heap.size ps j wr) := hI
   have HE : Hid (ps[j]? = some x) := hx
   clear hI hx hs hf h5
   go_wp2_with (refine wpList_store1G Tryz.sizeOf4 (z := .bool x) _ _ rfl rfl rfl rfl rfl rfl hs' hf' ?_)
   intro u L
   have HN : Hid (ToG bool2 w w.heap.size ps (j + 1) u) := HI.out.next HE.out (Below.refl _ _) (by
    show LaidG wr u w.heap.size (j * 1) [.bool x]
    rw [Nat.mul_one]; exact L)
   clear hs' hf' L
   go_wp2
   go_roundw
   case rel => exact ⟨j + 1, by omega, by go_num, HN.out⟩
   case measure => simp [intOf]; omega
  ·obtain rfl : j = ps.length := by omega
   have HI : Hid (ToG bool2 w w.heap.size ps ps.length wr) := hI
   clear hI
   go_wp2
   go_ret
   have hI := HI.out
   have hS := hI.size
   exact ⟨_, rfl, (hI.go (by unfold maxLen; omega)).wide (Nat.le_refl _) (by omega), hI.below⟩

theorem szBoolS_any (w : World) (lo hi : Nat) (v : Value) (ps : List Bool) (left : Int) (h : GR bool2 w lo hi v ps) (hl : 0 ≤ left) (hl' : left ≤ 1048576) :
  Calls Tryz.prog 99 #[v, .int .i64 left] w fun e w' => e = .returned (.int .i64 (if left < ps.length then -1 else left - ps.length)) ∧ w' = w := by
 obtain ⟨a, cap, rfl, h1, h2⟩ := h.shape
 clear h
 unfold maxLen at h2
 by_cases h : left < ps.length
 ·rw [if_pos h]
  go_enter Tryz.func99, Tryz.ntmps99
  go_wp2
  go_ret
  exact ⟨rfl, rfl⟩
 ·rw [if_neg h]
  go_enter Tryz.func99, Tryz.ntmps99
  go_wp2
  go_ret
  exact ⟨rfl, rfl⟩

theorem zero_marksT : (Tryz.prog.info? 48).map (fun i => (i.zero, i.size)) = some (some (.agg [Value.slice none 0 0, Value.slice none 0 0].toArray), 2) := by kernel_rfl

theorem slicesM_one {x y : Value} (hx : x.oneCell' = true) (hy : y.oneCell' = true) : ∀ v ∈ [x, y], v.oneCell' = true := by
 intro v hv; simp only [List.mem_cons, List.not_mem_nil, or_false] at hv
 rcases hv with rfl | rfl
 ·exact hx
 ·exact hy

set_option maxHeartbeats 8000000 in
theorem toMarks_any (w : World) (lo hi : Nat) (v : Value) (n : MarksD) (h : MkR w lo hi v n) (hhi : hi ≤ w.heap.size) (hm : n.many ≤ 1048576) :
  Calls Tryz.prog 93 #[v] w fun e w' => ∃ v', e = .returned v' ∧ MkO w' w.heap.size w'.heap.size v' n ∧ Below w.heap.size w w' := by
 have hZ := (zero_of_info (P := Tryz.prog) zero_marksT).1
 obtain ⟨va, vb, rfl, hA, hB⟩ := h
 obtain ⟨ad, cap, rfl, _, _⟩ := hA.shape
 obtain ⟨ad', cap', rfl, _, _⟩ := hB.shape
 have HA : Hid (GR bool2 w lo hi (.slice ad n.on.length cap) n.on ∧ GR bool2 w lo hi (.slice ad' n.kept.length cap') n.kept) := ⟨hA, hB⟩
 clear hA hB
 unfold MarksD.many at hm
 have hm1 : n.on.length ≤ 1048576 := by omega
 have hm2 : n.kept.length ≤ 1048576 := by omega
 clear hm
 go_enter Tryz.func93, Tryz.ntmps93
 go_wp2_with (refine wpList_boxG (vs := [.slice ad n.on.length cap, .slice ad' n.kept.length cap']) rfl _ rfl rfl ?_)
 intro u1 g1 p1 s1
 go_wp2_with (refine wpList_allocG hZ rfl rfl ?_)
 intro u2 g2 q2 s2
 replace p1 := p1.below g2 (by omega)
 have G2 := g1.trans (g2.mono (by omega))
 clear g1 g2
 go_wp2_with (refine wpList_allocG hZ rfl rfl ?_)
 intro u3 g3 r3 s3
 have p3 := p1.below g3 (by omega)
 have q3 := q2.below g3 (by omega)
 have G3 := G2.trans (g3.mono (by omega))
 clear g3 G2 p1 q2
 have c0 : u3.cell? ⟨w.heap.size, 0, none⟩ = some (.slice ad n.on.length cap) := p3.c 0 _ rfl
 go_wp2_with fail
 clear c0
 refine (toBoolS_any _ lo hi _ n.on (HA.out.1.under G3 hhi) (by omega) hm1).mono ?_
 rintro e4 u4 ⟨v4, rfl, O4, g4⟩
 have s4 := g4.size
 obtain ⟨ad4, cap4, rfl, _, _⟩ := O4.gr.shape
 have p4 := p3.below g4 (by omega)
 have q4 := q3.below g4 (by omega)
 have r4 := r3.below g4 (by omega)
 have G4 := G3.trans (g4.mono (by omega))
 clear g4 p3 q3 r3 G3
 go_wp2_with (refine wpList_store1G Tryz.sizeOf44 _ _ rfl rfl rfl rfl rfl rfl (r4.one (show 0 < 2 by decide)) (r4.f _) ?_)
 intro u5 L
 have s5 := L.size
 have r5 := r4.laid L (ws := [.slice ad4 n.on.length cap4, .slice none 0 0]) rfl (show 0 + 1 ≤ 2 by decide)
 have p5 := L.other p4 (by omega)
 have q5 := L.other q4 (by omega)
 have O5 := O4.kept fun k h1 h2 => L.block k (by omega)
 have G5 := L.below _ _ (by omega) G4
 clear L r4 p4 q4 G4 O4
 have c1 : u5.cell? ⟨w.heap.size, 1, none⟩ = some (.slice ad' n.kept.length cap') := p5.c 1 _ rfl
 go_wp2_with fail
 clear c1
 refine (toBoolS_any _ lo hi _ n.kept (HA.out.2.under G5 hhi) (by omega) hm2).mono ?_
 rintro e6 u6 ⟨v6, rfl, O6, g6⟩
 have s6 := g6.size
 obtain ⟨ad6, cap6, rfl, _, _⟩ := O6.gr.shape
 have p6 := p5.below g6 (by omega)
 have q6 := q5.below g6 (by omega)
 have r6 := r5.below g6 (by omega)
 replace O5 := O5.under g6 (by omega)
 have G6 := G5.trans (g6.mono (by omega))
 clear g6 p5 q5 r5 G5
 go_wp2_with (refine wpList_store1G Tryz.sizeOf44 _ _ rfl rfl rfl rfl rfl rfl (r6.one (show 1 < 2 by decide)) (r6.f _) ?_)
 intro u7 L
 have s7 := L.size
 have r7 := r6.laid L (ws := [.slice ad4 n.on.length cap4, .slice ad6 n.kept.length cap6]) rfl (show 1 + 1 ≤ 2 by decide)
 have q7 := L.other q6 (by omega)
 have O7 := O5.kept fun k h1 h2 => L.block k (by omega)
 have O7' := O6.kept fun k h1 h2 => L.block k (by omega)
 have G7 := L.below _ _ (by omega) G6
 clear L r6 p6 q6 G6 O5 O6
 have hr := q7.run 0 2 (show 0 + 2 ≤ 2 by decide)
 go_wp2_with (first
  | refine wpList_loadG Tryz.isAgg48 Tryz.sizeOf48 _ rfl rfl rfl rfl r7.c ?_
  | refine wpList_storeG Tryz.sizeOf48 _ _ rfl rfl rfl rfl rfl (slicesM_one rfl rfl) hr.1 hr.2 ?_)
 intro u8 L
 have s8 := L.size
 have q8 := L.var q7
 have O8 := O7.kept fun k h1 h2 => L.block k (by omega)
 have O8' := O7'.kept fun k h1 h2 => L.block k (by omega)
 have G8 := L.below _ _ (by omega) G7
 clear L r7 q7 G7 O7 O7' hr
 go_wp2
 refine bodyPost_ret (v := .agg [.slice ad4 n.on.length cap4, .slice ad6 n.kept.length cap6].toArray) ?_ rfl ⟨_, rfl, ⟨_, _, _, _, _, _, rfl, O8, O8', ⟨by omega, by omega⟩, ⟨by omega, by omega⟩, by omega⟩, G8⟩
 simp [results, Tryz.results93]
 exact run_loadVarG (P := Tryz.prog) Tryz.isAgg48 Tryz.sizeOf48 rfl q8.c

set_option maxHeartbeats 1000000 in
theorem szMarks_any (w : World) (lo hi : Nat) (m : Value) (d : MarksD) (left : Int) (h : MkR w lo hi m d) (hhi : hi ≤ w.heap.size) (hl : 0 ≤ left) (hl' : left ≤ 1048576) :
  Calls Tryz.prog 89 #[m, .int .i64 left] w fun e w' => e = .returned (.int .i64 (if left < d.many then -1 else left - d.many)) ∧ Below w.heap.size w w' := by
 obtain ⟨a, b, rfl, ha, hb⟩ := h
 obtain ⟨ad, cap, rfl, _, _⟩ := ha.shape
 obtain ⟨ad', cap', rfl, _, _⟩ := hb.shape
 have sa := fun o => ha.under (w' := w.alloc o) ((Below.refl _ _).alloc (Nat.le_refl _) o) hhi
 have sb := fun o => hb.under (w' := w.alloc o) ((Below.refl _ _).alloc (Nat.le_refl _) o) hhi
 clear ha hb
 unfold MarksD.many
 by_cases h1 : left < d.on.length
 ·rw [if_pos (by omega)]
  go_enter Tryz.func89, Tryz.ntmps89
  go_wp2_with fail
  refine (szBoolS_any _ lo hi _ d.on _ (sa _) hl hl').mono ?_
  rw [if_pos (by omega)]
  rintro e w1 ⟨rfl, rfl⟩
  go_wp2
  go_ret
  exact ⟨rfl, (Below.refl _ _).alloc (Nat.le_refl _) _⟩
 ·by_cases h2 : left - d.on.length < d.kept.length
  ·rw [if_pos (by omega)]
   go_enter Tryz.func89, Tryz.ntmps89
   go_wp2_with fail
   refine (szBoolS_any _ lo hi _ d.on _ (sa _) hl hl').mono ?_
   rw [if_neg (by omega)]
   rintro e w1 ⟨rfl, rfl⟩
   go_wp2_with fail
   refine (szBoolS_any _ lo hi _ d.kept _ (sb _) (by omega) (by omega)).mono ?_
   rw [if_pos (by omega)]
   rintro e w1 ⟨rfl, rfl⟩
   go_wp2
   go_ret
   exact ⟨rfl, (Below.refl _ _).alloc (Nat.le_refl _) _⟩
  ·rw [if_neg (by omega)]
   go_enter Tryz.func89, Tryz.ntmps89
   go_wp2_with fail
   refine (szBoolS_any _ lo hi _ d.on _ (sa _) hl hl').mono ?_
   rw [if_neg (by omega)]
   rintro e w1 ⟨rfl, rfl⟩
   go_wp2_with fail
   refine (szBoolS_any _ lo hi _ d.kept _ (sb _) (by omega) (by omega)).mono ?_
   rw [if_neg (by omega)]
   rintro e w1 ⟨rfl, rfl⟩
   go_wp2
   go_ret
   exact ⟨ret_int (by omega), (Below.refl _ _).alloc (Nat.le_refl _) _⟩
end Go.Proofs.YtaoiookfmgpmkaaGreatDoor

/-
 The laws' szState and toState. (Written by our generator gen_stateto.py.)
-/
namespace Go.Proofs.YtaoiookfmgpmkaaGreatDoor
open Go.ChangeShapes Go.WideShapes Go.ChangeAt Go.RowKit
set_option linter.unusedVariables false
set_option linter.unusedSimpArgs false
set_option maxRecDepth 100000

def StateD.many (m : StateD) : Nat := m.bs.length + m.ls.length
theorem info_blockT : (Tryz.prog.info? 165).map (fun i => (i.zero, i.size, i.bytes)) = some (some (.agg (blockC ⟨0, 0, false, false, 0⟩).toArray), 5, 32) := by kernel_rfl
set_option maxHeartbeats 2000000 in
theorem toBlockS_any (w : World) (lo hi : Nat) (v : Value) (ps : List BlockD) (h : GR blockE w lo hi v ps) (hhi : hi ≤ w.heap.size) (hm : ps.length ≤ 1048576) :
  Calls Tryz.prog 105 #[v] w fun e w' => ∃ v', e = .returned v' ∧ GO blockE w' w.heap.size w'.heap.size v' ps ∧ Below w.heap.size w w' := by
 obtain ⟨ad, cap, rfl, hc1, hc2⟩ := h.shape
 obtain ⟨i0, hi0, hz0, hz1, hz2⟩ := info_parts info_blockT
 have HK : Hid (GR blockE w lo hi (.slice ad ps.length cap) ps) := h
 clear h hc1 hc2
 go_enter Tryz.func105, Tryz.ntmps105
 go_wp2_with (at_make; refine wpList_make_full _ rfl _ _ 43 rfl w.heap.size 165 i0 (.agg (blockC ⟨0, 0, false, false, 0⟩).toArray) 5 Tryz.underlying43 hi0 hz0 hz1 .i64 .i64 _ _ ps.length rfl rfl rfl rfl (by rw [hz2]; omega) (by unfold maxLen; omega) (Nat.le_refl _) ?_; intro w1 hown hgrow)
 have hI : ToG blockE w w.heap.size ps 0 w1 := toG_start (E := blockE) hown hgrow
 clear hown hgrow hz0 hz1 hz2 hi0
 go_loopw [4] (fun i wr => ∃ j : Nat, j ≤ ps.length ∧ i = .int .i64 j ∧ ToG blockE w w.heap.size ps j wr) (fun i _ => ps.length - (intOf i).toNat)
 case atStart => exact ⟨0, Nat.zero_le _, rfl, hI⟩
 case round =>
  clear hI
  obtain ⟨j, hj, rfl, hI⟩ := hrel
  by_cases hlt : j < ps.length
  ·obtain ⟨p, he⟩ : ∃ p, ps[j]? = some p := ⟨ps[j], List.getElem?_eq_getElem hlt⟩
   obtain ⟨b, off, cap', hv, hb1, hb2, h5⟩ := HK.out.at_ he
   simp only [Value.slice.injEq, true_and] at hv
   obtain ⟨rfl, rfl⟩ := hv
   have hb := hI.below
   have hc : CV wr b (off + j * 5) (blockC p) := h5.kept (hb.block b (by omega))
   have hz : Calls Tryz.prog 182 #[.agg (blockC p).toArray] wr fun e w' => e = .returned (.agg (blockC p).toArray) ∧ Below wr.heap.size wr w' := toBlock_any wr p
   have HI : Hid (ToG blockE w w.heap.size ps j wr) := hI
   have HE : Hid (ps[j]? = some p) := he
   clear hI hb he h5
   go_wp2_with (refine wpList_loadG Tryz.isAgg248 Tryz.sizeOf248 _ rfl rfl rfl rfl hc ?_)
   refine hz.mono ?_
   rintro e1 w2 ⟨rfl, g2⟩
   obtain ⟨hs, hf⟩ := HI.out.stores g2 hlt p
   have hs : ∀ y, j * 5 ≤ y → y < j * 5 + (blockC p).length → (w2.cell? ⟨w.heap.size, y, none⟩).isSome = true := hs
   have hf : ∀ y, j * 5 ≤ y → y < j * 5 + (blockC p).length → w2.frozen? ⟨w.heap.size, y, none⟩ = false := hf
   clear hc hz
   go_wp2_with (refine wpList_storeG Tryz.sizeOf165 _ _ rfl rfl rfl rfl rfl (blockC_one p) hs hf ?_)
   intro u L
   have HN : Hid (ToG blockE w w.heap.size ps (j + 1) u) := HI.out.next HE.out g2 L
   clear hs hf L g2
   go_wp2
   go_roundw
   case rel => exact ⟨j + 1, by omega, by go_num, HN.out⟩
   case measure => simp [intOf]; omega
  ·obtain rfl : j = ps.length := by omega
   have HI : Hid (ToG blockE w w.heap.size ps ps.length wr) := hI
   clear hI
   go_wp2
   go_ret
   exact ⟨_, rfl, HI.out.go (by unfold maxLen; omega), HI.out.below⟩

theorem szBlockS_any (w : World) (lo hi : Nat) (v : Value) (ps : List BlockD) (left : Int) (h : GR blockE w lo hi v ps) (hl : 0 ≤ left) (hl' : left ≤ 1048576) :
  Calls Tryz.prog 98 #[v, .int .i64 left] w fun e w' => e = .returned (.int .i64 (if left < ps.length then -1 else left - ps.length)) ∧ w' = w := by
 obtain ⟨a, cap, rfl, h1, h2⟩ := h.shape
 clear h
 unfold maxLen at h2
 by_cases h : left < ps.length
 ·rw [if_pos h]
  go_enter Tryz.func98, Tryz.ntmps98
  go_wp2
  go_ret
  exact ⟨rfl, rfl⟩
 ·rw [if_neg h]
  go_enter Tryz.func98, Tryz.ntmps98
  go_wp2
  go_ret
  exact ⟨rfl, rfl⟩

theorem zero_stateT : (Tryz.prog.info? 46).map (fun i => (i.zero, i.size)) = some (some (.agg [Value.slice none 0 0, Value.slice none 0 0].toArray), 2) := by kernel_rfl

theorem slicesSt_one {x y : Value} (hx : x.oneCell' = true) (hy : y.oneCell' = true) : ∀ v ∈ [x, y], v.oneCell' = true := by
 intro v hv; simp only [List.mem_cons, List.not_mem_nil, or_false] at hv
 rcases hv with rfl | rfl
 ·exact hx
 ·exact hy

set_option maxHeartbeats 8000000 in
theorem toState_any (w : World) (lo hi : Nat) (v : Value) (n : StateD) (h : StR w lo hi v n) (hhi : hi ≤ w.heap.size) (hm : n.many ≤ 1048576) :
  Calls Tryz.prog 34 #[v] w fun e w' => ∃ v', e = .returned v' ∧ StO w' w.heap.size w'.heap.size v' n ∧ Below w.heap.size w w' := by
 have hZ := (zero_of_info (P := Tryz.prog) zero_stateT).1
 obtain ⟨va, vb, rfl, hA, hB⟩ := h
 obtain ⟨ad, cap, rfl, _, _⟩ := hA.shape
 obtain ⟨ad', cap', rfl, _, _⟩ := hB.shape
 have HA : Hid (GR blockE w lo hi (.slice ad n.bs.length cap) n.bs ∧ GR bool2 w lo hi (.slice ad' n.ls.length cap') n.ls) := ⟨hA, hB⟩
 clear hA hB
 unfold StateD.many at hm
 have hm1 : n.bs.length ≤ 1048576 := by omega
 have hm2 : n.ls.length ≤ 1048576 := by omega
 clear hm
 go_enter Tryz.func34, Tryz.ntmps34
 go_wp2_with (refine wpList_boxG (vs := [.slice ad n.bs.length cap, .slice ad' n.ls.length cap']) rfl _ rfl rfl ?_)
 intro u1 g1 p1 s1
 go_wp2_with (refine wpList_allocG hZ rfl rfl ?_)
 intro u2 g2 q2 s2
 replace p1 := p1.below g2 (by omega)
 have G2 := g1.trans (g2.mono (by omega))
 clear g1 g2
 go_wp2_with (refine wpList_allocG hZ rfl rfl ?_)
 intro u3 g3 r3 s3
 have p3 := p1.below g3 (by omega)
 have q3 := q2.below g3 (by omega)
 have G3 := G2.trans (g3.mono (by omega))
 clear g3 G2 p1 q2
 have c0 : u3.cell? ⟨w.heap.size, 0, none⟩ = some (.slice ad n.bs.length cap) := p3.c 0 _ rfl
 go_wp2_with fail
 clear c0
 refine (toBlockS_any _ lo hi _ n.bs (HA.out.1.under G3 hhi) (by omega) hm1).mono ?_
 rintro e4 u4 ⟨v4, rfl, O4, g4⟩
 have s4 := g4.size
 obtain ⟨ad4, cap4, rfl, _, _⟩ := O4.gr.shape
 have p4 := p3.below g4 (by omega)
 have q4 := q3.below g4 (by omega)
 have r4 := r3.below g4 (by omega)
 have G4 := G3.trans (g4.mono (by omega))
 clear g4 p3 q3 r3 G3
 go_wp2_with (refine wpList_store1G Tryz.sizeOf43 _ _ rfl rfl rfl rfl rfl rfl (r4.one (show 0 < 2 by decide)) (r4.f _) ?_)
 intro u5 L
 have s5 := L.size
 have r5 := r4.laid L (ws := [.slice ad4 n.bs.length cap4, .slice none 0 0]) rfl (show 0 + 1 ≤ 2 by decide)
 have p5 := L.other p4 (by omega)
 have q5 := L.other q4 (by omega)
 have O5 := O4.kept fun k h1 h2 => L.block k (by omega)
 have G5 := L.below _ _ (by omega) G4
 clear L r4 p4 q4 G4 O4
 have c1 : u5.cell? ⟨w.heap.size, 1, none⟩ = some (.slice ad' n.ls.length cap') := p5.c 1 _ rfl
 go_wp2_with fail
 clear c1
 refine (toBoolS_any _ lo hi _ n.ls (HA.out.2.under G5 hhi) (by omega) hm2).mono ?_
 rintro e6 u6 ⟨v6, rfl, O6, g6⟩
 have s6 := g6.size
 obtain ⟨ad6, cap6, rfl, _, _⟩ := O6.gr.shape
 have p6 := p5.below g6 (by omega)
 have q6 := q5.below g6 (by omega)
 have r6 := r5.below g6 (by omega)
 replace O5 := O5.under g6 (by omega)
 have G6 := G5.trans (g6.mono (by omega))
 clear g6 p5 q5 r5 G5
 go_wp2_with (refine wpList_store1G Tryz.sizeOf44 _ _ rfl rfl rfl rfl rfl rfl (r6.one (show 1 < 2 by decide)) (r6.f _) ?_)
 intro u7 L
 have s7 := L.size
 have r7 := r6.laid L (ws := [.slice ad4 n.bs.length cap4, .slice ad6 n.ls.length cap6]) rfl (show 1 + 1 ≤ 2 by decide)
 have q7 := L.other q6 (by omega)
 have O7 := O5.kept fun k h1 h2 => L.block k (by omega)
 have O7' := O6.kept fun k h1 h2 => L.block k (by omega)
 have G7 := L.below _ _ (by omega) G6
 clear L r6 p6 q6 G6 O5 O6
 have hr := q7.run 0 2 (show 0 + 2 ≤ 2 by decide)
 go_wp2_with (first
  | refine wpList_loadG Tryz.isAgg46 Tryz.sizeOf46 _ rfl rfl rfl rfl r7.c ?_
  | refine wpList_storeG Tryz.sizeOf46 _ _ rfl rfl rfl rfl rfl (slicesSt_one rfl rfl) hr.1 hr.2 ?_)
 intro u8 L
 have s8 := L.size
 have q8 := L.var q7
 have O8 := O7.kept fun k h1 h2 => L.block k (by omega)
 have O8' := O7'.kept fun k h1 h2 => L.block k (by omega)
 have G8 := L.below _ _ (by omega) G7
 clear L r7 q7 G7 O7 O7' hr
 go_wp2
 refine bodyPost_ret (v := .agg [.slice ad4 n.bs.length cap4, .slice ad6 n.ls.length cap6].toArray) ?_ rfl ⟨_, rfl, ⟨_, _, _, _, _, _, rfl, O8, O8', ⟨by omega, by omega⟩, ⟨by omega, by omega⟩, by omega⟩, G8⟩
 simp [results, Tryz.results34]
 exact run_loadVarG (P := Tryz.prog) Tryz.isAgg46 Tryz.sizeOf46 rfl q8.c

set_option maxHeartbeats 1000000 in
theorem szState_any (w : World) (lo hi : Nat) (m : Value) (d : StateD) (left : Int) (h : StR w lo hi m d) (hhi : hi ≤ w.heap.size) (hl : 0 ≤ left) (hl' : left ≤ 1048576) :
  Calls Tryz.prog 31 #[m, .int .i64 left] w fun e w' => e = .returned (.int .i64 (if left < d.many then -1 else left - d.many)) ∧ Below w.heap.size w w' := by
 obtain ⟨a, b, rfl, ha, hb⟩ := h
 obtain ⟨ad, cap, rfl, _, _⟩ := ha.shape
 obtain ⟨ad', cap', rfl, _, _⟩ := hb.shape
 have sa := fun o => ha.under (w' := w.alloc o) ((Below.refl _ _).alloc (Nat.le_refl _) o) hhi
 have sb := fun o => hb.under (w' := w.alloc o) ((Below.refl _ _).alloc (Nat.le_refl _) o) hhi
 clear ha hb
 unfold StateD.many
 by_cases h1 : left < d.bs.length
 ·rw [if_pos (by omega)]
  go_enter Tryz.func31, Tryz.ntmps31
  go_wp2_with fail
  refine (szBlockS_any _ lo hi _ d.bs _ (sa _) hl hl').mono ?_
  rw [if_pos (by omega)]
  rintro e w1 ⟨rfl, rfl⟩
  go_wp2
  go_ret
  exact ⟨rfl, (Below.refl _ _).alloc (Nat.le_refl _) _⟩
 ·by_cases h2 : left - d.bs.length < d.ls.length
  ·rw [if_pos (by omega)]
   go_enter Tryz.func31, Tryz.ntmps31
   go_wp2_with fail
   refine (szBlockS_any _ lo hi _ d.bs _ (sa _) hl hl').mono ?_
   rw [if_neg (by omega)]
   rintro e w1 ⟨rfl, rfl⟩
   go_wp2_with fail
   refine (szBoolS_any _ lo hi _ d.ls _ (sb _) (by omega) (by omega)).mono ?_
   rw [if_pos (by omega)]
   rintro e w1 ⟨rfl, rfl⟩
   go_wp2
   go_ret
   exact ⟨rfl, (Below.refl _ _).alloc (Nat.le_refl _) _⟩
  ·rw [if_neg (by omega)]
   go_enter Tryz.func31, Tryz.ntmps31
   go_wp2_with fail
   refine (szBlockS_any _ lo hi _ d.bs _ (sa _) hl hl').mono ?_
   rw [if_neg (by omega)]
   rintro e w1 ⟨rfl, rfl⟩
   go_wp2_with fail
   refine (szBoolS_any _ lo hi _ d.ls _ (sb _) (by omega) (by omega)).mono ?_
   rw [if_neg (by omega)]
   rintro e w1 ⟨rfl, rfl⟩
   go_wp2
   go_ret
   exact ⟨ret_int (by omega), (Below.refl _ _).alloc (Nat.le_refl _) _⟩
end Go.Proofs.YtaoiookfmgpmkaaGreatDoor
