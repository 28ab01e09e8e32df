/-
  Marks of charts in memory: two lists of bools; eqMarks, markMarks, heldMarks.
-/
import Derived.Test.YtaoiookfmgpmkaaGreatDoorBoolKit
namespace Go.Proofs.YtaoiookfmgpmkaaGreatDoor
open Go.ChangeShapes Go.WideShapes Go.ChangeAt Go.RowKit
set_option linter.unusedVariables false
set_option linter.unusedSimpArgs false
set_option maxRecDepth 100000

structure MarksD where
  on : List Bool
  kept : List Bool
deriving DecidableEq

/-- Marks that can be read. -/
def MkR (w : World) (lo hi : Nat) (v : Value) (m : MarksD) : Prop := ∃ a b, v = .agg #[a, b] ∧ GR bool2 w lo hi a m.on ∧ GR bool2 w lo hi b m.kept
/-- Marks that are owned, the two lists apart. -/
def MkO (w : World) (lo hi : Nat) (v : Value) (m : MarksD) : Prop := ∃ a b l1 h1 l2 h2, v = .agg #[a, b] ∧ GO bool2 w l1 h1 a m.on ∧ GO bool2 w l2 h2 b m.kept ∧ (lo ≤ l1 ∧ h1 ≤ hi) ∧ (lo ≤ l2 ∧ h2 ≤ hi) ∧ (h1 ≤ l2 ∨ h2 ≤ l1)

theorem MkO.r {w : World} {lo hi : Nat} {v : Value} {m : MarksD} (h : MkO w lo hi v m) : MkR w lo hi v m := by
  obtain ⟨a, b, l1, h1, l2, h2, hv, ha, hb, q1, q2, _⟩ := h
  exact ⟨a, b, hv, ha.gr.wide q1.1 q1.2, hb.gr.wide q2.1 q2.2⟩
theorem MkR.under {w w' : World} {lo hi n : Nat} {v : Value} {m : MarksD} (h : MkR w lo hi v m) (hb : Below n w w') (hn : hi ≤ n) : MkR w' lo hi v m := by
  obtain ⟨a, b, hv, h1, h2⟩ := h; exact ⟨a, b, hv, h1.under hb hn, h2.under hb hn⟩
theorem MkO.kept_ {w w' : World} {lo hi : Nat} {v : Value} {m : MarksD} (h : MkO w lo hi v m) (hk : ∀ k, lo ≤ k → k < hi → w'.heap[k]? = w.heap[k]?) : MkO w' lo hi v m := by
  obtain ⟨a, b, l1, h1, l2, h2, hv, ha, hb, q1, q2, q3⟩ := h
  exact ⟨a, b, l1, h1, l2, h2, hv, ha.kept fun k r1 r2 => hk k (by omega) (by omega), hb.kept fun k r1 r2 => hk k (by omega) (by omega), q1, q2, q3⟩
theorem MkO.below {w w' : World} {lo hi n : Nat} {v : Value} {m : MarksD} (h : MkO w lo hi v m) (hb : Below n w w') (hn : hi ≤ n) : MkO w' lo hi v m := h.kept_ fun k _ hk => hb.block k (by omega)
theorem MkO.out {w w' : World} {lo hi lo' hi' : Nat} {v : Value} {m : MarksD} (h : MkO w lo hi v m) (g : Out lo' hi' w w') (h1 : hi ≤ lo' ∨ hi' ≤ lo) (hs : hi ≤ w.heap.size) : MkO w' lo hi v m := h.kept_ fun k q1 q2 => g.block k (by omega) (by omega)
theorem MkO.wide {w : World} {lo hi lo' hi' : Nat} {v : Value} {m : MarksD} (h : MkO w lo hi v m) (hl : lo' ≤ lo) (hh : hi ≤ hi') : MkO w lo' hi' v m := by
  obtain ⟨a, b, l1, h1, l2, h2, hv, ha, hb, q1, q2, q3⟩ := h
  exact ⟨a, b, l1, h1, l2, h2, hv, ha, hb, ⟨by omega, by omega⟩, ⟨by omega, by omega⟩, q3⟩
theorem MkO.shape {w : World} {lo hi : Nat} {v : Value} {q : MarksD} (h : MkO w lo hi v q) : ∃ a c b e, v = .agg #[.slice a q.on.length c, .slice b q.kept.length e] := by
  obtain ⟨a, b, l1, h1, l2, h2, rfl, ha, hb, _⟩ := h
  obtain ⟨x, c, rfl⟩ := ha.shapeO
  obtain ⟨y, e, rfl⟩ := hb.shapeO
  exact ⟨x, c, y, e, rfl⟩

def MkOn (m : MarksD) : Nat := m.on.length + m.kept.length
def mkMarks (k : Int) (m : MarksD) : MarksD := ⟨marksG bool2 mB k m.on.length, marksG bool2 mB (k + (m.on.length : Int)) m.kept.length⟩

set_option maxHeartbeats 2000000 in
theorem eqMkO_same (w : World) (lo hi lo' hi' : Nat) (va vb : Value) (m : MarksD) (ha : MkR w lo hi va m) (hb : MkR w lo' hi' vb m) (hhi : hi ≤ w.heap.size) (hhi' : hi' ≤ w.heap.size) :
    Calls Tryz.prog 73 #[va, vb] w fun e w' => e = .returned (.bool true) ∧ Below w.heap.size w w' := by
  obtain ⟨xa, xb, rfl, hxa, hxb⟩ := ha
  obtain ⟨ya, yb, rfl, hya, hyb⟩ := hb
  obtain ⟨ad1, cap1, rfl, _, _⟩ := hxa.shape
  obtain ⟨ad2, cap2, rfl, _, _⟩ := hxb.shape
  obtain ⟨ad3, cap3, rfl, _, _⟩ := hya.shape
  obtain ⟨ad4, cap4, rfl, _, _⟩ := hyb.shape
  have HK : Hid ((GR bool2 w lo hi (.slice ad1 m.on.length cap1) m.on ∧ GR bool2 w lo hi (.slice ad2 m.kept.length cap2) m.kept) ∧ (GR bool2 w lo' hi' (.slice ad3 m.on.length cap3) m.on ∧ GR bool2 w lo' hi' (.slice ad4 m.kept.length cap4) m.kept)) := ⟨⟨hxa, hxb⟩, hya, hyb⟩
  clear hxa hxb hya hyb
  go_enter Tryz.func73, Tryz.ntmps73
  go_wp2_with (refine wpList_boxG (vs := [.slice ad1 m.on.length cap1, .slice ad2 m.kept.length cap2]) rfl _ rfl rfl ?_)
  intro u1 g1 p1 s1
  go_wp2_with (refine wpList_boxG (vs := [.slice ad3 m.on.length cap3, .slice ad4 m.kept.length cap4]) rfl _ rfl rfl ?_)
  intro u2 g2 q2 s2
  have p2 := p1.below g2 (by omega)
  have G2 := g1.trans (g2.mono (by omega))
  clear g1 g2 p1
  have c0 : u2.cell? ⟨w.heap.size, 0, none⟩ = some (.slice ad1 m.on.length cap1) := p2.c 0 _ rfl
  have d0 : u2.cell? ⟨w.heap.size + 1, 0, none⟩ = some (.slice ad3 m.on.length cap3) := q2.c 0 _ rfl
  go_wp2_with fail
  clear c0 d0
  refine (eqBoolS_same _ _ _ _ _ _ _ m.on (HK.out.1.1.under G2 hhi) (HK.out.2.1.under G2 hhi') (by omega) (by omega)).mono ?_
  rintro e3 u3 ⟨rfl, g3⟩
  have z3 := g3.size
  have c1 : u3.cell? ⟨w.heap.size, 1, none⟩ = some (.slice ad2 m.kept.length cap2) := (p2.below g3 (by omega)).c 1 _ rfl
  have d1 : u3.cell? ⟨w.heap.size + 1, 1, none⟩ = some (.slice ad4 m.kept.length cap4) := (q2.below g3 (by omega)).c 1 _ rfl
  have G3 := G2.trans (g3.mono (by omega))
  clear g3 G2 p2 q2
  go_wp2_with fail
  clear c1 d1
  refine (eqBoolS_same _ _ _ _ _ _ _ m.kept (HK.out.1.2.under G3 hhi) (HK.out.2.2.under G3 hhi') (by omega) (by omega)).mono ?_
  rintro e4 u4 ⟨rfl, g4⟩
  have G4 := G3.trans (g4.mono (by omega))
  clear g4 G3
  go_wp2
  go_ret
  exact ⟨rfl, G4⟩

set_option maxHeartbeats 4000000 in
theorem markMkO_any (w : World) (lo hi : Nat) (v : Value) (m : MarksD) (k : Int) (h : MkO w lo hi v m) (hhi : hi ≤ w.heap.size) (hx : m.on.length ≤ 6 ∧ m.kept.length ≤ 6) (hk : 0 ≤ k ∧ k ≤ 1000000) :
    Calls Tryz.prog 84 #[v, .int .i64 k] w fun e w' => e = .returned (.int .i64 (k + (MkOn m : Int))) ∧ MkO w' lo hi v (mkMarks k m) ∧ Out lo hi w w' := by
  obtain ⟨va, vb, l1, h1, l2, h2, rfl, hA, hB, q1, q2, q3⟩ := h
  obtain ⟨ad, cap, rfl⟩ := hA.shapeO
  obtain ⟨ad', cap', rfl⟩ := hB.shapeO
  obtain ⟨x1, x2⟩ := hx
  obtain ⟨k1, k2⟩ := hk
  have HW : Hid (GO bool2 w l1 h1 (.slice ad m.on.length cap) m.on ∧ GO bool2 w l2 h2 (.slice ad' m.kept.length cap') m.kept) := ⟨hA, hB⟩
  clear hA hB
  go_enter Tryz.func84, Tryz.ntmps84
  go_wp2_with (refine wpList_boxG (vs := [.slice ad m.on.length cap, .slice ad' m.kept.length cap']) rfl _ rfl rfl ?_)
  intro u1 g1 p1 s1
  have c0 : u1.cell? ⟨w.heap.size, 0, none⟩ = some (.slice ad m.on.length cap) := p1.c 0 _ rfl
  go_wp2_with fail
  clear c0
  refine (markBoolS_any u1 l1 h1 _ m.on k (HW.out.1.under g1 (by omega)) (by omega) (by omega) k1 (by omega)).mono ?_
  rintro e2 u2 ⟨rfl, A2, o2⟩
  have s2 := o2.size
  have O2 : Out lo hi w u2 := (out_of_below g1 lo hi).trans (o2.widen (by omega) (by omega))
  have p2 : VarG u2 w.heap.size [.slice ad m.on.length cap, .slice ad' m.kept.length cap'] := p1.at_ (o2.block w.heap.size (by omega) (by omega))
  have B2 : GO bool2 u2 l2 h2 (.slice ad' m.kept.length cap') m.kept := (HW.out.2.under g1 (by omega)).kept fun q r1 r2 => o2.block q (by omega) (by omega)
  obtain ⟨M, hM⟩ : ∃ z, k + (m.on.length : Int) = z := ⟨_, rfl⟩
  have HM : Hid (k + (m.on.length : Int) = M) := hM
  rw [hM]
  have b2 : 0 ≤ M ∧ M ≤ 50000000 := by omega
  have c1 : u2.cell? ⟨w.heap.size, 1, none⟩ = some (.slice ad' m.kept.length cap') := p2.c 1 _ rfl
  clear o2 hM p1 p2 g1
  go_wp2_with fail
  clear c1
  refine (markBoolS_any u2 l2 h2 _ m.kept M B2 (by omega) (by omega) b2.1 (by omega)).mono ?_
  rintro e3 u3 ⟨rfl, B3, o3⟩
  have A3 : GO bool2 u3 l1 h1 (.slice ad m.on.length cap) (marksG bool2 mB k m.on.length) := A2.out o3 (by omega) (by omega)
  have O3 : Out lo hi w u3 := O2.trans (o3.widen (by omega) (by omega))
  have HF : Hid (MkO u3 lo hi (.agg #[.slice ad m.on.length cap, .slice ad' m.kept.length cap']) (mkMarks k m)) :=
    ⟨_, _, l1, h1, l2, h2, rfl, A3, by unfold mkMarks; rw [HM.out]; exact B3, q1, q2, q3⟩
  have HS : Hid (M + (m.kept.length : Int) = k + (MkOn m : Int)) := by show _ = _; have := HM.out; unfold MkOn; omega
  clear o3 O2 A2 A3 B3 B2
  go_wp2
  go_ret
  exact ⟨ret_int HS.out, HF.out, O3⟩

set_option maxHeartbeats 4000000 in
theorem heldMkO_any (w : World) (lo hi : Nat) (v : Value) (m : MarksD) (k : Int) (h : MkO w lo hi v (mkMarks k m)) (hhi : hi ≤ w.heap.size) (hx : m.on.length ≤ 6 ∧ m.kept.length ≤ 6) (hk : 0 ≤ k ∧ k ≤ 1000000) :
    Calls Tryz.prog 88 #[v, .int .i64 k] w fun e w' => e = .returned (.int .i64 (k + (MkOn m : Int))) ∧ Below w.heap.size w w' := by
  obtain ⟨va, vb, rfl, hA, hB⟩ := h.r
  clear h
  have hA : GR bool2 w lo hi va (marksG bool2 mB k m.on.length) := hA
  have hB : GR bool2 w lo hi vb (marksG bool2 mB (k + (m.on.length : Int)) m.kept.length) := hB
  obtain ⟨ad, cap, rfl, _, _⟩ := hA.shape
  obtain ⟨ad', cap', rfl, _, _⟩ := hB.shape
  rw [marksG_length] at hA hB ⊢
  rw [marksG_length]
  obtain ⟨x1, x2⟩ := hx
  obtain ⟨k1, k2⟩ := hk
  have HW : Hid (GR bool2 w lo hi (.slice ad m.on.length cap) (marksG bool2 mB k m.on.length) ∧ GR bool2 w lo hi (.slice ad' m.kept.length cap') (marksG bool2 mB (k + (m.on.length : Int)) m.kept.length)) := ⟨hA, hB⟩
  clear hA hB
  go_enter Tryz.func88, Tryz.ntmps88
  go_wp2_with (refine wpList_boxG (vs := [.slice ad m.on.length cap, .slice ad' m.kept.length cap']) rfl _ rfl rfl ?_)
  intro u1 g1 p1 s1
  have c0 : u1.cell? ⟨w.heap.size, 0, none⟩ = some (.slice ad m.on.length cap) := p1.c 0 _ rfl
  go_wp2_with fail
  clear c0
  refine (heldBoolS_any u1 lo hi _ m.on.length k (HW.out.1.under g1 hhi) (by omega) (by omega) k1 (by omega)).mono ?_
  rintro e2 u2 ⟨rfl, rfl⟩
  have hB2 := HW.out.2.under g1 hhi
  obtain ⟨M, hM⟩ : ∃ z, k + (m.on.length : Int) = z := ⟨_, rfl⟩
  have HM : Hid (k + (m.on.length : Int) = M) := hM
  rw [hM] at hB2 ⊢
  have b2 : 0 ≤ M ∧ M ≤ 50000000 := by omega
  have n2 : ¬ (M < 0) := by omega
  have c1 : u2.cell? ⟨w.heap.size, 1, none⟩ = some (.slice ad' m.kept.length cap') := p1.c 1 _ rfl
  clear hM p1
  go_wp2_with fail
  clear c1
  refine (heldBoolS_any u2 lo hi _ m.kept.length M hB2 (by omega) (by omega) b2.1 (by omega)).mono ?_
  rintro e3 u3 ⟨rfl, rfl⟩
  have HS : Hid (M + (m.kept.length : Int) = k + (MkOn m : Int)) := by show _ = _; have := HM.out; unfold MkOn; omega
  obtain ⟨Q, hQ⟩ : ∃ z, M + (m.kept.length : Int) = z := ⟨_, rfl⟩
  have n3 : ¬ (Q < 0) := by omega
  rw [hQ] at HS ⊢
  clear hQ hB2
  go_wp2
  go_ret
  exact ⟨ret_int HS.out, g1⟩
end Go.Proofs.YtaoiookfmgpmkaaGreatDoor
