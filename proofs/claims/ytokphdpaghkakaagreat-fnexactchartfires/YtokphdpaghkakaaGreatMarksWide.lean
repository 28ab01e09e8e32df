/-
  The laws' markMarks and markMem, from any number on. (Written by our generator gen_wide.py.)
-/
import Derived.Test.YtokphdpaghkakaaGreatMarksTo
import Derived.Test.YtokphdpaghkakaaGreatM6
namespace Go.Proofs.YtokphdpaghkakaaGreat
open Go.ChangeShapes Go.WideShapes Go.ChangeAt Go.RowKit
set_option linter.unusedVariables false
set_option linter.unusedSimpArgs false
set_option maxRecDepth 100000

set_option maxHeartbeats 4000000 in
theorem markMkW_any (w : World) (lo hi : Nat) (v : Value) (m : MarksD) (k : Int) (h : MkO w lo hi v m) (hhi : hi ≤ w.heap.size) (hx : m.on.length ≤ 1048576 ∧ m.kept.length ≤ 1048576) (hk : 0 ≤ k ∧ k ≤ 200000000) :
    Calls Tryz.prog 20 #[v, .int .i64 k] w fun e w' => e = .returned (.int .i64 (k + (MkOn m : Int))) ∧ MkO w' lo hi v (mkMarks k m) ∧ Out lo hi w w' := by
  obtain ⟨va, vb, l1, h1, l2, h2, rfl, hA, hB, q1, q2, q3⟩ := h
  obtain ⟨ad, cap, rfl⟩ := hA.shapeO
  obtain ⟨ad', cap', rfl⟩ := hB.shapeO
  obtain ⟨x1, x2⟩ := hx
  obtain ⟨k1, k2⟩ := hk
  have HW : Hid (GO bool2 w l1 h1 (.slice ad m.on.length cap) m.on ∧ GO bool2 w l2 h2 (.slice ad' m.kept.length cap') m.kept) := ⟨hA, hB⟩
  clear hA hB
  go_enter Tryz.func20, Tryz.ntmps20
  go_wp2_with (refine wpList_boxG (vs := [.slice ad m.on.length cap, .slice ad' m.kept.length cap']) rfl _ rfl rfl ?_)
  intro u1 g1 p1 s1
  have c0 : u1.cell? ⟨w.heap.size, 0, none⟩ = some (.slice ad m.on.length cap) := p1.c 0 _ rfl
  go_wp2_with fail
  clear c0
  refine (markBoolS_any u1 l1 h1 _ m.on k (HW.out.1.under g1 (by omega)) (by omega) (by omega) k1 (by omega)).mono ?_
  rintro e2 u2 ⟨rfl, A2, o2⟩
  have s2 := o2.size
  have O2 : Out lo hi w u2 := (out_of_below g1 lo hi).trans (o2.widen (by omega) (by omega))
  have p2 : VarG u2 w.heap.size [.slice ad m.on.length cap, .slice ad' m.kept.length cap'] := p1.at_ (o2.block w.heap.size (by omega) (by omega))
  have B2 : GO bool2 u2 l2 h2 (.slice ad' m.kept.length cap') m.kept := (HW.out.2.under g1 (by omega)).kept fun q r1 r2 => o2.block q (by omega) (by omega)
  obtain ⟨M, hM⟩ : ∃ z, k + (m.on.length : Int) = z := ⟨_, rfl⟩
  have HM : Hid (k + (m.on.length : Int) = M) := hM
  rw [hM]
  have b2 : 0 ≤ M ∧ M ≤ 300000000 := by omega
  have c1 : u2.cell? ⟨w.heap.size, 1, none⟩ = some (.slice ad' m.kept.length cap') := p2.c 1 _ rfl
  clear o2 hM p1 p2 g1
  go_wp2_with fail
  clear c1
  refine (markBoolS_any u2 l2 h2 _ m.kept M B2 (by omega) (by omega) b2.1 (by omega)).mono ?_
  rintro e3 u3 ⟨rfl, B3, o3⟩
  have A3 : GO bool2 u3 l1 h1 (.slice ad m.on.length cap) (marksG bool2 mB k m.on.length) := A2.out o3 (by omega) (by omega)
  have O3 : Out lo hi w u3 := O2.trans (o3.widen (by omega) (by omega))
  have HF : Hid (MkO u3 lo hi (.agg #[.slice ad m.on.length cap, .slice ad' m.kept.length cap']) (mkMarks k m)) :=
    ⟨_, _, l1, h1, l2, h2, rfl, A3, by unfold mkMarks; rw [HM.out]; exact B3, q1, q2, q3⟩
  have HS : Hid (M + (m.kept.length : Int) = k + (MkOn m : Int)) := by show _ = _; have := HM.out; unfold MkOn; omega
  clear o3 O2 A2 A3 B3 B2
  go_wp2
  go_ret
  exact ⟨ret_int HS.out, HF.out, O3⟩

set_option maxHeartbeats 1000000 in
theorem markMemW_any (w : World) (lo hi : Nat) (m : Value) (d : MemD) (k : Int) (h : MO w lo hi m d) (hhi : hi ≤ w.heap.size) (hn : d.many ≤ 4194304) (hk : 0 ≤ k) (hk' : k ≤ 300000000) :
    Calls Tryz.prog 21 #[m, .int .i64 k] w fun e w' => e = .returned (.int .i64 (k + d.many)) ∧ MO w' lo hi m (markD k d) ∧ Out lo hi w w' := by
  obtain ⟨a, b, c, rfl, ha, hb, hc, ab, ac, bc⟩ := h
  unfold MemD.many at *
  have b1 := fun o => (Below.refl w.heap.size w).alloc (Nat.le_refl _) o
  have sa := fun o => ha.below (b1 o) hhi
  have sb := fun o => hb.below (b1 o) hhi
  have sc := fun o => hc.below (b1 o) hhi
  clear ha hb hc
  go_enter Tryz.func21, Tryz.ntmps21
  go_wp2_with fail
  have A0 := sa (.cells #[a, b, c] 43)
  have B0 := sb (.cells #[a, b, c] 43)
  have C0 := sc (.cells #[a, b, c] 43)
  have D0 := b1 (.cells #[a, b, c] 43)
  clear sa sb sc b1
  refine (markIntS_any _ lo hi a d.i k A0 (by omega) hk (by omega)).mono ?_
  rintro e w1 ⟨rfl, A1, W1⟩
  have F1 : ∀ o, w1.cell? ⟨w.heap.size, o, none⟩ = (w.alloc (.cells #[a, b, c] 43)).cell? ⟨w.heap.size, o, none⟩ := fun o => W1.cell _ _ fun hf => by have := A0.foot hf; omega
  have B1 := B0.wrote W1 (fun x o hf hf' => ab x o hf' hf)
  have C1 := C0.wrote W1 (fun x o hf hf' => ac x o hf' hf)
  have O1 := (out_of_below D0 lo hi).trans (W1.out fun x o hf => A0.foot hf)
  clear A0 B0 C0 D0 W1
  go_wp2_with fail
  refine (markIntS_any _ lo hi b d.o _ B1 (by omega) (by omega) (by omega)).mono ?_
  rintro e w2 ⟨rfl, B2, W2⟩
  have F2 : ∀ o, w2.cell? ⟨w.heap.size, o, none⟩ = w1.cell? ⟨w.heap.size, o, none⟩ := fun o => W2.cell _ _ fun hf => by have := B1.foot hf; omega
  have A2 := A1.wrote W2 (fun x o hf hf' => ab x o (by rwa [marks_length] at hf) hf')
  have C2 := C1.wrote W2 (fun x o hf hf' => bc x o hf' hf)
  have O2 := O1.trans (W2.out fun x o hf => B1.foot hf)
  clear A1 B1 C1 O1 W2
  go_wp2_with fail
  refine (markIntS_any _ lo hi c d.v _ C2 (by omega) (by omega) (by omega)).mono ?_
  rintro e w3 ⟨rfl, C3, W3⟩
  have A3 := A2.wrote W3 (fun x o hf hf' => ac x o (by rwa [marks_length] at hf) hf')
  have B3 := B2.wrote W3 (fun x o hf hf' => bc x o (by rwa [marks_length] at hf) hf')
  have O3 := O2.trans (W3.out fun x o hf => C2.foot hf)
  clear A2 B2 C2 O2 W3
  go_wp2
  go_ret
  refine ⟨ret_int (by omega), ⟨a, b, c, rfl, A3, B3, C3, ?_, ?_, ?_⟩, O3⟩
  · simpa [markD, marks_length] using ab
  · simpa [markD, marks_length] using ac
  · simpa [markD, marks_length] using bc
end Go.Proofs.YtokphdpaghkakaaGreat
