/-
  The order of a net's wires: the model's NetOrder and the program's.
-/
import Derived.Test.YtokphdpaghkakaaDoorNetSpec
import Derived.Test.YtokphdpaghkakaaDoorNetImplH
namespace Go.Proofs.YtokphdpaghkakaaDoor
open Go.ChangeShapes Go.WideShapes Go.ChangeAt Go.RowKit
set_option linter.unusedVariables false
set_option linter.unusedSimpArgs false
set_option maxRecDepth 100000

/-- The order that is told: of what is ok. -/
def netOrder (n : NetD) : List Int := if netOk n then (orderW n.ws).map fun (i : Nat) => (i : Int) else []
theorem netOk_wires {n : NetD} (h : netOk n = true) : n.ws.length ≤ 8 ∧ ∀ x ∈ n.ws, wireOk x n.ws.length = true := by
  unfold netOk at h
  simp only [Bool.and_eq_true, decide_eq_true_eq, List.all_eq_true] at h
  exact ⟨h.1, h.2.2.1⟩

set_option maxHeartbeats 4000000 in
theorem sNetOrder_any (w : World) (lo hi : Nat) (v : Value) (n : NetD) (h : NI w lo hi v n) (hhi : hi ≤ w.heap.size) :
    Calls Tryd.prog 8 #[v] w fun e w' => ∃ v', e = .returned v' ∧ RowZ w' w.heap.size v' (netOrder n) ∧ Below w.heap.size w w' := by
  obtain ⟨ws', hws⟩ : ∃ ws', netOrder n = ws' := ⟨_, rfl⟩
  rw [hws]
  have HW : Hid (netOrder n = ws') := hws
  clear hws
  obtain ⟨va, vb, rfl, hxa, hxb⟩ := id h
  obtain ⟨ad, cap, rfl, k1, k1'⟩ := hxa.shape
  obtain ⟨add, capd, rfl, k2, k2'⟩ := hxb.shape
  have HN : Hid (NI w lo hi (.agg #[.slice ad n.ws.length cap, .slice add n.ds.length capd]) n) := h
  have HA : Hid (GR wireE w lo hi (.slice ad n.ws.length cap) n.ws) := hxa
  clear hxa hxb h
  go_enter Tryd.func8, Tryd.ntmps8
  go_wp2_with (refine wpList_boxG (vs := [.slice ad n.ws.length cap, .slice add n.ds.length capd]) rfl _ rfl rfl ?_)
  intro w0 g0 pv s0
  have c0 : w0.cell? ⟨w.heap.size, 0, none⟩ = some (.slice ad n.ws.length cap) := pv.c 0 _ rfl
  have c1 : w0.cell? ⟨w.heap.size, 1, none⟩ = some (.slice add n.ds.length capd) := pv.c 1 _ rfl
  go_wp2_with fail
  clear c0 c1
  refine (sNetOk_any _ _ _ _ n (HN.out.under g0 hhi) (by omega)).mono ?_
  rintro e1 u1 ⟨rfl, g1⟩
  have s1 := g1.size
  have pv1 := pv.below g1 (by omega)
  have G1 := g0.trans (g1.mono (by omega))
  have c0 : u1.cell? ⟨w.heap.size, 0, none⟩ = some (.slice ad n.ws.length cap) := pv1.c 0 _ rfl
  have c1 : u1.cell? ⟨w.heap.size, 1, none⟩ = some (.slice add n.ds.length capd) := pv1.c 1 _ rfl
  clear pv pv1 g0 g1
  by_cases hk : netOk n = true
  · rw [hk]
    go_wp2_with fail
    refine (l7Order_any _ _ _ _ n.ws (HA.out.under G1 hhi) (by omega) (by have := (netOk_wires hk).1; omega) (netOk_wires hk).2).mono ?_
    rintro e2 u2 ⟨v', rfl, R2, g2⟩
    have hO : Hid ((orderW n.ws).map (fun (i : Nat) => (i : Int)) = ws') := by
      show _ = ws'
      rw [← HW.out]; unfold netOrder; rw [if_pos hk]
    rw [hO.out] at R2
    have G2 := G1.trans (g2.mono (by omega))
    have R3 := R2.mono (base' := w.heap.size) (by omega)
    clear c0 c1 R2 g2 G1
    go_wp2
    go_ret
    exact ⟨_, rfl, R3, G2⟩
  · have hk' : netOk n = false := by simpa using hk
    rw [hk']
    have hO : Hid (([] : List Int) = ws') := by
      show _ = ws'
      rw [← HW.out]; unfold netOrder; rw [if_neg hk]
    clear c0 c1
    have R3 := rowZ_none u1 w.heap.size (by omega)
    have G2 := G1.alloc (by omega : w.heap.size ≤ u1.heap.size) (.cells #[] 3)
    rw [hO.out] at R3
    clear G1
    go_wp2
    go_ret
    exact ⟨_, rfl, R3, G2⟩

theorem rowZ_nil (w : World) (base : Nat) (hb : base ≤ w.heap.size) : RowZ w base (.slice none 0 0) [] := ⟨rowZ_length [], .inl ⟨rfl, rfl⟩⟩
set_option maxHeartbeats 4000000 in
theorem iNetOrder_any (w : World) (hF : FormsAt w) (lo hi : Nat) (v : Value) (n : NetD) (h : NI w lo hi v n) (hhi : hi ≤ w.heap.size) :
    Calls Tryd.prog 10 #[v] w fun e w' => ∃ v', e = .returned v' ∧ RowZ w' w.heap.size v' (netOrder n) ∧ Below w.heap.size w w' := by
  obtain ⟨ws', hws⟩ : ∃ ws', netOrder n = ws' := ⟨_, rfl⟩
  rw [hws]
  have HW : Hid (netOrder n = ws') := hws
  clear hws
  obtain ⟨va, vb, rfl, hxa, hxb⟩ := id h
  obtain ⟨ad, cap, rfl, k1, k1'⟩ := hxa.shape
  obtain ⟨add, capd, rfl, k2, k2'⟩ := hxb.shape
  have HN : Hid (NI w lo hi (.agg #[.slice ad n.ws.length cap, .slice add n.ds.length capd]) n) := h
  have HA : Hid (GR wireE w lo hi (.slice ad n.ws.length cap) n.ws) := hxa
  have HT : Hid (FormsAt w) := hF
  clear hxa hxb h hF
  go_enter Tryd.func10, Tryd.ntmps10
  go_wp2_with (refine wpList_boxG (vs := [.slice ad n.ws.length cap, .slice add n.ds.length capd]) rfl _ rfl rfl ?_)
  intro w0 g0 pv s0
  have c0 : w0.cell? ⟨w.heap.size, 0, none⟩ = some (.slice ad n.ws.length cap) := pv.c 0 _ rfl
  have c1 : w0.cell? ⟨w.heap.size, 1, none⟩ = some (.slice add n.ds.length capd) := pv.c 1 _ rfl
  go_wp2_with fail
  clear c0 c1
  refine (iNetOk_any _ (HT.out.grow g0) _ _ _ n (HN.out.under g0 hhi) (by omega)).mono ?_
  rintro e1 u1 ⟨rfl, g1⟩
  have s1 := g1.size
  have pv1 := pv.below g1 (by omega)
  have G1 := g0.trans (g1.mono (by omega))
  have c0 : u1.cell? ⟨w.heap.size, 0, none⟩ = some (.slice ad n.ws.length cap) := pv1.c 0 _ rfl
  have c1 : u1.cell? ⟨w.heap.size, 1, none⟩ = some (.slice add n.ds.length capd) := pv1.c 1 _ rfl
  clear pv pv1 g0 g1
  by_cases hk : netOk n = true
  · rw [hk]
    go_wp2_with fail
    refine (told_any _ _ _ _ n.ws (HA.out.under G1 hhi) (by omega) (by have := (netOk_wires hk).1; omega) (netOk_wires hk).2).mono ?_
    rintro e2 u2 ⟨v', rfl, R2, g2⟩
    have hO : Hid ((orderW n.ws).map (fun (i : Nat) => (i : Int)) = ws') := by
      show _ = ws'
      rw [← HW.out]; unfold netOrder; rw [if_pos hk]
    rw [hO.out] at R2
    have G2 := G1.trans (g2.mono (by omega))
    have R3 := R2.mono (base' := w.heap.size) (by omega)
    clear c0 c1 R2 g2 G1
    go_wp2
    go_ret
    exact ⟨_, rfl, R3, G2⟩
  · have hk' : netOk n = false := by simpa using hk
    rw [hk']
    have hO : Hid (([] : List Int) = ws') := by
      show _ = ws'
      rw [← HW.out]; unfold netOrder; rw [if_neg hk]
    clear c0 c1
    have R3 := rowZ_nil u1 w.heap.size (by omega)
    rw [hO.out] at R3
    go_wp2
    go_ret
    exact ⟨_, rfl, R3, G1⟩
end Go.Proofs.YtokphdpaghkakaaDoor
