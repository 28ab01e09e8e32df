/-
  What chapter 7's model (package spec) answers of wires: l7Wire. (Written by our generator gen_netspecw.py.)
-/
import Derived.Test.YtaoiookfmgpmkaaGreatDoorNetSpecA
namespace Go.Proofs.YtaoiookfmgpmkaaGreatDoor
open Go.ChangeShapes Go.WideShapes Go.ChangeAt Go.RowKit
set_option linter.unusedVariables false
set_option linter.unusedSimpArgs false
set_option maxRecDepth 100000

set_option maxHeartbeats 1000000 in
theorem l7Wire_b0 (w : World) (x : WireD) (n : Nat) (hG : ∀ u, Calls Tryz.prog 169 #[.int .i64 x.kind] u fun e w' => e = .returned (.bool false) ∧ w' = u) (hN : ∀ u, Calls Tryz.prog 211 #[.int .i64 x.kind, .int .i64 x.n] u fun e w' => e = .returned (.bool false) ∧ w' = u) :
    Calls Tryz.prog 173 #[.agg (wireC x).toArray, .int .i64 n] w fun e w' => e = .returned (.bool false) ∧ Below w.heap.size w w' := by
  go_enter Tryz.func173, Tryz.ntmps173
  go_wp2_with (refine wpList_boxG (vs := wireC x) rfl _ rfl rfl ?_)
  intro u1 g1 p1 s1
  have c0 : u1.cell? ⟨w.heap.size, 0, none⟩ = some (.int .i64 x.kind) := p1.c 0 _ rfl
  have c1 : u1.cell? ⟨w.heap.size, 1, none⟩ = some (.int .i64 x.n) := p1.c 1 _ rfl
  go_wp2_with (first
    | (go_at_call 169; refine (hG _).mono ?_; rintro e w' ⟨rfl, rfl⟩)
    | (go_at_call 211; refine (hN _).mono ?_; rintro e w' ⟨rfl, rfl⟩))
  go_ret
  exact ⟨rfl, g1⟩

set_option maxHeartbeats 1000000 in
theorem l7Wire_b10 (w : World) (x : WireD) (n : Nat) (hG : ∀ u, Calls Tryz.prog 169 #[.int .i64 x.kind] u fun e w' => e = .returned (.bool false) ∧ w' = u) (hN : ∀ u, Calls Tryz.prog 211 #[.int .i64 x.kind, .int .i64 x.n] u fun e w' => e = .returned (.bool true) ∧ w' = u) (hSa : ∀ u, Calls Tryz.prog 227 #[.agg (srcC x.a).toArray, .int .i64 n] u fun e w' => e = .returned (.bool false) ∧ Below u.heap.size u w') :
    Calls Tryz.prog 173 #[.agg (wireC x).toArray, .int .i64 n] w fun e w' => e = .returned (.bool false) ∧ Below w.heap.size w w' := by
  go_enter Tryz.func173, Tryz.ntmps173
  go_wp2_with (refine wpList_boxG (vs := wireC x) rfl _ rfl rfl ?_)
  intro u1 g1 p1 s1
  have c0 : u1.cell? ⟨w.heap.size, 0, none⟩ = some (.int .i64 x.kind) := p1.c 0 _ rfl
  have c1 : u1.cell? ⟨w.heap.size, 1, none⟩ = some (.int .i64 x.n) := p1.c 1 _ rfl
  have ha : CV u1 w.heap.size 2 (srcC x.a) := p1.c.part 2 5
  go_wp2_with (first
    | (go_at_call 169; refine (hG _).mono ?_; rintro e w' ⟨rfl, rfl⟩)
    | (go_at_call 211; refine (hN _).mono ?_; rintro e w' ⟨rfl, rfl⟩)
    | refine wpList_loadG Tryz.isAgg169 Tryz.sizeOf169 _ rfl rfl rfl rfl ha ?_)
  clear ha c0 c1
  refine (hSa _).mono ?_
  rintro e2 u2 ⟨rfl, g2⟩
  have G := g1.trans (g2.mono (by omega))
  clear g2 g1 p1
  go_wp2
  go_ret
  exact ⟨rfl, G⟩

set_option maxHeartbeats 1000000 in
theorem l7Wire_b110 (w : World) (x : WireD) (n : Nat) (hG : ∀ u, Calls Tryz.prog 169 #[.int .i64 x.kind] u fun e w' => e = .returned (.bool false) ∧ w' = u) (hN : ∀ u, Calls Tryz.prog 211 #[.int .i64 x.kind, .int .i64 x.n] u fun e w' => e = .returned (.bool true) ∧ w' = u) (hSa : ∀ u, Calls Tryz.prog 227 #[.agg (srcC x.a).toArray, .int .i64 n] u fun e w' => e = .returned (.bool true) ∧ Below u.heap.size u w') (hT : ∀ u, Calls Tryz.prog 179 #[.int .i64 x.kind] u fun e w' => e = .returned (.bool false) ∧ w' = u) (r : Bool) (hr : decide (x.b = noSrc) = r) :
    Calls Tryz.prog 173 #[.agg (wireC x).toArray, .int .i64 n] w fun e w' => e = .returned (.bool r) ∧ Below w.heap.size w w' := by
  have hE := fun p q u => guard_src .eql p q x.b noSrc u
  have hQ := fun u => eql_src x.b noSrc u
  rw [hr] at hQ
  clear hr
  go_enter Tryz.func173, Tryz.ntmps173
  go_wp2_with (refine wpList_boxG (vs := wireC x) rfl _ rfl rfl ?_)
  intro u1 g1 p1 s1
  have c0 : u1.cell? ⟨w.heap.size, 0, none⟩ = some (.int .i64 x.kind) := p1.c 0 _ rfl
  have c1 : u1.cell? ⟨w.heap.size, 1, none⟩ = some (.int .i64 x.n) := p1.c 1 _ rfl
  have ha : CV u1 w.heap.size 2 (srcC x.a) := p1.c.part 2 5
  go_wp2_with (first
    | (go_at_call 169; refine (hG _).mono ?_; rintro e w' ⟨rfl, rfl⟩)
    | (go_at_call 211; refine (hN _).mono ?_; rintro e w' ⟨rfl, rfl⟩)
    | refine wpList_loadG Tryz.isAgg169 Tryz.sizeOf169 _ rfl rfl rfl rfl ha ?_)
  clear ha c0 c1
  refine (hSa _).mono ?_
  rintro e2 u2 ⟨rfl, g2⟩
  have G := g1.trans (g2.mono (by omega))
  have z2 := g2.size
  have p2 := p1.below g2 (by omega)
  clear g2 g1 p1 hSa hG
  have c0 : u2.cell? ⟨w.heap.size, 0, none⟩ = some (.int .i64 x.kind) := p2.c 0 _ rfl
  have hb : CV u2 w.heap.size 7 (srcC x.b) := p2.c.part 7 5
  go_wp2_with (first
    | (go_at_call 179; refine (hT _).mono ?_; rintro e w' ⟨rfl, rfl⟩)
    | refine wpList_loadG Tryz.isAgg169 Tryz.sizeOf169 _ rfl rfl rfl rfl hb ?_
    | refine wpList_binG _ _ rfl rfl rfl rfl (hE _ _ _) (hQ _) ?_)
  go_ret
  exact ⟨rfl, G⟩

set_option maxHeartbeats 1000000 in
theorem l7Wire_b111 (w : World) (x : WireD) (n : Nat) (hG : ∀ u, Calls Tryz.prog 169 #[.int .i64 x.kind] u fun e w' => e = .returned (.bool false) ∧ w' = u) (hN : ∀ u, Calls Tryz.prog 211 #[.int .i64 x.kind, .int .i64 x.n] u fun e w' => e = .returned (.bool true) ∧ w' = u) (hSa : ∀ u, Calls Tryz.prog 227 #[.agg (srcC x.a).toArray, .int .i64 n] u fun e w' => e = .returned (.bool true) ∧ Below u.heap.size u w') (hT : ∀ u, Calls Tryz.prog 179 #[.int .i64 x.kind] u fun e w' => e = .returned (.bool true) ∧ w' = u) (r : Bool) (hSb : ∀ u, Calls Tryz.prog 227 #[.agg (srcC x.b).toArray, .int .i64 n] u fun e w' => e = .returned (.bool r) ∧ Below u.heap.size u w') :
    Calls Tryz.prog 173 #[.agg (wireC x).toArray, .int .i64 n] w fun e w' => e = .returned (.bool r) ∧ Below w.heap.size w w' := by
  go_enter Tryz.func173, Tryz.ntmps173
  go_wp2_with (refine wpList_boxG (vs := wireC x) rfl _ rfl rfl ?_)
  intro u1 g1 p1 s1
  have c0 : u1.cell? ⟨w.heap.size, 0, none⟩ = some (.int .i64 x.kind) := p1.c 0 _ rfl
  have c1 : u1.cell? ⟨w.heap.size, 1, none⟩ = some (.int .i64 x.n) := p1.c 1 _ rfl
  have ha : CV u1 w.heap.size 2 (srcC x.a) := p1.c.part 2 5
  go_wp2_with (first
    | (go_at_call 169; refine (hG _).mono ?_; rintro e w' ⟨rfl, rfl⟩)
    | (go_at_call 211; refine (hN _).mono ?_; rintro e w' ⟨rfl, rfl⟩)
    | refine wpList_loadG Tryz.isAgg169 Tryz.sizeOf169 _ rfl rfl rfl rfl ha ?_)
  clear ha c0 c1
  refine (hSa _).mono ?_
  rintro e2 u2 ⟨rfl, g2⟩
  have G := g1.trans (g2.mono (by omega))
  have z2 := g2.size
  have p2 := p1.below g2 (by omega)
  clear g2 g1 p1 hSa hG
  have c0 : u2.cell? ⟨w.heap.size, 0, none⟩ = some (.int .i64 x.kind) := p2.c 0 _ rfl
  have hb : CV u2 w.heap.size 7 (srcC x.b) := p2.c.part 7 5
  go_wp2_with (first
    | (go_at_call 179; refine (hT _).mono ?_; rintro e w' ⟨rfl, rfl⟩)
    | refine wpList_loadG Tryz.isAgg169 Tryz.sizeOf169 _ rfl rfl rfl rfl hb ?_
    | fail)
  clear hb c0
  refine (hSb _).mono ?_
  rintro e3 u3 ⟨rfl, g3⟩
  have G3 := G.trans (g3.mono (by omega))
  clear g3 G
  go_wp2
  go_ret
  exact ⟨rfl, G3⟩

set_option maxHeartbeats 1000000 in
theorem l7Wire_g0 (w : World) (x : WireD) (n : Nat) (hG : ∀ u, Calls Tryz.prog 169 #[.int .i64 x.kind] u fun e w' => e = .returned (.bool true) ∧ w' = u) (nz : (x.n != 0) = true) :
    Calls Tryz.prog 173 #[.agg (wireC x).toArray, .int .i64 n] w fun e w' => e = .returned (.bool false) ∧ Below w.heap.size w w' := by
  go_enter Tryz.func173, Tryz.ntmps173
  go_wp2_with (refine wpList_boxG (vs := wireC x) rfl _ rfl rfl ?_)
  intro u1 g1 p1 s1
  have c0 : u1.cell? ⟨w.heap.size, 0, none⟩ = some (.int .i64 x.kind) := p1.c 0 _ rfl
  have c1 : u1.cell? ⟨w.heap.size, 1, none⟩ = some (.int .i64 x.n) := p1.c 1 _ rfl
  go_wp2_with (first
    | (go_at_call 169; refine (hG _).mono ?_; rintro e w' ⟨rfl, rfl⟩))
  go_ret
  exact ⟨rfl, g1⟩

set_option maxHeartbeats 1000000 in
theorem l7Wire_g10 (w : World) (x : WireD) (n : Nat) (hG : ∀ u, Calls Tryz.prog 169 #[.int .i64 x.kind] u fun e w' => e = .returned (.bool true) ∧ w' = u) (nz : (x.n != 0) = false) (hSa : ∀ u, Calls Tryz.prog 227 #[.agg (srcC x.a).toArray, .int .i64 n] u fun e w' => e = .returned (.bool false) ∧ Below u.heap.size u w') :
    Calls Tryz.prog 173 #[.agg (wireC x).toArray, .int .i64 n] w fun e w' => e = .returned (.bool false) ∧ Below w.heap.size w w' := by
  go_enter Tryz.func173, Tryz.ntmps173
  go_wp2_with (refine wpList_boxG (vs := wireC x) rfl _ rfl rfl ?_)
  intro u1 g1 p1 s1
  have c0 : u1.cell? ⟨w.heap.size, 0, none⟩ = some (.int .i64 x.kind) := p1.c 0 _ rfl
  have c1 : u1.cell? ⟨w.heap.size, 1, none⟩ = some (.int .i64 x.n) := p1.c 1 _ rfl
  have a0 : u1.cell? ⟨w.heap.size, 2, none⟩ = some (.int .i64 x.a.kind) := p1.c 2 _ rfl
  have a1 : u1.cell? ⟨w.heap.size, 3, none⟩ = some (.int .i64 x.a.at_) := p1.c 3 _ rfl
  have a2 : u1.cell? ⟨w.heap.size, 4, none⟩ = some (.int .i64 x.a.ak) := p1.c 4 _ rfl
  have a3 : u1.cell? ⟨w.heap.size, 5, none⟩ = some (.int .i64 x.a.aat) := p1.c 5 _ rfl
  have a4 : u1.cell? ⟨w.heap.size, 6, none⟩ = some (.bool x.a.no) := p1.c 6 _ rfl
  go_wp2_with (first
    | (go_at_call 169; refine (hG _).mono ?_; rintro e w' ⟨rfl, rfl⟩))
  clear a0 a1 a2 a3 a4 c0 c1
  refine (hSa _).mono ?_
  rintro e2 u2 ⟨rfl, g2⟩
  have G := g1.trans (g2.mono (by omega))
  clear g2 g1 p1
  go_wp2
  go_ret
  exact ⟨rfl, G⟩

set_option maxHeartbeats 1000000 in
theorem l7Wire_g110 (w : World) (x : WireD) (n : Nat) (hG : ∀ u, Calls Tryz.prog 169 #[.int .i64 x.kind] u fun e w' => e = .returned (.bool true) ∧ w' = u) (nz : (x.n != 0) = false) (hSa : ∀ u, Calls Tryz.prog 227 #[.agg (srcC x.a).toArray, .int .i64 n] u fun e w' => e = .returned (.bool true) ∧ Below u.heap.size u w') (hT : ∀ u, Calls Tryz.prog 179 #[.int .i64 x.kind] u fun e w' => e = .returned (.bool false) ∧ w' = u) (r : Bool) (hr : decide (x.b = noSrc) = r) :
    Calls Tryz.prog 173 #[.agg (wireC x).toArray, .int .i64 n] w fun e w' => e = .returned (.bool r) ∧ Below w.heap.size w w' := by
  have hE := fun p q u => guard_src .eql p q x.b noSrc u
  have hQ := fun u => eql_src x.b noSrc u
  rw [hr] at hQ
  clear hr
  go_enter Tryz.func173, Tryz.ntmps173
  go_wp2_with (refine wpList_boxG (vs := wireC x) rfl _ rfl rfl ?_)
  intro u1 g1 p1 s1
  have c0 : u1.cell? ⟨w.heap.size, 0, none⟩ = some (.int .i64 x.kind) := p1.c 0 _ rfl
  have c1 : u1.cell? ⟨w.heap.size, 1, none⟩ = some (.int .i64 x.n) := p1.c 1 _ rfl
  have a0 : u1.cell? ⟨w.heap.size, 2, none⟩ = some (.int .i64 x.a.kind) := p1.c 2 _ rfl
  have a1 : u1.cell? ⟨w.heap.size, 3, none⟩ = some (.int .i64 x.a.at_) := p1.c 3 _ rfl
  have a2 : u1.cell? ⟨w.heap.size, 4, none⟩ = some (.int .i64 x.a.ak) := p1.c 4 _ rfl
  have a3 : u1.cell? ⟨w.heap.size, 5, none⟩ = some (.int .i64 x.a.aat) := p1.c 5 _ rfl
  have a4 : u1.cell? ⟨w.heap.size, 6, none⟩ = some (.bool x.a.no) := p1.c 6 _ rfl
  go_wp2_with (first
    | (go_at_call 169; refine (hG _).mono ?_; rintro e w' ⟨rfl, rfl⟩))
  clear a0 a1 a2 a3 a4 c0 c1
  refine (hSa _).mono ?_
  rintro e2 u2 ⟨rfl, g2⟩
  have G := g1.trans (g2.mono (by omega))
  have z2 := g2.size
  have p2 := p1.below g2 (by omega)
  clear g2 g1 p1 hSa hG
  have c0 : u2.cell? ⟨w.heap.size, 0, none⟩ = some (.int .i64 x.kind) := p2.c 0 _ rfl
  have hb0 : u2.cell? ⟨w.heap.size, 7, none⟩ = some (.int .i64 x.b.kind) := p2.c 7 _ rfl
  have hb1 : u2.cell? ⟨w.heap.size, 8, none⟩ = some (.int .i64 x.b.at_) := p2.c 8 _ rfl
  have hb2 : u2.cell? ⟨w.heap.size, 9, none⟩ = some (.int .i64 x.b.ak) := p2.c 9 _ rfl
  have hb3 : u2.cell? ⟨w.heap.size, 10, none⟩ = some (.int .i64 x.b.aat) := p2.c 10 _ rfl
  have hb4 : u2.cell? ⟨w.heap.size, 11, none⟩ = some (.bool x.b.no) := p2.c 11 _ rfl
  go_wp2_with (first
    | (go_at_call 179; refine (hT _).mono ?_; rintro e w' ⟨rfl, rfl⟩)
    | refine wpList_binG _ _ rfl rfl rfl rfl (hE _ _ _) (hQ _) ?_)
  go_ret
  exact ⟨rfl, G⟩

set_option maxHeartbeats 1000000 in
theorem l7Wire_g111 (w : World) (x : WireD) (n : Nat) (hG : ∀ u, Calls Tryz.prog 169 #[.int .i64 x.kind] u fun e w' => e = .returned (.bool true) ∧ w' = u) (nz : (x.n != 0) = false) (hSa : ∀ u, Calls Tryz.prog 227 #[.agg (srcC x.a).toArray, .int .i64 n] u fun e w' => e = .returned (.bool true) ∧ Below u.heap.size u w') (hT : ∀ u, Calls Tryz.prog 179 #[.int .i64 x.kind] u fun e w' => e = .returned (.bool true) ∧ w' = u) (r : Bool) (hSb : ∀ u, Calls Tryz.prog 227 #[.agg (srcC x.b).toArray, .int .i64 n] u fun e w' => e = .returned (.bool r) ∧ Below u.heap.size u w') :
    Calls Tryz.prog 173 #[.agg (wireC x).toArray, .int .i64 n] w fun e w' => e = .returned (.bool r) ∧ Below w.heap.size w w' := by
  go_enter Tryz.func173, Tryz.ntmps173
  go_wp2_with (refine wpList_boxG (vs := wireC x) rfl _ rfl rfl ?_)
  intro u1 g1 p1 s1
  have c0 : u1.cell? ⟨w.heap.size, 0, none⟩ = some (.int .i64 x.kind) := p1.c 0 _ rfl
  have c1 : u1.cell? ⟨w.heap.size, 1, none⟩ = some (.int .i64 x.n) := p1.c 1 _ rfl
  have a0 : u1.cell? ⟨w.heap.size, 2, none⟩ = some (.int .i64 x.a.kind) := p1.c 2 _ rfl
  have a1 : u1.cell? ⟨w.heap.size, 3, none⟩ = some (.int .i64 x.a.at_) := p1.c 3 _ rfl
  have a2 : u1.cell? ⟨w.heap.size, 4, none⟩ = some (.int .i64 x.a.ak) := p1.c 4 _ rfl
  have a3 : u1.cell? ⟨w.heap.size, 5, none⟩ = some (.int .i64 x.a.aat) := p1.c 5 _ rfl
  have a4 : u1.cell? ⟨w.heap.size, 6, none⟩ = some (.bool x.a.no) := p1.c 6 _ rfl
  go_wp2_with (first
    | (go_at_call 169; refine (hG _).mono ?_; rintro e w' ⟨rfl, rfl⟩))
  clear a0 a1 a2 a3 a4 c0 c1
  refine (hSa _).mono ?_
  rintro e2 u2 ⟨rfl, g2⟩
  have G := g1.trans (g2.mono (by omega))
  have z2 := g2.size
  have p2 := p1.below g2 (by omega)
  clear g2 g1 p1 hSa hG
  have c0 : u2.cell? ⟨w.heap.size, 0, none⟩ = some (.int .i64 x.kind) := p2.c 0 _ rfl
  have hb0 : u2.cell? ⟨w.heap.size, 7, none⟩ = some (.int .i64 x.b.kind) := p2.c 7 _ rfl
  have hb1 : u2.cell? ⟨w.heap.size, 8, none⟩ = some (.int .i64 x.b.at_) := p2.c 8 _ rfl
  have hb2 : u2.cell? ⟨w.heap.size, 9, none⟩ = some (.int .i64 x.b.ak) := p2.c 9 _ rfl
  have hb3 : u2.cell? ⟨w.heap.size, 10, none⟩ = some (.int .i64 x.b.aat) := p2.c 10 _ rfl
  have hb4 : u2.cell? ⟨w.heap.size, 11, none⟩ = some (.bool x.b.no) := p2.c 11 _ rfl
  go_wp2_with (first
    | (go_at_call 179; refine (hT _).mono ?_; rintro e w' ⟨rfl, rfl⟩)
    | fail)
  clear hb0 hb1 hb2 hb3 hb4 c0
  refine (hSb _).mono ?_
  rintro e3 u3 ⟨rfl, g3⟩
  have G3 := G.trans (g3.mono (by omega))
  clear g3 G
  go_wp2
  go_ret
  exact ⟨rfl, G3⟩

theorem l7Wire_any (w : World) (x : WireD) (n : Nat) (hn : n ≤ 16777216) : Calls Tryz.prog 173 #[.agg (wireC x).toArray, .int .i64 n] w fun e w' => e = .returned (.bool (wireOk x n)) ∧ Below w.heap.size w w' := by
  have hG := fun u => l7Gate_any u x.kind
  have hN := fun u => l6N_any u x.kind x.n
  have hT := fun u => l7Two_any u x.kind
  have hSa := fun u => l7Src_any u x.a n hn
  have hSb := fun u => l7Src_any u x.b n hn
  unfold wireOk numW
  cases hg : gateK x.kind
  · rw [hg] at hG
    rw [if_neg (by decide)]
    cases hnum : numB x.kind x.n
    · rw [hnum] at hN
      exact l7Wire_b0 w x n hG hN
    rw [hnum] at hN
    cases hsa : srcOk x.a n
    · rw [hsa] at hSa
      exact l7Wire_b10 w x n hG hN hSa
    rw [hsa] at hSa
    cases ht : twoK x.kind
    · rw [ht] at hT
      exact l7Wire_b110 w x n hG hN hSa hT _ rfl
    · rw [ht] at hT
      exact l7Wire_b111 w x n hG hN hSa hT _ hSb
  · rw [hg] at hG
    rw [if_pos rfl]
    cases hnum : (x.n == 0)
    · have nz : (x.n != 0) = true := by unfold bne; rw [hnum]; rfl
      exact l7Wire_g0 w x n hG nz
    have nz : (x.n != 0) = false := by unfold bne; rw [hnum]; rfl
    cases hsa : srcOk x.a n
    · rw [hsa] at hSa
      exact l7Wire_g10 w x n hG nz hSa
    rw [hsa] at hSa
    cases ht : twoK x.kind
    · rw [ht] at hT
      exact l7Wire_g110 w x n hG nz hSa hT _ rfl
    · rw [ht] at hT
      exact l7Wire_g111 w x n hG nz hSa hT _ hSb
end Go.Proofs.YtaoiookfmgpmkaaGreatDoor
