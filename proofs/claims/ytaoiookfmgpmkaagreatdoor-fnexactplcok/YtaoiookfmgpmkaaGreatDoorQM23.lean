import Derived.Test.YtaoiookfmgpmkaaGreatDoorQM22
import Derived.Test.YtaoiookfmgpmkaaGreatDoorQM13
import Derived.Test.YtaoiookfmgpmkaaGreatDoorQM19
import Derived.Test.YtaoiookfmgpmkaaGreatDoorQM17
import Derived.Test.YtaoiookfmgpmkaaGreatDoorQM18
import Derived.Test.YtaoiookfmgpmkaaGreatDoorQM15
import Derived.Laws.EntriesVeiled

/-
 The program's inputs and wires: wireIn, fits, srcOk, wireFormOf. (Written by our generator gen_netimplc.py.)
-/
namespace Go.Proofs.YtaoiookfmgpmkaaGreatDoor
open Go.ChangeShapes Go.WideShapes Go.ChangeAt Go.RowKit
set_option linter.unusedVariables false
set_option linter.unusedSimpArgs false
set_option maxRecDepth 100000

theorem wireIn_any (w : World) (t : Int) (n : Nat) : Calls Tryz.prog 237 #[.int .i64 t, .int .i64 n] w fun e w' => e = .returned (.bool (decide (0 ≤ t) && decide (t < (n : Int)))) ∧ w' = w := by
 by_cases h1 : 0 ≤ t
 ·rw [decide_eq_true h1, Bool.true_and]
  go_enter Tryz.func237, Tryz.ntmps237
  go_wp2
  go_ret
  exact ⟨rfl, rfl⟩
 ·rw [decide_eq_false h1, Bool.false_and]
  go_enter Tryz.func237, Tryz.ntmps237
  go_wp2
  go_ret
  exact ⟨rfl, rfl⟩

set_option maxHeartbeats 1000000 in
theorem fits_addrN (w : World) (t ak aat : Int) (no : Bool) (n : Nat) : Calls Tryz.prog 347 #[.agg #[.int .i64 1, .int .i64 t, .int .i64 ak, .int .i64 aat, .bool no], .int .i64 n] w fun e w' => e = .returned (.bool (addrOk ⟨ak, aat⟩ && t == 0)) ∧ Below w.heap.size w w' := by
 have hA := fun u => iAddrOk_any u ak aat
 unfold AddrD.val at hA
 rw [Bool.and_comm]
 generalize addrOk ⟨ak, aat⟩ = ok at *
 cases hz : (t == 0)
 ·rw [Bool.false_and]
  go_enter Tryz.func347, Tryz.ntmps347
  go_wp2
  go_ret
  exact ⟨rfl, below_aN (Below.refl _ _) _⟩
 ·rw [Bool.true_and]
  go_enter Tryz.func347, Tryz.ntmps347
  go_wp2_with fail
  refine (hA _).mono ?_
  rintro e1 u1 ⟨rfl, g1⟩
  have G : Below w.heap.size w u1 := (below_aN (Below.refl _ _) _).trans (g1.mono (by simp <;> omega))
  clear g1 hA
  go_wp2
  go_ret
  exact ⟨rfl, G⟩

set_option maxHeartbeats 1000000 in
theorem fits_wire (w : World) (k t ak aat : Int) (no : Bool) (n : Nat) : Calls Tryz.prog 351 #[.agg #[.int .i64 k, .int .i64 t, .int .i64 ak, .int .i64 aat, .bool no], .int .i64 n] w fun e w' => e = .returned (.bool (decide (0 ≤ t) && (decide (t < (n : Int)) && (ak == 0 && aat == 0)))) ∧ Below w.heap.size w w' := by
 have hI := fun u => wireIn_any u t n
 have hE := fun p q u => guard_addrK .eql p q ak aat 0 0 u
 have hQ := fun u => eql_addrK ak aat 0 0 u
 rw [← Bool.and_assoc]
 generalize (decide (0 ≤ t) && decide (t < (n : Int))) = ok at *
 generalize (ak == 0 && aat == 0) = z at *
 cases ok
 ·rw [Bool.false_and]
  clear hE hQ
  go_enter Tryz.func351, Tryz.ntmps351
  go_wp2_with (go_at_call 237; refine (hI _).mono ?_; rintro e w' ⟨rfl, rfl⟩)
  go_ret
  exact ⟨rfl, below_aN (Below.refl _ _) _⟩
 ·rw [Bool.true_and]
  go_enter Tryz.func351, Tryz.ntmps351
  go_wp2_with (first
   | (go_at_call 237; refine (hI _).mono ?_; rintro e w' ⟨rfl, rfl⟩)
   | refine wpList_binG _ _ rfl rfl rfl rfl (hE _ _ _) (hQ _) ?_)
  go_ret
  exact ⟨rfl, below_aN (Below.refl _ _) _⟩

set_option maxHeartbeats 4000000 in
theorem iSrcOk_any (w : World) (s : SrcD) (n : Nat) : Calls Tryz.prog 234 #[.agg (srcC s).toArray, .int .i64 n] w fun e w' => e = .returned (.bool (srcOk s n)) ∧ Below w.heap.size w w' := by
 obtain ⟨k, t, ak, aat, no⟩ := s
 unfold srcOk
 simp only
 by_cases h1 : k = 1
 ·subst h1
  rw [if_pos rfl]
  have hI := fun u => inputOf_any u ⟨1, t, ak, aat, no⟩
  have eI : inputV ⟨1, t, ak, aat, no⟩ = .iface 371 (.agg #[.int .i64 1, .int .i64 t, .int .i64 ak, .int .i64 aat, .bool no]) := rfl
  have mW : ∀ w : World, (method 547 371 (.agg #[.int .i64 1, .int .i64 t, .int .i64 ak, .int .i64 aat, .bool no]) "loop.example/stopgate/impl.fits").run Tryz.prog w = .ok (347, .agg #[.int .i64 1, .int .i64 t, .int .i64 ak, .int .i64 aat, .bool no]) w := fun _ => by kernel_rfl
  have hF := fun u => fits_addrN u t ak aat no n
  generalize (addrOk ⟨ak, aat⟩ && t == 0) = R at *
  rw [eI] at hI
  clear eI
  unfold srcC
  simp only
  go_enter Tryz.func234, Tryz.ntmps234
  go_wp2_with fail
  refine (hI _).mono ?_
  clear hI
  rintro e1 u1 ⟨rfl, g1⟩
  have G : Below w.heap.size w u1 := (below_aN (Below.refl _ _) _).trans (g1.mono (by simp <;> omega))
  clear g1
  go_wp2_with fail
  refine (hF _).mono ?_
  clear hF
  rintro e2 u2 ⟨rfl, g2⟩
  have G2 : Below w.heap.size w u2 := G.trans (g2.mono G.size)
  clear g2 G mW
  go_wp2
  go_ret
  exact ⟨rfl, G2⟩
 by_cases h2 : k = 2
 ·subst h2
  rw [if_neg (by decide), if_pos (.inl rfl)]
  have hI := fun u => inputOf_any u ⟨2, t, ak, aat, no⟩
  have eI : inputV ⟨2, t, ak, aat, no⟩ = .iface 374 (.agg #[.int .i64 2, .int .i64 t, .int .i64 ak, .int .i64 aat, .bool no]) := rfl
  have mW : ∀ w : World, (method 547 374 (.agg #[.int .i64 2, .int .i64 t, .int .i64 ak, .int .i64 aat, .bool no]) "loop.example/stopgate/impl.fits").run Tryz.prog w = .ok (351, .agg #[.int .i64 2, .int .i64 t, .int .i64 ak, .int .i64 aat, .bool no]) w := fun _ => by kernel_rfl
  have hF := fun u => fits_wire u 2 t ak aat no n
  generalize (decide (0 ≤ t) && (decide (t < (n : Int)) && (ak == 0 && aat == 0))) = R at *
  rw [eI] at hI
  clear eI
  unfold srcC
  simp only
  go_enter Tryz.func234, Tryz.ntmps234
  go_wp2_with fail
  refine (hI _).mono ?_
  clear hI
  rintro e1 u1 ⟨rfl, g1⟩
  have G : Below w.heap.size w u1 := (below_aN (Below.refl _ _) _).trans (g1.mono (by simp <;> omega))
  clear g1
  go_wp2_with fail
  refine (hF _).mono ?_
  clear hF
  rintro e2 u2 ⟨rfl, g2⟩
  have G2 : Below w.heap.size w u2 := G.trans (g2.mono G.size)
  clear g2 G mW
  go_wp2
  go_ret
  exact ⟨rfl, G2⟩
 by_cases h3 : k = 3
 ·subst h3
  rw [if_neg (by decide), if_pos (.inr rfl)]
  have hI := fun u => inputOf_any u ⟨3, t, ak, aat, no⟩
  have eI : inputV ⟨3, t, ak, aat, no⟩ = .iface 375 (.agg #[.int .i64 3, .int .i64 t, .int .i64 ak, .int .i64 aat, .bool no]) := rfl
  have mW : ∀ w : World, (method 547 375 (.agg #[.int .i64 3, .int .i64 t, .int .i64 ak, .int .i64 aat, .bool no]) "loop.example/stopgate/impl.fits").run Tryz.prog w = .ok (351, .agg #[.int .i64 3, .int .i64 t, .int .i64 ak, .int .i64 aat, .bool no]) w := fun _ => by kernel_rfl
  have hF := fun u => fits_wire u 3 t ak aat no n
  generalize (decide (0 ≤ t) && (decide (t < (n : Int)) && (ak == 0 && aat == 0))) = R at *
  rw [eI] at hI
  clear eI
  unfold srcC
  simp only
  go_enter Tryz.func234, Tryz.ntmps234
  go_wp2_with fail
  refine (hI _).mono ?_
  clear hI
  rintro e1 u1 ⟨rfl, g1⟩
  have G : Below w.heap.size w u1 := (below_aN (Below.refl _ _) _).trans (g1.mono (by simp <;> omega))
  clear g1
  go_wp2_with fail
  refine (hF _).mono ?_
  clear hF
  rintro e2 u2 ⟨rfl, g2⟩
  have G2 : Below w.heap.size w u2 := G.trans (g2.mono G.size)
  clear g2 G mW
  go_wp2
  go_ret
  exact ⟨rfl, G2⟩
 rw [if_neg h1, if_neg (by omega)]
 have hI := fun u => inputOf_any u ⟨k, t, ak, aat, no⟩
 have eI : inputV ⟨k, t, ak, aat, no⟩ = .nilIface := by unfold inputV; rw [if_neg h1, if_neg h2, if_neg h3]
 rw [eI] at hI
 clear eI
 clear h1 h2 h3
 unfold srcC
 simp only
 go_enter Tryz.func234, Tryz.ntmps234
 go_wp2_with fail
 refine (hI _).mono ?_
 clear hI
 rintro e1 u1 ⟨rfl, g1⟩
 have G : Below w.heap.size w u1 := (below_aN (Below.refl _ _) _).trans (g1.mono (by simp <;> omega))
 clear g1
 go_wp2
 go_ret
 exact ⟨rfl, G⟩
end Go.Proofs.YtaoiookfmgpmkaaGreatDoor

/-
 The program's wires: wireOk. (Written by our generator gen_netimple.py.)
-/
namespace Go.Proofs.YtaoiookfmgpmkaaGreatDoor
open Go.ChangeShapes Go.WideShapes Go.ChangeAt Go.RowKit
set_option linter.unusedVariables false
set_option linter.unusedSimpArgs false
set_option maxRecDepth 100000

theorem form_ways (k : Int) : (formOf k = none ∧ gateK k = false ∧ ∀ n, numB k n = false) ∨ (∃ f, formOf k = some f ∧ f.two = twoK k ∧ ((gateK k = true ∧ ∀ n, numB k n = false) ∨ (gateK k = false ∧ numB k 0 = true))) := by
 have hk : k = 1 ∨ k = 2 ∨ k = 3 ∨ k = 4 ∨ k = 5 ∨ k = 11 ∨ k = 12 ∨ k = 13 ∨ (k < 1 ∨ (5 < k ∧ k < 11) ∨ 13 < k) := by omega
 rcases hk with rfl | rfl | rfl | rfl | rfl | rfl | rfl | rfl | hk
 ·exact .inr ⟨_, rfl, rfl, .inr ⟨by decide, by decide⟩⟩
 ·exact .inr ⟨_, rfl, rfl, .inr ⟨by decide, by decide⟩⟩
 ·exact .inr ⟨_, rfl, rfl, .inr ⟨by decide, by decide⟩⟩
 ·exact .inr ⟨_, rfl, rfl, .inr ⟨by decide, by decide⟩⟩
 ·exact .inr ⟨_, rfl, rfl, .inr ⟨by decide, by decide⟩⟩
 ·exact .inr ⟨_, rfl, rfl, .inl ⟨by decide, fun n => numB_none (by omega) n⟩⟩
 ·exact .inr ⟨_, rfl, rfl, .inl ⟨by decide, fun n => numB_none (by omega) n⟩⟩
 ·exact .inr ⟨_, rfl, rfl, .inl ⟨by decide, fun n => numB_none (by omega) n⟩⟩
 ·refine .inl ⟨?_, ?_, fun n => numB_none (by omega) n⟩
  ·unfold formOf
   rw [List.find?_eq_none]
   intro f hf
   simp only [formL, List.mem_cons, List.not_mem_nil, or_false] at hf
   rcases hf with rfl | rfl | rfl | rfl | rfl | rfl | rfl | rfl <;> simp <;> omega
  ·unfold gateK
   simp
   omega

theorem blockNew_num (k n : Int) : blockOk (blockNew k n) = numB k n := by
 cases h : numB k n
 ·unfold blockNew; rw [if_neg (by simp [h])]; exact noB_bad
 ·exact blockNew_ok h

theorem numW_eq (x : WireD) (hf : (formOf x.kind).isSome = true) : numW x = (x.n == 0 || blockOk (blockNew x.kind x.n)) := by
 rw [blockNew_num]
 unfold numW
 rcases form_ways x.kind with ⟨h, _⟩ | ⟨f, _, _, ⟨hg, hn⟩ | ⟨hg, hn⟩⟩
 ·rw [h] at hf; cases hf
 ·rw [hg, if_pos rfl, hn, Bool.or_false]
 ·rw [hg, if_neg (by decide)]
  cases hz : (x.n == 0)
  ·rfl
  ·have : x.n = 0 := by simpa using hz
   rw [this, hn]; rfl
theorem numW_none (x : WireD) (hf : (formOf x.kind).isSome = false) : numW x = false := by
 unfold numW
 rcases form_ways x.kind with ⟨_, hg, hn⟩ | ⟨f, h, _⟩
 ·rw [hg, if_neg (by decide), hn]
 ·rw [h] at hf; cases hf
theorem form_two (k : Int) (hf : (formOf k).isSome = true) : ((formOf k).getD noForm).two = twoK k := by
 rcases form_ways k with ⟨h, _⟩ | ⟨f, h, h2, _⟩
 ·rw [h] at hf; cases hf
 ·rw [h]; exact h2

set_option maxHeartbeats 2000000 in
theorem wOk_0xxxx (w : World) (x : WireD) (n : Nat) (f : FormD) (hW : ∀ u, Below w.heap.size w u → Calls Tryz.prog 233 #[.int .i64 x.kind] u fun e w' => e = .returned (.tuple #[.agg (formC f).toArray, .bool false]) ∧ Below u.heap.size u w') :
  Calls Tryz.prog 185 #[.agg (wireC x).toArray, .int .i64 n] w fun e w' => e = .returned (.bool false) ∧ Below w.heap.size w w' := by
 have hZ := (zero_of_info (P := Tryz.prog) zero_form).1
 go_enter Tryz.func185, Tryz.ntmps185
 go_wp2_with (refine wpList_boxG (vs := wireC x) rfl _ rfl rfl ?_)
 intro u1 g1 p1 s1
 have c0 : u1.cell? ⟨w.heap.size, 0, none⟩ = some (.int .i64 x.kind) := p1.c 0 _ rfl
 go_wp2_with fail
 clear c0
 refine (hW _ g1).mono ?_
 clear hW
 rintro e2 u2 ⟨rfl, g2⟩
 have p2 := p1.below g2 (by omega)
 have G2 := g1.trans (g2.mono (by omega))
 have z2 := g2.size
 clear p1 g1 g2
 go_wp2_with (refine wpList_allocG hZ rfl rfl ?_)
 intro u3 g3 q3 s3
 have p3 := p2.below g3 (by omega)
 have G3 := G2.trans (g3.mono (by omega))
 have hr4 := q3.run 0 4 (show 0 + 4 ≤ 4 by decide)
 go_wp2_with (refine wpList_storeG Tryz.sizeOf307 _ _ rfl rfl rfl rfl rfl (formC_one f) hr4.1 hr4.2 ?_)
 intro u4 L
 have q4 := L.var q3
 have p4 := L.other p3 (by omega)
 have G4 := L.below _ _ (by omega) G3
 have z4 := L.size
 obtain ⟨FB, hFB⟩ : ∃ FB, u2.heap.size = FB := ⟨_, rfl⟩
 rw [hFB] at q4 ⊢
 have hFB4 : FB < u4.heap.size := by omega
 have hw4 : w.heap.size < u4.heap.size := by omega
 clear L q3 p3 G3 g3 hr4 hZ G2 p2 s3 z4 hFB z2
 go_wp2
 go_ret
 exact ⟨rfl, G4⟩

set_option maxHeartbeats 2000000 in
theorem wOk_10xxx (w : World) (x : WireD) (n : Nat) (f : FormD) (hW : ∀ u, Below w.heap.size w u → Calls Tryz.prog 233 #[.int .i64 x.kind] u fun e w' => e = .returned (.tuple #[.agg (formC f).toArray, .bool true]) ∧ Below u.heap.size u w') (hSa : ∀ u, Calls Tryz.prog 234 #[.agg (srcC x.a).toArray, .int .i64 n] u fun e w' => e = .returned (.bool false) ∧ Below u.heap.size u w') :
  Calls Tryz.prog 185 #[.agg (wireC x).toArray, .int .i64 n] w fun e w' => e = .returned (.bool false) ∧ Below w.heap.size w w' := by
 have hZ := (zero_of_info (P := Tryz.prog) zero_form).1
 go_enter Tryz.func185, Tryz.ntmps185
 go_wp2_with (refine wpList_boxG (vs := wireC x) rfl _ rfl rfl ?_)
 intro u1 g1 p1 s1
 have c0 : u1.cell? ⟨w.heap.size, 0, none⟩ = some (.int .i64 x.kind) := p1.c 0 _ rfl
 go_wp2_with fail
 clear c0
 refine (hW _ g1).mono ?_
 clear hW
 rintro e2 u2 ⟨rfl, g2⟩
 have p2 := p1.below g2 (by omega)
 have G2 := g1.trans (g2.mono (by omega))
 have z2 := g2.size
 clear p1 g1 g2
 go_wp2_with (refine wpList_allocG hZ rfl rfl ?_)
 intro u3 g3 q3 s3
 have p3 := p2.below g3 (by omega)
 have G3 := G2.trans (g3.mono (by omega))
 have hr4 := q3.run 0 4 (show 0 + 4 ≤ 4 by decide)
 go_wp2_with (refine wpList_storeG Tryz.sizeOf307 _ _ rfl rfl rfl rfl rfl (formC_one f) hr4.1 hr4.2 ?_)
 intro u4 L
 have q4 := L.var q3
 have p4 := L.other p3 (by omega)
 have G4 := L.below _ _ (by omega) G3
 have z4 := L.size
 obtain ⟨FB, hFB⟩ : ∃ FB, u2.heap.size = FB := ⟨_, rfl⟩
 rw [hFB] at q4 ⊢
 have hFB4 : FB < u4.heap.size := by omega
 have hw4 : w.heap.size < u4.heap.size := by omega
 clear L q3 p3 G3 g3 hr4 hZ G2 p2 s3 z4 hFB z2
 have a0 : u4.cell? ⟨w.heap.size, 2, none⟩ = some (.int .i64 x.a.kind) := p4.c 2 _ rfl
 have a1 : u4.cell? ⟨w.heap.size, 3, none⟩ = some (.int .i64 x.a.at_) := p4.c 3 _ rfl
 have a2 : u4.cell? ⟨w.heap.size, 4, none⟩ = some (.int .i64 x.a.ak) := p4.c 4 _ rfl
 have a3 : u4.cell? ⟨w.heap.size, 5, none⟩ = some (.int .i64 x.a.aat) := p4.c 5 _ rfl
 have a4 : u4.cell? ⟨w.heap.size, 6, none⟩ = some (.bool x.a.no) := p4.c 6 _ rfl
 go_wp2_with fail
 clear a0 a1 a2 a3 a4
 refine (hSa _).mono ?_
 clear hSa
 rintro e5 u5 ⟨rfl, g5⟩
 have p5 := p4.below g5 hw4
 have q5 := q4.below g5 hFB4
 have G5 := G4.trans (g5.mono (by omega))
 have z5 := g5.size
 have hw5 : w.heap.size < u5.heap.size := by omega
 have hFB5 : FB < u5.heap.size := by omega
 clear p4 q4 G4 g5 hw4 hFB4 z5
 go_wp2
 go_ret
 exact ⟨rfl, G5⟩

set_option maxHeartbeats 2000000 in
theorem wOk_110x0 (w : World) (x : WireD) (n : Nat) (f : FormD) (hW : ∀ u, Below w.heap.size w u → Calls Tryz.prog 233 #[.int .i64 x.kind] u fun e w' => e = .returned (.tuple #[.agg (formC f).toArray, .bool true]) ∧ Below u.heap.size u w') (hSa : ∀ u, Calls Tryz.prog 234 #[.agg (srcC x.a).toArray, .int .i64 n] u fun e w' => e = .returned (.bool true) ∧ Below u.heap.size u w') (hz : (x.n != 0) = false) (ht : f.two = false) (r : Bool) (hr : decide (x.b = noSrc) = r) :
  Calls Tryz.prog 185 #[.agg (wireC x).toArray, .int .i64 n] w fun e w' => e = .returned (.bool r) ∧ Below w.heap.size w w' := by
 have hZ := (zero_of_info (P := Tryz.prog) zero_form).1
 have hE := fun p q u => guard_src .eql p q x.b noSrc u
 have hQ := fun u => eql_src x.b noSrc u
 rw [hr] at hQ
 clear hr
 obtain ⟨fk, fw, fn, ft⟩ := f
 simp only at ht
 subst ht
 go_enter Tryz.func185, Tryz.ntmps185
 go_wp2_with (refine wpList_boxG (vs := wireC x) rfl _ rfl rfl ?_)
 intro u1 g1 p1 s1
 have c0 : u1.cell? ⟨w.heap.size, 0, none⟩ = some (.int .i64 x.kind) := p1.c 0 _ rfl
 go_wp2_with fail
 clear c0
 refine (hW _ g1).mono ?_
 clear hW
 rintro e2 u2 ⟨rfl, g2⟩
 have p2 := p1.below g2 (by omega)
 have G2 := g1.trans (g2.mono (by omega))
 have z2 := g2.size
 clear p1 g1 g2
 go_wp2_with (refine wpList_allocG hZ rfl rfl ?_)
 intro u3 g3 q3 s3
 have p3 := p2.below g3 (by omega)
 have G3 := G2.trans (g3.mono (by omega))
 have hr4 := q3.run 0 4 (show 0 + 4 ≤ 4 by decide)
 go_wp2_with (refine wpList_storeG Tryz.sizeOf307 _ _ rfl rfl rfl rfl rfl (formC_one ⟨fk, fw, fn, false⟩) hr4.1 hr4.2 ?_)
 intro u4 L
 have q4 := L.var q3
 have p4 := L.other p3 (by omega)
 have G4 := L.below _ _ (by omega) G3
 have z4 := L.size
 obtain ⟨FB, hFB⟩ : ∃ FB, u2.heap.size = FB := ⟨_, rfl⟩
 rw [hFB] at q4 ⊢
 have hFB4 : FB < u4.heap.size := by omega
 have hw4 : w.heap.size < u4.heap.size := by omega
 clear L q3 p3 G3 g3 hr4 hZ G2 p2 s3 z4 hFB z2
 have a0 : u4.cell? ⟨w.heap.size, 2, none⟩ = some (.int .i64 x.a.kind) := p4.c 2 _ rfl
 have a1 : u4.cell? ⟨w.heap.size, 3, none⟩ = some (.int .i64 x.a.at_) := p4.c 3 _ rfl
 have a2 : u4.cell? ⟨w.heap.size, 4, none⟩ = some (.int .i64 x.a.ak) := p4.c 4 _ rfl
 have a3 : u4.cell? ⟨w.heap.size, 5, none⟩ = some (.int .i64 x.a.aat) := p4.c 5 _ rfl
 have a4 : u4.cell? ⟨w.heap.size, 6, none⟩ = some (.bool x.a.no) := p4.c 6 _ rfl
 go_wp2_with fail
 clear a0 a1 a2 a3 a4
 refine (hSa _).mono ?_
 clear hSa
 rintro e5 u5 ⟨rfl, g5⟩
 have p5 := p4.below g5 hw4
 have q5 := q4.below g5 hFB4
 have G5 := G4.trans (g5.mono (by omega))
 have z5 := g5.size
 have hw5 : w.heap.size < u5.heap.size := by omega
 have hFB5 : FB < u5.heap.size := by omega
 clear p4 q4 G4 g5 hw4 hFB4 z5
 have c0 : u5.cell? ⟨w.heap.size, 0, none⟩ = some (.int .i64 x.kind) := p5.c 0 _ rfl
 have c1 : u5.cell? ⟨w.heap.size, 1, none⟩ = some (.int .i64 x.n) := p5.c 1 _ rfl
 have t3 : u5.cell? ⟨FB, 3, none⟩ = some (.bool false) := q5.c 3 _ rfl
 have d0 : u5.cell? ⟨w.heap.size, 7, none⟩ = some (.int .i64 x.b.kind) := p5.c 7 _ rfl
 have d1 : u5.cell? ⟨w.heap.size, 8, none⟩ = some (.int .i64 x.b.at_) := p5.c 8 _ rfl
 have d2 : u5.cell? ⟨w.heap.size, 9, none⟩ = some (.int .i64 x.b.ak) := p5.c 9 _ rfl
 have d3 : u5.cell? ⟨w.heap.size, 10, none⟩ = some (.int .i64 x.b.aat) := p5.c 10 _ rfl
 have d4 : u5.cell? ⟨w.heap.size, 11, none⟩ = some (.bool x.b.no) := p5.c 11 _ rfl
 have hE2 : ∀ p q u, Sem.run Tryz.prog (eqGuard .eql 169 p q (.agg #[.int .i64 x.b.kind, .int .i64 x.b.at_, .int .i64 x.b.ak, .int .i64 x.b.aat, .bool x.b.no]) (.agg #[.int .i64 0, .int .i64 0, .int .i64 0, .int .i64 0, .bool false])) u = .ok () u := hE
 have hQ2 : ∀ u, Sem.run Tryz.prog (binOp .eql 169 (.agg #[.int .i64 x.b.kind, .int .i64 x.b.at_, .int .i64 x.b.ak, .int .i64 x.b.aat, .bool x.b.no]) (.agg #[.int .i64 0, .int .i64 0, .int .i64 0, .int .i64 0, .bool false])) u = .ok (.bool r) u := hQ
 clear hE hQ
 go_wp2
 go_ret
 exact ⟨rfl, G5⟩

set_option maxHeartbeats 2000000 in
theorem wOk_110x1 (w : World) (x : WireD) (n : Nat) (f : FormD) (hW : ∀ u, Below w.heap.size w u → Calls Tryz.prog 233 #[.int .i64 x.kind] u fun e w' => e = .returned (.tuple #[.agg (formC f).toArray, .bool true]) ∧ Below u.heap.size u w') (hSa : ∀ u, Calls Tryz.prog 234 #[.agg (srcC x.a).toArray, .int .i64 n] u fun e w' => e = .returned (.bool true) ∧ Below u.heap.size u w') (hz : (x.n != 0) = false) (ht : f.two = true) (r : Bool) (hSb : ∀ u, Calls Tryz.prog 234 #[.agg (srcC x.b).toArray, .int .i64 n] u fun e w' => e = .returned (.bool r) ∧ Below u.heap.size u w') :
  Calls Tryz.prog 185 #[.agg (wireC x).toArray, .int .i64 n] w fun e w' => e = .returned (.bool r) ∧ Below w.heap.size w w' := by
 have hZ := (zero_of_info (P := Tryz.prog) zero_form).1
 obtain ⟨fk, fw, fn, ft⟩ := f
 simp only at ht
 subst ht
 go_enter Tryz.func185, Tryz.ntmps185
 go_wp2_with (refine wpList_boxG (vs := wireC x) rfl _ rfl rfl ?_)
 intro u1 g1 p1 s1
 have c0 : u1.cell? ⟨w.heap.size, 0, none⟩ = some (.int .i64 x.kind) := p1.c 0 _ rfl
 go_wp2_with fail
 clear c0
 refine (hW _ g1).mono ?_
 clear hW
 rintro e2 u2 ⟨rfl, g2⟩
 have p2 := p1.below g2 (by omega)
 have G2 := g1.trans (g2.mono (by omega))
 have z2 := g2.size
 clear p1 g1 g2
 go_wp2_with (refine wpList_allocG hZ rfl rfl ?_)
 intro u3 g3 q3 s3
 have p3 := p2.below g3 (by omega)
 have G3 := G2.trans (g3.mono (by omega))
 have hr4 := q3.run 0 4 (show 0 + 4 ≤ 4 by decide)
 go_wp2_with (refine wpList_storeG Tryz.sizeOf307 _ _ rfl rfl rfl rfl rfl (formC_one ⟨fk, fw, fn, true⟩) hr4.1 hr4.2 ?_)
 intro u4 L
 have q4 := L.var q3
 have p4 := L.other p3 (by omega)
 have G4 := L.below _ _ (by omega) G3
 have z4 := L.size
 obtain ⟨FB, hFB⟩ : ∃ FB, u2.heap.size = FB := ⟨_, rfl⟩
 rw [hFB] at q4 ⊢
 have hFB4 : FB < u4.heap.size := by omega
 have hw4 : w.heap.size < u4.heap.size := by omega
 clear L q3 p3 G3 g3 hr4 hZ G2 p2 s3 z4 hFB z2
 have a0 : u4.cell? ⟨w.heap.size, 2, none⟩ = some (.int .i64 x.a.kind) := p4.c 2 _ rfl
 have a1 : u4.cell? ⟨w.heap.size, 3, none⟩ = some (.int .i64 x.a.at_) := p4.c 3 _ rfl
 have a2 : u4.cell? ⟨w.heap.size, 4, none⟩ = some (.int .i64 x.a.ak) := p4.c 4 _ rfl
 have a3 : u4.cell? ⟨w.heap.size, 5, none⟩ = some (.int .i64 x.a.aat) := p4.c 5 _ rfl
 have a4 : u4.cell? ⟨w.heap.size, 6, none⟩ = some (.bool x.a.no) := p4.c 6 _ rfl
 go_wp2_with fail
 clear a0 a1 a2 a3 a4
 refine (hSa _).mono ?_
 clear hSa
 rintro e5 u5 ⟨rfl, g5⟩
 have p5 := p4.below g5 hw4
 have q5 := q4.below g5 hFB4
 have G5 := G4.trans (g5.mono (by omega))
 have z5 := g5.size
 have hw5 : w.heap.size < u5.heap.size := by omega
 have hFB5 : FB < u5.heap.size := by omega
 clear p4 q4 G4 g5 hw4 hFB4 z5
 have c0 : u5.cell? ⟨w.heap.size, 0, none⟩ = some (.int .i64 x.kind) := p5.c 0 _ rfl
 have c1 : u5.cell? ⟨w.heap.size, 1, none⟩ = some (.int .i64 x.n) := p5.c 1 _ rfl
 have t3 : u5.cell? ⟨FB, 3, none⟩ = some (.bool true) := q5.c 3 _ rfl
 have d0 : u5.cell? ⟨w.heap.size, 7, none⟩ = some (.int .i64 x.b.kind) := p5.c 7 _ rfl
 have d1 : u5.cell? ⟨w.heap.size, 8, none⟩ = some (.int .i64 x.b.at_) := p5.c 8 _ rfl
 have d2 : u5.cell? ⟨w.heap.size, 9, none⟩ = some (.int .i64 x.b.ak) := p5.c 9 _ rfl
 have d3 : u5.cell? ⟨w.heap.size, 10, none⟩ = some (.int .i64 x.b.aat) := p5.c 10 _ rfl
 have d4 : u5.cell? ⟨w.heap.size, 11, none⟩ = some (.bool x.b.no) := p5.c 11 _ rfl
 go_wp2_with fail
 clear d0 d1 d2 d3 d4 t3 c0 c1
 refine (hSb _).mono ?_
 rintro e8 u8 ⟨rfl, g8⟩
 have G8 := G5.trans (g8.mono (by omega))
 clear g8 hSb
 go_wp2
 go_ret
 exact ⟨rfl, G8⟩

set_option maxHeartbeats 2000000 in
theorem wOk_1110x (w : World) (x : WireD) (n : Nat) (f : FormD) (hW : ∀ u, Below w.heap.size w u → Calls Tryz.prog 233 #[.int .i64 x.kind] u fun e w' => e = .returned (.tuple #[.agg (formC f).toArray, .bool true]) ∧ Below u.heap.size u w') (hSa : ∀ u, Calls Tryz.prog 234 #[.agg (srcC x.a).toArray, .int .i64 n] u fun e w' => e = .returned (.bool true) ∧ Below u.heap.size u w') (hz : (x.n != 0) = true) (hb : blockOk (blockNew x.kind x.n) = false) :
  Calls Tryz.prog 185 #[.agg (wireC x).toArray, .int .i64 n] w fun e w' => e = .returned (.bool false) ∧ Below w.heap.size w w' := by
 have hZ := (zero_of_info (P := Tryz.prog) zero_form).1
 go_enter Tryz.func185, Tryz.ntmps185
 go_wp2_with (refine wpList_boxG (vs := wireC x) rfl _ rfl rfl ?_)
 intro u1 g1 p1 s1
 have c0 : u1.cell? ⟨w.heap.size, 0, none⟩ = some (.int .i64 x.kind) := p1.c 0 _ rfl
 go_wp2_with fail
 clear c0
 refine (hW _ g1).mono ?_
 clear hW
 rintro e2 u2 ⟨rfl, g2⟩
 have p2 := p1.below g2 (by omega)
 have G2 := g1.trans (g2.mono (by omega))
 have z2 := g2.size
 clear p1 g1 g2
 go_wp2_with (refine wpList_allocG hZ rfl rfl ?_)
 intro u3 g3 q3 s3
 have p3 := p2.below g3 (by omega)
 have G3 := G2.trans (g3.mono (by omega))
 have hr4 := q3.run 0 4 (show 0 + 4 ≤ 4 by decide)
 go_wp2_with (refine wpList_storeG Tryz.sizeOf307 _ _ rfl rfl rfl rfl rfl (formC_one f) hr4.1 hr4.2 ?_)
 intro u4 L
 have q4 := L.var q3
 have p4 := L.other p3 (by omega)
 have G4 := L.below _ _ (by omega) G3
 have z4 := L.size
 obtain ⟨FB, hFB⟩ : ∃ FB, u2.heap.size = FB := ⟨_, rfl⟩
 rw [hFB] at q4 ⊢
 have hFB4 : FB < u4.heap.size := by omega
 have hw4 : w.heap.size < u4.heap.size := by omega
 clear L q3 p3 G3 g3 hr4 hZ G2 p2 s3 z4 hFB z2
 have a0 : u4.cell? ⟨w.heap.size, 2, none⟩ = some (.int .i64 x.a.kind) := p4.c 2 _ rfl
 have a1 : u4.cell? ⟨w.heap.size, 3, none⟩ = some (.int .i64 x.a.at_) := p4.c 3 _ rfl
 have a2 : u4.cell? ⟨w.heap.size, 4, none⟩ = some (.int .i64 x.a.ak) := p4.c 4 _ rfl
 have a3 : u4.cell? ⟨w.heap.size, 5, none⟩ = some (.int .i64 x.a.aat) := p4.c 5 _ rfl
 have a4 : u4.cell? ⟨w.heap.size, 6, none⟩ = some (.bool x.a.no) := p4.c 6 _ rfl
 go_wp2_with fail
 clear a0 a1 a2 a3 a4
 refine (hSa _).mono ?_
 clear hSa
 rintro e5 u5 ⟨rfl, g5⟩
 have p5 := p4.below g5 hw4
 have q5 := q4.below g5 hFB4
 have G5 := G4.trans (g5.mono (by omega))
 have z5 := g5.size
 have hw5 : w.heap.size < u5.heap.size := by omega
 have hFB5 : FB < u5.heap.size := by omega
 clear p4 q4 G4 g5 hw4 hFB4 z5
 have c0 : u5.cell? ⟨w.heap.size, 0, none⟩ = some (.int .i64 x.kind) := p5.c 0 _ rfl
 have c1 : u5.cell? ⟨w.heap.size, 1, none⟩ = some (.int .i64 x.n) := p5.c 1 _ rfl
 go_wp2_with fail
 clear c0 c1
 refine (iBlockNew_any _ _ _).mono ?_
 rintro e6 u6 ⟨rfl, g6⟩
 have p6 := p5.below g6 hw5
 have q6 := q5.below g6 hFB5
 have G6 := G5.trans (g6.mono (by omega))
 have z6 := g6.size
 have hw6 : w.heap.size < u6.heap.size := by omega
 have hFB6 : FB < u6.heap.size := by omega
 clear p5 q5 G5 g6 hw5 hFB5 z6
 go_wp2_with fail
 refine (iBlockOk_any _ _).mono ?_
 rw [hb]
 rintro e7 u7 ⟨rfl, g7⟩
 have p7 := p6.below g7 hw6
 have q7 := q6.below g7 hFB6
 have G7 := G6.trans (g7.mono (by omega))
 have z7 := g7.size
 have hw7 : w.heap.size < u7.heap.size := by omega
 have hFB7 : FB < u7.heap.size := by omega
 clear p6 q6 G6 g7 hw6 hFB6 z7
 go_wp2
 go_ret
 exact ⟨rfl, G7⟩

set_option maxHeartbeats 2000000 in
theorem wOk_11110 (w : World) (x : WireD) (n : Nat) (f : FormD) (hW : ∀ u, Below w.heap.size w u → Calls Tryz.prog 233 #[.int .i64 x.kind] u fun e w' => e = .returned (.tuple #[.agg (formC f).toArray, .bool true]) ∧ Below u.heap.size u w') (hSa : ∀ u, Calls Tryz.prog 234 #[.agg (srcC x.a).toArray, .int .i64 n] u fun e w' => e = .returned (.bool true) ∧ Below u.heap.size u w') (hz : (x.n != 0) = true) (hb : blockOk (blockNew x.kind x.n) = true) (ht : f.two = false) (r : Bool) (hr : decide (x.b = noSrc) = r) :
  Calls Tryz.prog 185 #[.agg (wireC x).toArray, .int .i64 n] w fun e w' => e = .returned (.bool r) ∧ Below w.heap.size w w' := by
 have hZ := (zero_of_info (P := Tryz.prog) zero_form).1
 have hE := fun p q u => guard_src .eql p q x.b noSrc u
 have hQ := fun u => eql_src x.b noSrc u
 rw [hr] at hQ
 clear hr
 obtain ⟨fk, fw, fn, ft⟩ := f
 simp only at ht
 subst ht
 go_enter Tryz.func185, Tryz.ntmps185
 go_wp2_with (refine wpList_boxG (vs := wireC x) rfl _ rfl rfl ?_)
 intro u1 g1 p1 s1
 have c0 : u1.cell? ⟨w.heap.size, 0, none⟩ = some (.int .i64 x.kind) := p1.c 0 _ rfl
 go_wp2_with fail
 clear c0
 refine (hW _ g1).mono ?_
 clear hW
 rintro e2 u2 ⟨rfl, g2⟩
 have p2 := p1.below g2 (by omega)
 have G2 := g1.trans (g2.mono (by omega))
 have z2 := g2.size
 clear p1 g1 g2
 go_wp2_with (refine wpList_allocG hZ rfl rfl ?_)
 intro u3 g3 q3 s3
 have p3 := p2.below g3 (by omega)
 have G3 := G2.trans (g3.mono (by omega))
 have hr4 := q3.run 0 4 (show 0 + 4 ≤ 4 by decide)
 go_wp2_with (refine wpList_storeG Tryz.sizeOf307 _ _ rfl rfl rfl rfl rfl (formC_one ⟨fk, fw, fn, false⟩) hr4.1 hr4.2 ?_)
 intro u4 L
 have q4 := L.var q3
 have p4 := L.other p3 (by omega)
 have G4 := L.below _ _ (by omega) G3
 have z4 := L.size
 obtain ⟨FB, hFB⟩ : ∃ FB, u2.heap.size = FB := ⟨_, rfl⟩
 rw [hFB] at q4 ⊢
 have hFB4 : FB < u4.heap.size := by omega
 have hw4 : w.heap.size < u4.heap.size := by omega
 clear L q3 p3 G3 g3 hr4 hZ G2 p2 s3 z4 hFB z2
 have a0 : u4.cell? ⟨w.heap.size, 2, none⟩ = some (.int .i64 x.a.kind) := p4.c 2 _ rfl
 have a1 : u4.cell? ⟨w.heap.size, 3, none⟩ = some (.int .i64 x.a.at_) := p4.c 3 _ rfl
 have a2 : u4.cell? ⟨w.heap.size, 4, none⟩ = some (.int .i64 x.a.ak) := p4.c 4 _ rfl
 have a3 : u4.cell? ⟨w.heap.size, 5, none⟩ = some (.int .i64 x.a.aat) := p4.c 5 _ rfl
 have a4 : u4.cell? ⟨w.heap.size, 6, none⟩ = some (.bool x.a.no) := p4.c 6 _ rfl
 go_wp2_with fail
 clear a0 a1 a2 a3 a4
 refine (hSa _).mono ?_
 clear hSa
 rintro e5 u5 ⟨rfl, g5⟩
 have p5 := p4.below g5 hw4
 have q5 := q4.below g5 hFB4
 have G5 := G4.trans (g5.mono (by omega))
 have z5 := g5.size
 have hw5 : w.heap.size < u5.heap.size := by omega
 have hFB5 : FB < u5.heap.size := by omega
 clear p4 q4 G4 g5 hw4 hFB4 z5
 have c0 : u5.cell? ⟨w.heap.size, 0, none⟩ = some (.int .i64 x.kind) := p5.c 0 _ rfl
 have c1 : u5.cell? ⟨w.heap.size, 1, none⟩ = some (.int .i64 x.n) := p5.c 1 _ rfl
 go_wp2_with fail
 clear c0 c1
 refine (iBlockNew_any _ _ _).mono ?_
 rintro e6 u6 ⟨rfl, g6⟩
 have p6 := p5.below g6 hw5
 have q6 := q5.below g6 hFB5
 have G6 := G5.trans (g6.mono (by omega))
 have z6 := g6.size
 have hw6 : w.heap.size < u6.heap.size := by omega
 have hFB6 : FB < u6.heap.size := by omega
 clear p5 q5 G5 g6 hw5 hFB5 z6
 go_wp2_with fail
 refine (iBlockOk_any _ _).mono ?_
 rw [hb]
 rintro e7 u7 ⟨rfl, g7⟩
 have p7 := p6.below g7 hw6
 have q7 := q6.below g7 hFB6
 have G7 := G6.trans (g7.mono (by omega))
 have z7 := g7.size
 have hw7 : w.heap.size < u7.heap.size := by omega
 have hFB7 : FB < u7.heap.size := by omega
 clear p6 q6 G6 g7 hw6 hFB6 z7
 have t3 : u7.cell? ⟨FB, 3, none⟩ = some (.bool false) := q7.c 3 _ rfl
 have d0 : u7.cell? ⟨w.heap.size, 7, none⟩ = some (.int .i64 x.b.kind) := p7.c 7 _ rfl
 have d1 : u7.cell? ⟨w.heap.size, 8, none⟩ = some (.int .i64 x.b.at_) := p7.c 8 _ rfl
 have d2 : u7.cell? ⟨w.heap.size, 9, none⟩ = some (.int .i64 x.b.ak) := p7.c 9 _ rfl
 have d3 : u7.cell? ⟨w.heap.size, 10, none⟩ = some (.int .i64 x.b.aat) := p7.c 10 _ rfl
 have d4 : u7.cell? ⟨w.heap.size, 11, none⟩ = some (.bool x.b.no) := p7.c 11 _ rfl
 go_wp2_with (refine wpList_binG _ _ rfl rfl rfl rfl (hE _ _ _) (hQ _) ?_)
 go_ret
 exact ⟨rfl, G7⟩

set_option maxHeartbeats 2000000 in
theorem wOk_11111 (w : World) (x : WireD) (n : Nat) (f : FormD) (hW : ∀ u, Below w.heap.size w u → Calls Tryz.prog 233 #[.int .i64 x.kind] u fun e w' => e = .returned (.tuple #[.agg (formC f).toArray, .bool true]) ∧ Below u.heap.size u w') (hSa : ∀ u, Calls Tryz.prog 234 #[.agg (srcC x.a).toArray, .int .i64 n] u fun e w' => e = .returned (.bool true) ∧ Below u.heap.size u w') (hz : (x.n != 0) = true) (hb : blockOk (blockNew x.kind x.n) = true) (ht : f.two = true) (r : Bool) (hSb : ∀ u, Calls Tryz.prog 234 #[.agg (srcC x.b).toArray, .int .i64 n] u fun e w' => e = .returned (.bool r) ∧ Below u.heap.size u w') :
  Calls Tryz.prog 185 #[.agg (wireC x).toArray, .int .i64 n] w fun e w' => e = .returned (.bool r) ∧ Below w.heap.size w w' := by
 have hZ := (zero_of_info (P := Tryz.prog) zero_form).1
 obtain ⟨fk, fw, fn, ft⟩ := f
 simp only at ht
 subst ht
 go_enter Tryz.func185, Tryz.ntmps185
 go_wp2_with (refine wpList_boxG (vs := wireC x) rfl _ rfl rfl ?_)
 intro u1 g1 p1 s1
 have c0 : u1.cell? ⟨w.heap.size, 0, none⟩ = some (.int .i64 x.kind) := p1.c 0 _ rfl
 go_wp2_with fail
 clear c0
 refine (hW _ g1).mono ?_
 clear hW
 rintro e2 u2 ⟨rfl, g2⟩
 have p2 := p1.below g2 (by omega)
 have G2 := g1.trans (g2.mono (by omega))
 have z2 := g2.size
 clear p1 g1 g2
 go_wp2_with (refine wpList_allocG hZ rfl rfl ?_)
 intro u3 g3 q3 s3
 have p3 := p2.below g3 (by omega)
 have G3 := G2.trans (g3.mono (by omega))
 have hr4 := q3.run 0 4 (show 0 + 4 ≤ 4 by decide)
 go_wp2_with (refine wpList_storeG Tryz.sizeOf307 _ _ rfl rfl rfl rfl rfl (formC_one ⟨fk, fw, fn, true⟩) hr4.1 hr4.2 ?_)
 intro u4 L
 have q4 := L.var q3
 have p4 := L.other p3 (by omega)
 have G4 := L.below _ _ (by omega) G3
 have z4 := L.size
 obtain ⟨FB, hFB⟩ : ∃ FB, u2.heap.size = FB := ⟨_, rfl⟩
 rw [hFB] at q4 ⊢
 have hFB4 : FB < u4.heap.size := by omega
 have hw4 : w.heap.size < u4.heap.size := by omega
 clear L q3 p3 G3 g3 hr4 hZ G2 p2 s3 z4 hFB z2
 have a0 : u4.cell? ⟨w.heap.size, 2, none⟩ = some (.int .i64 x.a.kind) := p4.c 2 _ rfl
 have a1 : u4.cell? ⟨w.heap.size, 3, none⟩ = some (.int .i64 x.a.at_) := p4.c 3 _ rfl
 have a2 : u4.cell? ⟨w.heap.size, 4, none⟩ = some (.int .i64 x.a.ak) := p4.c 4 _ rfl
 have a3 : u4.cell? ⟨w.heap.size, 5, none⟩ = some (.int .i64 x.a.aat) := p4.c 5 _ rfl
 have a4 : u4.cell? ⟨w.heap.size, 6, none⟩ = some (.bool x.a.no) := p4.c 6 _ rfl
 go_wp2_with fail
 clear a0 a1 a2 a3 a4
 refine (hSa _).mono ?_
 clear hSa
 rintro e5 u5 ⟨rfl, g5⟩
 have p5 := p4.below g5 hw4
 have q5 := q4.below g5 hFB4
 have G5 := G4.trans (g5.mono (by omega))
 have z5 := g5.size
 have hw5 : w.heap.size < u5.heap.size := by omega
 have hFB5 : FB < u5.heap.size := by omega
 clear p4 q4 G4 g5 hw4 hFB4 z5
 have c0 : u5.cell? ⟨w.heap.size, 0, none⟩ = some (.int .i64 x.kind) := p5.c 0 _ rfl
 have c1 : u5.cell? ⟨w.heap.size, 1, none⟩ = some (.int .i64 x.n) := p5.c 1 _ rfl
 go_wp2_with fail
 clear c0 c1
 refine (iBlockNew_any _ _ _).mono ?_
 rintro e6 u6 ⟨rfl, g6⟩
 have p6 := p5.below g6 hw5
 have q6 := q5.below g6 hFB5
 have G6 := G5.trans (g6.mono (by omega))
 have z6 := g6.size
 have hw6 : w.heap.size < u6.heap.size := by omega
 have hFB6 : FB < u6.heap.size := by omega
 clear p5 q5 G5 g6 hw5 hFB5 z6
 go_wp2_with fail
 refine (iBlockOk_any _ _).mono ?_
 rw [hb]
 rintro e7 u7 ⟨rfl, g7⟩
 have p7 := p6.below g7 hw6
 have q7 := q6.below g7 hFB6
 have G7 := G6.trans (g7.mono (by omega))
 have z7 := g7.size
 have hw7 : w.heap.size < u7.heap.size := by omega
 have hFB7 : FB < u7.heap.size := by omega
 clear p6 q6 G6 g7 hw6 hFB6 z7
 have t3 : u7.cell? ⟨FB, 3, none⟩ = some (.bool true) := q7.c 3 _ rfl
 have d0 : u7.cell? ⟨w.heap.size, 7, none⟩ = some (.int .i64 x.b.kind) := p7.c 7 _ rfl
 have d1 : u7.cell? ⟨w.heap.size, 8, none⟩ = some (.int .i64 x.b.at_) := p7.c 8 _ rfl
 have d2 : u7.cell? ⟨w.heap.size, 9, none⟩ = some (.int .i64 x.b.ak) := p7.c 9 _ rfl
 have d3 : u7.cell? ⟨w.heap.size, 10, none⟩ = some (.int .i64 x.b.aat) := p7.c 10 _ rfl
 have d4 : u7.cell? ⟨w.heap.size, 11, none⟩ = some (.bool x.b.no) := p7.c 11 _ rfl
 go_wp2_with fail
 clear d0 d1 d2 d3 d4 t3
 refine (hSb _).mono ?_
 rintro e8 u8 ⟨rfl, g8⟩
 have G8 := G7.trans (g8.mono (by omega))
 clear g8 hSb
 go_wp2
 go_ret
 exact ⟨rfl, G8⟩

theorem iWireOk_any (w : World) (x : WireD) (n : Nat) (hF : FormsAt w) : Calls Tryz.prog 185 #[.agg (wireC x).toArray, .int .i64 n] w fun e w' => e = .returned (.bool (wireOk x n)) ∧ Below w.heap.size w w' := by
 have hW := fun u (b : Below w.heap.size w u) => wireFormOf_any u x.kind (hF.grow b)
 have hSa := fun u => iSrcOk_any u x.a n
 have hSb := fun u => iSrcOk_any u x.b n
 unfold wireOk
 cases hk : (formOf x.kind).isSome
 ·rw [numW_none x hk, Bool.false_and]
  rw [hk] at hW
  exact wOk_0xxxx w x n _ hW
 rw [numW_eq x hk]
 have h2 := form_two x.kind hk
 rw [hk] at hW
 cases hsa : srcOk x.a n
 ·rw [hsa] at hSa
  rw [Bool.false_and, Bool.and_false]
  exact wOk_10xxx w x n _ hW hSa
 rw [hsa] at hSa
 rw [Bool.true_and]
 cases hz : (x.n == 0)
 ·have nz : (x.n != 0) = true := by unfold bne; rw [hz]; rfl
  rw [Bool.false_or]
  cases hb : blockOk (blockNew x.kind x.n)
  ·rw [Bool.false_and]
   exact wOk_1110x w x n _ hW hSa nz hb
  ·rw [Bool.true_and]
   cases ht : twoK x.kind
   ·exact wOk_11110 w x n _ hW hSa nz hb (h2.trans ht) _ rfl
   ·exact wOk_11111 w x n _ hW hSa nz hb (h2.trans ht) _ hSb
 ·have nz : (x.n != 0) = false := by unfold bne; rw [hz]; rfl
  rw [Bool.true_or, Bool.true_and]
  cases ht : twoK x.kind
  ·exact wOk_110x0 w x n _ hW hSa nz (h2.trans ht) _ rfl
  ·exact wOk_110x1 w x n _ hW hSa nz (h2.trans ht) _ hSb
end Go.Proofs.YtaoiookfmgpmkaaGreatDoor

/-
 The program's drives: the closure, IndexFunc, ContainsFunc.
-/
namespace Go.Proofs.YtaoiookfmgpmkaaGreatDoor
open Go.ChangeShapes Go.WideShapes Go.ChangeAt Go.RowKit
set_option linter.unusedVariables false
set_option linter.unusedSimpArgs false
set_option maxRecDepth 100000

theorem GR.take {α : Type} {E : Elem α} {w : World} {lo hi : Nat} {ad : Option Go.Addr} {len cap : Nat} {xs : List α} (h : GR E w lo hi (.slice ad len cap) xs) (k : Nat) (hk : k ≤ xs.length) : GR E w lo hi (.slice ad k cap) (xs.take k) := by
 obtain ⟨ad', cap', hv, h1, h2, h3⟩ := h
 simp only [Value.slice.injEq] at hv
 obtain ⟨rfl, rfl, rfl⟩ := hv
 have hl : (xs.take k).length = k := by rw [List.length_take]; omega
 refine ⟨_, _, by rw [hl], by omega, h2, ?_⟩
 rcases h3 with rfl | ⟨b, off, ha, hb1, hb2, hc⟩
 ·exact .inl (by simp)
 ·exact .inr ⟨b, off, ha, hb1, hb2, fun i x hx => hc i x (by
   rw [List.getElem?_take] at hx
   split at hx
   ·exact hx
   ·cases hx)⟩

def sameF_ (B : Nat) : Value := .func (.func 236) #[] #[.pointer (some ⟨B, 0, none⟩)]

set_option maxHeartbeats 1000000 in
theorem same1_any (w : World) (e d : DriveD) (B : Nat) (q : VarG w B (driveC d)) (hl : B < w.heap.size) :
  Calls Tryz.prog 236 #[.agg (driveC e).toArray, .pointer (some ⟨B, 0, none⟩)] w fun r w' => r = .returned (.bool (e.tk == d.tk && e.ta == d.ta)) ∧ Below w.heap.size w w' := by
 have hE := fun p q u => guard_addrK .eql p q e.tk e.ta d.tk d.ta u
 have hQ := fun u => eql_addrK e.tk e.ta d.tk d.ta u
 generalize (e.tk == d.tk && e.ta == d.ta) = r at *
 go_enter Tryz.func236, Tryz.ntmps236
 go_wp2_with (refine wpList_boxG (vs := driveC e) rfl _ rfl rfl ?_)
 intro u1 g1 p1 s1
 have hc : CV u1 w.heap.size 0 [.int .i64 e.tk, .int .i64 e.ta] := p1.c.part 0 2
 have hd : CV u1 B 0 [.int .i64 d.tk, .int .i64 d.ta] := (q.below g1 hl).c.part 0 2
 go_wp2_with (first
  | refine wpList_loadG Tryz.isAgg118 Tryz.sizeOf118 _ rfl rfl rfl rfl hc ?_
  | refine wpList_loadG Tryz.isAgg118 Tryz.sizeOf118 _ rfl rfl rfl rfl hd ?_
  | refine wpList_binG _ _ rfl rfl rfl rfl (hE _ _ _) (hQ _) ?_)
 go_ret
 exact ⟨rfl, g1⟩

set_option maxHeartbeats 4000000 in
theorem indexFunc_any (w : World) (lo hi : Nat) (v : Value) (xs : List DriveD) (d : DriveD) (B : Nat) (h : GR driveE w lo hi v xs) (hhi : hi ≤ w.heap.size) (q : VarG w B (driveC d)) (hl : B < w.heap.size) :
  Calls Tryz.prog 274 #[v, sameF_ B] w fun r w' => ∃ z : Int, r = .returned (.int .i64 z) ∧ decide (0 ≤ z) = !freshD xs d ∧ Below w.heap.size w w' := by
 obtain ⟨ad, cap, rfl, h1, h2⟩ := h.shape
 have HK : Hid (GR driveE w lo hi (.slice ad xs.length cap) xs) := h
 clear h
 unfold maxLen at h2
 unfold sameF_
 go_enter Tryz.func274, Tryz.ntmps274
 go_wp2_with fail
 go_loopw [8] (fun i wr => ∃ j : Nat, j ≤ xs.length ∧ i = .int .i64 j ∧ Below w.heap.size w wr ∧ FreshTo xs d j) (fun i _ => xs.length - (intOf i).toNat)
 case atStart => exact ⟨0, Nat.zero_le _, rfl, Below.refl _ _, fun k e hk _ => by omega⟩
 case round =>
  obtain ⟨j, hj, rfl, hb, hto⟩ := hrel
  have HT : Hid (FreshTo xs d j) := hto
  clear hto
  have hsz := hb.size
  by_cases hlt : j < xs.length
  ·obtain ⟨x, hx⟩ : ∃ x, xs[j]? = some x := ⟨xs[j], List.getElem?_eq_getElem hlt⟩
   obtain ⟨b, off, capx, hv, hb1, hb2, h5⟩ := HK.out.at_ hx
   simp only [Value.slice.injEq, true_and] at hv
   obtain ⟨rfl, rfl⟩ := hv
   have h5 : CV wr b (off + j * 3) (driveC x) := h5.below hb (by omega)
   have HX : Hid (xs[j]? = some x) := hx
   have hS := same1_any wr x d B (q.below hb hl) (by omega)
   clear hx
   obtain ⟨c, hc⟩ : ∃ c, (x.tk == d.tk && x.ta == d.ta) = c := ⟨_, rfl⟩
   have HC : Hid ((x.tk == d.tk && x.ta == d.ta) = c) := hc
   rw [hc] at hS
   clear hc
   go_wp2_with (refine wpList_loadG Tryz.isAgg173 Tryz.sizeOf173 _ rfl rfl rfl rfl h5 ?_)
   refine hS.mono ?_
   clear hS h5
   rintro e1 u1 ⟨rfl, g1⟩
   have hb2 : Below w.heap.size w u1 := hb.trans (g1.mono hsz)
   clear g1 hb hsz
   cases c
   ·have HN : Hid (FreshTo xs d (j + 1)) := fresh_next HT.out HX.out HC.out
    go_wp2
    go_roundw
    case rel => exact ⟨j + 1, by omega, by go_num, hb2, HN.out⟩
    case measure => simp [intOf]; omega
   ·have HF : Hid (freshD xs d = false) := by
     show freshD xs d = false
     unfold freshD
     cases e' : xs.all _ with
     | false => rfl
     | true =>
      have := List.all_eq_true.mp e' x (List.mem_of_getElem? HX.out)
      simp only [HC.out] at this; cases this
    go_wp2
    go_ret
    exact ⟨_, rfl, by rw [HF.out]; exact decide_eq_true (by omega), hb2⟩
  ·obtain rfl : j = xs.length := by omega
   have HF : Hid (freshD xs d = true) := by
    have := freshD_of HT.out
    rwa [List.take_length] at this
   go_wp2
   go_ret
   exact ⟨_, rfl, by rw [HF.out]; rfl, hb⟩

set_option maxHeartbeats 1000000 in
theorem containsFunc_any (w : World) (lo hi : Nat) (v : Value) (xs : List DriveD) (d : DriveD) (B : Nat) (h : GR driveE w lo hi v xs) (hhi : hi ≤ w.heap.size) (q : VarG w B (driveC d)) (hl : B < w.heap.size) :
  Calls Tryz.prog 235 #[v, sameF_ B] w fun r w' => r = .returned (.bool (!freshD xs d)) ∧ Below w.heap.size w w' := by
 have hI := indexFunc_any w lo hi v xs d B h hhi q hl
 obtain ⟨ad, cap, rfl, h1, h2⟩ := h.shape
 clear h
 unfold sameF_ at *
 go_enter Tryz.func235, Tryz.ntmps235
 go_wp2_with fail
 refine hI.mono ?_
 clear hI
 rintro e1 u1 ⟨z, rfl, hz, g1⟩
 go_wp2
 go_ret
 exact ⟨rfl, g1⟩
end Go.Proofs.YtaoiookfmgpmkaaGreatDoor
