import Derived.Test.YtaoiookfmgpmkaaGreatDoorQM1
import Derived.Test.YtaoiookfmgpmkaaGreatDoorQM13
import Derived.Test.YtaoiookfmgpmkaaGreatDoorQM2

/-
 Which wires have been told, as a list of yes and no; the order step by step.
-/
namespace Go.Proofs.YtaoiookfmgpmkaaGreatDoor
open Go.RowKit
set_option linter.unusedVariables false

def flagsW (n : Nat) (ord : List Nat) : List Bool := (List.range n).map fun i => ord.contains i

theorem flagsW_len (n : Nat) (ord : List Nat) : (flagsW n ord).length = n := by simp [flagsW]
theorem flagsW_at {n : Nat} {ord : List Nat} {i : Nat} (h : i < n) : (flagsW n ord)[i]? = some (ord.contains i) := by simp [flagsW, h]

def waitsF (s : SrcD) (bs : List Bool) : Bool := s.kind == 2 && !((bs[s.at_.toNat]?).getD false)

theorem waitsF_eq {s : SrcD} {n : Nat} {ord : List Nat} (h : s.kind = 2 → 0 ≤ s.at_ ∧ s.at_ < n) : waitsF s (flagsW n ord) = waitsS s ord := by
 unfold waitsF waitsS
 by_cases k : s.kind = 2
 ·have := h k
  rw [flagsW_at (by omega)]
  rfl
 ·have e : (s.kind == 2) = false := by simpa using k
  rw [e, Bool.false_and, Bool.false_and]

def oneW (ws : List WireD) (ord : List Nat) : List Nat := match pickW ws ord with | none => ord | some i => ord ++ [i]

theorem tellW_none {ws : List WireD} {ord : List Nat} (h : pickW ws ord = none) : ∀ k, tellW ws k ord = ord
 | 0 => rfl
 | k + 1 => by rw [tellW, h]

theorem tellW_succ (ws : List WireD) : ∀ (k : Nat) (ord : List Nat), tellW ws (k + 1) ord = oneW ws (tellW ws k ord)
 | 0, ord => by
  rw [tellW]
  unfold oneW
  rw [tellW]
  cases pickW ws ord <;> rfl
 | k + 1, ord => by
  rw [tellW]
  cases h : pickW ws ord with
  | none => rw [tellW_none h]; unfold oneW; rw [h]
  | some i =>
   show tellW ws (k + 1) (ord ++ [i]) = _
   rw [tellW_succ ws k (ord ++ [i])]
   have e : tellW ws (k + 1) ord = tellW ws k (ord ++ [i]) := by rw [tellW, h]
   rw [e]

def firstW (ws : List WireD) (ord : List Nat) (i : Nat) : Option Nat := (List.range i).find? (canW ws ord)

theorem firstW_all (ws : List WireD) (ord : List Nat) : firstW ws ord ws.length = pickW ws ord := rfl
theorem firstW_succ {ws : List WireD} {ord : List Nat} {i : Nat} (h : firstW ws ord i = none) : firstW ws ord (i + 1) = if canW ws ord i then some i else none := by
 unfold firstW at *
 rw [List.range_succ, List.find?_append, h]
 simp only [List.find?_cons, List.find?_nil, Option.none_or]
 cases canW ws ord i <;> rfl
theorem firstW_some {ws : List WireD} {ord : List Nat} {i k : Nat} (h : firstW ws ord i = some k) : ∀ m, i ≤ m → firstW ws ord m = some k := by
 intro m hm
 induction m with
 | zero =>
  obtain rfl : i = 0 := by omega
  exact h
 | succ m ih =>
  by_cases e : i = m + 1
  ·rw [← e]; exact h
  ·unfold firstW at *
   rw [List.range_succ, List.find?_append, ih (by omega)]
   rfl
def atW (o : Option Nat) : Int := match o with | some k => k | none => -1

theorem canW_at {ws : List WireD} {ord : List Nat} {i : Nat} {x : WireD} (hx : ws[i]? = some x) (hok : (x.a.kind = 2 → 0 ≤ x.a.at_ ∧ x.a.at_ < ws.length) ∧ (x.b.kind = 2 → 0 ≤ x.b.at_ ∧ x.b.at_ < ws.length)) : canW ws ord i = (!ord.contains i && !(waitsF x.a (flagsW ws.length ord) || waitsF x.b (flagsW ws.length ord))) := by
 unfold canW
 rw [hx, waitsF_eq hok.1, waitsF_eq hok.2]
 rfl
end Go.Proofs.YtaoiookfmgpmkaaGreatDoor

/-
 netOk, part by part.
-/
namespace Go.Proofs.YtaoiookfmgpmkaaGreatDoor
open Go.RowKit
set_option linter.unusedVariables false

theorem netOk_big {n : NetD} (h : 8 < n.ws.length) : netOk n = false := by unfold netOk; rw [decide_eq_false (by omega), Bool.false_and]
theorem netOk_big2 {n : NetD} (h : 4 < n.ds.length) : netOk n = false := by unfold netOk; rw [decide_eq_false (show ¬ n.ds.length ≤ 4 by omega), Bool.false_and, Bool.and_false]
theorem netOk_wire {n : NetD} {i : Nat} {x : WireD} (hx : n.ws[i]? = some x) (h : wireOk x n.ws.length = false) : netOk n = false := by
 have : n.ws.all (fun w => wireOk w n.ws.length) = false := by
  cases e : n.ws.all (fun w => wireOk w n.ws.length) with
  | false => rfl
  | true =>
   have := List.all_eq_true.mp e x (List.mem_of_getElem? hx)
   rw [h] at this; cases this
 unfold netOk; rw [this, Bool.false_and, Bool.and_false, Bool.and_false]
theorem drivesOk_false {ds : List DriveD} {n i : Nat} {d : DriveD} (hd : ds[i]? = some d) (h : (driveOk d n && freshD (ds.take i) d) = false) : drivesOk ds n = false := by
 unfold drivesOk
 cases e : (List.range ds.length).all _ with
 | false => rfl
 | true =>
  have := List.all_eq_true.mp e i (List.mem_range.mpr (List.getElem?_eq_some_iff.mp hd).1)
  rw [hd] at this
  simp only at this
  rw [h] at this; cases this
theorem netOk_drives {n : NetD} (h : drivesOk n.ds n.ws.length = false) : netOk n = false := by unfold netOk; rw [h, Bool.false_and, Bool.and_false, Bool.and_false, Bool.and_false]
theorem netOk_drive {n : NetD} {i : Nat} {d : DriveD} (hd : n.ds[i]? = some d) (h : driveOk d n.ws.length = false) : netOk n = false := netOk_drives (drivesOk_false hd (by rw [h, Bool.false_and]))
theorem netOk_twice {n : NetD} {i k : Nat} {d e : DriveD} (hd : n.ds[i]? = some d) (he : n.ds[k]? = some e) (hk : k < i) (h : (e.tk == d.tk && e.ta == d.ta) = true) : netOk n = false := by
 refine netOk_drives (drivesOk_false hd ?_)
 have : freshD (n.ds.take i) d = false := by
  unfold freshD
  cases e' : (n.ds.take i).all _ with
  | false => rfl
  | true =>
   have hm : e ∈ n.ds.take i := List.mem_of_getElem? (i := k) (by rw [List.getElem?_take, if_pos hk]; exact he)
   have := List.all_eq_true.mp e' e hm
   simp only [h] at this; cases this
 rw [this, Bool.and_false]
theorem freshD_of {ds : List DriveD} {d : DriveD} {i : Nat} (h : ∀ (k : Nat) (e : DriveD), k < i → ds[k]? = some e → (e.tk == d.tk && e.ta == d.ta) = false) : freshD (ds.take i) d = true := by
 unfold freshD
 refine List.all_eq_true.mpr fun e he => ?_
 obtain ⟨k, hk⟩ := List.mem_iff_getElem?.mp he
 rw [List.getElem?_take] at hk
 split at hk
 ·rename_i hlt
  rw [h k e hlt hk]; rfl
 ·cases hk
theorem drivesOk_of {ds : List DriveD} {n : Nat} (h : ∀ (i : Nat) (d : DriveD), ds[i]? = some d → driveOk d n = true ∧ freshD (ds.take i) d = true) : drivesOk ds n = true := by
 unfold drivesOk
 refine List.all_eq_true.mpr fun i hi => ?_
 obtain ⟨d, hd⟩ : ∃ d, ds[i]? = some d := ⟨ds[i]'(by simpa using hi), List.getElem?_eq_getElem _⟩
 rw [hd]
 simp only
 rw [(h i d hd).1, (h i d hd).2]
 rfl
theorem netOk_end {n : NetD} (h1 : n.ws.length ≤ 8) (h2 : n.ds.length ≤ 4) (h3 : ∀ (i : Nat) (x : WireD), n.ws[i]? = some x → wireOk x n.ws.length = true) (h4 : drivesOk n.ds n.ws.length = true) : netOk n = ((orderW n.ws).length == n.ws.length) := by
 have h3' : n.ws.all (fun w => wireOk w n.ws.length) = true := List.all_eq_true.mpr fun x hx => by
  obtain ⟨i, hi⟩ := List.mem_iff_getElem?.mp hx
  exact h3 i x hi
 unfold netOk
 rw [decide_eq_true h1, decide_eq_true h2, h3', h4]
 simp only [Bool.true_and]
 rfl
def WiresTo (ws : List WireD) (n j : Nat) : Prop := ∀ (i : Nat) (y : WireD), i < j → ws[i]? = some y → wireOk y n = true
theorem wires_next {ws : List WireD} {n j : Nat} {x : WireD} (h : WiresTo ws n j) (hx : ws[j]? = some x) (hok : wireOk x n = true) : WiresTo ws n (j + 1) := by
 intro i y hi hy
 by_cases e : i = j
 ·subst e; rw [hx] at hy; cases hy; exact hok
 ·exact h i y (by omega) hy
def DrivesTo (ds : List DriveD) (n j : Nat) : Prop := ∀ (i : Nat) (d : DriveD), i < j → ds[i]? = some d → driveOk d n = true ∧ freshD (ds.take i) d = true
theorem drives_next {ds : List DriveD} {n j : Nat} {x : DriveD} (h : DrivesTo ds n j) (hx : ds[j]? = some x) (hok : driveOk x n = true) (hf : freshD (ds.take j) x = true) : DrivesTo ds n (j + 1) := by
 intro i y hi hy
 by_cases e : i = j
 ·subst e; rw [hx] at hy; cases hy; exact ⟨hok, hf⟩
 ·exact h i y (by omega) hy
def FreshTo (ds : List DriveD) (d : DriveD) (j : Nat) : Prop := ∀ (k : Nat) (e : DriveD), k < j → ds[k]? = some e → (e.tk == d.tk && e.ta == d.ta) = false
theorem fresh_next {ds : List DriveD} {d x : DriveD} {j : Nat} (h : FreshTo ds d j) (hx : ds[j]? = some x) (hc : (x.tk == d.tk && x.ta == d.ta) = false) : FreshTo ds d (j + 1) := by
 intro i y hi hy
 by_cases e : i = j
 ·subst e; rw [hx] at hy; cases hy; exact hc
 ·exact h i y (by omega) hy
end Go.Proofs.YtaoiookfmgpmkaaGreatDoor

/-
 What chapter 7's model (package spec) answers of wires: l7Wire. (Written by our generator gen_netspecw.py.)
-/
namespace Go.Proofs.YtaoiookfmgpmkaaGreatDoor
open Go.ChangeShapes Go.WideShapes Go.ChangeAt Go.RowKit
set_option linter.unusedVariables false
set_option linter.unusedSimpArgs false
set_option maxRecDepth 100000

set_option maxHeartbeats 1000000 in
theorem l7Wire_b0 (w : World) (x : WireD) (n : Nat) (hG : ∀ u, Calls Tryz.prog 169 #[.int .i64 x.kind] u fun e w' => e = .returned (.bool false) ∧ w' = u) (hN : ∀ u, Calls Tryz.prog 211 #[.int .i64 x.kind, .int .i64 x.n] u fun e w' => e = .returned (.bool false) ∧ w' = u) :
  Calls Tryz.prog 173 #[.agg (wireC x).toArray, .int .i64 n] w fun e w' => e = .returned (.bool false) ∧ Below w.heap.size w w' := by
 go_enter Tryz.func173, Tryz.ntmps173
 go_wp2_with (refine wpList_boxG (vs := wireC x) rfl _ rfl rfl ?_)
 intro u1 g1 p1 s1
 have c0 : u1.cell? ⟨w.heap.size, 0, none⟩ = some (.int .i64 x.kind) := p1.c 0 _ rfl
 have c1 : u1.cell? ⟨w.heap.size, 1, none⟩ = some (.int .i64 x.n) := p1.c 1 _ rfl
 go_wp2_with (first
  | (go_at_call 169; refine (hG _).mono ?_; rintro e w' ⟨rfl, rfl⟩)
  | (go_at_call 211; refine (hN _).mono ?_; rintro e w' ⟨rfl, rfl⟩))
 go_ret
 exact ⟨rfl, g1⟩

set_option maxHeartbeats 1000000 in
theorem l7Wire_b10 (w : World) (x : WireD) (n : Nat) (hG : ∀ u, Calls Tryz.prog 169 #[.int .i64 x.kind] u fun e w' => e = .returned (.bool false) ∧ w' = u) (hN : ∀ u, Calls Tryz.prog 211 #[.int .i64 x.kind, .int .i64 x.n] u fun e w' => e = .returned (.bool true) ∧ w' = u) (hSa : ∀ u, Calls Tryz.prog 227 #[.agg (srcC x.a).toArray, .int .i64 n] u fun e w' => e = .returned (.bool false) ∧ Below u.heap.size u w') :
  Calls Tryz.prog 173 #[.agg (wireC x).toArray, .int .i64 n] w fun e w' => e = .returned (.bool false) ∧ Below w.heap.size w w' := by
 go_enter Tryz.func173, Tryz.ntmps173
 go_wp2_with (refine wpList_boxG (vs := wireC x) rfl _ rfl rfl ?_)
 intro u1 g1 p1 s1
 have c0 : u1.cell? ⟨w.heap.size, 0, none⟩ = some (.int .i64 x.kind) := p1.c 0 _ rfl
 have c1 : u1.cell? ⟨w.heap.size, 1, none⟩ = some (.int .i64 x.n) := p1.c 1 _ rfl
 have ha : CV u1 w.heap.size 2 (srcC x.a) := p1.c.part 2 5
 go_wp2_with (first
  | (go_at_call 169; refine (hG _).mono ?_; rintro e w' ⟨rfl, rfl⟩)
  | (go_at_call 211; refine (hN _).mono ?_; rintro e w' ⟨rfl, rfl⟩)
  | refine wpList_loadG Tryz.isAgg169 Tryz.sizeOf169 _ rfl rfl rfl rfl ha ?_)
 clear ha c0 c1
 refine (hSa _).mono ?_
 rintro e2 u2 ⟨rfl, g2⟩
 have G := g1.trans (g2.mono (by omega))
 clear g2 g1 p1
 go_wp2
 go_ret
 exact ⟨rfl, G⟩

set_option maxHeartbeats 1000000 in
theorem l7Wire_b110 (w : World) (x : WireD) (n : Nat) (hG : ∀ u, Calls Tryz.prog 169 #[.int .i64 x.kind] u fun e w' => e = .returned (.bool false) ∧ w' = u) (hN : ∀ u, Calls Tryz.prog 211 #[.int .i64 x.kind, .int .i64 x.n] u fun e w' => e = .returned (.bool true) ∧ w' = u) (hSa : ∀ u, Calls Tryz.prog 227 #[.agg (srcC x.a).toArray, .int .i64 n] u fun e w' => e = .returned (.bool true) ∧ Below u.heap.size u w') (hT : ∀ u, Calls Tryz.prog 179 #[.int .i64 x.kind] u fun e w' => e = .returned (.bool false) ∧ w' = u) (r : Bool) (hr : decide (x.b = noSrc) = r) :
  Calls Tryz.prog 173 #[.agg (wireC x).toArray, .int .i64 n] w fun e w' => e = .returned (.bool r) ∧ Below w.heap.size w w' := by
 have hE := fun p q u => guard_src .eql p q x.b noSrc u
 have hQ := fun u => eql_src x.b noSrc u
 rw [hr] at hQ
 clear hr
 go_enter Tryz.func173, Tryz.ntmps173
 go_wp2_with (refine wpList_boxG (vs := wireC x) rfl _ rfl rfl ?_)
 intro u1 g1 p1 s1
 have c0 : u1.cell? ⟨w.heap.size, 0, none⟩ = some (.int .i64 x.kind) := p1.c 0 _ rfl
 have c1 : u1.cell? ⟨w.heap.size, 1, none⟩ = some (.int .i64 x.n) := p1.c 1 _ rfl
 have ha : CV u1 w.heap.size 2 (srcC x.a) := p1.c.part 2 5
 go_wp2_with (first
  | (go_at_call 169; refine (hG _).mono ?_; rintro e w' ⟨rfl, rfl⟩)
  | (go_at_call 211; refine (hN _).mono ?_; rintro e w' ⟨rfl, rfl⟩)
  | refine wpList_loadG Tryz.isAgg169 Tryz.sizeOf169 _ rfl rfl rfl rfl ha ?_)
 clear ha c0 c1
 refine (hSa _).mono ?_
 rintro e2 u2 ⟨rfl, g2⟩
 have G := g1.trans (g2.mono (by omega))
 have z2 := g2.size
 have p2 := p1.below g2 (by omega)
 clear g2 g1 p1 hSa hG
 have c0 : u2.cell? ⟨w.heap.size, 0, none⟩ = some (.int .i64 x.kind) := p2.c 0 _ rfl
 have hb : CV u2 w.heap.size 7 (srcC x.b) := p2.c.part 7 5
 go_wp2_with (first
  | (go_at_call 179; refine (hT _).mono ?_; rintro e w' ⟨rfl, rfl⟩)
  | refine wpList_loadG Tryz.isAgg169 Tryz.sizeOf169 _ rfl rfl rfl rfl hb ?_
  | refine wpList_binG _ _ rfl rfl rfl rfl (hE _ _ _) (hQ _) ?_)
 go_ret
 exact ⟨rfl, G⟩

set_option maxHeartbeats 1000000 in
theorem l7Wire_b111 (w : World) (x : WireD) (n : Nat) (hG : ∀ u, Calls Tryz.prog 169 #[.int .i64 x.kind] u fun e w' => e = .returned (.bool false) ∧ w' = u) (hN : ∀ u, Calls Tryz.prog 211 #[.int .i64 x.kind, .int .i64 x.n] u fun e w' => e = .returned (.bool true) ∧ w' = u) (hSa : ∀ u, Calls Tryz.prog 227 #[.agg (srcC x.a).toArray, .int .i64 n] u fun e w' => e = .returned (.bool true) ∧ Below u.heap.size u w') (hT : ∀ u, Calls Tryz.prog 179 #[.int .i64 x.kind] u fun e w' => e = .returned (.bool true) ∧ w' = u) (r : Bool) (hSb : ∀ u, Calls Tryz.prog 227 #[.agg (srcC x.b).toArray, .int .i64 n] u fun e w' => e = .returned (.bool r) ∧ Below u.heap.size u w') :
  Calls Tryz.prog 173 #[.agg (wireC x).toArray, .int .i64 n] w fun e w' => e = .returned (.bool r) ∧ Below w.heap.size w w' := by
 go_enter Tryz.func173, Tryz.ntmps173
 go_wp2_with (refine wpList_boxG (vs := wireC x) rfl _ rfl rfl ?_)
 intro u1 g1 p1 s1
 have c0 : u1.cell? ⟨w.heap.size, 0, none⟩ = some (.int .i64 x.kind) := p1.c 0 _ rfl
 have c1 : u1.cell? ⟨w.heap.size, 1, none⟩ = some (.int .i64 x.n) := p1.c 1 _ rfl
 have ha : CV u1 w.heap.size 2 (srcC x.a) := p1.c.part 2 5
 go_wp2_with (first
  | (go_at_call 169; refine (hG _).mono ?_; rintro e w' ⟨rfl, rfl⟩)
  | (go_at_call 211; refine (hN _).mono ?_; rintro e w' ⟨rfl, rfl⟩)
  | refine wpList_loadG Tryz.isAgg169 Tryz.sizeOf169 _ rfl rfl rfl rfl ha ?_)
 clear ha c0 c1
 refine (hSa _).mono ?_
 rintro e2 u2 ⟨rfl, g2⟩
 have G := g1.trans (g2.mono (by omega))
 have z2 := g2.size
 have p2 := p1.below g2 (by omega)
 clear g2 g1 p1 hSa hG
 have c0 : u2.cell? ⟨w.heap.size, 0, none⟩ = some (.int .i64 x.kind) := p2.c 0 _ rfl
 have hb : CV u2 w.heap.size 7 (srcC x.b) := p2.c.part 7 5
 go_wp2_with (first
  | (go_at_call 179; refine (hT _).mono ?_; rintro e w' ⟨rfl, rfl⟩)
  | refine wpList_loadG Tryz.isAgg169 Tryz.sizeOf169 _ rfl rfl rfl rfl hb ?_
  | fail)
 clear hb c0
 refine (hSb _).mono ?_
 rintro e3 u3 ⟨rfl, g3⟩
 have G3 := G.trans (g3.mono (by omega))
 clear g3 G
 go_wp2
 go_ret
 exact ⟨rfl, G3⟩

set_option maxHeartbeats 1000000 in
theorem l7Wire_g0 (w : World) (x : WireD) (n : Nat) (hG : ∀ u, Calls Tryz.prog 169 #[.int .i64 x.kind] u fun e w' => e = .returned (.bool true) ∧ w' = u) (nz : (x.n != 0) = true) :
  Calls Tryz.prog 173 #[.agg (wireC x).toArray, .int .i64 n] w fun e w' => e = .returned (.bool false) ∧ Below w.heap.size w w' := by
 go_enter Tryz.func173, Tryz.ntmps173
 go_wp2_with (refine wpList_boxG (vs := wireC x) rfl _ rfl rfl ?_)
 intro u1 g1 p1 s1
 have c0 : u1.cell? ⟨w.heap.size, 0, none⟩ = some (.int .i64 x.kind) := p1.c 0 _ rfl
 have c1 : u1.cell? ⟨w.heap.size, 1, none⟩ = some (.int .i64 x.n) := p1.c 1 _ rfl
 go_wp2_with (first
  | (go_at_call 169; refine (hG _).mono ?_; rintro e w' ⟨rfl, rfl⟩))
 go_ret
 exact ⟨rfl, g1⟩

set_option maxHeartbeats 1000000 in
theorem l7Wire_g10 (w : World) (x : WireD) (n : Nat) (hG : ∀ u, Calls Tryz.prog 169 #[.int .i64 x.kind] u fun e w' => e = .returned (.bool true) ∧ w' = u) (nz : (x.n != 0) = false) (hSa : ∀ u, Calls Tryz.prog 227 #[.agg (srcC x.a).toArray, .int .i64 n] u fun e w' => e = .returned (.bool false) ∧ Below u.heap.size u w') :
  Calls Tryz.prog 173 #[.agg (wireC x).toArray, .int .i64 n] w fun e w' => e = .returned (.bool false) ∧ Below w.heap.size w w' := by
 go_enter Tryz.func173, Tryz.ntmps173
 go_wp2_with (refine wpList_boxG (vs := wireC x) rfl _ rfl rfl ?_)
 intro u1 g1 p1 s1
 have c0 : u1.cell? ⟨w.heap.size, 0, none⟩ = some (.int .i64 x.kind) := p1.c 0 _ rfl
 have c1 : u1.cell? ⟨w.heap.size, 1, none⟩ = some (.int .i64 x.n) := p1.c 1 _ rfl
 have a0 : u1.cell? ⟨w.heap.size, 2, none⟩ = some (.int .i64 x.a.kind) := p1.c 2 _ rfl
 have a1 : u1.cell? ⟨w.heap.size, 3, none⟩ = some (.int .i64 x.a.at_) := p1.c 3 _ rfl
 have a2 : u1.cell? ⟨w.heap.size, 4, none⟩ = some (.int .i64 x.a.ak) := p1.c 4 _ rfl
 have a3 : u1.cell? ⟨w.heap.size, 5, none⟩ = some (.int .i64 x.a.aat) := p1.c 5 _ rfl
 have a4 : u1.cell? ⟨w.heap.size, 6, none⟩ = some (.bool x.a.no) := p1.c 6 _ rfl
 go_wp2_with (first
  | (go_at_call 169; refine (hG _).mono ?_; rintro e w' ⟨rfl, rfl⟩))
 clear a0 a1 a2 a3 a4 c0 c1
 refine (hSa _).mono ?_
 rintro e2 u2 ⟨rfl, g2⟩
 have G := g1.trans (g2.mono (by omega))
 clear g2 g1 p1
 go_wp2
 go_ret
 exact ⟨rfl, G⟩

set_option maxHeartbeats 1000000 in
theorem l7Wire_g110 (w : World) (x : WireD) (n : Nat) (hG : ∀ u, Calls Tryz.prog 169 #[.int .i64 x.kind] u fun e w' => e = .returned (.bool true) ∧ w' = u) (nz : (x.n != 0) = false) (hSa : ∀ u, Calls Tryz.prog 227 #[.agg (srcC x.a).toArray, .int .i64 n] u fun e w' => e = .returned (.bool true) ∧ Below u.heap.size u w') (hT : ∀ u, Calls Tryz.prog 179 #[.int .i64 x.kind] u fun e w' => e = .returned (.bool false) ∧ w' = u) (r : Bool) (hr : decide (x.b = noSrc) = r) :
  Calls Tryz.prog 173 #[.agg (wireC x).toArray, .int .i64 n] w fun e w' => e = .returned (.bool r) ∧ Below w.heap.size w w' := by
 have hE := fun p q u => guard_src .eql p q x.b noSrc u
 have hQ := fun u => eql_src x.b noSrc u
 rw [hr] at hQ
 clear hr
 go_enter Tryz.func173, Tryz.ntmps173
 go_wp2_with (refine wpList_boxG (vs := wireC x) rfl _ rfl rfl ?_)
 intro u1 g1 p1 s1
 have c0 : u1.cell? ⟨w.heap.size, 0, none⟩ = some (.int .i64 x.kind) := p1.c 0 _ rfl
 have c1 : u1.cell? ⟨w.heap.size, 1, none⟩ = some (.int .i64 x.n) := p1.c 1 _ rfl
 have a0 : u1.cell? ⟨w.heap.size, 2, none⟩ = some (.int .i64 x.a.kind) := p1.c 2 _ rfl
 have a1 : u1.cell? ⟨w.heap.size, 3, none⟩ = some (.int .i64 x.a.at_) := p1.c 3 _ rfl
 have a2 : u1.cell? ⟨w.heap.size, 4, none⟩ = some (.int .i64 x.a.ak) := p1.c 4 _ rfl
 have a3 : u1.cell? ⟨w.heap.size, 5, none⟩ = some (.int .i64 x.a.aat) := p1.c 5 _ rfl
 have a4 : u1.cell? ⟨w.heap.size, 6, none⟩ = some (.bool x.a.no) := p1.c 6 _ rfl
 go_wp2_with (first
  | (go_at_call 169; refine (hG _).mono ?_; rintro e w' ⟨rfl, rfl⟩))
 clear a0 a1 a2 a3 a4 c0 c1
 refine (hSa _).mono ?_
 rintro e2 u2 ⟨rfl, g2⟩
 have G := g1.trans (g2.mono (by omega))
 have z2 := g2.size
 have p2 := p1.below g2 (by omega)
 clear g2 g1 p1 hSa hG
 have c0 : u2.cell? ⟨w.heap.size, 0, none⟩ = some (.int .i64 x.kind) := p2.c 0 _ rfl
 have hb0 : u2.cell? ⟨w.heap.size, 7, none⟩ = some (.int .i64 x.b.kind) := p2.c 7 _ rfl
 have hb1 : u2.cell? ⟨w.heap.size, 8, none⟩ = some (.int .i64 x.b.at_) := p2.c 8 _ rfl
 have hb2 : u2.cell? ⟨w.heap.size, 9, none⟩ = some (.int .i64 x.b.ak) := p2.c 9 _ rfl
 have hb3 : u2.cell? ⟨w.heap.size, 10, none⟩ = some (.int .i64 x.b.aat) := p2.c 10 _ rfl
 have hb4 : u2.cell? ⟨w.heap.size, 11, none⟩ = some (.bool x.b.no) := p2.c 11 _ rfl
 go_wp2_with (first
  | (go_at_call 179; refine (hT _).mono ?_; rintro e w' ⟨rfl, rfl⟩)
  | refine wpList_binG _ _ rfl rfl rfl rfl (hE _ _ _) (hQ _) ?_)
 go_ret
 exact ⟨rfl, G⟩

set_option maxHeartbeats 1000000 in
theorem l7Wire_g111 (w : World) (x : WireD) (n : Nat) (hG : ∀ u, Calls Tryz.prog 169 #[.int .i64 x.kind] u fun e w' => e = .returned (.bool true) ∧ w' = u) (nz : (x.n != 0) = false) (hSa : ∀ u, Calls Tryz.prog 227 #[.agg (srcC x.a).toArray, .int .i64 n] u fun e w' => e = .returned (.bool true) ∧ Below u.heap.size u w') (hT : ∀ u, Calls Tryz.prog 179 #[.int .i64 x.kind] u fun e w' => e = .returned (.bool true) ∧ w' = u) (r : Bool) (hSb : ∀ u, Calls Tryz.prog 227 #[.agg (srcC x.b).toArray, .int .i64 n] u fun e w' => e = .returned (.bool r) ∧ Below u.heap.size u w') :
  Calls Tryz.prog 173 #[.agg (wireC x).toArray, .int .i64 n] w fun e w' => e = .returned (.bool r) ∧ Below w.heap.size w w' := by
 go_enter Tryz.func173, Tryz.ntmps173
 go_wp2_with (refine wpList_boxG (vs := wireC x) rfl _ rfl rfl ?_)
 intro u1 g1 p1 s1
 have c0 : u1.cell? ⟨w.heap.size, 0, none⟩ = some (.int .i64 x.kind) := p1.c 0 _ rfl
 have c1 : u1.cell? ⟨w.heap.size, 1, none⟩ = some (.int .i64 x.n) := p1.c 1 _ rfl
 have a0 : u1.cell? ⟨w.heap.size, 2, none⟩ = some (.int .i64 x.a.kind) := p1.c 2 _ rfl
 have a1 : u1.cell? ⟨w.heap.size, 3, none⟩ = some (.int .i64 x.a.at_) := p1.c 3 _ rfl
 have a2 : u1.cell? ⟨w.heap.size, 4, none⟩ = some (.int .i64 x.a.ak) := p1.c 4 _ rfl
 have a3 : u1.cell? ⟨w.heap.size, 5, none⟩ = some (.int .i64 x.a.aat) := p1.c 5 _ rfl
 have a4 : u1.cell? ⟨w.heap.size, 6, none⟩ = some (.bool x.a.no) := p1.c 6 _ rfl
 go_wp2_with (first
  | (go_at_call 169; refine (hG _).mono ?_; rintro e w' ⟨rfl, rfl⟩))
 clear a0 a1 a2 a3 a4 c0 c1
 refine (hSa _).mono ?_
 rintro e2 u2 ⟨rfl, g2⟩
 have G := g1.trans (g2.mono (by omega))
 have z2 := g2.size
 have p2 := p1.below g2 (by omega)
 clear g2 g1 p1 hSa hG
 have c0 : u2.cell? ⟨w.heap.size, 0, none⟩ = some (.int .i64 x.kind) := p2.c 0 _ rfl
 have hb0 : u2.cell? ⟨w.heap.size, 7, none⟩ = some (.int .i64 x.b.kind) := p2.c 7 _ rfl
 have hb1 : u2.cell? ⟨w.heap.size, 8, none⟩ = some (.int .i64 x.b.at_) := p2.c 8 _ rfl
 have hb2 : u2.cell? ⟨w.heap.size, 9, none⟩ = some (.int .i64 x.b.ak) := p2.c 9 _ rfl
 have hb3 : u2.cell? ⟨w.heap.size, 10, none⟩ = some (.int .i64 x.b.aat) := p2.c 10 _ rfl
 have hb4 : u2.cell? ⟨w.heap.size, 11, none⟩ = some (.bool x.b.no) := p2.c 11 _ rfl
 go_wp2_with (first
  | (go_at_call 179; refine (hT _).mono ?_; rintro e w' ⟨rfl, rfl⟩)
  | fail)
 clear hb0 hb1 hb2 hb3 hb4 c0
 refine (hSb _).mono ?_
 rintro e3 u3 ⟨rfl, g3⟩
 have G3 := G.trans (g3.mono (by omega))
 clear g3 G
 go_wp2
 go_ret
 exact ⟨rfl, G3⟩

theorem l7Wire_any (w : World) (x : WireD) (n : Nat) (hn : n ≤ 16777216) : Calls Tryz.prog 173 #[.agg (wireC x).toArray, .int .i64 n] w fun e w' => e = .returned (.bool (wireOk x n)) ∧ Below w.heap.size w w' := by
 have hG := fun u => l7Gate_any u x.kind
 have hN := fun u => l6N_any u x.kind x.n
 have hT := fun u => l7Two_any u x.kind
 have hSa := fun u => l7Src_any u x.a n hn
 have hSb := fun u => l7Src_any u x.b n hn
 unfold wireOk numW
 cases hg : gateK x.kind
 ·rw [hg] at hG
  rw [if_neg (by decide)]
  cases hnum : numB x.kind x.n
  ·rw [hnum] at hN
   exact l7Wire_b0 w x n hG hN
  rw [hnum] at hN
  cases hsa : srcOk x.a n
  ·rw [hsa] at hSa
   exact l7Wire_b10 w x n hG hN hSa
  rw [hsa] at hSa
  cases ht : twoK x.kind
  ·rw [ht] at hT
   exact l7Wire_b110 w x n hG hN hSa hT _ rfl
  ·rw [ht] at hT
   exact l7Wire_b111 w x n hG hN hSa hT _ hSb
 ·rw [hg] at hG
  rw [if_pos rfl]
  cases hnum : (x.n == 0)
  ·have nz : (x.n != 0) = true := by unfold bne; rw [hnum]; rfl
   exact l7Wire_g0 w x n hG nz
  have nz : (x.n != 0) = false := by unfold bne; rw [hnum]; rfl
  cases hsa : srcOk x.a n
  ·rw [hsa] at hSa
   exact l7Wire_g10 w x n hG nz hSa
  rw [hsa] at hSa
  cases ht : twoK x.kind
  ·rw [ht] at hT
   exact l7Wire_g110 w x n hG nz hSa hT _ rfl
  ·rw [ht] at hT
   exact l7Wire_g111 w x n hG nz hSa hT _ hSb
end Go.Proofs.YtaoiookfmgpmkaaGreatDoor

/-
 What chapter 7's model (package spec) answers of the order: l7Waits, l7Order.
-/
namespace Go.Proofs.YtaoiookfmgpmkaaGreatDoor
open Go.ChangeShapes Go.WideShapes Go.ChangeAt Go.RowKit
set_option linter.unusedVariables false
set_option linter.unusedSimpArgs false
set_option maxRecDepth 100000

set_option maxHeartbeats 4000000 in
theorem l7Waits_any (w : World) (x : WireD) (lo hi : Nat) (v : Value) (bs : List Bool) (h : GR boolE w lo hi v bs) (hhi : hi ≤ w.heap.size) (hA : x.a.kind = 2 → 0 ≤ x.a.at_ ∧ x.a.at_ < bs.length) (hB : x.b.kind = 2 → 0 ≤ x.b.at_ ∧ x.b.at_ < bs.length) :
  Calls Tryz.prog 228 #[.agg (wireC x).toArray, v] w fun e w' => e = .returned (.bool (waitsF x.a bs || waitsF x.b bs)) ∧ Below w.heap.size w w' := by
 have find : ∀ s : SrcD, (s.kind = 2 → 0 ≤ s.at_ ∧ s.at_ < bs.length) → s.kind = 2 → ∃ (k : Nat) (z : Bool) (b off cap : Nat), s.at_ = (k : Int) ∧ k < bs.length ∧ bs.length ≤ cap ∧ cap ≤ 9223372036854775807 ∧ v = .slice (some ⟨b, off, none⟩) bs.length cap ∧ waitsF s bs = !z ∧ ∀ u, Below w.heap.size w u → u.cell? ⟨b, off + k, none⟩ = some (.bool z) := by
  intro s hs hk
  obtain ⟨k, hk'⟩ : ∃ k : Nat, s.at_ = (k : Int) := ⟨s.at_.toNat, by have := hs hk; omega⟩
  have hlt : k < bs.length := by have := hs hk; omega
  obtain ⟨ad, cap, hv, h1, h2⟩ := h.shape
  obtain ⟨b, off, cap', hv', hb1, hb2, hc⟩ := h.at_ (List.getElem?_eq_getElem hlt)
  rw [hv] at hv'
  simp only [Value.slice.injEq, true_and] at hv'
  obtain ⟨rfl, rfl⟩ := hv'
  refine ⟨k, bs[k], b, off, cap, hk', hlt, h1, by unfold maxLen at h2; omega, hv, ?_, fun u hu => ?_⟩
  ·unfold waitsF
   have e : (s.kind == 2) = true := by simpa using hk
   rw [e, Bool.true_and, hk', Int.toNat_natCast, List.getElem?_eq_getElem hlt]
   rfl
  ·have := (hc.below hu (by omega)) 0 (.bool bs[k]) rfl
   rwa [show off + k * boolE.k + 0 = off + k by show off + k * 1 + 0 = off + k; omega] at this
 have none_ : ∀ s : SrcD, s.kind ≠ 2 → waitsF s bs = false := by
  intro s hs
  have e : (s.kind == 2) = false := by simpa using hs
  unfold waitsF; rw [e, Bool.false_and]
 obtain ⟨ad0, cap0, hv0, _, _⟩ := h.shape
 by_cases ka : x.a.kind = 2
 ·obtain ⟨k, z, b, off, cap, hk, hlt, hc1, hc2, rfl, hw, hcell⟩ := find _ hA ka
  cases z
  ·rw [hw]
   clear find none_ hv0 h hw
   go_enter Tryz.func228, Tryz.ntmps228
   go_wp2_with (refine wpList_boxG (vs := wireC x) rfl _ rfl rfl ?_)
   intro u1 g1 p1 s1
   have c0 : u1.cell? ⟨w.heap.size, 2, none⟩ = some (.int .i64 2) := by rw [← ka]; exact p1.c 2 _ rfl
   have c1 : u1.cell? ⟨w.heap.size, 3, none⟩ = some (.int .i64 k) := by rw [← hk]; exact p1.c 3 _ rfl
   have cz := hcell u1 g1
   clear hcell p1
   go_wp2
   go_ret
   exact ⟨rfl, g1⟩
  ·rw [hw]
   by_cases kb : x.b.kind = 2
   ·obtain ⟨k', z', b', off', cap', hk', hlt', hc1', hc2', hv', hw', hcell'⟩ := find _ hB kb
    rw [hw']
    simp only [Value.slice.injEq, Option.some.injEq, Addr.mk.injEq, and_true, true_and] at hv'
    obtain ⟨⟨rfl, rfl⟩, rfl⟩ := hv'
    clear find none_ hv0 h hw hw'
    go_enter Tryz.func228, Tryz.ntmps228
    go_wp2_with (refine wpList_boxG (vs := wireC x) rfl _ rfl rfl ?_)
    intro u1 g1 p1 s1
    have c0 : u1.cell? ⟨w.heap.size, 2, none⟩ = some (.int .i64 2) := by rw [← ka]; exact p1.c 2 _ rfl
    have c1 : u1.cell? ⟨w.heap.size, 3, none⟩ = some (.int .i64 k) := by rw [← hk]; exact p1.c 3 _ rfl
    have d0 : u1.cell? ⟨w.heap.size, 7, none⟩ = some (.int .i64 2) := by rw [← kb]; exact p1.c 7 _ rfl
    have d1 : u1.cell? ⟨w.heap.size, 8, none⟩ = some (.int .i64 k') := by rw [← hk']; exact p1.c 8 _ rfl
    have cz := hcell u1 g1
    have dz := hcell' u1 g1
    clear hcell hcell' p1
    go_wp2
    go_ret
    exact ⟨rfl, g1⟩
   ·rw [none_ _ kb]
    have eb : (x.b.kind == 2) = false := by simpa using kb
    clear find none_ hv0 h hw
    go_enter Tryz.func228, Tryz.ntmps228
    go_wp2_with (refine wpList_boxG (vs := wireC x) rfl _ rfl rfl ?_)
    intro u1 g1 p1 s1
    have c0 : u1.cell? ⟨w.heap.size, 2, none⟩ = some (.int .i64 2) := by rw [← ka]; exact p1.c 2 _ rfl
    have c1 : u1.cell? ⟨w.heap.size, 3, none⟩ = some (.int .i64 k) := by rw [← hk]; exact p1.c 3 _ rfl
    have d0 : u1.cell? ⟨w.heap.size, 7, none⟩ = some (.int .i64 x.b.kind) := p1.c 7 _ rfl
    have cz := hcell u1 g1
    clear hcell p1
    go_wp2
    go_ret
    exact ⟨rfl, g1⟩
 ·rw [none_ _ ka]
  have ea : (x.a.kind == 2) = false := by simpa using ka
  by_cases kb : x.b.kind = 2
  ·obtain ⟨k', z', b', off', cap', hk', hlt', hc1', hc2', rfl, hw', hcell'⟩ := find _ hB kb
   rw [hw']
   clear find none_ hv0 h hw'
   go_enter Tryz.func228, Tryz.ntmps228
   go_wp2_with (refine wpList_boxG (vs := wireC x) rfl _ rfl rfl ?_)
   intro u1 g1 p1 s1
   have c0 : u1.cell? ⟨w.heap.size, 2, none⟩ = some (.int .i64 x.a.kind) := p1.c 2 _ rfl
   have d0 : u1.cell? ⟨w.heap.size, 7, none⟩ = some (.int .i64 2) := by rw [← kb]; exact p1.c 7 _ rfl
   have d1 : u1.cell? ⟨w.heap.size, 8, none⟩ = some (.int .i64 k') := by rw [← hk']; exact p1.c 8 _ rfl
   have dz := hcell' u1 g1
   clear hcell' p1
   go_wp2
   go_ret
   exact ⟨rfl, g1⟩
  ·rw [none_ _ kb]
   have eb : (x.b.kind == 2) = false := by simpa using kb
   clear find none_ h
   subst hv0
   go_enter Tryz.func228, Tryz.ntmps228
   go_wp2_with (refine wpList_boxG (vs := wireC x) rfl _ rfl rfl ?_)
   intro u1 g1 p1 s1
   have c0 : u1.cell? ⟨w.heap.size, 2, none⟩ = some (.int .i64 x.a.kind) := p1.c 2 _ rfl
   have d0 : u1.cell? ⟨w.heap.size, 7, none⟩ = some (.int .i64 x.b.kind) := p1.c 7 _ rfl
   clear p1
   go_wp2
   go_ret
   exact ⟨rfl, g1⟩
structure FlagB (wr : World) (B n : Nat) (ord : List Nat) : Prop where
 lt : B < wr.heap.size
 c : ∀ i, i < n → wr.cell? ⟨B, i, none⟩ = some (.bool (ord.contains i))
 f : ∀ o, wr.frozen? ⟨B, o, none⟩ = false

theorem FlagB.at_ {w w' : World} {B n : Nat} {ord : List Nat} (h : FlagB w B n ord) (hk : w'.heap[B]? = w.heap[B]?) : FlagB w' B n ord :=
 ⟨by have := (Array.getElem?_eq_some_iff.mp (hk.trans (Array.getElem?_eq_getElem h.lt))).1; exact this, fun i hi => by rw [World.cell?_of_block (w := w) hk]; exact h.c i hi, fun o => by rw [World.frozen?_of_block (w := w) hk]; exact h.f o⟩
theorem FlagB.some_ {w : World} {B n k : Nat} {ord : List Nat} (h : FlagB w B n ord) (hk : k < n) : (w.cell? ⟨B, k, none⟩).isSome = true := by rw [h.c k hk]; rfl
theorem FlagB.next {w u : World} {B n k : Nat} {ord : List Nat} (h : FlagB w B n ord) (hL : LaidG w u B k [.bool true]) (hk : k < n) : FlagB u B n (ord ++ [k]) := by
 refine ⟨by rw [hL.size]; exact h.lt, fun i hi => ?_, fun o => by rw [hL.frozen]; exact h.f o⟩
 by_cases e : i = k
 ·subst e
  have := hL.cv 0 _ rfl
  rw [Nat.add_zero] at this
  rw [this]
  simp
 ·rw [hL.cell _ _ (by simp; omega), h.c i hi]
  simp
  omega
theorem FlagB.gr {w : World} {B n : Nat} {ord : List Nat} (h : FlagB w B n ord) (hn : n ≤ maxLen) : GR boolE w B (B + 1) (.slice (some ⟨B, 0, none⟩) n n) (flagsW n ord) := by
 refine ⟨_, n, by rw [flagsW_len], by rw [flagsW_len]; exact Nat.le_refl _, hn, .inr ⟨B, 0, rfl, Nat.le_refl _, Nat.lt_succ_self _, fun i x hx => ?_⟩⟩
 have hi : i < n := by have := (List.getElem?_eq_some_iff.mp hx).1; rwa [flagsW_len] at this
 rw [flagsW_at hi] at hx
 intro j v hv
 have hj : j < 1 := (List.getElem?_eq_some_iff.mp hv).1
 obtain rfl : j = 0 := by omega
 simp [boolE] at hv
 rw [← hv, ← Option.some.inj hx]
 have e : 0 + i * boolE.k + 0 = i := by show 0 + i * 1 + 0 = i; omega
 rw [e]
 exact h.c i hi

theorem info_bool : (Tryz.prog.info? 4).map (fun i => (i.zero, i.size, i.bytes)) = some (some (.bool false), 1, 1) := by kernel_rfl

theorem flagB_start {w w1 : World} {n : Nat} (hown : w1.ownsRow w.heap.size 4 1 (.slice (some ⟨w.heap.size, 0, none⟩) n n) n (madeCells (Value.bool false).cells (n * 1)).toList) : FlagB w1 w.heap.size n [] := by
 have hl := hown.1
 refine ⟨hown.2.elim (fun h => by simp at h) fun ⟨g, cap, cur, hv, hg, hh, _⟩ => ?_, fun i hi => ?_, fun o => hown.frozenAt o⟩
 ·simp only [Value.slice.injEq, Option.some.injEq, Addr.mk.injEq, and_true, true_and] at hv
  obtain ⟨rfl, _⟩ := hv
  exact (Array.getElem?_eq_some_iff.mp hh).1
 ·rw [hown.cellAt i (by omega), show (Value.bool false).cells = #[.bool false] from rfl, toList_madeCells_one, List.getElem?_replicate, if_pos (by omega)]
  rfl

set_option maxHeartbeats 8000000 in
theorem l7Order_any (w : World) (lo hi : Nat) (v : Value) (ws : List WireD) (h : GR wireE w lo hi v ws) (hhi : hi ≤ w.heap.size) (hlen : ws.length ≤ 1048576) (hok : ∀ x ∈ ws, wireOk x ws.length = true) :
  Calls Tryz.prog 175 #[v] w fun e w' => ∃ v', e = .returned v' ∧ RowZ w' w.heap.size v' ((orderW ws).map fun (i : Nat) => (i : Int)) ∧ Below w.heap.size w w' := by
 obtain ⟨ad, cap, rfl, hc1, hc2⟩ := h.shape
 obtain ⟨i0, hi0, hz0, hz1, hz2⟩ := info_parts info_bool
 have HK : Hid (GR wireE w lo hi (.slice ad ws.length cap) ws) := h
 have HO : Hid (∀ x ∈ ws, wireOk x ws.length = true) := hok
 clear h hok
 unfold maxLen at hc2
 go_enter Tryz.func175, Tryz.ntmps175
 go_wp2_with (at_make; refine wpList_make_full _ rfl _ _ 44 rfl w.heap.size 4 i0 (.bool false) 1 Tryz.underlying44 hi0 hz0 hz1 .i64 .i64 _ _ ws.length rfl rfl rfl rfl (by rw [hz2]; omega) (by unfold maxLen; omega) (Nat.le_refl _) ?_; intro w1 hown hgrow)
 have hF1 := flagB_start hown
 have hB1 : Below w.heap.size w w1 := (Below.refl _ _).grown hgrow (Nat.le_refl _) (fun k h => by cases h)
 have hz := hF1.lt
 clear hown hgrow hz0 hz1 hz2 hi0
 have hR1 := rowZ_none w1 (w.heap.size + 1) (by omega)
 have hF2 : FlagB (w1.alloc (.cells #[] 3)) w.heap.size ws.length [] := hF1.at_ (((Below.refl _ _).alloc (Nat.le_refl _) _).block _ hz)
 have hB2 : Below w.heap.size w (w1.alloc (.cells #[] 3)) := hB1.alloc hB1.size _
 clear hF1 hB1
 go_loopw [4, 5] (fun vv i wr => ∃ (r : Nat) (vo : Value), r ≤ ws.length ∧ i = .int .i64 r ∧ vo = vv ∧ RowZ wr (w.heap.size + 1) vo ((tellW ws r []).map fun (i : Nat) => (i : Int)) ∧ FlagB wr w.heap.size ws.length (tellW ws r []) ∧ Below w.heap.size w wr) (fun _ i _ => ws.length - (intOf i).toNat)
 case atStart => exact ⟨0, _, Nat.zero_le _, rfl, rfl, hR1, hF2, hB2⟩
 case round =>
  clear hR1 hF2 hB2 hz
  obtain ⟨r, vo, hr, rfl, hvo, hRow, hFl, hb⟩ := hrel
  subst hvo
  by_cases hlt : r < ws.length
  rotate_left
  ·obtain rfl : r = ws.length := by omega
   have HR : Hid (RowZ wr w.heap.size vo ((orderW ws).map fun (i : Nat) => (i : Int)) ∧ Below w.heap.size w wr) := ⟨hRow.mono (by omega), hb⟩
   clear hRow hFl hb
   go_wp2
   go_ret
   exact ⟨_, rfl, HR.out.1, HR.out.2⟩
  have hbz := hb.size
  have hflt := hFl.lt
  obtain ⟨wo, hwo⟩ : ∃ wo, wo = wr := ⟨_, rfl⟩
  subst hwo
  go_wp2_with fail
  go_loopw [6, 7] (fun at_ i wi => ∃ (m : Nat) (z : Int), m ≤ ws.length ∧ i = .int .i64 m ∧ at_ = .int .i64 z ∧ z = atW (firstW ws (tellW ws r []) m) ∧ Below wo.heap.size wo wi) (fun _ i _ => ws.length - (intOf i).toNat)
  case atStart => exact ⟨0, -1, Nat.zero_le _, rfl, rfl, rfl, Below.refl _ _⟩
  case round =>
   obtain ⟨m, z, hm, rfl, rfl, hz, hbi⟩ := hrel
   cases hf : firstW ws (tellW ws r []) m with
   | some k =>
    obtain rfl : z = (k : Int) := by rw [hz, hf]; rfl
    clear hz
    by_cases hmn : m < ws.length
    ·have hp : pickW ws (tellW ws r []) = some k := by rw [← firstW_all]; exact firstW_some hf _ (by omega)
     obtain ⟨hkn, hcan⟩ := pickW_some hp
     have HP : Hid (pickW ws (tellW ws r []) = some k) := hp
     have HC : Hid (canW ws (tellW ws r []) k = true) := hcan
     have hsz := hbi.size
     have hF := hFl.at_ (hbi.block _ hFl.lt)
     have hR := hRow.below hbi (Nat.le_refl _)
     have hB := hb.trans (hbi.mono (by omega))
     have cS := hF.some_ hkn
     have fS := hF.f k
     clear hp hf hbi hFl hRow hb hcan
     go_wp2_with (refine wpList_store1G Tryz.sizeOf4 _ _ rfl rfl rfl rfl rfl rfl cS fS ?_)
     intro uS L
     have hF2 := hF.next L hkn
     have hR2 : RowZ uS (w.heap.size + 1) vo ((tellW ws r []).map fun (i : Nat) => (i : Int)) := hR.at_ fun g hg => L.block g (by have := (hR.lt g hg).1; omega)
     have hB2 := L.below _ _ (Nat.le_refl _) hB
     have hzS := L.size
     have hlB := hF.lt
     clear L hF hR hB cS fS
     have hRA := fun o => hR2.below ((Below.refl uS.heap.size uS).alloc (Nat.le_refl _) o) (Nat.le_refl _)
     have hcell : ∀ t, (uS.alloc (.cells #[.int .i64 k] t)).cell? ⟨wr.heap.size, 0, none⟩ = some (.int .i64 (k : Int)) := fun t => by rw [← hzS]; exact World.cell?_alloc_new _ _ _ _
     have hlen2 : ((tellW ws r []).map fun (i : Nat) => (i : Int)).length + 1 ≤ 16777216 := by
      rw [List.length_map]
      have := (tellW_ord r [] (ordW_nil ws)).le
      omega
     go_wp2_with (at_builtin; refine wpList_appZ rfl _ _ rfl (w.heap.size + 1) rfl rfl (hRA _) (hcell _) (by simp <;> omega) hlen2 ?_)
     intro v' u' hA
     have hAb : Below uS.heap.size uS (uS.alloc (.cells #[.int .i64 k] 3)) := (Below.refl _ _).alloc (Nat.le_refl _) _
     have hA2 : Below (w.heap.size + 1) (uS.alloc (.cells #[.int .i64 k] 3)) u' := hA.below (hRA _) (Nat.le_refl _) (by simp <;> omega)
     have HN : Hid (tellW ws (r + 1) [] = tellW ws r [] ++ [k]) := by show _ = _; rw [tellW_succ]; unfold oneW; rw [HP.out]
     have HR3 : Hid (RowZ u' (w.heap.size + 1) v' ((tellW ws (r + 1) []).map fun (i : Nat) => (i : Int))) := by
      show RowZ _ _ _ _
      rw [HN.out, List.map_append]; exact hA.row
     have HF3 : Hid (FlagB u' w.heap.size ws.length (tellW ws (r + 1) [])) := by
      show FlagB _ _ _ _
      rw [HN.out]
      exact (hF2.at_ (hAb.block _ (by omega))).at_ (hA2.block _ (by omega))
     have HB3 : Hid (Below w.heap.size w u') := (hB2.trans (hAb.mono (by omega))).trans (hA2.mono (by omega))
     clear hA hAb hA2 hRA hcell hR2 hF2 hB2 HN HP HC hlen2
     go_wp2
     go_roundw
     case rel => exact ⟨r + 1, _, by omega, by go_num, rfl, HR3.out, HF3.out, HB3.out⟩
     case measure => simp [intOf]; omega
    ·have hp : pickW ws (tellW ws r []) = some k := by rw [← firstW_all]; exact firstW_some hf _ (by omega)
     obtain ⟨hkn, hcan⟩ := pickW_some hp
     have HP : Hid (pickW ws (tellW ws r []) = some k) := hp
     have HC : Hid (canW ws (tellW ws r []) k = true) := hcan
     have hsz := hbi.size
     have hF := hFl.at_ (hbi.block _ hFl.lt)
     have hR := hRow.below hbi (Nat.le_refl _)
     have hB := hb.trans (hbi.mono (by omega))
     have cS := hF.some_ hkn
     have fS := hF.f k
     clear hp hf hbi hFl hRow hb hcan
     go_wp2_with (refine wpList_store1G Tryz.sizeOf4 _ _ rfl rfl rfl rfl rfl rfl cS fS ?_)
     intro uS L
     have hF2 := hF.next L hkn
     have hR2 : RowZ uS (w.heap.size + 1) vo ((tellW ws r []).map fun (i : Nat) => (i : Int)) := hR.at_ fun g hg => L.block g (by have := (hR.lt g hg).1; omega)
     have hB2 := L.below _ _ (Nat.le_refl _) hB
     have hzS := L.size
     have hlB := hF.lt
     clear L hF hR hB cS fS
     have hRA := fun o => hR2.below ((Below.refl uS.heap.size uS).alloc (Nat.le_refl _) o) (Nat.le_refl _)
     have hcell : ∀ t, (uS.alloc (.cells #[.int .i64 k] t)).cell? ⟨wr.heap.size, 0, none⟩ = some (.int .i64 (k : Int)) := fun t => by rw [← hzS]; exact World.cell?_alloc_new _ _ _ _
     have hlen2 : ((tellW ws r []).map fun (i : Nat) => (i : Int)).length + 1 ≤ 16777216 := by
      rw [List.length_map]
      have := (tellW_ord r [] (ordW_nil ws)).le
      omega
     go_wp2_with (at_builtin; refine wpList_appZ rfl _ _ rfl (w.heap.size + 1) rfl rfl (hRA _) (hcell _) (by simp <;> omega) hlen2 ?_)
     intro v' u' hA
     have hAb : Below uS.heap.size uS (uS.alloc (.cells #[.int .i64 k] 3)) := (Below.refl _ _).alloc (Nat.le_refl _) _
     have hA2 : Below (w.heap.size + 1) (uS.alloc (.cells #[.int .i64 k] 3)) u' := hA.below (hRA _) (Nat.le_refl _) (by simp <;> omega)
     have HN : Hid (tellW ws (r + 1) [] = tellW ws r [] ++ [k]) := by show _ = _; rw [tellW_succ]; unfold oneW; rw [HP.out]
     have HR3 : Hid (RowZ u' (w.heap.size + 1) v' ((tellW ws (r + 1) []).map fun (i : Nat) => (i : Int))) := by
      show RowZ _ _ _ _
      rw [HN.out, List.map_append]; exact hA.row
     have HF3 : Hid (FlagB u' w.heap.size ws.length (tellW ws (r + 1) [])) := by
      show FlagB _ _ _ _
      rw [HN.out]
      exact (hF2.at_ (hAb.block _ (by omega))).at_ (hA2.block _ (by omega))
     have HB3 : Hid (Below w.heap.size w u') := (hB2.trans (hAb.mono (by omega))).trans (hA2.mono (by omega))
     clear hA hAb hA2 hRA hcell hR2 hF2 hB2 HN HP HC hlen2
     go_wp2
     go_roundw
     case rel => exact ⟨r + 1, _, by omega, by go_num, rfl, HR3.out, HF3.out, HB3.out⟩
     case measure => simp [intOf]; omega
   | none =>
    obtain rfl : z = -1 := by rw [hz, hf]; rfl
    clear hz
    by_cases hmn : m < ws.length
    rotate_left
    ·obtain rfl : m = ws.length := by omega
     have hp : pickW ws (tellW ws r []) = none := by rw [← firstW_all]; exact hf
     have HN : Hid (tellW ws (r + 1) [] = tellW ws r []) := by show _ = _; rw [tellW_succ]; unfold oneW; rw [hp]
     have HR3 : Hid (RowZ wr (w.heap.size + 1) vo ((tellW ws (r + 1) []).map fun (i : Nat) => (i : Int))) := by
      show RowZ _ _ _ _
      rw [HN.out]; exact hRow.below hbi (Nat.le_refl _)
     have HF3 : Hid (FlagB wr w.heap.size ws.length (tellW ws (r + 1) [])) := by
      show FlagB _ _ _ _
      rw [HN.out]; exact hFl.at_ (hbi.block _ hFl.lt)
     have HB3 : Hid (Below w.heap.size w wr) := hb.trans (hbi.mono (by omega))
     clear hp hf hbi hFl hRow hb HN
     go_wp2
     go_roundw
     case rel => exact ⟨r + 1, _, by omega, by go_num, rfl, HR3.out, HF3.out, HB3.out⟩
     case measure => simp [intOf]; omega
    ·obtain ⟨x, hx⟩ : ∃ x, ws[m]? = some x := ⟨ws[m], List.getElem?_eq_getElem hmn⟩
     have hFi := hFl.at_ (hbi.block _ hFl.lt)
     have hcn := hFi.c m hmn
     have hbw : Below w.heap.size w wr := hb.trans (hbi.mono (by omega))
     have hsz := hbi.size
     have HF : Hid (firstW ws (tellW ws r []) m = none) := hf
     have HBI : Hid (Below wo.heap.size wo wr) := hbi
     cases hct : (tellW ws r []).contains m with
     | true =>
      rw [hct] at hcn
      have hcan : canW ws (tellW ws r []) m = false := by unfold canW; rw [hx, hct]; rfl
      have HC : Hid (canW ws (tellW ws r []) m = false) := hcan
      clear hcan hf hbi hFl hRow hb hct hx hFi
      go_wp2
      go_roundw
      case rel => exact ⟨m + 1, -1, by omega, by go_num, rfl, by rw [firstW_succ HF.out, HC.out]; rfl, HBI.out⟩
      case measure => simp [intOf]; omega
     | false =>
      rw [hct] at hcn
      have hwk := wireOk_at (HO.out x (List.mem_of_getElem? hx))
      have hcan := canW_at (ord := tellW ws r []) hx hwk
      rw [hct] at hcan
      obtain ⟨b, off, cap', hv, hb1, hb2, h5⟩ := HK.out.at_ hx
      simp only [Value.slice.injEq, true_and] at hv
      obtain ⟨rfl, rfl⟩ := hv
      have hcv : CV wr b (off + m * 12) (wireC x) := h5.below hbw (by omega)
      have HL : Hid (∀ u, Below wr.heap.size wr u → GR boolE u w.heap.size (w.heap.size + 1) (.slice (some ⟨w.heap.size, 0, none⟩) ws.length ws.length) (flagsW ws.length (tellW ws r []))) := fun u hu => (hFi.at_ (hu.block _ hFi.lt)).gr (by unfold maxLen; omega)
      have hW := l7Waits_any wr x _ _ _ _ (HL.out wr (Below.refl _ _)) (by omega) (by rw [flagsW_len]; exact hwk.1) (by rw [flagsW_len]; exact hwk.2)
      generalize hwt : (waitsF x.a (flagsW ws.length (tellW ws r [])) || waitsF x.b (flagsW ws.length (tellW ws r []))) = wt at *
      have HC : Hid (canW ws (tellW ws r []) m = !wt) := by show _ = _; rw [hcan]; cases wt <;> rfl
      clear hcan hf hbi hFl hRow hb hct hx hFi h5 hwk hbw HL hwt
      go_wp2_with (refine wpList_loadG Tryz.isAgg171 Tryz.sizeOf171 _ rfl rfl rfl rfl hcv ?_)
      refine hW.mono ?_
      clear hW hcv
      rintro e1 u ⟨rfl, g⟩
      have HB2 : Hid (Below wo.heap.size wo u) := HBI.out.trans (g.mono hsz)
      clear g hcn
      cases wt
      ·go_wp2
       go_roundw
       case rel => exact ⟨m + 1, (m : Int), by omega, by go_num, rfl, by rw [firstW_succ HF.out, HC.out]; rfl, HB2.out⟩
       case measure => simp [intOf]; omega
      ·go_wp2
       go_roundw
       case rel => exact ⟨m + 1, -1, by omega, by go_num, rfl, by rw [firstW_succ HF.out, HC.out]; rfl, HB2.out⟩
       case measure => simp [intOf]; omega
end Go.Proofs.YtaoiookfmgpmkaaGreatDoor
