/-
  What turns while code is run, by the program: the numbers that are held (push, pop).
-/
import Derived.Test.YtdhpbiplkjpiiaaGreatDoorQC4
import Derived.Test.YtdhpbiplkjpiiaaGreatDoorOutKit
namespace Go.Proofs.YtdhpbiplkjpiiaaGreatDoor
open Go.ChangeShapes Go.WideShapes Go.ChangeAt Go.RowKit
set_option linter.unusedVariables false
set_option maxRecDepth 100000

/-- A machine's eighteen cells: the memory's three lists, the fuel, twelve numbers, how many are held, the place. -/
structure MacC (w : World) (B : Nat) (x y z : Value) (f : Int) (h : Nat → Int) (many pc : Int) : Prop where
  c0 : w.cell? ⟨B, 0, none⟩ = some x
  c1 : w.cell? ⟨B, 1, none⟩ = some y
  c2 : w.cell? ⟨B, 2, none⟩ = some z
  c3 : w.cell? ⟨B, 3, none⟩ = some (.int .i64 f)
  ch : ∀ j, j < 12 → w.cell? ⟨B, 4 + j, none⟩ = some (.int .i64 (h j))
  cm : w.cell? ⟨B, 16, none⟩ = some (.int .i64 many)
  cp : w.cell? ⟨B, 17, none⟩ = some (.int .i64 pc)
  f_ : ∀ o, w.frozen? ⟨B, o, none⟩ = false

theorem MacC.at_ {u u' : World} {B : Nat} {x y z : Value} {f : Int} {h : Nat → Int} {many pc : Int} (k : MacC u B x y z f h many pc) (hk : u'.heap[B]? = u.heap[B]?) : MacC u' B x y z f h many pc :=
  ⟨by rw [World.cell?_of_block (w := u) hk]; exact k.c0, by rw [World.cell?_of_block (w := u) hk]; exact k.c1, by rw [World.cell?_of_block (w := u) hk]; exact k.c2, by rw [World.cell?_of_block (w := u) hk]; exact k.c3,
    fun j hj => by rw [World.cell?_of_block (w := u) hk]; exact k.ch j hj, by rw [World.cell?_of_block (w := u) hk]; exact k.cm, by rw [World.cell?_of_block (w := u) hk]; exact k.cp, fun o => by rw [World.frozen?_of_block (w := u) hk]; exact k.f_ o⟩

theorem out_set (u : World) (B o : Nat) (v : Value) : Out B (B + 1) u (u.setCell ⟨B, o, none⟩ v) :=
  ⟨rfl, rfl, rfl, by simp [World.setCell], fun k hk ho => Below.heap_setCell _ _ _ _ (by show k ≠ B; omega)⟩

theorem MacC.held {u : World} {B : Nat} {x y z : Value} {f : Int} {h : Nat → Int} {many pc : Int} (k : MacC u B x y z f h many pc) {j : Nat} (hj : j < 12) (n : Int) : MacC (u.setCell ⟨B, 4 + j, none⟩ (.int .i64 n)) B x y z f (upd h j n) many pc := by
  refine ⟨?_, ?_, ?_, ?_, fun i hi => ?_, ?_, ?_, fun o => by rw [World.frozen?_setCell]; exact k.f_ o⟩
  · rw [cell_set_other _ (.inr (by omega))]; exact k.c0
  · rw [cell_set_other _ (.inr (by omega))]; exact k.c1
  · rw [cell_set_other _ (.inr (by omega))]; exact k.c2
  · rw [cell_set_other _ (.inr (by omega))]; exact k.c3
  · rw [upd_eq]
    by_cases e : i = j
    · subst e; rw [World.cell?_setCell_same _ _ _ (k.ch i hi), if_pos rfl]
    · rw [cell_set_other _ (.inr (by omega)), if_neg e]; exact k.ch i hi
  · rw [cell_set_other _ (.inr (by omega))]; exact k.cm
  · rw [cell_set_other _ (.inr (by omega))]; exact k.cp

theorem MacC.setMany {u : World} {B : Nat} {x y z : Value} {f : Int} {h : Nat → Int} {many pc : Int} (k : MacC u B x y z f h many pc) (n : Int) : MacC (u.setCell ⟨B, 16, none⟩ (.int .i64 n)) B x y z f h n pc := by
  refine ⟨?_, ?_, ?_, ?_, fun i hi => ?_, World.cell?_setCell_same _ _ _ k.cm, ?_, fun o => by rw [World.frozen?_setCell]; exact k.f_ o⟩
  · rw [cell_set_other _ (.inr (by omega))]; exact k.c0
  · rw [cell_set_other _ (.inr (by omega))]; exact k.c1
  · rw [cell_set_other _ (.inr (by omega))]; exact k.c2
  · rw [cell_set_other _ (.inr (by omega))]; exact k.c3
  · rw [cell_set_other _ (.inr (by omega))]; exact k.ch i hi
  · rw [cell_set_other _ (.inr (by omega))]; exact k.cp

theorem MacC.setPc {u : World} {B : Nat} {x y z : Value} {f : Int} {h : Nat → Int} {many pc : Int} (k : MacC u B x y z f h many pc) (n : Int) : MacC (u.setCell ⟨B, 17, none⟩ (.int .i64 n)) B x y z f h many n := by
  refine ⟨?_, ?_, ?_, ?_, fun i hi => ?_, ?_, World.cell?_setCell_same _ _ _ k.cp, fun o => by rw [World.frozen?_setCell]; exact k.f_ o⟩
  · rw [cell_set_other _ (.inr (by omega))]; exact k.c0
  · rw [cell_set_other _ (.inr (by omega))]; exact k.c1
  · rw [cell_set_other _ (.inr (by omega))]; exact k.c2
  · rw [cell_set_other _ (.inr (by omega))]; exact k.c3
  · rw [cell_set_other _ (.inr (by omega))]; exact k.ch i hi
  · rw [cell_set_other _ (.inr (by omega))]; exact k.cm

theorem MacC.setFuel {u : World} {B : Nat} {x y z : Value} {f : Int} {h : Nat → Int} {many pc : Int} (k : MacC u B x y z f h many pc) (n : Int) : MacC (u.setCell ⟨B, 3, none⟩ (.int .i64 n)) B x y z n h many pc := by
  refine ⟨?_, ?_, ?_, World.cell?_setCell_same _ _ _ k.c3, fun i hi => ?_, ?_, ?_, fun o => by rw [World.frozen?_setCell]; exact k.f_ o⟩
  · rw [cell_set_other _ (.inr (by omega))]; exact k.c0
  · rw [cell_set_other _ (.inr (by omega))]; exact k.c1
  · rw [cell_set_other _ (.inr (by omega))]; exact k.c2
  · rw [cell_set_other _ (.inr (by omega))]; exact k.ch i hi
  · rw [cell_set_other _ (.inr (by omega))]; exact k.cm
  · rw [cell_set_other _ (.inr (by omega))]; exact k.cp

theorem MacC.setMem {u : World} {B : Nat} {x y z : Value} {f : Int} {h : Nat → Int} {many pc : Int} (k : MacC u B x y z f h many pc) (x' y' z' : Value) :
    ∃ u1, ((u.setCell ⟨B, 0, none⟩ x').setCell ⟨B, 1, none⟩ y').setCell ⟨B, 2, none⟩ z' = u1 ∧ MacC u1 B x' y' z' f h many pc ∧ Out B (B + 1) u u1 := by
  refine ⟨_, rfl, ⟨?_, ?_, ?_, ?_, fun i hi => ?_, ?_, ?_, fun o => by rw [World.frozen?_setCell, World.frozen?_setCell, World.frozen?_setCell]; exact k.f_ o⟩, ((out_set u B 0 x').trans (out_set _ B 1 y')).trans (out_set _ B 2 z')⟩
  · rw [cell_set_other _ (.inr (by omega)), cell_set_other _ (.inr (by omega))]; exact World.cell?_setCell_same _ _ _ k.c0
  · rw [cell_set_other _ (.inr (by omega))]; exact World.cell?_setCell_same _ _ _ (by rw [cell_set_other _ (.inr (by omega))]; exact k.c1)
  · exact World.cell?_setCell_same _ _ _ (by rw [cell_set_other _ (.inr (by omega)), cell_set_other _ (.inr (by omega))]; exact k.c2)
  · rw [cell_set_other _ (.inr (by omega)), cell_set_other _ (.inr (by omega)), cell_set_other _ (.inr (by omega))]; exact k.c3
  · rw [cell_set_other _ (.inr (by omega)), cell_set_other _ (.inr (by omega)), cell_set_other _ (.inr (by omega))]; exact k.ch i hi
  · rw [cell_set_other _ (.inr (by omega)), cell_set_other _ (.inr (by omega)), cell_set_other _ (.inr (by omega))]; exact k.cm
  · rw [cell_set_other _ (.inr (by omega)), cell_set_other _ (.inr (by omega)), cell_set_other _ (.inr (by omega))]; exact k.cp

set_option maxHeartbeats 1000000 in
theorem push_any (w : World) (B : Nat) (x y z : Value) (f : Int) (h : Nat → Int) (k : Nat) (pc n : Int) (hm : MacC w B x y z f h k pc) (hk : k < 12) :
    Calls Tryz.prog 59 #[.pointer (some ⟨B, 4, none⟩), .int .i64 n] w fun e w' => e = .returned (.tuple #[]) ∧ MacC w' B x y z f (upd h k n) ((k : Int) + 1) pc ∧ Out B (B + 1) w w' := by
  have m1 := hm.held hk n
  have o1 := out_set w B (4 + k) (.int .i64 n)
  obtain ⟨u, hu⟩ : ∃ u, w.setCell ⟨B, 4 + k, none⟩ (.int .i64 n) = u := ⟨_, rfl⟩
  rw [hu] at m1 o1
  have HU : Hid (_ = u) := hu
  have HE : Hid (MacC (u.setCell ⟨B, 16, none⟩ (.int .i64 ((k : Int) + 1))).drew B x y z f (upd h k n) ((k : Int) + 1) pc ∧ Out B (B + 1) w (u.setCell ⟨B, 16, none⟩ (.int .i64 ((k : Int) + 1))).drew) :=
    ⟨(m1.setMany _).at_ rfl, (o1.trans (out_set _ _ _ _)).trans (out_of_below (Below.drew (Below.refl _ _)) _ _)⟩
  have c1 := hm.cm
  have c2 := hm.ch k hk
  have f2 := hm.f_ (4 + k)
  have d1 := m1.cm
  have g1 := m1.f_ 16
  have hk' : (k : Int) < 12 := by omega
  clear hm m1 o1 hu
  go_enter Tryz.func59, Tryz.ntmps59
  go_wp2_with fail
  go_region
  rw [HU.out]
  go_wp2
  go_end0
  exact ⟨rfl, HE.out.1, HE.out.2⟩

set_option maxHeartbeats 1000000 in
theorem pop_any (w : World) (B : Nat) (x y z : Value) (f : Int) (h : Nat → Int) (k : Nat) (pc : Int) (hm : MacC w B x y z f h ((k : Int) + 1) pc) (hk : k < 12) :
    Calls Tryz.prog 64 #[.pointer (some ⟨B, 4, none⟩)] w fun e w' => e = .returned (.int .i64 (h k)) ∧ MacC w' B x y z f h k pc ∧ Out B (B + 1) w w' := by
  have m1 := hm.setMany (k : Int)
  have o1 := out_set w B 16 (.int .i64 (k : Int))
  obtain ⟨u, hu⟩ : ∃ u, w.setCell ⟨B, 16, none⟩ (.int .i64 (k : Int)) = u := ⟨_, rfl⟩
  rw [hu] at m1 o1
  have HU : Hid (_ = u) := hu
  have HE : Hid (MacC u B x y z f h k pc ∧ Out B (B + 1) w u) := ⟨m1, o1⟩
  have c1 := hm.cm
  have f1 := hm.f_ 16
  have d1 := m1.cm
  have d2 := m1.ch k hk
  have hk' : (k : Int) < 12 := by omega
  have hks : (k : Int) + 1 - 1 = k := by omega
  clear hm m1 o1 hu
  go_enter Tryz.func64, Tryz.ntmps64
  go_wp2_with fail
  try rw [hks]
  rw [HU.out]
  go_quiet (fail)
  go_wp2
  go_ret
  exact ⟨rfl, HE.out.1.at_ rfl, HE.out.2.trans (out_of_below (below_drewN (Below.refl _ _) _) _ _)⟩
end Go.Proofs.YtdhpbiplkjpiiaaGreatDoor
