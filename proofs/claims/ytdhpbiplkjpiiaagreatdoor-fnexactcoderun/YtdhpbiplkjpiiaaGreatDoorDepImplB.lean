/-
  How many numbers are held ahead of each place, by the program: tell.
-/
import Derived.Test.YtdhpbiplkjpiiaaGreatDoorDepImplA
namespace Go.Proofs.YtdhpbiplkjpiiaaGreatDoor
open Go.ChangeShapes Go.WideShapes Go.ChangeAt Go.RowKit
set_option linter.unusedVariables false
set_option maxRecDepth 100000

/-- What tell and follow leave. -/
def ToldP (s : Option ((Nat → Int) × Int)) (B : Nat) (w w' : World) : Prop :=
  (∀ s', s = some s' → DepV w' B s'.1 s'.2) ∧ Out B (B + 1) w w'

theorem told_none (B : Nat) (w : World) : ToldP none B w w := ⟨(fun s h => nomatch h), ⟨rfl, rfl, rfl, Nat.le_refl _, fun _ _ _ => rfl⟩⟩

theorem Out.refl1 (lo hi : Nat) (w : World) : Out lo hi w w := ⟨rfl, rfl, rfl, Nat.le_refl _, fun _ _ _ => rfl⟩

theorem dep_store {w : World} {B j : Nat} {D : Nat → Int} {m h : Int} (hv : DepV w B D m) (hj : j ≤ 400) (h0 : 0 ≤ h) :
    ∃ u, (w.setCell ⟨B, j, none⟩ (.bool true)).setCell ⟨B, 401 + j, none⟩ (.int .i64 h) = u ∧ DepV u B (upd D j h) m ∧ Out B (B + 1) w u := by
  obtain ⟨x, hx, _⟩ := hv.held j hj
  refine ⟨_, rfl, ⟨fun k hk => ?_, fun k hk => ?_, ?_, fun o => by rw [World.frozen?_setCell, World.frozen?_setCell]; exact hv.f o⟩, ⟨rfl, rfl, rfl, by simp [World.setCell], fun k hk ho => by rw [Below.heap_setCell _ _ _ _ (by show k ≠ B; omega), Below.heap_setCell _ _ _ _ (by show k ≠ B; omega)]⟩⟩
  · rw [cell_set_other _ (.inr (by omega)), upd_eq]
    by_cases e : k = j
    · subst e
      rw [World.cell?_setCell_same _ _ _ (hv.told k hk), if_pos rfl, decide_eq_true h0]
    · rw [cell_set_other _ (.inr (by omega)), if_neg e]; exact hv.told k hk
  · rw [upd_eq]
    by_cases e : k = j
    · subst e
      rw [World.cell?_setCell_same _ _ _ (by rw [cell_set_other _ (.inr (by omega))]; exact hx), if_pos rfl]
      exact ⟨h, rfl, fun _ => rfl⟩
    · rw [cell_set_other _ (.inr (by omega)), cell_set_other _ (.inr (by omega)), if_neg e]; exact hv.held k hk
  · rw [cell_set_other _ (.inr (by omega)), cell_set_other _ (.inr (by omega))]; exact hv.most

theorem dep_most {w : World} {B : Nat} {D : Nat → Int} {m : Int} (hv : DepV w B D m) (n : Int) :
    ∃ u, w.setCell ⟨B, 802, none⟩ (.int .i64 n) = u ∧ DepV u B D n ∧ Out B (B + 1) w u := by
  refine ⟨_, rfl, ⟨fun k hk => ?_, fun k hk => ?_, World.cell?_setCell_same _ _ _ hv.most, fun o => by rw [World.frozen?_setCell]; exact hv.f o⟩, ⟨rfl, rfl, rfl, by simp [World.setCell], fun k hk ho => Below.heap_setCell _ _ _ _ (by show k ≠ B; omega)⟩⟩
  · rw [cell_set_other _ (.inr (by omega))]; exact hv.told k hk
  · rw [cell_set_other _ (.inr (by omega))]; exact hv.held k hk

set_option maxHeartbeats 2000000 in
theorem tell_any (w : World) (B : Nat) (D : Nat → Int) (m : Int) (j : Nat) (c : Int) (hv : DepV w B D m) (hB : B < w.heap.size) (hj : j ≤ 400) (h0 : 0 ≤ c) (h1 : c ≤ 100) (m0 : 0 ≤ m) (m1 : m ≤ 100) :
    Calls Tryz.prog 55 #[.pointer (some ⟨B, 0, none⟩), .int .i64 j, .int .i64 c] w fun e w' => e = .returned (.bool (tellP (D, m) j c).isSome) ∧ ToldP (tellP (D, m) j c) B w w' := by
  have t1 := hv.told j hj
  obtain ⟨x, x1, hx⟩ := hv.held j hj
  have hj' : j < 401 := by omega
  unfold tellP
  simp only
  by_cases q1 : 12 < c
  · rw [if_pos (.inl q1)]
    clear hv hx t1 x1
    go_enter Tryz.func55, Tryz.ntmps55
    go_wp2
    go_ret
    exact ⟨rfl, told_none _ _⟩
  by_cases q2 : 0 ≤ D j ∧ D j ≠ c
  · rw [if_pos (.inr q2)]
    obtain rfl := hx q2.1
    rw [decide_eq_true q2.1] at t1
    have q3 : (D j != c) = true := by simpa using q2.2
    clear hv hx q2
    go_enter Tryz.func55, Tryz.ntmps55
    go_wp2
    go_ret
    exact ⟨rfl, told_none _ _⟩
  · rw [if_neg (by omega)]
    obtain ⟨u, hu, V1, O1⟩ := dep_store hv hj h0
    have HU : Hid (_ = u) := hu
    obtain ⟨u2, hu2, V2, O2⟩ := dep_most V1 (max m c)
    have HU2 : Hid (∀ n, max m c = n → u.setCell ⟨B, 802, none⟩ (.int .i64 n) = u2) := fun n hn => by rw [← hn]; exact hu2
    have HO : Hid (ToldP (some (upd D j c, max m c)) B w u2.drew) := ⟨fun s hs => by cases hs; exact V2.at_ rfl, (O1.trans O2).trans (out_of_below (Below.drew (Below.refl _ _)) _ _)⟩
    have f1 := hv.f j
    have f2 := hv.f (401 + j)
    have f3 := V1.f 802
    have c3 := V1.most
    by_cases q3 : 0 ≤ D j
    · have q4 : (x != c) = false := by rw [hx q3]; simp; omega
      rw [decide_eq_true q3] at t1
      clear hv hx q2 hu hu2 V1 V2 O1 O2 q3
      go_enter Tryz.func55, Tryz.ntmps55
      go_wp2
      go_region
      rw [HU.out]
      go_wp2
      all_goals first | rw [HU2.out m (by omega)] | rw [HU2.out c (by omega)]
      all_goals go_ret
      all_goals exact ⟨rfl, HO.out⟩
    · rw [decide_eq_false q3] at t1
      clear hv hx q2 hu hu2 V1 V2 O1 O2 q3
      go_enter Tryz.func55, Tryz.ntmps55
      go_wp2
      go_region
      rw [HU.out]
      go_wp2
      all_goals first | rw [HU2.out m (by omega)] | rw [HU2.out c (by omega)]
      all_goals go_ret
      all_goals exact ⟨rfl, HO.out⟩
end Go.Proofs.YtdhpbiplkjpiiaaGreatDoor
