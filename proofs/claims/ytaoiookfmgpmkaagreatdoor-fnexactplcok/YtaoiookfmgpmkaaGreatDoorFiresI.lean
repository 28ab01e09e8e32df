/-
 The program's parts of a chart's step: marksOk, canStep, bitsOn, holds.
-/
import Derived.Test.YtaoiookfmgpmkaaGreatDoorQM16
import Derived.Test.YtaoiookfmgpmkaaGreatDoorQM3
import Derived.Test.YtaoiookfmgpmkaaGreatDoorQM10
import Derived.Deep.OwnRows
import Derived.Test.YtaoiookfmgpmkaaGreatDoorChartImpl
import Derived.Test.YtaoiookfmgpmkaaGreatDoorQM27
namespace Go.Proofs.YtaoiookfmgpmkaaGreatDoor
open Go.ChangeShapes Go.WideShapes Go.ChangeAt Go.RowKit
set_option linter.unusedVariables false
set_option linter.unusedSimpArgs false
set_option maxRecDepth 100000

set_option maxHeartbeats 4000000 in
theorem iMarksOk_any (w : World) (lo1 hi1 : Nat) (sv : Int) (x y : Value) (vk : Value) (k : MarksD) (hK : MkR w lo1 hi1 vk k) :
  Calls Tryz.prog 95 #[.agg #[.int .i64 sv, x, y], vk] w fun e w' => e = .returned (.bool (decide ((k.on.length : Int) = sv) && decide (k.kept.length = 6))) ∧ Below w.heap.size w w' := by
 obtain ⟨R, hR⟩ : ∃ R, (decide ((k.on.length : Int) = sv) && decide (k.kept.length = 6)) = R := ⟨_, rfl⟩
 rw [hR]
 have HR : Hid ((decide ((k.on.length : Int) = sv) && decide (k.kept.length = 6)) = R) := hR
 clear hR
 obtain ⟨ka, kb, rfl, hka, hkb⟩ := hK
 obtain ⟨adk, capk, rfl, _, _⟩ := hka.shape
 obtain ⟨adk', capk', rfl, _, _⟩ := hkb.shape
 clear hka hkb
 go_enter Tryz.func95, Tryz.ntmps95
 go_wp2_with (refine wpList_boxG (vs := [.int .i64 sv, x, y]) rfl _ rfl rfl ?_)
 intro u1 g1 cv1 s1
 go_wp2_with (refine wpList_boxG (vs := [.slice adk k.on.length capk, .slice adk' k.kept.length capk']) rfl _ rfl rfl ?_)
 intro u2 g2 kv2 s2
 have cv2 := cv1.below g2 (by omega)
 have G2 := g1.trans (g2.mono (by omega))
 have c0 : u2.cell? ⟨w.heap.size, 0, none⟩ = some (.int .i64 sv) := cv2.c 0 _ rfl
 have d0 : u2.cell? ⟨w.heap.size + 1, 0, none⟩ = some (.slice adk k.on.length capk) := kv2.c 0 _ rfl
 have d1 : u2.cell? ⟨w.heap.size + 1, 1, none⟩ = some (.slice adk' k.kept.length capk') := kv2.c 1 _ rfl
 clear cv1 cv2 kv2 g1 g2
 by_cases h1 : (k.on.length : Int) = sv
 ·have e1 : ((k.on.length : Int) == sv) = true := by simp [h1]
  by_cases h2 : k.kept.length = 6
  ·have e2 : ((k.kept.length : Int) == 6) = true := by simp [h2]
   have HE : Hid (R = true) := by show R = _; rw [← HR.out]; simp [h1, h2]
   clear h1 h2
   go_wp2
   go_ret
   exact ⟨ret_bool HE.out.symm, G2⟩
  ·have e2 : ((k.kept.length : Int) == 6) = false := by simp; omega
   have HE : Hid (R = false) := by show R = _; rw [← HR.out]; simp [h2]
   clear h1 h2
   go_wp2
   go_ret
   exact ⟨ret_bool HE.out.symm, G2⟩
 ·have e1 : ((k.on.length : Int) == sv) = false := by simp [h1]
  have HE : Hid (R = false) := by show R = _; rw [← HR.out]; simp [h1]
  clear h1
  go_wp2
  go_ret
  exact ⟨ret_bool HE.out.symm, G2⟩

end Go.Proofs.YtaoiookfmgpmkaaGreatDoor
