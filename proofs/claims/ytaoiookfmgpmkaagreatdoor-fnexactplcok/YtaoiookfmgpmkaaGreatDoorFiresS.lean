/-
  The model's ChartFires (package spec).
-/
import Derived.Test.YtaoiookfmgpmkaaGreatDoorFiresD
import Derived.Test.YtaoiookfmgpmkaaGreatDoorRowGKit
import Derived.Test.YtaoiookfmgpmkaaGreatDoorHeldKit
import Derived.Test.YtaoiookfmgpmkaaGreatDoorChartSpec
namespace Go.Proofs.YtaoiookfmgpmkaaGreatDoor
open Go.ChangeShapes Go.WideShapes Go.ChangeAt Go.RowKit
set_option linter.unusedVariables false
set_option linter.unusedSimpArgs false
set_option maxRecDepth 100000


/-- What holds as j ways have been told. -/
structure LF (w : World) (c0 c1 c2 m0 m1 m2 : Value) (B : Nat) (vf : Value) (s : List Int × List Bool) (wr : World) (vo : Value) : Prop where
  below : Below w.heap.size w wr
  cv : VarG wr w.heap.size [c0, c1, c2]
  mv : VarG wr (w.heap.size + 1 + 1) [m0, m1, m2]
  free : GO bool2 wr (w.heap.size + 3) B vf s.2
  out : RowZ wr B vo s.1
  le : w.heap.size + 3 ≤ B ∧ B ≤ wr.heap.size

theorem LF.grow {w : World} {c0 c1 c2 m0 m1 m2 : Value} {B : Nat} {vf : Value} {s : List Int × List Bool} {wr u : World} {vo : Value} (h : LF w c0 c1 c2 m0 m1 m2 B vf s wr vo) (g : Below wr.heap.size wr u) : LF w c0 c1 c2 m0 m1 m2 B vf s u vo := by
  have h1 := h.le
  have h2 := g.size
  exact ⟨h.below.trans (g.mono (by omega)), h.cv.below g (by omega), h.mv.below g (by omega), h.free.under g (by omega), h.out.below g (Nat.le_refl _), by omega⟩

/-- Steps that are left. -/
theorem LF.left {w : World} {c0 c1 c2 m0 m1 m2 : Value} {B : Nat} {vf : Value} {s : List Int × List Bool} {wr u : World} {vo : Value} {f : List Bool} (h : LF w c0 c1 c2 m0 m1 m2 B vf s wr vo) (o : Out (w.heap.size + 3) B wr u) (hf : GO bool2 u (w.heap.size + 3) B vf f) : LF w c0 c1 c2 m0 m1 m2 B vf (s.1, f) u vo := by
  have h1 := h.le
  have h2 := o.size
  refine ⟨h.below.trans (o.below (by omega) (by omega)), h.cv.at_ (o.block _ (by omega) (by omega)), h.mv.at_ (o.block _ (by omega) (by omega)), hf, h.out.at_ fun g hg => ?_, by omega⟩
  have := h.out.lt g hg
  exact o.block g (by omega) (by omega)


set_option maxHeartbeats 4000000 in
theorem l8Marks_any (w : World) (lo1 hi1 : Nat) (sv : Int) (x y : Value) (vk : Value) (k : MarksD) (hK : MkR w lo1 hi1 vk k) :
    Calls Tryz.prog 91 #[.agg #[.int .i64 sv, x, y], vk] w fun e w' => e = .returned (.bool (decide ((k.on.length : Int) = sv) && decide (k.kept.length = 6))) ∧ Below w.heap.size w w' := by
  obtain ⟨R, hR⟩ : ∃ R, (decide ((k.on.length : Int) = sv) && decide (k.kept.length = 6)) = R := ⟨_, rfl⟩
  rw [hR]
  have HR : Hid ((decide ((k.on.length : Int) = sv) && decide (k.kept.length = 6)) = R) := hR
  clear hR
  obtain ⟨ka, kb, rfl, hka, hkb⟩ := hK
  obtain ⟨adk, capk, rfl, _, _⟩ := hka.shape
  obtain ⟨adk', capk', rfl, _, _⟩ := hkb.shape
  clear hka hkb
  go_enter Tryz.func91, Tryz.ntmps91
  go_wp2_with (refine wpList_boxG (vs := [.int .i64 sv, x, y]) rfl _ rfl rfl ?_)
  intro u1 g1 cv1 s1
  go_wp2_with (refine wpList_boxG (vs := [.slice adk k.on.length capk, .slice adk' k.kept.length capk']) rfl _ rfl rfl ?_)
  intro u2 g2 kv2 s2
  have cv2 := cv1.below g2 (by omega)
  have G2 := g1.trans (g2.mono (by omega))
  have c0 : u2.cell? ⟨w.heap.size, 0, none⟩ = some (.int .i64 sv) := cv2.c 0 _ rfl
  have d0 : u2.cell? ⟨w.heap.size + 1, 0, none⟩ = some (.slice adk k.on.length capk) := kv2.c 0 _ rfl
  have d1 : u2.cell? ⟨w.heap.size + 1, 1, none⟩ = some (.slice adk' k.kept.length capk') := kv2.c 1 _ rfl
  clear cv1 cv2 kv2 g1 g2
  by_cases h1 : (k.on.length : Int) = sv
  · have e1 : ((k.on.length : Int) == sv) = true := by simp [h1]
    by_cases h2 : k.kept.length = 6
    · have e2 : ((k.kept.length : Int) == 6) = true := by simp [h2]
      have HE : Hid (R = true) := by show R = _; rw [← HR.out]; simp [h1, h2]
      clear h1 h2
      go_wp2
      go_ret
      exact ⟨ret_bool HE.out.symm, G2⟩
    · have e2 : ((k.kept.length : Int) == 6) = false := by simp; omega
      have HE : Hid (R = false) := by show R = _; rw [← HR.out]; simp [h2]
      clear h1 h2
      go_wp2
      go_ret
      exact ⟨ret_bool HE.out.symm, G2⟩
  · have e1 : ((k.on.length : Int) == sv) = false := by simp [h1]
    have HE : Hid (R = false) := by show R = _; rw [← HR.out]; simp [h1]
    clear h1
    go_wp2
    go_ret
    exact ⟨ret_bool HE.out.symm, G2⟩

end Go.Proofs.YtaoiookfmgpmkaaGreatDoor
