import Derived.Test.YtaoiookfmgpmkaaGreatDoorQM1
import Derived.Deep.WholeRow
import Derived.Test.YtaoiookfmgpmkaaGreatDoorQM9
import Derived.Test.YtaoiookfmgpmkaaGreatDoorPlcOkS

/-
 The program's forms of wires: its table, wireFormOf. (Written by our generator gen_netimpld.py.)
-/
namespace Go.Proofs.YtaoiookfmgpmkaaGreatDoor
open Go.ChangeShapes Go.WideShapes Go.ChangeAt Go.RowKit
set_option linter.unusedVariables false
set_option linter.unusedSimpArgs false
set_option maxRecDepth 100000

structure FormD where
 kind : Int
 word : List UInt8
 num : Bool
 two : Bool

def formC (f : FormD) : List Value := [.int .i64 f.kind, .string ⟨f.word.toArray⟩, .bool f.num, .bool f.two]
def noForm : FormD := ⟨0, [], false, false⟩
theorem formC_one (f : FormD) : ∀ v ∈ formC f, v.oneCell' = true := by
 intro v hv; simp only [formC, List.mem_cons, List.not_mem_nil, or_false] at hv
 rcases hv with rfl | rfl | rfl | rfl <;> rfl

def formL : List FormD := [⟨1, [100, 101, 108, 97, 121], true, false⟩, ⟨2, [104, 111, 108, 100], true, false⟩, ⟨3, [99, 111, 117, 110, 116], true, true⟩, ⟨4, [114, 105, 115, 101], false, false⟩, ⟨5, [108, 97, 116, 99, 104], false, true⟩, ⟨11, [97, 110, 100], false, true⟩, ⟨12, [111, 114], false, true⟩, ⟨13, [120, 111, 114], false, true⟩]
def formsC : List Value := [.int .i64 1, .string ⟨([100, 101, 108, 97, 121] : List UInt8).toArray⟩, .bool true, .bool false, .int .i64 2, .string ⟨([104, 111, 108, 100] : List UInt8).toArray⟩, .bool true, .bool false, .int .i64 3, .string ⟨([99, 111, 117, 110, 116] : List UInt8).toArray⟩, .bool true, .bool true, .int .i64 4, .string ⟨([114, 105, 115, 101] : List UInt8).toArray⟩, .bool false, .bool false, .int .i64 5, .string ⟨([108, 97, 116, 99, 104] : List UInt8).toArray⟩, .bool false, .bool true, .int .i64 11, .string ⟨([97, 110, 100] : List UInt8).toArray⟩, .bool false, .bool true, .int .i64 12, .string ⟨([111, 114] : List UInt8).toArray⟩, .bool false, .bool true, .int .i64 13, .string ⟨([120, 111, 114] : List UInt8).toArray⟩, .bool false, .bool true]

def formOf (k : Int) : Option FormD := formL.find? fun f => f.kind == k

structure FormsAt (w : World) : Prop where
 lt : 1 < w.heap.size
 c : CV w 1 0 formsC

theorem FormsAt.below {w w' : World} {n : Nat} (h : FormsAt w) (hb : Below n w w') (hn : 1 < n) : FormsAt w' :=
 ⟨Nat.lt_of_lt_of_le h.lt hb.size, h.c.below hb hn⟩
theorem FormsAt.grow {w w' : World} (h : FormsAt w) (hb : Below w.heap.size w w') : FormsAt w' := h.below hb h.lt

theorem res_pair {P : Program} {w : World} {a : Go.Addr} {v x : Value} {T : TypeId} (hl : (loadVar T a).run P w = .ok v w) : (((asAddr (.pointer (some a))).run P w).andThen fun a w' => ((loadVar T a).run P w').andThen fun v w' => Result.ok (Value.tuple #[v, x]) w') = .ok (.tuple #[v, x]) w := by
 show ((loadVar T a).run P w).andThen _ = _
 rw [hl]
 rfl

theorem zero_form : (Tryz.prog.info? 307).map (fun i => (i.zero, i.size)) = some (some (.agg (formC noForm).toArray), 4) := by kernel_rfl

theorem form_at0 (w : World) : (Instr.index 369 (.agg formsC.toArray) (.int .i64 0)).run Tryz.prog w = .ok (.agg (formC ⟨1, [100, 101, 108, 97, 121], true, false⟩).toArray) w := by kernel_rfl
theorem form_at1 (w : World) : (Instr.index 369 (.agg formsC.toArray) (.int .i64 1)).run Tryz.prog w = .ok (.agg (formC ⟨2, [104, 111, 108, 100], true, false⟩).toArray) w := by kernel_rfl
theorem form_at2 (w : World) : (Instr.index 369 (.agg formsC.toArray) (.int .i64 2)).run Tryz.prog w = .ok (.agg (formC ⟨3, [99, 111, 117, 110, 116], true, true⟩).toArray) w := by kernel_rfl
theorem form_at3 (w : World) : (Instr.index 369 (.agg formsC.toArray) (.int .i64 3)).run Tryz.prog w = .ok (.agg (formC ⟨4, [114, 105, 115, 101], false, false⟩).toArray) w := by kernel_rfl
theorem form_at4 (w : World) : (Instr.index 369 (.agg formsC.toArray) (.int .i64 4)).run Tryz.prog w = .ok (.agg (formC ⟨5, [108, 97, 116, 99, 104], false, true⟩).toArray) w := by kernel_rfl
theorem form_at5 (w : World) : (Instr.index 369 (.agg formsC.toArray) (.int .i64 5)).run Tryz.prog w = .ok (.agg (formC ⟨11, [97, 110, 100], false, true⟩).toArray) w := by kernel_rfl
theorem form_at6 (w : World) : (Instr.index 369 (.agg formsC.toArray) (.int .i64 6)).run Tryz.prog w = .ok (.agg (formC ⟨12, [111, 114], false, true⟩).toArray) w := by kernel_rfl
theorem form_at7 (w : World) : (Instr.index 369 (.agg formsC.toArray) (.int .i64 7)).run Tryz.prog w = .ok (.agg (formC ⟨13, [120, 111, 114], false, true⟩).toArray) w := by kernel_rfl

theorem formL_none {k : Int} {j : Nat} (h : ∀ f ∈ formL.take j, (f.kind == k) = false) : (formL.take j).find? (fun f => f.kind == k) = none := by
 rw [List.find?_eq_none]
 intro f hf
 have := h f hf
 simp [this]

theorem formOf_hit {k : Int} {j : Nat} {f : FormD} (h : ∀ g ∈ formL.take j, (g.kind == k) = false) (hf : formL[j]? = some f) (hk : (f.kind == k) = true) : formOf k = some f := by
 have hl := (List.getElem?_eq_some_iff.mp hf)
 obtain ⟨hj, he⟩ := hl
 unfold formOf
 rw [← List.take_append_drop j formL, List.find?_append, formL_none h, List.drop_eq_getElem_cons hj, he]
 simp [hk]

theorem formL_next {k : Int} {j : Nat} {f : FormD} (h : ∀ g ∈ formL.take j, (g.kind == k) = false) (hf : formL[j]? = some f) (hk : (f.kind == k) = false) : ∀ g ∈ formL.take (j + 1), (g.kind == k) = false := by
 intro g hg
 rw [List.take_add_one, hf] at hg
 simp only [Option.toList_some, List.mem_append, List.mem_singleton] at hg
 rcases hg with hg | rfl
 ·exact h g hg
 ·exact hk

set_option maxHeartbeats 8000000 in
theorem wireFormOf_any (w : World) (k : Int) (hF : FormsAt w) : Calls Tryz.prog 233 #[.int .i64 k] w fun e w' => e = .returned (.tuple #[.agg (formC ((formOf k).getD noForm)).toArray, .bool (formOf k).isSome]) ∧ Below w.heap.size w w' := by
 have hZ := (zero_of_info (P := Tryz.prog) zero_form).1
 obtain ⟨R, hR⟩ : ∃ R, formOf k = R := ⟨_, rfl⟩
 rw [hR]
 have HR : Hid (formOf k = R) := hR
 clear hR
 go_enter Tryz.func233, Tryz.ntmps233
 go_wp2_with (refine wpList_allocG hZ rfl rfl ?_)
 intro w0 g0 q0 s0
 have hF0 := hF.grow g0
 have hlt := hF.lt
 obtain ⟨C, hC⟩ : ∃ C, formsC = C := ⟨_, rfl⟩
 have hCV : CV w0 1 0 C := by rw [← hC]; exact hF0.c
 have hCL : C.length = 32 := by rw [← hC]; rfl
 have hx0 := form_at0
 have hx1 := form_at1
 have hx2 := form_at2
 have hx3 := form_at3
 have hx4 := form_at4
 have hx5 := form_at5
 have hx6 := form_at6
 have hx7 := form_at7
 rw [hC] at hx0 hx1 hx2 hx3 hx4 hx5 hx6 hx7
 clear hF hF0 hC
 go_wp2_with (refine wpList_loadG Tryz.isAgg369 Tryz.sizeOf369 _ rfl rfl rfl hCL hCV ?_)
 clear hCV hCL
 go_loopw [7] (fun i wr => ∃ j : Nat, j ≤ 8 ∧ i = .int .i64 j ∧ Below w.heap.size w wr ∧ VarG wr w.heap.size (formC noForm) ∧ w.heap.size < wr.heap.size ∧ ∀ g ∈ formL.take j, (g.kind == k) = false) (fun i _ => 8 - (intOf i).toNat)
 case atStart => exact ⟨0, Nat.zero_le _, rfl, g0, q0, by omega, fun g hg => by simp at hg⟩
 case round =>
  clear g0 q0 s0
  obtain ⟨j, hj, rfl, hb, hV, hVl, hno⟩ := hrel
  have HN : Hid (∀ g ∈ formL.take j, (g.kind == k) = false) := hno
  clear hno
  have hsz := hb.size
  obtain rfl | rfl | rfl | rfl | rfl | rfl | rfl | rfl | rfl : j = 0 ∨ j = 1 ∨ j = 2 ∨ j = 3 ∨ j = 4 ∨ j = 5 ∨ j = 6 ∨ j = 7 ∨ j = 8 := by omega
  ·have hx := hx0
   clear hx0 hx1 hx2 hx3 hx4 hx5 hx6 hx7
   cases hk : ((1 : Int) == k)
   ·have HNN : Hid (∀ g ∈ formL.take (0 + 1), (g.kind == k) = false) := formL_next (f := ⟨1, [100, 101, 108, 97, 121], true, false⟩) HN.out rfl hk
    go_wp2_with (refine wpList_allocG hZ rfl rfl ?_)
    intro u1 g1 q1 s1
    have hr := q1.run 0 4 (show 0 + 4 ≤ 4 by decide)
    go_wp2_with (refine wpList_storeG Tryz.sizeOf307 _ _ rfl rfl rfl rfl rfl (formC_one ⟨1, [100, 101, 108, 97, 121], true, false⟩) hr.1 hr.2 ?_)
    intro u2 L
    have q2 := L.var q1
    have c0 : u2.cell? ⟨wr.heap.size, 0, none⟩ = some (.int .i64 1) := q2.c 0 _ rfl
    have hb2 : Below w.heap.size w u2 := L.below _ _ (by omega) (hb.trans (g1.mono (by omega)))
    have hV2 := L.other (hV.below g1 (by omega)) (by omega)
    have z2 := L.size
    clear L q1 q2 hr g1 hb hV
    go_wp2
    go_roundw
    case rel => exact ⟨0 + 1, by omega, by first | rfl | go_num, hb2, hV2, by omega, HNN.out⟩
    case measure => simp [intOf] <;> omega
   ·have HF : Hid (R = some ⟨1, [100, 101, 108, 97, 121], true, false⟩) := by show R = _; rw [← HR.out]; exact formOf_hit (f := ⟨1, [100, 101, 108, 97, 121], true, false⟩) HN.out rfl hk
    go_wp2_with (refine wpList_allocG hZ rfl rfl ?_)
    intro u1 g1 q1 s1
    have hr := q1.run 0 4 (show 0 + 4 ≤ 4 by decide)
    go_wp2_with (refine wpList_storeG Tryz.sizeOf307 _ _ rfl rfl rfl rfl rfl (formC_one ⟨1, [100, 101, 108, 97, 121], true, false⟩) hr.1 hr.2 ?_)
    intro u2 L
    have q2 := L.var q1
    have c0 : u2.cell? ⟨wr.heap.size, 0, none⟩ = some (.int .i64 1) := q2.c 0 _ rfl
    have hb2 : Below w.heap.size w u2 := L.below _ _ (by omega) (hb.trans (g1.mono (by omega)))
    have hV2 := L.other (hV.below g1 (by omega)) (by omega)
    have z2 := L.size
    clear L q1 hr g1 hb hV
    have hr2 := hV2.run 0 4 (show 0 + 4 ≤ 4 by decide)
    go_wp2_with (first
     | refine wpList_loadG Tryz.isAgg307 Tryz.sizeOf307 _ rfl rfl rfl rfl q2.c ?_
     | refine wpList_storeG Tryz.sizeOf307 _ _ rfl rfl rfl rfl rfl (formC_one ⟨1, [100, 101, 108, 97, 121], true, false⟩) hr2.1 hr2.2 ?_)
    intro u3 L3
    have q3 := L3.var hV2
    have hb3 : Below w.heap.size w u3 := L3.below _ _ (Nat.le_refl _) hb2
    clear L3 hV2 hr2 hb2 q2 c0
    go_wp2
    rw [HF.out]
    refine bodyPost_ret (v := .tuple #[.agg (formC ⟨1, [100, 101, 108, 97, 121], true, false⟩).toArray, .bool true]) ?_ rfl ⟨rfl, hb3⟩
    have hl := run_loadVarG (P := Tryz.prog) Tryz.isAgg307 Tryz.sizeOf307 rfl q3.c
    simp [results, Tryz.results233]
    exact res_pair hl
  ·have hx := hx1
   clear hx0 hx1 hx2 hx3 hx4 hx5 hx6 hx7
   cases hk : ((2 : Int) == k)
   ·have HNN : Hid (∀ g ∈ formL.take (1 + 1), (g.kind == k) = false) := formL_next (f := ⟨2, [104, 111, 108, 100], true, false⟩) HN.out rfl hk
    go_wp2_with (refine wpList_allocG hZ rfl rfl ?_)
    intro u1 g1 q1 s1
    have hr := q1.run 0 4 (show 0 + 4 ≤ 4 by decide)
    go_wp2_with (refine wpList_storeG Tryz.sizeOf307 _ _ rfl rfl rfl rfl rfl (formC_one ⟨2, [104, 111, 108, 100], true, false⟩) hr.1 hr.2 ?_)
    intro u2 L
    have q2 := L.var q1
    have c0 : u2.cell? ⟨wr.heap.size, 0, none⟩ = some (.int .i64 2) := q2.c 0 _ rfl
    have hb2 : Below w.heap.size w u2 := L.below _ _ (by omega) (hb.trans (g1.mono (by omega)))
    have hV2 := L.other (hV.below g1 (by omega)) (by omega)
    have z2 := L.size
    clear L q1 q2 hr g1 hb hV
    go_wp2
    go_roundw
    case rel => exact ⟨1 + 1, by omega, by first | rfl | go_num, hb2, hV2, by omega, HNN.out⟩
    case measure => simp [intOf] <;> omega
   ·have HF : Hid (R = some ⟨2, [104, 111, 108, 100], true, false⟩) := by show R = _; rw [← HR.out]; exact formOf_hit (f := ⟨2, [104, 111, 108, 100], true, false⟩) HN.out rfl hk
    go_wp2_with (refine wpList_allocG hZ rfl rfl ?_)
    intro u1 g1 q1 s1
    have hr := q1.run 0 4 (show 0 + 4 ≤ 4 by decide)
    go_wp2_with (refine wpList_storeG Tryz.sizeOf307 _ _ rfl rfl rfl rfl rfl (formC_one ⟨2, [104, 111, 108, 100], true, false⟩) hr.1 hr.2 ?_)
    intro u2 L
    have q2 := L.var q1
    have c0 : u2.cell? ⟨wr.heap.size, 0, none⟩ = some (.int .i64 2) := q2.c 0 _ rfl
    have hb2 : Below w.heap.size w u2 := L.below _ _ (by omega) (hb.trans (g1.mono (by omega)))
    have hV2 := L.other (hV.below g1 (by omega)) (by omega)
    have z2 := L.size
    clear L q1 hr g1 hb hV
    have hr2 := hV2.run 0 4 (show 0 + 4 ≤ 4 by decide)
    go_wp2_with (first
     | refine wpList_loadG Tryz.isAgg307 Tryz.sizeOf307 _ rfl rfl rfl rfl q2.c ?_
     | refine wpList_storeG Tryz.sizeOf307 _ _ rfl rfl rfl rfl rfl (formC_one ⟨2, [104, 111, 108, 100], true, false⟩) hr2.1 hr2.2 ?_)
    intro u3 L3
    have q3 := L3.var hV2
    have hb3 : Below w.heap.size w u3 := L3.below _ _ (Nat.le_refl _) hb2
    clear L3 hV2 hr2 hb2 q2 c0
    go_wp2
    rw [HF.out]
    refine bodyPost_ret (v := .tuple #[.agg (formC ⟨2, [104, 111, 108, 100], true, false⟩).toArray, .bool true]) ?_ rfl ⟨rfl, hb3⟩
    have hl := run_loadVarG (P := Tryz.prog) Tryz.isAgg307 Tryz.sizeOf307 rfl q3.c
    simp [results, Tryz.results233]
    exact res_pair hl
  ·have hx := hx2
   clear hx0 hx1 hx2 hx3 hx4 hx5 hx6 hx7
   cases hk : ((3 : Int) == k)
   ·have HNN : Hid (∀ g ∈ formL.take (2 + 1), (g.kind == k) = false) := formL_next (f := ⟨3, [99, 111, 117, 110, 116], true, true⟩) HN.out rfl hk
    go_wp2_with (refine wpList_allocG hZ rfl rfl ?_)
    intro u1 g1 q1 s1
    have hr := q1.run 0 4 (show 0 + 4 ≤ 4 by decide)
    go_wp2_with (refine wpList_storeG Tryz.sizeOf307 _ _ rfl rfl rfl rfl rfl (formC_one ⟨3, [99, 111, 117, 110, 116], true, true⟩) hr.1 hr.2 ?_)
    intro u2 L
    have q2 := L.var q1
    have c0 : u2.cell? ⟨wr.heap.size, 0, none⟩ = some (.int .i64 3) := q2.c 0 _ rfl
    have hb2 : Below w.heap.size w u2 := L.below _ _ (by omega) (hb.trans (g1.mono (by omega)))
    have hV2 := L.other (hV.below g1 (by omega)) (by omega)
    have z2 := L.size
    clear L q1 q2 hr g1 hb hV
    go_wp2
    go_roundw
    case rel => exact ⟨2 + 1, by omega, by first | rfl | go_num, hb2, hV2, by omega, HNN.out⟩
    case measure => simp [intOf] <;> omega
   ·have HF : Hid (R = some ⟨3, [99, 111, 117, 110, 116], true, true⟩) := by show R = _; rw [← HR.out]; exact formOf_hit (f := ⟨3, [99, 111, 117, 110, 116], true, true⟩) HN.out rfl hk
    go_wp2_with (refine wpList_allocG hZ rfl rfl ?_)
    intro u1 g1 q1 s1
    have hr := q1.run 0 4 (show 0 + 4 ≤ 4 by decide)
    go_wp2_with (refine wpList_storeG Tryz.sizeOf307 _ _ rfl rfl rfl rfl rfl (formC_one ⟨3, [99, 111, 117, 110, 116], true, true⟩) hr.1 hr.2 ?_)
    intro u2 L
    have q2 := L.var q1
    have c0 : u2.cell? ⟨wr.heap.size, 0, none⟩ = some (.int .i64 3) := q2.c 0 _ rfl
    have hb2 : Below w.heap.size w u2 := L.below _ _ (by omega) (hb.trans (g1.mono (by omega)))
    have hV2 := L.other (hV.below g1 (by omega)) (by omega)
    have z2 := L.size
    clear L q1 hr g1 hb hV
    have hr2 := hV2.run 0 4 (show 0 + 4 ≤ 4 by decide)
    go_wp2_with (first
     | refine wpList_loadG Tryz.isAgg307 Tryz.sizeOf307 _ rfl rfl rfl rfl q2.c ?_
     | refine wpList_storeG Tryz.sizeOf307 _ _ rfl rfl rfl rfl rfl (formC_one ⟨3, [99, 111, 117, 110, 116], true, true⟩) hr2.1 hr2.2 ?_)
    intro u3 L3
    have q3 := L3.var hV2
    have hb3 : Below w.heap.size w u3 := L3.below _ _ (Nat.le_refl _) hb2
    clear L3 hV2 hr2 hb2 q2 c0
    go_wp2
    rw [HF.out]
    refine bodyPost_ret (v := .tuple #[.agg (formC ⟨3, [99, 111, 117, 110, 116], true, true⟩).toArray, .bool true]) ?_ rfl ⟨rfl, hb3⟩
    have hl := run_loadVarG (P := Tryz.prog) Tryz.isAgg307 Tryz.sizeOf307 rfl q3.c
    simp [results, Tryz.results233]
    exact res_pair hl
  ·have hx := hx3
   clear hx0 hx1 hx2 hx3 hx4 hx5 hx6 hx7
   cases hk : ((4 : Int) == k)
   ·have HNN : Hid (∀ g ∈ formL.take (3 + 1), (g.kind == k) = false) := formL_next (f := ⟨4, [114, 105, 115, 101], false, false⟩) HN.out rfl hk
    go_wp2_with (refine wpList_allocG hZ rfl rfl ?_)
    intro u1 g1 q1 s1
    have hr := q1.run 0 4 (show 0 + 4 ≤ 4 by decide)
    go_wp2_with (refine wpList_storeG Tryz.sizeOf307 _ _ rfl rfl rfl rfl rfl (formC_one ⟨4, [114, 105, 115, 101], false, false⟩) hr.1 hr.2 ?_)
    intro u2 L
    have q2 := L.var q1
    have c0 : u2.cell? ⟨wr.heap.size, 0, none⟩ = some (.int .i64 4) := q2.c 0 _ rfl
    have hb2 : Below w.heap.size w u2 := L.below _ _ (by omega) (hb.trans (g1.mono (by omega)))
    have hV2 := L.other (hV.below g1 (by omega)) (by omega)
    have z2 := L.size
    clear L q1 q2 hr g1 hb hV
    go_wp2
    go_roundw
    case rel => exact ⟨3 + 1, by omega, by first | rfl | go_num, hb2, hV2, by omega, HNN.out⟩
    case measure => simp [intOf] <;> omega
   ·have HF : Hid (R = some ⟨4, [114, 105, 115, 101], false, false⟩) := by show R = _; rw [← HR.out]; exact formOf_hit (f := ⟨4, [114, 105, 115, 101], false, false⟩) HN.out rfl hk
    go_wp2_with (refine wpList_allocG hZ rfl rfl ?_)
    intro u1 g1 q1 s1
    have hr := q1.run 0 4 (show 0 + 4 ≤ 4 by decide)
    go_wp2_with (refine wpList_storeG Tryz.sizeOf307 _ _ rfl rfl rfl rfl rfl (formC_one ⟨4, [114, 105, 115, 101], false, false⟩) hr.1 hr.2 ?_)
    intro u2 L
    have q2 := L.var q1
    have c0 : u2.cell? ⟨wr.heap.size, 0, none⟩ = some (.int .i64 4) := q2.c 0 _ rfl
    have hb2 : Below w.heap.size w u2 := L.below _ _ (by omega) (hb.trans (g1.mono (by omega)))
    have hV2 := L.other (hV.below g1 (by omega)) (by omega)
    have z2 := L.size
    clear L q1 hr g1 hb hV
    have hr2 := hV2.run 0 4 (show 0 + 4 ≤ 4 by decide)
    go_wp2_with (first
     | refine wpList_loadG Tryz.isAgg307 Tryz.sizeOf307 _ rfl rfl rfl rfl q2.c ?_
     | refine wpList_storeG Tryz.sizeOf307 _ _ rfl rfl rfl rfl rfl (formC_one ⟨4, [114, 105, 115, 101], false, false⟩) hr2.1 hr2.2 ?_)
    intro u3 L3
    have q3 := L3.var hV2
    have hb3 : Below w.heap.size w u3 := L3.below _ _ (Nat.le_refl _) hb2
    clear L3 hV2 hr2 hb2 q2 c0
    go_wp2
    rw [HF.out]
    refine bodyPost_ret (v := .tuple #[.agg (formC ⟨4, [114, 105, 115, 101], false, false⟩).toArray, .bool true]) ?_ rfl ⟨rfl, hb3⟩
    have hl := run_loadVarG (P := Tryz.prog) Tryz.isAgg307 Tryz.sizeOf307 rfl q3.c
    simp [results, Tryz.results233]
    exact res_pair hl
  ·have hx := hx4
   clear hx0 hx1 hx2 hx3 hx4 hx5 hx6 hx7
   cases hk : ((5 : Int) == k)
   ·have HNN : Hid (∀ g ∈ formL.take (4 + 1), (g.kind == k) = false) := formL_next (f := ⟨5, [108, 97, 116, 99, 104], false, true⟩) HN.out rfl hk
    go_wp2_with (refine wpList_allocG hZ rfl rfl ?_)
    intro u1 g1 q1 s1
    have hr := q1.run 0 4 (show 0 + 4 ≤ 4 by decide)
    go_wp2_with (refine wpList_storeG Tryz.sizeOf307 _ _ rfl rfl rfl rfl rfl (formC_one ⟨5, [108, 97, 116, 99, 104], false, true⟩) hr.1 hr.2 ?_)
    intro u2 L
    have q2 := L.var q1
    have c0 : u2.cell? ⟨wr.heap.size, 0, none⟩ = some (.int .i64 5) := q2.c 0 _ rfl
    have hb2 : Below w.heap.size w u2 := L.below _ _ (by omega) (hb.trans (g1.mono (by omega)))
    have hV2 := L.other (hV.below g1 (by omega)) (by omega)
    have z2 := L.size
    clear L q1 q2 hr g1 hb hV
    go_wp2
    go_roundw
    case rel => exact ⟨4 + 1, by omega, by first | rfl | go_num, hb2, hV2, by omega, HNN.out⟩
    case measure => simp [intOf] <;> omega
   ·have HF : Hid (R = some ⟨5, [108, 97, 116, 99, 104], false, true⟩) := by show R = _; rw [← HR.out]; exact formOf_hit (f := ⟨5, [108, 97, 116, 99, 104], false, true⟩) HN.out rfl hk
    go_wp2_with (refine wpList_allocG hZ rfl rfl ?_)
    intro u1 g1 q1 s1
    have hr := q1.run 0 4 (show 0 + 4 ≤ 4 by decide)
    go_wp2_with (refine wpList_storeG Tryz.sizeOf307 _ _ rfl rfl rfl rfl rfl (formC_one ⟨5, [108, 97, 116, 99, 104], false, true⟩) hr.1 hr.2 ?_)
    intro u2 L
    have q2 := L.var q1
    have c0 : u2.cell? ⟨wr.heap.size, 0, none⟩ = some (.int .i64 5) := q2.c 0 _ rfl
    have hb2 : Below w.heap.size w u2 := L.below _ _ (by omega) (hb.trans (g1.mono (by omega)))
    have hV2 := L.other (hV.below g1 (by omega)) (by omega)
    have z2 := L.size
    clear L q1 hr g1 hb hV
    have hr2 := hV2.run 0 4 (show 0 + 4 ≤ 4 by decide)
    go_wp2_with (first
     | refine wpList_loadG Tryz.isAgg307 Tryz.sizeOf307 _ rfl rfl rfl rfl q2.c ?_
     | refine wpList_storeG Tryz.sizeOf307 _ _ rfl rfl rfl rfl rfl (formC_one ⟨5, [108, 97, 116, 99, 104], false, true⟩) hr2.1 hr2.2 ?_)
    intro u3 L3
    have q3 := L3.var hV2
    have hb3 : Below w.heap.size w u3 := L3.below _ _ (Nat.le_refl _) hb2
    clear L3 hV2 hr2 hb2 q2 c0
    go_wp2
    rw [HF.out]
    refine bodyPost_ret (v := .tuple #[.agg (formC ⟨5, [108, 97, 116, 99, 104], false, true⟩).toArray, .bool true]) ?_ rfl ⟨rfl, hb3⟩
    have hl := run_loadVarG (P := Tryz.prog) Tryz.isAgg307 Tryz.sizeOf307 rfl q3.c
    simp [results, Tryz.results233]
    exact res_pair hl
  ·have hx := hx5
   clear hx0 hx1 hx2 hx3 hx4 hx5 hx6 hx7
   cases hk : ((11 : Int) == k)
   ·have HNN : Hid (∀ g ∈ formL.take (5 + 1), (g.kind == k) = false) := formL_next (f := ⟨11, [97, 110, 100], false, true⟩) HN.out rfl hk
    go_wp2_with (refine wpList_allocG hZ rfl rfl ?_)
    intro u1 g1 q1 s1
    have hr := q1.run 0 4 (show 0 + 4 ≤ 4 by decide)
    go_wp2_with (refine wpList_storeG Tryz.sizeOf307 _ _ rfl rfl rfl rfl rfl (formC_one ⟨11, [97, 110, 100], false, true⟩) hr.1 hr.2 ?_)
    intro u2 L
    have q2 := L.var q1
    have c0 : u2.cell? ⟨wr.heap.size, 0, none⟩ = some (.int .i64 11) := q2.c 0 _ rfl
    have hb2 : Below w.heap.size w u2 := L.below _ _ (by omega) (hb.trans (g1.mono (by omega)))
    have hV2 := L.other (hV.below g1 (by omega)) (by omega)
    have z2 := L.size
    clear L q1 q2 hr g1 hb hV
    go_wp2
    go_roundw
    case rel => exact ⟨5 + 1, by omega, by first | rfl | go_num, hb2, hV2, by omega, HNN.out⟩
    case measure => simp [intOf] <;> omega
   ·have HF : Hid (R = some ⟨11, [97, 110, 100], false, true⟩) := by show R = _; rw [← HR.out]; exact formOf_hit (f := ⟨11, [97, 110, 100], false, true⟩) HN.out rfl hk
    go_wp2_with (refine wpList_allocG hZ rfl rfl ?_)
    intro u1 g1 q1 s1
    have hr := q1.run 0 4 (show 0 + 4 ≤ 4 by decide)
    go_wp2_with (refine wpList_storeG Tryz.sizeOf307 _ _ rfl rfl rfl rfl rfl (formC_one ⟨11, [97, 110, 100], false, true⟩) hr.1 hr.2 ?_)
    intro u2 L
    have q2 := L.var q1
    have c0 : u2.cell? ⟨wr.heap.size, 0, none⟩ = some (.int .i64 11) := q2.c 0 _ rfl
    have hb2 : Below w.heap.size w u2 := L.below _ _ (by omega) (hb.trans (g1.mono (by omega)))
    have hV2 := L.other (hV.below g1 (by omega)) (by omega)
    have z2 := L.size
    clear L q1 hr g1 hb hV
    have hr2 := hV2.run 0 4 (show 0 + 4 ≤ 4 by decide)
    go_wp2_with (first
     | refine wpList_loadG Tryz.isAgg307 Tryz.sizeOf307 _ rfl rfl rfl rfl q2.c ?_
     | refine wpList_storeG Tryz.sizeOf307 _ _ rfl rfl rfl rfl rfl (formC_one ⟨11, [97, 110, 100], false, true⟩) hr2.1 hr2.2 ?_)
    intro u3 L3
    have q3 := L3.var hV2
    have hb3 : Below w.heap.size w u3 := L3.below _ _ (Nat.le_refl _) hb2
    clear L3 hV2 hr2 hb2 q2 c0
    go_wp2
    rw [HF.out]
    refine bodyPost_ret (v := .tuple #[.agg (formC ⟨11, [97, 110, 100], false, true⟩).toArray, .bool true]) ?_ rfl ⟨rfl, hb3⟩
    have hl := run_loadVarG (P := Tryz.prog) Tryz.isAgg307 Tryz.sizeOf307 rfl q3.c
    simp [results, Tryz.results233]
    exact res_pair hl
  ·have hx := hx6
   clear hx0 hx1 hx2 hx3 hx4 hx5 hx6 hx7
   cases hk : ((12 : Int) == k)
   ·have HNN : Hid (∀ g ∈ formL.take (6 + 1), (g.kind == k) = false) := formL_next (f := ⟨12, [111, 114], false, true⟩) HN.out rfl hk
    go_wp2_with (refine wpList_allocG hZ rfl rfl ?_)
    intro u1 g1 q1 s1
    have hr := q1.run 0 4 (show 0 + 4 ≤ 4 by decide)
    go_wp2_with (refine wpList_storeG Tryz.sizeOf307 _ _ rfl rfl rfl rfl rfl (formC_one ⟨12, [111, 114], false, true⟩) hr.1 hr.2 ?_)
    intro u2 L
    have q2 := L.var q1
    have c0 : u2.cell? ⟨wr.heap.size, 0, none⟩ = some (.int .i64 12) := q2.c 0 _ rfl
    have hb2 : Below w.heap.size w u2 := L.below _ _ (by omega) (hb.trans (g1.mono (by omega)))
    have hV2 := L.other (hV.below g1 (by omega)) (by omega)
    have z2 := L.size
    clear L q1 q2 hr g1 hb hV
    go_wp2
    go_roundw
    case rel => exact ⟨6 + 1, by omega, by first | rfl | go_num, hb2, hV2, by omega, HNN.out⟩
    case measure => simp [intOf] <;> omega
   ·have HF : Hid (R = some ⟨12, [111, 114], false, true⟩) := by show R = _; rw [← HR.out]; exact formOf_hit (f := ⟨12, [111, 114], false, true⟩) HN.out rfl hk
    go_wp2_with (refine wpList_allocG hZ rfl rfl ?_)
    intro u1 g1 q1 s1
    have hr := q1.run 0 4 (show 0 + 4 ≤ 4 by decide)
    go_wp2_with (refine wpList_storeG Tryz.sizeOf307 _ _ rfl rfl rfl rfl rfl (formC_one ⟨12, [111, 114], false, true⟩) hr.1 hr.2 ?_)
    intro u2 L
    have q2 := L.var q1
    have c0 : u2.cell? ⟨wr.heap.size, 0, none⟩ = some (.int .i64 12) := q2.c 0 _ rfl
    have hb2 : Below w.heap.size w u2 := L.below _ _ (by omega) (hb.trans (g1.mono (by omega)))
    have hV2 := L.other (hV.below g1 (by omega)) (by omega)
    have z2 := L.size
    clear L q1 hr g1 hb hV
    have hr2 := hV2.run 0 4 (show 0 + 4 ≤ 4 by decide)
    go_wp2_with (first
     | refine wpList_loadG Tryz.isAgg307 Tryz.sizeOf307 _ rfl rfl rfl rfl q2.c ?_
     | refine wpList_storeG Tryz.sizeOf307 _ _ rfl rfl rfl rfl rfl (formC_one ⟨12, [111, 114], false, true⟩) hr2.1 hr2.2 ?_)
    intro u3 L3
    have q3 := L3.var hV2
    have hb3 : Below w.heap.size w u3 := L3.below _ _ (Nat.le_refl _) hb2
    clear L3 hV2 hr2 hb2 q2 c0
    go_wp2
    rw [HF.out]
    refine bodyPost_ret (v := .tuple #[.agg (formC ⟨12, [111, 114], false, true⟩).toArray, .bool true]) ?_ rfl ⟨rfl, hb3⟩
    have hl := run_loadVarG (P := Tryz.prog) Tryz.isAgg307 Tryz.sizeOf307 rfl q3.c
    simp [results, Tryz.results233]
    exact res_pair hl
  ·have hx := hx7
   clear hx0 hx1 hx2 hx3 hx4 hx5 hx6 hx7
   cases hk : ((13 : Int) == k)
   ·have HNN : Hid (∀ g ∈ formL.take (7 + 1), (g.kind == k) = false) := formL_next (f := ⟨13, [120, 111, 114], false, true⟩) HN.out rfl hk
    go_wp2_with (refine wpList_allocG hZ rfl rfl ?_)
    intro u1 g1 q1 s1
    have hr := q1.run 0 4 (show 0 + 4 ≤ 4 by decide)
    go_wp2_with (refine wpList_storeG Tryz.sizeOf307 _ _ rfl rfl rfl rfl rfl (formC_one ⟨13, [120, 111, 114], false, true⟩) hr.1 hr.2 ?_)
    intro u2 L
    have q2 := L.var q1
    have c0 : u2.cell? ⟨wr.heap.size, 0, none⟩ = some (.int .i64 13) := q2.c 0 _ rfl
    have hb2 : Below w.heap.size w u2 := L.below _ _ (by omega) (hb.trans (g1.mono (by omega)))
    have hV2 := L.other (hV.below g1 (by omega)) (by omega)
    have z2 := L.size
    clear L q1 q2 hr g1 hb hV
    go_wp2
    go_roundw
    case rel => exact ⟨7 + 1, by omega, by first | rfl | go_num, hb2, hV2, by omega, HNN.out⟩
    case measure => simp [intOf] <;> omega
   ·have HF : Hid (R = some ⟨13, [120, 111, 114], false, true⟩) := by show R = _; rw [← HR.out]; exact formOf_hit (f := ⟨13, [120, 111, 114], false, true⟩) HN.out rfl hk
    go_wp2_with (refine wpList_allocG hZ rfl rfl ?_)
    intro u1 g1 q1 s1
    have hr := q1.run 0 4 (show 0 + 4 ≤ 4 by decide)
    go_wp2_with (refine wpList_storeG Tryz.sizeOf307 _ _ rfl rfl rfl rfl rfl (formC_one ⟨13, [120, 111, 114], false, true⟩) hr.1 hr.2 ?_)
    intro u2 L
    have q2 := L.var q1
    have c0 : u2.cell? ⟨wr.heap.size, 0, none⟩ = some (.int .i64 13) := q2.c 0 _ rfl
    have hb2 : Below w.heap.size w u2 := L.below _ _ (by omega) (hb.trans (g1.mono (by omega)))
    have hV2 := L.other (hV.below g1 (by omega)) (by omega)
    have z2 := L.size
    clear L q1 hr g1 hb hV
    have hr2 := hV2.run 0 4 (show 0 + 4 ≤ 4 by decide)
    go_wp2_with (first
     | refine wpList_loadG Tryz.isAgg307 Tryz.sizeOf307 _ rfl rfl rfl rfl q2.c ?_
     | refine wpList_storeG Tryz.sizeOf307 _ _ rfl rfl rfl rfl rfl (formC_one ⟨13, [120, 111, 114], false, true⟩) hr2.1 hr2.2 ?_)
    intro u3 L3
    have q3 := L3.var hV2
    have hb3 : Below w.heap.size w u3 := L3.below _ _ (Nat.le_refl _) hb2
    clear L3 hV2 hr2 hb2 q2 c0
    go_wp2
    rw [HF.out]
    refine bodyPost_ret (v := .tuple #[.agg (formC ⟨13, [120, 111, 114], false, true⟩).toArray, .bool true]) ?_ rfl ⟨rfl, hb3⟩
    have hl := run_loadVarG (P := Tryz.prog) Tryz.isAgg307 Tryz.sizeOf307 rfl q3.c
    simp [results, Tryz.results233]
    exact res_pair hl
  ·have HF : Hid (R = none) := by
    show R = none
    rw [← HR.out]
    unfold formOf
    exact formL_none (j := 8) HN.out
   clear hx0 hx1 hx2 hx3 hx4 hx5 hx6 hx7
   have hr2 := hV.run 0 4 (show 0 + 4 ≤ 4 by decide)
   go_wp2_with (refine wpList_storeG (vs := formC noForm) Tryz.sizeOf307 _ _ rfl rfl rfl rfl rfl (formC_one noForm) hr2.1 hr2.2 ?_)
   intro u3 L3
   have q3 := L3.var hV
   have hb3 : Below w.heap.size w u3 := L3.below _ _ (Nat.le_refl _) hb
   clear L3 hV hr2 hb
   go_wp2
   rw [HF.out]
   refine bodyPost_ret (v := .tuple #[.agg (formC noForm).toArray, .bool false]) ?_ rfl ⟨rfl, hb3⟩
   have hl := run_loadVarG (P := Tryz.prog) Tryz.isAgg307 Tryz.sizeOf307 rfl q3.c
   simp [results, Tryz.results233]
   exact res_pair hl
end Go.Proofs.YtaoiookfmgpmkaaGreatDoor

/-
 FnExactPlcOk, walked at every argument, given what the program's PlcOk answers. (Written by our generator exactgen.py.)
-/
namespace Go.Proofs.YtaoiookfmgpmkaaGreatDoor
open Go.ChangeShapes Go.WideShapes Go.ChangeAt Go.RowKit
set_option linter.unusedVariables false

set_option maxRecDepth 100000 in
set_option maxHeartbeats 8000000 in
theorem exactPlcOk_walk
  (impl : ∀ (w : World) (_ : FormsAt w) (m0 : Value) (lo0 hi0 : Nat) (d0 : PlcD), PI w lo0 hi0 m0 d0 → hi0 ≤ w.heap.size → d0.many ≤ 1048576 → Calls Tryz.prog 28 #[m0] w fun e w' => e = .returned (.bool (plcOk d0)) ∧ Below w.heap.size w w')
  (w : World) (hTab : FormsAt w) (v0 : Value) (d0 : PlcD) (r0 : PI w 0 w.heap.size v0 d0) :
  Calls Tryz.prog 4 #[v0] w fun e w' => e = .returned (.bool true) ∧ Below w.heap.size w w' := by
 obtain ⟨csA0, hlA0, rfl⟩ := r0.opq
 have R0 : Hid (PI w 0 w.heap.size (.agg csA0.toArray) d0) := r0
 clear r0
 go_enter Tryz.func4, Tryz.ntmps4
 go_wp2_with (refine wpList_boxG (vs := csA0) rfl _ rfl rfl ?_)
 intro w0 gw0 P0 sw0
 have hb := gw0
 clear gw0
 go_wp2_with (first
  | refine wpList_loadG Tryz.isAgg73 Tryz.sizeOf73 (vs := csA0) _ rfl rfl rfl hlA0 P0.c ?_)
 refine (szPlc_any _ _ _ _ d0 (1048576) (R0.out.below hb (Nat.le_refl _)) (by omega) (by omega) (by omega)).mono ?_
 by_cases big0 : (1048576 : Int) < (d0.many : Int)
 ·rw [if_pos big0]
  rintro e1 q1 ⟨rfl, g1⟩
  have hbq := hb.trans (g1.mono (by omega))
  clear g1 P0
  go_wp2
  go_ret
  exact ⟨rfl, hbq⟩
 rw [if_neg big0]
 rintro e1 u1 ⟨rfl, g1⟩
 have P0_2 := P0.below g1 (by omega)
 have hb_2 := hb.trans (g1.mono (by omega))
 have sz_2 := g1.size
 clear P0 hb g1
 have np0 : ¬ ((1048576 - (d0.many : Int) : Int) < 0) := by omega
 have nb0 : d0.many ≤ 1048576 := by omega
 go_wp2_with (first
  | refine wpList_loadG Tryz.isAgg73 Tryz.sizeOf73 (vs := csA0) _ rfl rfl rfl hlA0 P0_2.c ?_)
 refine (toPlc_any _ _ _ _ d0 (R0.out.below hb_2 (Nat.le_refl _)) (by omega) nb0).mono ?_
 rintro e1 u3 ⟨m', rfl, O3, g3⟩
 obtain ⟨csT3, hlT3, rfl⟩ := O3.r.opq
 have P0_4 := P0_2.below g3 (by omega)
 have hb_4 := hb_2.trans (g3.mono (by omega))
 have sz_4 := g3.size
 clear P0_2 hb_2 g3
 go_wp2_with fail
 refine (sPlcOk_any _ _ _ _ d0 O3.r (by omega) nb0).mono ?_
 rintro e1 u5 ⟨rfl, g5⟩
 have P0_6 := P0_4.below g5 (by omega)
 have O3_6 := O3.below g5 (by omega)
 have hb_6 := hb_4.trans (g5.mono (by omega))
 have sz_6 := g5.size
 clear P0_4 O3 hb_4 g5
 go_wp2_with (first
  | refine wpList_loadG Tryz.isAgg73 Tryz.sizeOf73 (vs := csA0) _ rfl rfl rfl hlA0 P0_6.c ?_)
 refine (toPlc_any _ _ _ _ d0 (R0.out.below hb_6 (Nat.le_refl _)) (by omega) nb0).mono ?_
 rintro e1 u7 ⟨m', rfl, O7, g7⟩
 obtain ⟨csT7, hlT7, rfl⟩ := O7.r.opq
 have P0_8 := P0_6.below g7 (by omega)
 have O3_8 := O3_6.below g7 (by omega)
 have hb_8 := hb_6.trans (g7.mono (by omega))
 have sz_8 := g7.size
 clear P0_6 O3_6 hb_6 g7
 have hone9 := pi_one (vs := csT7) O7.r
 go_wp2_with (refine wpList_allocG (zero_of_info (P := Tryz.prog) zero_plcT).1 rfl rfl ?_)
 intro a9 ga9 va9 sa9
 have hrun9 := va9.run 0 15 (show 0 + 15 ≤ 15 by decide)
 go_wp2_with (refine wpList_storeG Tryz.sizeOf53 (vs := csT7) _ _ rfl rfl rfl rfl hlT7 hone9 (fun y h1 h2 => hrun9.1 y h1 (by omega)) (fun y h1 h2 => hrun9.2 y h1 (by omega)) ?_)
 intro u9 L9
 have Y9 := L9.var va9
 have g9 : Below u7.heap.size u7 u9 := L9.below _ _ (Nat.le_refl _) ga9
 have sz9 : u9.heap.size = u7.heap.size + 1 := by rw [L9.size]; exact sa9
 clear hone9 hrun9 va9 ga9 sa9 L9
 have P0_10 := P0_8.below g9 (by omega)
 have O3_10 := O3_8.below g9 (by omega)
 have O7_10 := O7.below g9 (by omega)
 have hb_10 := hb_8.trans (g9.mono (by omega))
 have sz_10 := g9.size
 clear P0_8 O3_8 O7 hb_8 g9
 go_wp2_with (first
  | refine wpList_loadG Tryz.isAgg53 Tryz.sizeOf53 (vs := csT7) _ rfl rfl rfl hlT7 Y9.c ?_)
 refine (impl _ (hTab.grow hb_10) _ _ _ d0 O7_10.r (by omega) nb0).mono ?_
 rintro e1 u11 ⟨rfl, g11⟩
 have P0_12 := P0_10.below g11 (by omega)
 have O3_12 := O3_10.below g11 (by omega)
 have O7_12 := O7_10.below g11 (by omega)
 have X0_12 := Y9.below g11 (by omega)
 have hb_12 := hb_10.trans (g11.mono (by omega))
 have sz_12 := g11.size
 clear P0_10 O3_10 O7_10 Y9 hb_10 g11
 go_wp2_with fail
 refine wp_region_dag (R := Grow) (Φ := fun i v u => match i with
   | 0 => v = .agg csT7.toArray
   | 1 => v = .agg csA0.toArray
   | 2 => ∃ lo' hi', hi' ≤ u.heap.size ∧ PO u lo' hi' v d0
   | 3 => v = .bool true
   | 4 => v = .bool false
   | _ => True) (by kernel_rfl) (by kernel_rfl) (by kernel_rfl) (Below.refl _ _) grow_trans ?_ ?_ ?_
 ·intro i v u u' hr
  match i with
  | 0 | 1 | 3 | 4 | _ + 5 => exact fun h => h
  | 2 => exact fun ⟨lo', hi', h1, h2⟩ => ⟨lo', hi', Nat.le_trans h1 hr.size, h2.below hr h1⟩
 ·intro i o ho a u hf hR0 he K' hK
  have hR : Grow u11 u := (Below.drew (Below.refl _ _)).trans hR0
  have hRw : Below w.heap.size w u := hb_12.trans (hR.mono (by omega))
  have hsz' : a.tmps.size = 27 := hf.size
  have hus : u11.heap.size ≤ u.heap.size := hR.size
  rcases i with _ | _ | _ | _ | _ | i
  ·obtain rfl := si ho
   clear he
   have q1 : a.tmps.getD 5 undef = .pointer (some ⟨u7.heap.size, 0, none⟩) := hf.at_ 5 (by kernel_rfl)
   refine wantedG rfl (wp_loadG Tryz.isAgg53 Tryz.sizeOf53 (vs := csT7) _ rfl q1 hlT7 ((X0_12.below hR (by omega)).c) ?_)
   exact hK _ _ (Below.refl _ _) (getD_put_self a 22 _ (by show _ < a.tmps.size; omega))
  ·obtain rfl := si ho
   clear he
   have q1 : a.tmps.getD 1 undef = .pointer (some ⟨w.heap.size, 0, none⟩) := hf.at_ 1 (by kernel_rfl)
   refine wantedG rfl (wp_loadG Tryz.isAgg73 Tryz.sizeOf73 (vs := csA0) _ rfl q1 hlA0 ((P0_12.below hR (by omega)).c) ?_)
   exact hK _ _ (Below.refl _ _) (getD_put_self a 23 _ (by show _ < a.tmps.size; omega))
  ·obtain rfl := si ho
   have q1 : a.tmps.getD 23 undef = .agg csA0.toArray := he _ (am (i := 0) rfl) (by kernel_rfl) _ rfl
   clear he
   go_simp
   refine (toPlc_any _ _ _ _ d0 (R0.out.below hRw (Nat.le_refl _)) (by omega) nb0).mono ?_
   rintro e1 u' ⟨m', rfl, HO, hbu⟩
   exact hK _ _ hbu ⟨_, _, Nat.le_refl _, by show PO _ _ _ ((a.put (some 24) m').tmps.getD 24 undef) d0; rw [getD_put_self a 24 _ (by show _ < a.tmps.size; omega)]; exact HO⟩
  ·obtain rfl := si ho
   have q22 : a.tmps.getD 22 undef = .agg csT7.toArray := he _ (am (i := 0) rfl) (by kernel_rfl) _ rfl
   obtain ⟨lo24, hi24, hh24, HO24⟩ := he _ (am (i := 1) rfl) (by kernel_rfl) _ rfl
   have HO24 : PO u lo24 hi24 (a.tmps.getD 24 undef) d0 := HO24
   obtain ⟨mm24, em24⟩ : ∃ mm, a.tmps.getD 24 undef = mm := ⟨_, rfl⟩
   rw [em24] at HO24
   clear he
   go_simp
   refine (eqPlc_same _ _ _ _ _ _ _ d0 (O7_12.below hR (by omega)).r HO24.r (by omega) hh24).mono ?_
   rintro e1 u' ⟨rfl, hbu⟩
   exact hK _ _ hbu (getD_put_self a 25 _ (by show _ < a.tmps.size; omega))
  ·obtain rfl := si ho
   have q1 : a.tmps.getD 25 undef = .bool true := he _ (am (i := 0) rfl) (by kernel_rfl) _ rfl
   clear he
   go_simp
   exact hK _ _ (Below.refl _ _) (getD_put_self a 26 _ (by show _ < a.tmps.size; omega))
  ·exact absurd ho (by simp)
 ·intro a u13 hf hR0 hp
  have g13 : Grow u11 u13 := (Below.drew (Below.refl _ _)).trans hR0
  have md : a.defers = [] := hf.defers
  have m26 : a.tmps.getD 26 undef = .bool false := hp 4 _ rfl
  obtain ⟨f, ea, hfv⟩ := act_lit a 27 hf.size
  rw [← hfv] at m26
  rw [md] at ea
  simp only [List.range, List.range.loop, List.map_cons, List.map_nil, m26] at ea
  subst ea
  clear hfv hf md hp hR0
  have P0_14 := P0_12.below g13 (by omega)
  have O3_14 := O3_12.below g13 (by omega)
  have O7_14 := O7_12.below g13 (by omega)
  have X0_14 := X0_12.below g13 (by omega)
  have hb_14 := hb_12.trans (g13.mono (by omega))
  have sz_14 := g13.size
  clear P0_12 O3_12 O7_12 X0_12 hb_12 g13
  clear P0_14 O3_14 O7_14 X0_14
  go_wp2
  go_ret
  exact ⟨rfl, hb_14⟩
end Go.Proofs.YtaoiookfmgpmkaaGreatDoor
