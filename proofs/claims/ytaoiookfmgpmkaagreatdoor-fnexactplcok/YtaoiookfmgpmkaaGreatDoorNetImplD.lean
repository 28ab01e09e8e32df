/-
  The program's forms of wires: its table, wireFormOf. (Written by our generator gen_netimpld.py.)
-/
import Derived.Test.YtaoiookfmgpmkaaGreatDoorNetData
import Derived.Deep.WholeRow
namespace Go.Proofs.YtaoiookfmgpmkaaGreatDoor
open Go.ChangeShapes Go.WideShapes Go.ChangeAt Go.RowKit
set_option linter.unusedVariables false
set_option linter.unusedSimpArgs false
set_option maxRecDepth 100000

/-- A form: the kind, its word, whether it has a number, whether it has two inputs. -/
structure FormD where
  kind : Int
  word : List UInt8
  num : Bool
  two : Bool

def formC (f : FormD) : List Value := [.int .i64 f.kind, .string ⟨f.word.toArray⟩, .bool f.num, .bool f.two]
def noForm : FormD := ⟨0, [], false, false⟩
theorem formC_one (f : FormD) : ∀ v ∈ formC f, v.oneCell' = true := by
  intro v hv; simp only [formC, List.mem_cons, List.not_mem_nil, or_false] at hv
  rcases hv with rfl | rfl | rfl | rfl <;> rfl

/-- The forms of all kinds. -/
def formL : List FormD := [⟨1, [100, 101, 108, 97, 121], true, false⟩, ⟨2, [104, 111, 108, 100], true, false⟩, ⟨3, [99, 111, 117, 110, 116], true, true⟩, ⟨4, [114, 105, 115, 101], false, false⟩, ⟨5, [108, 97, 116, 99, 104], false, true⟩, ⟨11, [97, 110, 100], false, true⟩, ⟨12, [111, 114], false, true⟩, ⟨13, [120, 111, 114], false, true⟩]
def formsC : List Value := [.int .i64 1, .string ⟨([100, 101, 108, 97, 121] : List UInt8).toArray⟩, .bool true, .bool false, .int .i64 2, .string ⟨([104, 111, 108, 100] : List UInt8).toArray⟩, .bool true, .bool false, .int .i64 3, .string ⟨([99, 111, 117, 110, 116] : List UInt8).toArray⟩, .bool true, .bool true, .int .i64 4, .string ⟨([114, 105, 115, 101] : List UInt8).toArray⟩, .bool false, .bool false, .int .i64 5, .string ⟨([108, 97, 116, 99, 104] : List UInt8).toArray⟩, .bool false, .bool true, .int .i64 11, .string ⟨([97, 110, 100] : List UInt8).toArray⟩, .bool false, .bool true, .int .i64 12, .string ⟨([111, 114] : List UInt8).toArray⟩, .bool false, .bool true, .int .i64 13, .string ⟨([120, 111, 114] : List UInt8).toArray⟩, .bool false, .bool true]

def formOf (k : Int) : Option FormD := formL.find? fun f => f.kind == k

/-- The table lies where the program reads it. -/
structure FormsAt (w : World) : Prop where
  lt : 1 < w.heap.size
  c : CV w 1 0 formsC

theorem FormsAt.below {w w' : World} {n : Nat} (h : FormsAt w) (hb : Below n w w') (hn : 1 < n) : FormsAt w' :=
  ⟨Nat.lt_of_lt_of_le h.lt hb.size, h.c.below hb hn⟩
theorem FormsAt.grow {w w' : World} (h : FormsAt w) (hb : Below w.heap.size w w') : FormsAt w' := h.below hb h.lt

theorem res_pair {P : Program} {w : World} {a : Go.Addr} {v x : Value} {T : TypeId} (hl : (loadVar T a).run P w = .ok v w) : (((asAddr (.pointer (some a))).run P w).andThen fun a w' => ((loadVar T a).run P w').andThen fun v w' => Result.ok (Value.tuple #[v, x]) w') = .ok (.tuple #[v, x]) w := by
  show ((loadVar T a).run P w).andThen _ = _
  rw [hl]
  rfl

theorem zero_form : (Tryz.prog.info? 307).map (fun i => (i.zero, i.size)) = some (some (.agg (formC noForm).toArray), 4) := by kernel_rfl

theorem form_at0 (w : World) : (Instr.index 369 (.agg formsC.toArray) (.int .i64 0)).run Tryz.prog w = .ok (.agg (formC ⟨1, [100, 101, 108, 97, 121], true, false⟩).toArray) w := by kernel_rfl
theorem form_at1 (w : World) : (Instr.index 369 (.agg formsC.toArray) (.int .i64 1)).run Tryz.prog w = .ok (.agg (formC ⟨2, [104, 111, 108, 100], true, false⟩).toArray) w := by kernel_rfl
theorem form_at2 (w : World) : (Instr.index 369 (.agg formsC.toArray) (.int .i64 2)).run Tryz.prog w = .ok (.agg (formC ⟨3, [99, 111, 117, 110, 116], true, true⟩).toArray) w := by kernel_rfl
theorem form_at3 (w : World) : (Instr.index 369 (.agg formsC.toArray) (.int .i64 3)).run Tryz.prog w = .ok (.agg (formC ⟨4, [114, 105, 115, 101], false, false⟩).toArray) w := by kernel_rfl
theorem form_at4 (w : World) : (Instr.index 369 (.agg formsC.toArray) (.int .i64 4)).run Tryz.prog w = .ok (.agg (formC ⟨5, [108, 97, 116, 99, 104], false, true⟩).toArray) w := by kernel_rfl
theorem form_at5 (w : World) : (Instr.index 369 (.agg formsC.toArray) (.int .i64 5)).run Tryz.prog w = .ok (.agg (formC ⟨11, [97, 110, 100], false, true⟩).toArray) w := by kernel_rfl
theorem form_at6 (w : World) : (Instr.index 369 (.agg formsC.toArray) (.int .i64 6)).run Tryz.prog w = .ok (.agg (formC ⟨12, [111, 114], false, true⟩).toArray) w := by kernel_rfl
theorem form_at7 (w : World) : (Instr.index 369 (.agg formsC.toArray) (.int .i64 7)).run Tryz.prog w = .ok (.agg (formC ⟨13, [120, 111, 114], false, true⟩).toArray) w := by kernel_rfl

/-- What is found of the first so many. -/
theorem formL_none {k : Int} {j : Nat} (h : ∀ f ∈ formL.take j, (f.kind == k) = false) : (formL.take j).find? (fun f => f.kind == k) = none := by
  rw [List.find?_eq_none]
  intro f hf
  have := h f hf
  simp [this]

theorem formOf_hit {k : Int} {j : Nat} {f : FormD} (h : ∀ g ∈ formL.take j, (g.kind == k) = false) (hf : formL[j]? = some f) (hk : (f.kind == k) = true) : formOf k = some f := by
  have hl := (List.getElem?_eq_some_iff.mp hf)
  obtain ⟨hj, he⟩ := hl
  unfold formOf
  rw [← List.take_append_drop j formL, List.find?_append, formL_none h, List.drop_eq_getElem_cons hj, he]
  simp [hk]

theorem formL_next {k : Int} {j : Nat} {f : FormD} (h : ∀ g ∈ formL.take j, (g.kind == k) = false) (hf : formL[j]? = some f) (hk : (f.kind == k) = false) : ∀ g ∈ formL.take (j + 1), (g.kind == k) = false := by
  intro g hg
  rw [List.take_add_one, hf] at hg
  simp only [Option.toList_some, List.mem_append, List.mem_singleton] at hg
  rcases hg with hg | rfl
  · exact h g hg
  · exact hk

set_option maxHeartbeats 8000000 in
theorem wireFormOf_any (w : World) (k : Int) (hF : FormsAt w) : Calls Tryz.prog 233 #[.int .i64 k] w fun e w' => e = .returned (.tuple #[.agg (formC ((formOf k).getD noForm)).toArray, .bool (formOf k).isSome]) ∧ Below w.heap.size w w' := by
  have hZ := (zero_of_info (P := Tryz.prog) zero_form).1
  obtain ⟨R, hR⟩ : ∃ R, formOf k = R := ⟨_, rfl⟩
  rw [hR]
  have HR : Hid (formOf k = R) := hR
  clear hR
  go_enter Tryz.func233, Tryz.ntmps233
  go_wp2_with (refine wpList_allocG hZ rfl rfl ?_)
  intro w0 g0 q0 s0
  have hF0 := hF.grow g0
  have hlt := hF.lt
  obtain ⟨C, hC⟩ : ∃ C, formsC = C := ⟨_, rfl⟩
  have hCV : CV w0 1 0 C := by rw [← hC]; exact hF0.c
  have hCL : C.length = 32 := by rw [← hC]; rfl
  have hx0 := form_at0
  have hx1 := form_at1
  have hx2 := form_at2
  have hx3 := form_at3
  have hx4 := form_at4
  have hx5 := form_at5
  have hx6 := form_at6
  have hx7 := form_at7
  rw [hC] at hx0 hx1 hx2 hx3 hx4 hx5 hx6 hx7
  clear hF hF0 hC
  go_wp2_with (refine wpList_loadG Tryz.isAgg369 Tryz.sizeOf369 _ rfl rfl rfl hCL hCV ?_)
  clear hCV hCL
  go_loopw [7] (fun i wr => ∃ j : Nat, j ≤ 8 ∧ i = .int .i64 j ∧ Below w.heap.size w wr ∧ VarG wr w.heap.size (formC noForm) ∧ w.heap.size < wr.heap.size ∧ ∀ g ∈ formL.take j, (g.kind == k) = false) (fun i _ => 8 - (intOf i).toNat)
  case atStart => exact ⟨0, Nat.zero_le _, rfl, g0, q0, by omega, fun g hg => by simp at hg⟩
  case round =>
    clear g0 q0 s0
    obtain ⟨j, hj, rfl, hb, hV, hVl, hno⟩ := hrel
    have HN : Hid (∀ g ∈ formL.take j, (g.kind == k) = false) := hno
    clear hno
    have hsz := hb.size
    obtain rfl | rfl | rfl | rfl | rfl | rfl | rfl | rfl | rfl : j = 0 ∨ j = 1 ∨ j = 2 ∨ j = 3 ∨ j = 4 ∨ j = 5 ∨ j = 6 ∨ j = 7 ∨ j = 8 := by omega
    · have hx := hx0
      clear hx0 hx1 hx2 hx3 hx4 hx5 hx6 hx7
      cases hk : ((1 : Int) == k)
      · have HNN : Hid (∀ g ∈ formL.take (0 + 1), (g.kind == k) = false) := formL_next (f := ⟨1, [100, 101, 108, 97, 121], true, false⟩) HN.out rfl hk
        go_wp2_with (refine wpList_allocG hZ rfl rfl ?_)
        intro u1 g1 q1 s1
        have hr := q1.run 0 4 (show 0 + 4 ≤ 4 by decide)
        go_wp2_with (refine wpList_storeG Tryz.sizeOf307 _ _ rfl rfl rfl rfl rfl (formC_one ⟨1, [100, 101, 108, 97, 121], true, false⟩) hr.1 hr.2 ?_)
        intro u2 L
        have q2 := L.var q1
        have c0 : u2.cell? ⟨wr.heap.size, 0, none⟩ = some (.int .i64 1) := q2.c 0 _ rfl
        have hb2 : Below w.heap.size w u2 := L.below _ _ (by omega) (hb.trans (g1.mono (by omega)))
        have hV2 := L.other (hV.below g1 (by omega)) (by omega)
        have z2 := L.size
        clear L q1 q2 hr g1 hb hV
        go_wp2
        go_roundw
        case rel => exact ⟨0 + 1, by omega, by first | rfl | go_num, hb2, hV2, by omega, HNN.out⟩
        case measure => simp [intOf] <;> omega
      · have HF : Hid (R = some ⟨1, [100, 101, 108, 97, 121], true, false⟩) := by show R = _; rw [← HR.out]; exact formOf_hit (f := ⟨1, [100, 101, 108, 97, 121], true, false⟩) HN.out rfl hk
        go_wp2_with (refine wpList_allocG hZ rfl rfl ?_)
        intro u1 g1 q1 s1
        have hr := q1.run 0 4 (show 0 + 4 ≤ 4 by decide)
        go_wp2_with (refine wpList_storeG Tryz.sizeOf307 _ _ rfl rfl rfl rfl rfl (formC_one ⟨1, [100, 101, 108, 97, 121], true, false⟩) hr.1 hr.2 ?_)
        intro u2 L
        have q2 := L.var q1
        have c0 : u2.cell? ⟨wr.heap.size, 0, none⟩ = some (.int .i64 1) := q2.c 0 _ rfl
        have hb2 : Below w.heap.size w u2 := L.below _ _ (by omega) (hb.trans (g1.mono (by omega)))
        have hV2 := L.other (hV.below g1 (by omega)) (by omega)
        have z2 := L.size
        clear L q1 hr g1 hb hV
        have hr2 := hV2.run 0 4 (show 0 + 4 ≤ 4 by decide)
        go_wp2_with (first
          | refine wpList_loadG Tryz.isAgg307 Tryz.sizeOf307 _ rfl rfl rfl rfl q2.c ?_
          | refine wpList_storeG Tryz.sizeOf307 _ _ rfl rfl rfl rfl rfl (formC_one ⟨1, [100, 101, 108, 97, 121], true, false⟩) hr2.1 hr2.2 ?_)
        intro u3 L3
        have q3 := L3.var hV2
        have hb3 : Below w.heap.size w u3 := L3.below _ _ (Nat.le_refl _) hb2
        clear L3 hV2 hr2 hb2 q2 c0
        go_wp2
        rw [HF.out]
        refine bodyPost_ret (v := .tuple #[.agg (formC ⟨1, [100, 101, 108, 97, 121], true, false⟩).toArray, .bool true]) ?_ rfl ⟨rfl, hb3⟩
        have hl := run_loadVarG (P := Tryz.prog) Tryz.isAgg307 Tryz.sizeOf307 rfl q3.c
        simp [results, Tryz.results233]
        exact res_pair hl
    · have hx := hx1
      clear hx0 hx1 hx2 hx3 hx4 hx5 hx6 hx7
      cases hk : ((2 : Int) == k)
      · have HNN : Hid (∀ g ∈ formL.take (1 + 1), (g.kind == k) = false) := formL_next (f := ⟨2, [104, 111, 108, 100], true, false⟩) HN.out rfl hk
        go_wp2_with (refine wpList_allocG hZ rfl rfl ?_)
        intro u1 g1 q1 s1
        have hr := q1.run 0 4 (show 0 + 4 ≤ 4 by decide)
        go_wp2_with (refine wpList_storeG Tryz.sizeOf307 _ _ rfl rfl rfl rfl rfl (formC_one ⟨2, [104, 111, 108, 100], true, false⟩) hr.1 hr.2 ?_)
        intro u2 L
        have q2 := L.var q1
        have c0 : u2.cell? ⟨wr.heap.size, 0, none⟩ = some (.int .i64 2) := q2.c 0 _ rfl
        have hb2 : Below w.heap.size w u2 := L.below _ _ (by omega) (hb.trans (g1.mono (by omega)))
        have hV2 := L.other (hV.below g1 (by omega)) (by omega)
        have z2 := L.size
        clear L q1 q2 hr g1 hb hV
        go_wp2
        go_roundw
        case rel => exact ⟨1 + 1, by omega, by first | rfl | go_num, hb2, hV2, by omega, HNN.out⟩
        case measure => simp [intOf] <;> omega
      · have HF : Hid (R = some ⟨2, [104, 111, 108, 100], true, false⟩) := by show R = _; rw [← HR.out]; exact formOf_hit (f := ⟨2, [104, 111, 108, 100], true, false⟩) HN.out rfl hk
        go_wp2_with (refine wpList_allocG hZ rfl rfl ?_)
        intro u1 g1 q1 s1
        have hr := q1.run 0 4 (show 0 + 4 ≤ 4 by decide)
        go_wp2_with (refine wpList_storeG Tryz.sizeOf307 _ _ rfl rfl rfl rfl rfl (formC_one ⟨2, [104, 111, 108, 100], true, false⟩) hr.1 hr.2 ?_)
        intro u2 L
        have q2 := L.var q1
        have c0 : u2.cell? ⟨wr.heap.size, 0, none⟩ = some (.int .i64 2) := q2.c 0 _ rfl
        have hb2 : Below w.heap.size w u2 := L.below _ _ (by omega) (hb.trans (g1.mono (by omega)))
        have hV2 := L.other (hV.below g1 (by omega)) (by omega)
        have z2 := L.size
        clear L q1 hr g1 hb hV
        have hr2 := hV2.run 0 4 (show 0 + 4 ≤ 4 by decide)
        go_wp2_with (first
          | refine wpList_loadG Tryz.isAgg307 Tryz.sizeOf307 _ rfl rfl rfl rfl q2.c ?_
          | refine wpList_storeG Tryz.sizeOf307 _ _ rfl rfl rfl rfl rfl (formC_one ⟨2, [104, 111, 108, 100], true, false⟩) hr2.1 hr2.2 ?_)
        intro u3 L3
        have q3 := L3.var hV2
        have hb3 : Below w.heap.size w u3 := L3.below _ _ (Nat.le_refl _) hb2
        clear L3 hV2 hr2 hb2 q2 c0
        go_wp2
        rw [HF.out]
        refine bodyPost_ret (v := .tuple #[.agg (formC ⟨2, [104, 111, 108, 100], true, false⟩).toArray, .bool true]) ?_ rfl ⟨rfl, hb3⟩
        have hl := run_loadVarG (P := Tryz.prog) Tryz.isAgg307 Tryz.sizeOf307 rfl q3.c
        simp [results, Tryz.results233]
        exact res_pair hl
    · have hx := hx2
      clear hx0 hx1 hx2 hx3 hx4 hx5 hx6 hx7
      cases hk : ((3 : Int) == k)
      · have HNN : Hid (∀ g ∈ formL.take (2 + 1), (g.kind == k) = false) := formL_next (f := ⟨3, [99, 111, 117, 110, 116], true, true⟩) HN.out rfl hk
        go_wp2_with (refine wpList_allocG hZ rfl rfl ?_)
        intro u1 g1 q1 s1
        have hr := q1.run 0 4 (show 0 + 4 ≤ 4 by decide)
        go_wp2_with (refine wpList_storeG Tryz.sizeOf307 _ _ rfl rfl rfl rfl rfl (formC_one ⟨3, [99, 111, 117, 110, 116], true, true⟩) hr.1 hr.2 ?_)
        intro u2 L
        have q2 := L.var q1
        have c0 : u2.cell? ⟨wr.heap.size, 0, none⟩ = some (.int .i64 3) := q2.c 0 _ rfl
        have hb2 : Below w.heap.size w u2 := L.below _ _ (by omega) (hb.trans (g1.mono (by omega)))
        have hV2 := L.other (hV.below g1 (by omega)) (by omega)
        have z2 := L.size
        clear L q1 q2 hr g1 hb hV
        go_wp2
        go_roundw
        case rel => exact ⟨2 + 1, by omega, by first | rfl | go_num, hb2, hV2, by omega, HNN.out⟩
        case measure => simp [intOf] <;> omega
      · have HF : Hid (R = some ⟨3, [99, 111, 117, 110, 116], true, true⟩) := by show R = _; rw [← HR.out]; exact formOf_hit (f := ⟨3, [99, 111, 117, 110, 116], true, true⟩) HN.out rfl hk
        go_wp2_with (refine wpList_allocG hZ rfl rfl ?_)
        intro u1 g1 q1 s1
        have hr := q1.run 0 4 (show 0 + 4 ≤ 4 by decide)
        go_wp2_with (refine wpList_storeG Tryz.sizeOf307 _ _ rfl rfl rfl rfl rfl (formC_one ⟨3, [99, 111, 117, 110, 116], true, true⟩) hr.1 hr.2 ?_)
        intro u2 L
        have q2 := L.var q1
        have c0 : u2.cell? ⟨wr.heap.size, 0, none⟩ = some (.int .i64 3) := q2.c 0 _ rfl
        have hb2 : Below w.heap.size w u2 := L.below _ _ (by omega) (hb.trans (g1.mono (by omega)))
        have hV2 := L.other (hV.below g1 (by omega)) (by omega)
        have z2 := L.size
        clear L q1 hr g1 hb hV
        have hr2 := hV2.run 0 4 (show 0 + 4 ≤ 4 by decide)
        go_wp2_with (first
          | refine wpList_loadG Tryz.isAgg307 Tryz.sizeOf307 _ rfl rfl rfl rfl q2.c ?_
          | refine wpList_storeG Tryz.sizeOf307 _ _ rfl rfl rfl rfl rfl (formC_one ⟨3, [99, 111, 117, 110, 116], true, true⟩) hr2.1 hr2.2 ?_)
        intro u3 L3
        have q3 := L3.var hV2
        have hb3 : Below w.heap.size w u3 := L3.below _ _ (Nat.le_refl _) hb2
        clear L3 hV2 hr2 hb2 q2 c0
        go_wp2
        rw [HF.out]
        refine bodyPost_ret (v := .tuple #[.agg (formC ⟨3, [99, 111, 117, 110, 116], true, true⟩).toArray, .bool true]) ?_ rfl ⟨rfl, hb3⟩
        have hl := run_loadVarG (P := Tryz.prog) Tryz.isAgg307 Tryz.sizeOf307 rfl q3.c
        simp [results, Tryz.results233]
        exact res_pair hl
    · have hx := hx3
      clear hx0 hx1 hx2 hx3 hx4 hx5 hx6 hx7
      cases hk : ((4 : Int) == k)
      · have HNN : Hid (∀ g ∈ formL.take (3 + 1), (g.kind == k) = false) := formL_next (f := ⟨4, [114, 105, 115, 101], false, false⟩) HN.out rfl hk
        go_wp2_with (refine wpList_allocG hZ rfl rfl ?_)
        intro u1 g1 q1 s1
        have hr := q1.run 0 4 (show 0 + 4 ≤ 4 by decide)
        go_wp2_with (refine wpList_storeG Tryz.sizeOf307 _ _ rfl rfl rfl rfl rfl (formC_one ⟨4, [114, 105, 115, 101], false, false⟩) hr.1 hr.2 ?_)
        intro u2 L
        have q2 := L.var q1
        have c0 : u2.cell? ⟨wr.heap.size, 0, none⟩ = some (.int .i64 4) := q2.c 0 _ rfl
        have hb2 : Below w.heap.size w u2 := L.below _ _ (by omega) (hb.trans (g1.mono (by omega)))
        have hV2 := L.other (hV.below g1 (by omega)) (by omega)
        have z2 := L.size
        clear L q1 q2 hr g1 hb hV
        go_wp2
        go_roundw
        case rel => exact ⟨3 + 1, by omega, by first | rfl | go_num, hb2, hV2, by omega, HNN.out⟩
        case measure => simp [intOf] <;> omega
      · have HF : Hid (R = some ⟨4, [114, 105, 115, 101], false, false⟩) := by show R = _; rw [← HR.out]; exact formOf_hit (f := ⟨4, [114, 105, 115, 101], false, false⟩) HN.out rfl hk
        go_wp2_with (refine wpList_allocG hZ rfl rfl ?_)
        intro u1 g1 q1 s1
        have hr := q1.run 0 4 (show 0 + 4 ≤ 4 by decide)
        go_wp2_with (refine wpList_storeG Tryz.sizeOf307 _ _ rfl rfl rfl rfl rfl (formC_one ⟨4, [114, 105, 115, 101], false, false⟩) hr.1 hr.2 ?_)
        intro u2 L
        have q2 := L.var q1
        have c0 : u2.cell? ⟨wr.heap.size, 0, none⟩ = some (.int .i64 4) := q2.c 0 _ rfl
        have hb2 : Below w.heap.size w u2 := L.below _ _ (by omega) (hb.trans (g1.mono (by omega)))
        have hV2 := L.other (hV.below g1 (by omega)) (by omega)
        have z2 := L.size
        clear L q1 hr g1 hb hV
        have hr2 := hV2.run 0 4 (show 0 + 4 ≤ 4 by decide)
        go_wp2_with (first
          | refine wpList_loadG Tryz.isAgg307 Tryz.sizeOf307 _ rfl rfl rfl rfl q2.c ?_
          | refine wpList_storeG Tryz.sizeOf307 _ _ rfl rfl rfl rfl rfl (formC_one ⟨4, [114, 105, 115, 101], false, false⟩) hr2.1 hr2.2 ?_)
        intro u3 L3
        have q3 := L3.var hV2
        have hb3 : Below w.heap.size w u3 := L3.below _ _ (Nat.le_refl _) hb2
        clear L3 hV2 hr2 hb2 q2 c0
        go_wp2
        rw [HF.out]
        refine bodyPost_ret (v := .tuple #[.agg (formC ⟨4, [114, 105, 115, 101], false, false⟩).toArray, .bool true]) ?_ rfl ⟨rfl, hb3⟩
        have hl := run_loadVarG (P := Tryz.prog) Tryz.isAgg307 Tryz.sizeOf307 rfl q3.c
        simp [results, Tryz.results233]
        exact res_pair hl
    · have hx := hx4
      clear hx0 hx1 hx2 hx3 hx4 hx5 hx6 hx7
      cases hk : ((5 : Int) == k)
      · have HNN : Hid (∀ g ∈ formL.take (4 + 1), (g.kind == k) = false) := formL_next (f := ⟨5, [108, 97, 116, 99, 104], false, true⟩) HN.out rfl hk
        go_wp2_with (refine wpList_allocG hZ rfl rfl ?_)
        intro u1 g1 q1 s1
        have hr := q1.run 0 4 (show 0 + 4 ≤ 4 by decide)
        go_wp2_with (refine wpList_storeG Tryz.sizeOf307 _ _ rfl rfl rfl rfl rfl (formC_one ⟨5, [108, 97, 116, 99, 104], false, true⟩) hr.1 hr.2 ?_)
        intro u2 L
        have q2 := L.var q1
        have c0 : u2.cell? ⟨wr.heap.size, 0, none⟩ = some (.int .i64 5) := q2.c 0 _ rfl
        have hb2 : Below w.heap.size w u2 := L.below _ _ (by omega) (hb.trans (g1.mono (by omega)))
        have hV2 := L.other (hV.below g1 (by omega)) (by omega)
        have z2 := L.size
        clear L q1 q2 hr g1 hb hV
        go_wp2
        go_roundw
        case rel => exact ⟨4 + 1, by omega, by first | rfl | go_num, hb2, hV2, by omega, HNN.out⟩
        case measure => simp [intOf] <;> omega
      · have HF : Hid (R = some ⟨5, [108, 97, 116, 99, 104], false, true⟩) := by show R = _; rw [← HR.out]; exact formOf_hit (f := ⟨5, [108, 97, 116, 99, 104], false, true⟩) HN.out rfl hk
        go_wp2_with (refine wpList_allocG hZ rfl rfl ?_)
        intro u1 g1 q1 s1
        have hr := q1.run 0 4 (show 0 + 4 ≤ 4 by decide)
        go_wp2_with (refine wpList_storeG Tryz.sizeOf307 _ _ rfl rfl rfl rfl rfl (formC_one ⟨5, [108, 97, 116, 99, 104], false, true⟩) hr.1 hr.2 ?_)
        intro u2 L
        have q2 := L.var q1
        have c0 : u2.cell? ⟨wr.heap.size, 0, none⟩ = some (.int .i64 5) := q2.c 0 _ rfl
        have hb2 : Below w.heap.size w u2 := L.below _ _ (by omega) (hb.trans (g1.mono (by omega)))
        have hV2 := L.other (hV.below g1 (by omega)) (by omega)
        have z2 := L.size
        clear L q1 hr g1 hb hV
        have hr2 := hV2.run 0 4 (show 0 + 4 ≤ 4 by decide)
        go_wp2_with (first
          | refine wpList_loadG Tryz.isAgg307 Tryz.sizeOf307 _ rfl rfl rfl rfl q2.c ?_
          | refine wpList_storeG Tryz.sizeOf307 _ _ rfl rfl rfl rfl rfl (formC_one ⟨5, [108, 97, 116, 99, 104], false, true⟩) hr2.1 hr2.2 ?_)
        intro u3 L3
        have q3 := L3.var hV2
        have hb3 : Below w.heap.size w u3 := L3.below _ _ (Nat.le_refl _) hb2
        clear L3 hV2 hr2 hb2 q2 c0
        go_wp2
        rw [HF.out]
        refine bodyPost_ret (v := .tuple #[.agg (formC ⟨5, [108, 97, 116, 99, 104], false, true⟩).toArray, .bool true]) ?_ rfl ⟨rfl, hb3⟩
        have hl := run_loadVarG (P := Tryz.prog) Tryz.isAgg307 Tryz.sizeOf307 rfl q3.c
        simp [results, Tryz.results233]
        exact res_pair hl
    · have hx := hx5
      clear hx0 hx1 hx2 hx3 hx4 hx5 hx6 hx7
      cases hk : ((11 : Int) == k)
      · have HNN : Hid (∀ g ∈ formL.take (5 + 1), (g.kind == k) = false) := formL_next (f := ⟨11, [97, 110, 100], false, true⟩) HN.out rfl hk
        go_wp2_with (refine wpList_allocG hZ rfl rfl ?_)
        intro u1 g1 q1 s1
        have hr := q1.run 0 4 (show 0 + 4 ≤ 4 by decide)
        go_wp2_with (refine wpList_storeG Tryz.sizeOf307 _ _ rfl rfl rfl rfl rfl (formC_one ⟨11, [97, 110, 100], false, true⟩) hr.1 hr.2 ?_)
        intro u2 L
        have q2 := L.var q1
        have c0 : u2.cell? ⟨wr.heap.size, 0, none⟩ = some (.int .i64 11) := q2.c 0 _ rfl
        have hb2 : Below w.heap.size w u2 := L.below _ _ (by omega) (hb.trans (g1.mono (by omega)))
        have hV2 := L.other (hV.below g1 (by omega)) (by omega)
        have z2 := L.size
        clear L q1 q2 hr g1 hb hV
        go_wp2
        go_roundw
        case rel => exact ⟨5 + 1, by omega, by first | rfl | go_num, hb2, hV2, by omega, HNN.out⟩
        case measure => simp [intOf] <;> omega
      · have HF : Hid (R = some ⟨11, [97, 110, 100], false, true⟩) := by show R = _; rw [← HR.out]; exact formOf_hit (f := ⟨11, [97, 110, 100], false, true⟩) HN.out rfl hk
        go_wp2_with (refine wpList_allocG hZ rfl rfl ?_)
        intro u1 g1 q1 s1
        have hr := q1.run 0 4 (show 0 + 4 ≤ 4 by decide)
        go_wp2_with (refine wpList_storeG Tryz.sizeOf307 _ _ rfl rfl rfl rfl rfl (formC_one ⟨11, [97, 110, 100], false, true⟩) hr.1 hr.2 ?_)
        intro u2 L
        have q2 := L.var q1
        have c0 : u2.cell? ⟨wr.heap.size, 0, none⟩ = some (.int .i64 11) := q2.c 0 _ rfl
        have hb2 : Below w.heap.size w u2 := L.below _ _ (by omega) (hb.trans (g1.mono (by omega)))
        have hV2 := L.other (hV.below g1 (by omega)) (by omega)
        have z2 := L.size
        clear L q1 hr g1 hb hV
        have hr2 := hV2.run 0 4 (show 0 + 4 ≤ 4 by decide)
        go_wp2_with (first
          | refine wpList_loadG Tryz.isAgg307 Tryz.sizeOf307 _ rfl rfl rfl rfl q2.c ?_
          | refine wpList_storeG Tryz.sizeOf307 _ _ rfl rfl rfl rfl rfl (formC_one ⟨11, [97, 110, 100], false, true⟩) hr2.1 hr2.2 ?_)
        intro u3 L3
        have q3 := L3.var hV2
        have hb3 : Below w.heap.size w u3 := L3.below _ _ (Nat.le_refl _) hb2
        clear L3 hV2 hr2 hb2 q2 c0
        go_wp2
        rw [HF.out]
        refine bodyPost_ret (v := .tuple #[.agg (formC ⟨11, [97, 110, 100], false, true⟩).toArray, .bool true]) ?_ rfl ⟨rfl, hb3⟩
        have hl := run_loadVarG (P := Tryz.prog) Tryz.isAgg307 Tryz.sizeOf307 rfl q3.c
        simp [results, Tryz.results233]
        exact res_pair hl
    · have hx := hx6
      clear hx0 hx1 hx2 hx3 hx4 hx5 hx6 hx7
      cases hk : ((12 : Int) == k)
      · have HNN : Hid (∀ g ∈ formL.take (6 + 1), (g.kind == k) = false) := formL_next (f := ⟨12, [111, 114], false, true⟩) HN.out rfl hk
        go_wp2_with (refine wpList_allocG hZ rfl rfl ?_)
        intro u1 g1 q1 s1
        have hr := q1.run 0 4 (show 0 + 4 ≤ 4 by decide)
        go_wp2_with (refine wpList_storeG Tryz.sizeOf307 _ _ rfl rfl rfl rfl rfl (formC_one ⟨12, [111, 114], false, true⟩) hr.1 hr.2 ?_)
        intro u2 L
        have q2 := L.var q1
        have c0 : u2.cell? ⟨wr.heap.size, 0, none⟩ = some (.int .i64 12) := q2.c 0 _ rfl
        have hb2 : Below w.heap.size w u2 := L.below _ _ (by omega) (hb.trans (g1.mono (by omega)))
        have hV2 := L.other (hV.below g1 (by omega)) (by omega)
        have z2 := L.size
        clear L q1 q2 hr g1 hb hV
        go_wp2
        go_roundw
        case rel => exact ⟨6 + 1, by omega, by first | rfl | go_num, hb2, hV2, by omega, HNN.out⟩
        case measure => simp [intOf] <;> omega
      · have HF : Hid (R = some ⟨12, [111, 114], false, true⟩) := by show R = _; rw [← HR.out]; exact formOf_hit (f := ⟨12, [111, 114], false, true⟩) HN.out rfl hk
        go_wp2_with (refine wpList_allocG hZ rfl rfl ?_)
        intro u1 g1 q1 s1
        have hr := q1.run 0 4 (show 0 + 4 ≤ 4 by decide)
        go_wp2_with (refine wpList_storeG Tryz.sizeOf307 _ _ rfl rfl rfl rfl rfl (formC_one ⟨12, [111, 114], false, true⟩) hr.1 hr.2 ?_)
        intro u2 L
        have q2 := L.var q1
        have c0 : u2.cell? ⟨wr.heap.size, 0, none⟩ = some (.int .i64 12) := q2.c 0 _ rfl
        have hb2 : Below w.heap.size w u2 := L.below _ _ (by omega) (hb.trans (g1.mono (by omega)))
        have hV2 := L.other (hV.below g1 (by omega)) (by omega)
        have z2 := L.size
        clear L q1 hr g1 hb hV
        have hr2 := hV2.run 0 4 (show 0 + 4 ≤ 4 by decide)
        go_wp2_with (first
          | refine wpList_loadG Tryz.isAgg307 Tryz.sizeOf307 _ rfl rfl rfl rfl q2.c ?_
          | refine wpList_storeG Tryz.sizeOf307 _ _ rfl rfl rfl rfl rfl (formC_one ⟨12, [111, 114], false, true⟩) hr2.1 hr2.2 ?_)
        intro u3 L3
        have q3 := L3.var hV2
        have hb3 : Below w.heap.size w u3 := L3.below _ _ (Nat.le_refl _) hb2
        clear L3 hV2 hr2 hb2 q2 c0
        go_wp2
        rw [HF.out]
        refine bodyPost_ret (v := .tuple #[.agg (formC ⟨12, [111, 114], false, true⟩).toArray, .bool true]) ?_ rfl ⟨rfl, hb3⟩
        have hl := run_loadVarG (P := Tryz.prog) Tryz.isAgg307 Tryz.sizeOf307 rfl q3.c
        simp [results, Tryz.results233]
        exact res_pair hl
    · have hx := hx7
      clear hx0 hx1 hx2 hx3 hx4 hx5 hx6 hx7
      cases hk : ((13 : Int) == k)
      · have HNN : Hid (∀ g ∈ formL.take (7 + 1), (g.kind == k) = false) := formL_next (f := ⟨13, [120, 111, 114], false, true⟩) HN.out rfl hk
        go_wp2_with (refine wpList_allocG hZ rfl rfl ?_)
        intro u1 g1 q1 s1
        have hr := q1.run 0 4 (show 0 + 4 ≤ 4 by decide)
        go_wp2_with (refine wpList_storeG Tryz.sizeOf307 _ _ rfl rfl rfl rfl rfl (formC_one ⟨13, [120, 111, 114], false, true⟩) hr.1 hr.2 ?_)
        intro u2 L
        have q2 := L.var q1
        have c0 : u2.cell? ⟨wr.heap.size, 0, none⟩ = some (.int .i64 13) := q2.c 0 _ rfl
        have hb2 : Below w.heap.size w u2 := L.below _ _ (by omega) (hb.trans (g1.mono (by omega)))
        have hV2 := L.other (hV.below g1 (by omega)) (by omega)
        have z2 := L.size
        clear L q1 q2 hr g1 hb hV
        go_wp2
        go_roundw
        case rel => exact ⟨7 + 1, by omega, by first | rfl | go_num, hb2, hV2, by omega, HNN.out⟩
        case measure => simp [intOf] <;> omega
      · have HF : Hid (R = some ⟨13, [120, 111, 114], false, true⟩) := by show R = _; rw [← HR.out]; exact formOf_hit (f := ⟨13, [120, 111, 114], false, true⟩) HN.out rfl hk
        go_wp2_with (refine wpList_allocG hZ rfl rfl ?_)
        intro u1 g1 q1 s1
        have hr := q1.run 0 4 (show 0 + 4 ≤ 4 by decide)
        go_wp2_with (refine wpList_storeG Tryz.sizeOf307 _ _ rfl rfl rfl rfl rfl (formC_one ⟨13, [120, 111, 114], false, true⟩) hr.1 hr.2 ?_)
        intro u2 L
        have q2 := L.var q1
        have c0 : u2.cell? ⟨wr.heap.size, 0, none⟩ = some (.int .i64 13) := q2.c 0 _ rfl
        have hb2 : Below w.heap.size w u2 := L.below _ _ (by omega) (hb.trans (g1.mono (by omega)))
        have hV2 := L.other (hV.below g1 (by omega)) (by omega)
        have z2 := L.size
        clear L q1 hr g1 hb hV
        have hr2 := hV2.run 0 4 (show 0 + 4 ≤ 4 by decide)
        go_wp2_with (first
          | refine wpList_loadG Tryz.isAgg307 Tryz.sizeOf307 _ rfl rfl rfl rfl q2.c ?_
          | refine wpList_storeG Tryz.sizeOf307 _ _ rfl rfl rfl rfl rfl (formC_one ⟨13, [120, 111, 114], false, true⟩) hr2.1 hr2.2 ?_)
        intro u3 L3
        have q3 := L3.var hV2
        have hb3 : Below w.heap.size w u3 := L3.below _ _ (Nat.le_refl _) hb2
        clear L3 hV2 hr2 hb2 q2 c0
        go_wp2
        rw [HF.out]
        refine bodyPost_ret (v := .tuple #[.agg (formC ⟨13, [120, 111, 114], false, true⟩).toArray, .bool true]) ?_ rfl ⟨rfl, hb3⟩
        have hl := run_loadVarG (P := Tryz.prog) Tryz.isAgg307 Tryz.sizeOf307 rfl q3.c
        simp [results, Tryz.results233]
        exact res_pair hl
    · have HF : Hid (R = none) := by
        show R = none
        rw [← HR.out]
        unfold formOf
        exact formL_none (j := 8) HN.out
      clear hx0 hx1 hx2 hx3 hx4 hx5 hx6 hx7
      have hr2 := hV.run 0 4 (show 0 + 4 ≤ 4 by decide)
      go_wp2_with (refine wpList_storeG (vs := formC noForm) Tryz.sizeOf307 _ _ rfl rfl rfl rfl rfl (formC_one noForm) hr2.1 hr2.2 ?_)
      intro u3 L3
      have q3 := L3.var hV
      have hb3 : Below w.heap.size w u3 := L3.below _ _ (Nat.le_refl _) hb
      clear L3 hV hr2 hb
      go_wp2
      rw [HF.out]
      refine bodyPost_ret (v := .tuple #[.agg (formC noForm).toArray, .bool false]) ?_ rfl ⟨rfl, hb3⟩
      have hl := run_loadVarG (P := Tryz.prog) Tryz.isAgg307 Tryz.sizeOf307 rfl q3.c
      simp [results, Tryz.results233]
      exact res_pair hl
end Go.Proofs.YtaoiookfmgpmkaaGreatDoor
