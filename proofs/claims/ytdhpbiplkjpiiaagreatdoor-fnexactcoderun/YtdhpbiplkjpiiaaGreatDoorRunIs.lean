/-
  errors.Is, asked of nil and of the error itself. (After the guide's contracts of errors.Is.)
-/
import Derived.Test.YtdhpbiplkjpiiaaGreatDoorQC6
import Derived.LaidEql
import Derived.Stop.Asserts
import Derived.RowKitTokens
namespace Go.Proofs.YtdhpbiplkjpiiaaGreatDoor
open Go.RowKit Go.Extern.Stop Go.Stop Go.Extern
set_option linter.unusedVariables false
set_option maxRecDepth 100000

theorem is_typeOf (v : Value) (w : World) : (Extern.ReflectliteType.typeOf #[.iface 138 v]).run Tryz.prog w = .ok (.iface 109 (.agg #[.pointer (some ⟨1, 138, none⟩)])) w := by kernel_rfl
/-- The model's entry for a type's Comparable, as the table holds it at this function. -/
theorem is_cmp_entry : ∃ ext, Extern.find Tryz.f115 = some ext ∧ ∀ w : World, (ext #[.agg #[.pointer (some ⟨1, 138, none⟩)]]).run Tryz.prog w = .ok (.bool true) w := by
  have h : (Extern.find Tryz.f115).isSome = true := by kernel_rfl
  exact ⟨(Extern.find Tryz.f115).get h, (Option.some_get h).symm, fun w => by kernel_rfl⟩
theorem is_methodComparable (v : Value) (w : World) : (Go.method 275 109 v "Comparable").run Tryz.prog w = .ok (115, v) w := by kernel_rfl
theorem is_comp : (Tryz.prog.info? 138).map (·.comparable) = some true := by kernel_rfl
theorem is_size : (Tryz.prog.info? 163).map (·.size) = some 1 := by kernel_rfl

/-- errors.Is(x, x), x a pointer to an errors.errorString. -/
theorem is_same (a : Go.Addr) (w : World) :
    Calls Tryz.prog 25 #[.iface 138 (.pointer (some a)), .iface 138 (.pointer (some a))] w fun e w' => e = .returned (.bool true) ∧ w' = w := by
  obtain ⟨i, hi, hcmp⟩ := Option.map_eq_some_iff.1 is_comp
  obtain ⟨j, hj, hjs⟩ := Option.map_eq_some_iff.1 is_size
  have h8 := @run_callFunc_extern Tryz.prog 42 _ Extern.ReflectliteType.typeOf Tryz.func42 (by kernel_rfl) (by kernel_rfl) (by kernel_rfl) (by kernel_rfl)
  obtain ⟨ext, hext, cT⟩ := is_cmp_entry
  have h32 := @run_callFunc_extern Tryz.prog 115 _ ext Tryz.func115 (by kernel_rfl) (by kernel_rfl) (by kernel_rfl) hext
  have tT := is_typeOf
  have mR := is_methodComparable
  have heq := run_eql_iface_ptr_same (P := Tryz.prog) w a Tryz.underlying67 Tryz.underlying138 hi hcmp hj
  go_enter Tryz.func25, Tryz.ntmps25
  go_wp2
  refine wp_loop_rounds 1 ?_
  rw [rounds_succ]
  go_wp2
  go_ret
  exact ⟨rfl, rfl⟩

/-- errors.Is(nil, x). -/
theorem is_nil (b : Go.Addr) (w : World) :
    Calls Tryz.prog 25 #[.nilIface, .iface 138 (.pointer (some b))] w fun e w' => e = .returned (.bool false) ∧ w' = w := by
  have hn := run_eql_iface_nil_left (P := Tryz.prog) w 138 (.pointer (some b)) Tryz.underlying67
  go_enter Tryz.func25, Tryz.ntmps25
  go_wp2
  go_ret
  exact ⟨rfl, rfl⟩
end Go.Proofs.YtdhpbiplkjpiiaaGreatDoor
