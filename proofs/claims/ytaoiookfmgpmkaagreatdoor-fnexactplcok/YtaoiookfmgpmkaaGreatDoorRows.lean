/-
  NARROWER THAN 'FOR EVERY INPUT', by the rows' own cells (each row's printed sentence says how): FnExactPlcNew: loops, laid · FnExactPlcOk: loops, laid · FnExactPlcFall: loops, laid · FnExactNetStep: laid · FnExactCodeRun: ifaces, laid.
  DERIVED. THE GIVEN ROWS OF THIS SEAT. 5 by the template 'for every input the law returns true; each argument reads behind the call as it read before'; 0 by the template 'total and deterministic' (their statements: YtaoiookfmgpmkaaGreatDoorTotals.lean).
  GIVEN WITH THE SEED: the statements are not yours to turn. If you find one false, say at which input.
  Laid BY PROGRAM, IN A SANDBOX (cutbox-rows.mjs): the forced cells as the released guide's own fill.sh prints them over the translation 472360230e1e24f0… (all of the seat's roots in one cut). By AI agents, Wed Nov 11 2026. No macro, syntax, notation, axiom, sorry.
-/
import Derived.Test.YtaoiookfmgpmkaaGreatDoorChecked
import GoSem.Claim
import GoSem.ClaimJoined
import GoSem.ClaimMapViews
import Derived.JoinedTies
import Derived.KernelRfl
namespace Go.Proofs.YtaoiookfmgpmkaaGreatDoor
/- THE CELL 'sum', in the pinned program and in every row, IS THE sha256 OF THE DUMP (.gsa) THAT YtaoiookfmgpmkaaGreatDoorProg.lean LOADS. Nothing in Lean hashes anything: it is a label: what it is worth is what the hold of that sum in a sandbox is worth. -/
noncomputable def Tryz.pinned : Pinned := { name := "ytaoiookfmgpmkaagreatdoor", sum := "472360230e1e24f0e93652d4a159040167447524f4f12d391e5bf9e11673e25a", checked := Tryz.checked }
namespace Rows
def none {H : Type} : Left H := { results := [], args := [] }

/- WHAT THE LISTED PACKAGE-LEVEL VARIABLES READ AS WHEN THE CALL BEGINS. Each datum BY PROGRAM (the guide's laid-datum.mjs) off the statement by which the dump's own 'gosem.cut.vars' lays the variable. In a bare row this is a premise. The card (YtaoiookfmgpmkaaGreatDoorCards.lean) ties it to the program's text. -/
def laid_loop_example_stopgate_impl_wireForms {H : Type} : DataW H := .agg [.agg [.lit (.int .i64 1), .lit (.string [100, 101, 108, 97, 121]), .lit (.bool true), .lit (.bool false)], .agg [.lit (.int .i64 2), .lit (.string [104, 111, 108, 100]), .lit (.bool true), .lit (.bool false)], .agg [.lit (.int .i64 3), .lit (.string [99, 111, 117, 110, 116]), .lit (.bool true), .lit (.bool true)], .agg [.lit (.int .i64 4), .lit (.string [114, 105, 115, 101]), .lit (.bool false), .lit (.bool false)], .agg [.lit (.int .i64 5), .lit (.string [108, 97, 116, 99, 104]), .lit (.bool false), .lit (.bool true)], .agg [.lit (.int .i64 11), .lit (.string [97, 110, 100]), .lit (.bool false), .lit (.bool true)], .agg [.lit (.int .i64 12), .lit (.string [111, 114]), .lit (.bool false), .lit (.bool true)], .agg [.lit (.int .i64 13), .lit (.string [120, 111, 114]), .lit (.bool false), .lit (.bool true)]]
def laid_loop_example_stopgate_impl_errLong {H : Type} : DataW H := .iface "*errors.errorString" (.ptr (.agg [.lit (.string [105, 116, 32, 116, 97, 107, 101, 115, 32, 116, 111, 111, 32, 108, 111, 110, 103])]))

/-- 'laws.FnExactPlcNew': WHATEVER THE INPUT: true; the input reads as it did. -/
def fnExactPlcNewSpec : ChangeSpec := { name := "fnExactPlcNew", vars := ["loop.example/stopgate/impl.wireForms"], fn := fun _ => fun
  | [d1, d2, d3, g1] => { results := [.lit (.bool true)], args := [d1, d2, d3], vars := [g1] }
  | _ => none }
def fnExactPlcNewRow : OpenClaim := { program := "ytaoiookfmgpmkaagreatdoor", sum := "472360230e1e24f0e93652d4a159040167447524f4f12d391e5bf9e11673e25a", func := "loop.example/stopgate/laws.FnExactPlcNew", spec := "fnExactPlcNew", unfollowed := true, recurses := true, named := ["loop.example/stopgate/impl.wireForms"], loops := true, apart := false, laid := [("loop.example/stopgate/impl.wireForms", laid_loop_example_stopgate_impl_wireForms)] }
def FnExactPlcNewSaid : Prop := fnExactPlcNewRow.holds Tryz.pinned (OpenSpec.ofChange fnExactPlcNewSpec)

/-- ITS FALSE NEIGHBOUR: 'it returns false'. Refute it at one input. -/
def fnExactPlcNewWrong : ChangeSpec := { name := "fnExactPlcNew", vars := ["loop.example/stopgate/impl.wireForms"], fn := fun _ => fun
  | [d1, d2, d3, g1] => { results := [.lit (.bool false)], args := [d1, d2, d3], vars := [g1] }
  | _ => none }
def FnExactPlcNewWrongFalsely : Prop := fnExactPlcNewRow.holds Tryz.pinned (OpenSpec.ofChange fnExactPlcNewWrong)

/-- 'laws.FnExactPlcOk': WHATEVER THE INPUT: true; the input reads as it did. -/
def fnExactPlcOkSpec : ChangeSpec := { name := "fnExactPlcOk", vars := ["loop.example/stopgate/impl.wireForms"], fn := fun _ => fun
  | [d, g1] => { results := [.lit (.bool true)], args := [d], vars := [g1] }
  | _ => none }
def fnExactPlcOkRow : OpenClaim := { program := "ytaoiookfmgpmkaagreatdoor", sum := "472360230e1e24f0e93652d4a159040167447524f4f12d391e5bf9e11673e25a", func := "loop.example/stopgate/laws.FnExactPlcOk", spec := "fnExactPlcOk", unfollowed := true, recurses := true, named := ["loop.example/stopgate/impl.wireForms"], loops := true, apart := false, laid := [("loop.example/stopgate/impl.wireForms", laid_loop_example_stopgate_impl_wireForms)] }
def FnExactPlcOkSaid : Prop := fnExactPlcOkRow.holds Tryz.pinned (OpenSpec.ofChange fnExactPlcOkSpec)

/-- ITS FALSE NEIGHBOUR: 'it returns false'. Refute it at one input. -/
def fnExactPlcOkWrong : ChangeSpec := { name := "fnExactPlcOk", vars := ["loop.example/stopgate/impl.wireForms"], fn := fun _ => fun
  | [d, g1] => { results := [.lit (.bool false)], args := [d], vars := [g1] }
  | _ => none }
def FnExactPlcOkWrongFalsely : Prop := fnExactPlcOkRow.holds Tryz.pinned (OpenSpec.ofChange fnExactPlcOkWrong)

/-- 'laws.FnExactPlcFall': WHATEVER THE INPUT: true; the input reads as it did. -/
def fnExactPlcFallSpec : ChangeSpec := { name := "fnExactPlcFall", vars := ["loop.example/stopgate/impl.wireForms"], fn := fun _ => fun
  | [d, g1] => { results := [.lit (.bool true)], args := [d], vars := [g1] }
  | _ => none }
def fnExactPlcFallRow : OpenClaim := { program := "ytaoiookfmgpmkaagreatdoor", sum := "472360230e1e24f0e93652d4a159040167447524f4f12d391e5bf9e11673e25a", func := "loop.example/stopgate/laws.FnExactPlcFall", spec := "fnExactPlcFall", unfollowed := true, recurses := true, named := ["loop.example/stopgate/impl.wireForms"], loops := true, apart := false, laid := [("loop.example/stopgate/impl.wireForms", laid_loop_example_stopgate_impl_wireForms)] }
def FnExactPlcFallSaid : Prop := fnExactPlcFallRow.holds Tryz.pinned (OpenSpec.ofChange fnExactPlcFallSpec)

/-- ITS FALSE NEIGHBOUR: 'it returns false'. Refute it at one input. -/
def fnExactPlcFallWrong : ChangeSpec := { name := "fnExactPlcFall", vars := ["loop.example/stopgate/impl.wireForms"], fn := fun _ => fun
  | [d, g1] => { results := [.lit (.bool false)], args := [d], vars := [g1] }
  | _ => none }
def FnExactPlcFallWrongFalsely : Prop := fnExactPlcFallRow.holds Tryz.pinned (OpenSpec.ofChange fnExactPlcFallWrong)

/-- 'laws.FnExactNetStep': WHATEVER THE INPUT: true; the input reads as it did. -/
def fnExactNetStepSpec : ChangeSpec := { name := "fnExactNetStep", vars := ["loop.example/stopgate/impl.wireForms"], fn := fun _ => fun
  | [d1, d2, d3, d4, g1] => { results := [.lit (.bool true)], args := [d1, d2, d3, d4], vars := [g1] }
  | _ => none }
def fnExactNetStepRow : OpenClaim := { program := "ytaoiookfmgpmkaagreatdoor", sum := "472360230e1e24f0e93652d4a159040167447524f4f12d391e5bf9e11673e25a", func := "loop.example/stopgate/laws.FnExactNetStep", spec := "fnExactNetStep", unfollowed := true, recurses := true, named := ["loop.example/stopgate/impl.wireForms"], apart := false, laid := [("loop.example/stopgate/impl.wireForms", laid_loop_example_stopgate_impl_wireForms)] }
def FnExactNetStepSaid : Prop := fnExactNetStepRow.holds Tryz.pinned (OpenSpec.ofChange fnExactNetStepSpec)

/-- ITS FALSE NEIGHBOUR: 'it returns false'. Refute it at one input. -/
def fnExactNetStepWrong : ChangeSpec := { name := "fnExactNetStep", vars := ["loop.example/stopgate/impl.wireForms"], fn := fun _ => fun
  | [d1, d2, d3, d4, g1] => { results := [.lit (.bool false)], args := [d1, d2, d3, d4], vars := [g1] }
  | _ => none }
def FnExactNetStepWrongFalsely : Prop := fnExactNetStepRow.holds Tryz.pinned (OpenSpec.ofChange fnExactNetStepWrong)

/-- 'laws.FnExactCodeRun': WHATEVER THE INPUT: true; the input reads as it did. -/
def fnExactCodeRunSpec : ChangeSpec := { name := "fnExactCodeRun", vars := ["loop.example/stopgate/impl.errLong"], fn := fun _ => fun
  | [d1, d2, d3, g1] => { results := [.lit (.bool true)], args := [d1, d2, d3], vars := [g1] }
  | _ => none }
def fnExactCodeRunRow : OpenClaim := { program := "ytaoiookfmgpmkaagreatdoor", sum := "472360230e1e24f0e93652d4a159040167447524f4f12d391e5bf9e11673e25a", func := "loop.example/stopgate/laws.FnExactCodeRun", spec := "fnExactCodeRun", inPlace := ["internal/reflectlite.TypeOf"], unfollowed := true, recurses := true, named := ["loop.example/stopgate/impl.errLong"], ifaces := true, apart := false, laid := [("loop.example/stopgate/impl.errLong", laid_loop_example_stopgate_impl_errLong)] }
def FnExactCodeRunSaid : Prop := fnExactCodeRunRow.holds Tryz.pinned (OpenSpec.ofChange fnExactCodeRunSpec)

/-- ITS FALSE NEIGHBOUR: 'it returns false'. Refute it at one input. -/
def fnExactCodeRunWrong : ChangeSpec := { name := "fnExactCodeRun", vars := ["loop.example/stopgate/impl.errLong"], fn := fun _ => fun
  | [d1, d2, d3, g1] => { results := [.lit (.bool false)], args := [d1, d2, d3], vars := [g1] }
  | _ => none }
def FnExactCodeRunWrongFalsely : Prop := fnExactCodeRunRow.holds Tryz.pinned (OpenSpec.ofChange fnExactCodeRunWrong)

/- THE SECOND FORM. 'bulk': how many values and letters a reading holds, each counted each time it is reached (what is shared counts as often as it is met; a slice's spare places count too). A statement '..UptoSaid' is the law's where the arguments, and the package variables that the reading takes, are together of bulk at most 1048576: NARROWER than '..Said'. Prove '..Said' where nothing that the law and all that it calls make is longer than what came in: it says more and counts as full. Else prove '..UptoSaid'. A law counts once. -/
mutual
def uptoBulk {H : Type} : DataW H → Nat
  | .lit (.string bytes) => bytes.length + 1
  | .lit _ => 1
  | .nil => 1
  | .ptr d => uptoBulk d + 1
  | .slice elems spare => uptoBulkAll elems + uptoBulkAll spare + 1
  | .agg parts => uptoBulkAll parts + 1
  | .iface _ d => uptoBulk d + 1
  | .map entries => uptoBulkEntries entries + 1
  | .held _ => 1
def uptoBulkAll {H : Type} : List (DataW H) → Nat
  | [] => 0
  | d :: r => uptoBulk d + uptoBulkAll r
def uptoBulkEntries {H : Type} : List (Lit × DataW H) → Nat
  | [] => 0
  | x :: r => uptoBulkEntry x + uptoBulkEntries r
def uptoBulkEntry {H : Type} : Lit × DataW H → Nat
  | (.string bytes, d) => bytes.length + uptoBulk d + 1
  | (_, d) => uptoBulk d + 1
 end
def uptoSmall : (H : Type) → List (DataW H) → Bool := fun _ ds => decide (uptoBulkAll ds ≤ 1048576)
def OpenSpec.upto (s : _root_.Go.ChangeSpec) : _root_.Go.OpenSpec := { _root_.Go.OpenSpec.ofChange s with cond := some uptoSmall }

/-- 'laws.FnExactPlcNew', WHERE WHAT IT READS IS OF BULK AT MOST 1048576: true; the input reads as it did. -/
def fnExactPlcNewUptoRow : OpenClaim := { program := "ytaoiookfmgpmkaagreatdoor", sum := "472360230e1e24f0e93652d4a159040167447524f4f12d391e5bf9e11673e25a", func := "loop.example/stopgate/laws.FnExactPlcNew", spec := "fnExactPlcNew", unfollowed := true, recurses := true, named := ["loop.example/stopgate/impl.wireForms"], loops := true, apart := false, laid := [("loop.example/stopgate/impl.wireForms", laid_loop_example_stopgate_impl_wireForms)], narrowed := true }
def FnExactPlcNewUptoSaid : Prop := fnExactPlcNewUptoRow.holds Tryz.pinned (OpenSpec.upto fnExactPlcNewSpec)

/-- 'laws.FnExactPlcOk', WHERE WHAT IT READS IS OF BULK AT MOST 1048576: true; the input reads as it did. -/
def fnExactPlcOkUptoRow : OpenClaim := { program := "ytaoiookfmgpmkaagreatdoor", sum := "472360230e1e24f0e93652d4a159040167447524f4f12d391e5bf9e11673e25a", func := "loop.example/stopgate/laws.FnExactPlcOk", spec := "fnExactPlcOk", unfollowed := true, recurses := true, named := ["loop.example/stopgate/impl.wireForms"], loops := true, apart := false, laid := [("loop.example/stopgate/impl.wireForms", laid_loop_example_stopgate_impl_wireForms)], narrowed := true }
def FnExactPlcOkUptoSaid : Prop := fnExactPlcOkUptoRow.holds Tryz.pinned (OpenSpec.upto fnExactPlcOkSpec)

/-- 'laws.FnExactPlcFall', WHERE WHAT IT READS IS OF BULK AT MOST 1048576: true; the input reads as it did. -/
def fnExactPlcFallUptoRow : OpenClaim := { program := "ytaoiookfmgpmkaagreatdoor", sum := "472360230e1e24f0e93652d4a159040167447524f4f12d391e5bf9e11673e25a", func := "loop.example/stopgate/laws.FnExactPlcFall", spec := "fnExactPlcFall", unfollowed := true, recurses := true, named := ["loop.example/stopgate/impl.wireForms"], loops := true, apart := false, laid := [("loop.example/stopgate/impl.wireForms", laid_loop_example_stopgate_impl_wireForms)], narrowed := true }
def FnExactPlcFallUptoSaid : Prop := fnExactPlcFallUptoRow.holds Tryz.pinned (OpenSpec.upto fnExactPlcFallSpec)

/-- 'laws.FnExactNetStep', WHERE WHAT IT READS IS OF BULK AT MOST 1048576: true; the input reads as it did. -/
def fnExactNetStepUptoRow : OpenClaim := { program := "ytaoiookfmgpmkaagreatdoor", sum := "472360230e1e24f0e93652d4a159040167447524f4f12d391e5bf9e11673e25a", func := "loop.example/stopgate/laws.FnExactNetStep", spec := "fnExactNetStep", unfollowed := true, recurses := true, named := ["loop.example/stopgate/impl.wireForms"], apart := false, laid := [("loop.example/stopgate/impl.wireForms", laid_loop_example_stopgate_impl_wireForms)], narrowed := true }
def FnExactNetStepUptoSaid : Prop := fnExactNetStepUptoRow.holds Tryz.pinned (OpenSpec.upto fnExactNetStepSpec)

/-- 'laws.FnExactCodeRun', WHERE WHAT IT READS IS OF BULK AT MOST 1048576: true; the input reads as it did. -/
def fnExactCodeRunUptoRow : OpenClaim := { program := "ytaoiookfmgpmkaagreatdoor", sum := "472360230e1e24f0e93652d4a159040167447524f4f12d391e5bf9e11673e25a", func := "loop.example/stopgate/laws.FnExactCodeRun", spec := "fnExactCodeRun", inPlace := ["internal/reflectlite.TypeOf"], unfollowed := true, recurses := true, named := ["loop.example/stopgate/impl.errLong"], ifaces := true, apart := false, laid := [("loop.example/stopgate/impl.errLong", laid_loop_example_stopgate_impl_errLong)], narrowed := true }
def FnExactCodeRunUptoSaid : Prop := fnExactCodeRunUptoRow.holds Tryz.pinned (OpenSpec.upto fnExactCodeRunSpec)

end Rows
end Go.Proofs.YtaoiookfmgpmkaaGreatDoor
