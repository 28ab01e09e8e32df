/-
  NARROWER THAN 'FOR EVERY INPUT', by the rows' own cells (each row's printed sentence says how): FnExactChartFires: loops · FnExactChartStep: loops.
  DERIVED. THE GIVEN ROWS OF THIS SEAT. 4 by the template 'for every input the law returns true; each argument reads behind the call as it read before'; 0 by the template 'total and deterministic' (their statements: YtokphdpaghkakaaGreatTotals.lean).
  GIVEN WITH THE SEED: the statements are not yours to turn. If you find one false, say at which input.
  Laid BY PROGRAM, IN A SANDBOX (cutbox-rows.mjs): the forced cells as the released guide's own fill.sh prints them over the translation 0a02b63b7d710ed5… (all of the seat's roots in one cut). By AI agents, Wed Nov 11 2026. No macro, syntax, notation, axiom, sorry.
-/
import Derived.Test.YtokphdpaghkakaaGreatChecked
import GoSem.Claim
import GoSem.ClaimJoined
import GoSem.ClaimMapViews
import Derived.JoinedTies
import Derived.KernelRfl
namespace Go.Proofs.YtokphdpaghkakaaGreat
/- THE CELL 'sum', in the pinned program and in every row, IS THE sha256 OF THE DUMP (.gsa) THAT YtokphdpaghkakaaGreatProg.lean LOADS. Nothing in Lean hashes anything: it is a label: what it is worth is what the hold of that sum in a sandbox is worth. -/
noncomputable def Tryz.pinned : Pinned := { name := "ytokphdpaghkakaagreat", sum := "0a02b63b7d710ed53d40fad48e6c1337b52e7e9a9da7d89130c8759beeb8ad54", checked := Tryz.checked }
namespace Rows
def none {H : Type} : Left H := { results := [], args := [] }

/-- 'laws.FnExactChartFires': WHATEVER THE INPUT: true; the input reads as it did. -/
def fnExactChartFiresSpec : ChangeSpec := { name := "fnExactChartFires", fn := fun _ => fun
  | [d1, d2, d3] => { results := [.lit (.bool true)], args := [d1, d2, d3] }
  | _ => none }
def fnExactChartFiresRow : OpenClaim := { program := "ytokphdpaghkakaagreat", sum := "0a02b63b7d710ed53d40fad48e6c1337b52e7e9a9da7d89130c8759beeb8ad54", func := "loop.example/stopgate/laws.FnExactChartFires", spec := "fnExactChartFires", unfollowed := true, recurses := true, loops := true, apart := false }
def FnExactChartFiresSaid : Prop := fnExactChartFiresRow.holds Tryz.pinned (OpenSpec.ofChange fnExactChartFiresSpec)

/-- ITS FALSE NEIGHBOUR: 'it returns false'. Refute it at one input. -/
def fnExactChartFiresWrong : ChangeSpec := { name := "fnExactChartFires", fn := fun _ => fun
  | [d1, d2, d3] => { results := [.lit (.bool false)], args := [d1, d2, d3] }
  | _ => none }
def FnExactChartFiresWrongFalsely : Prop := fnExactChartFiresRow.holds Tryz.pinned (OpenSpec.ofChange fnExactChartFiresWrong)

/-- 'laws.FnExactChartStep': WHATEVER THE INPUT: true; the input reads as it did. -/
def fnExactChartStepSpec : ChangeSpec := { name := "fnExactChartStep", fn := fun _ => fun
  | [d1, d2, d3] => { results := [.lit (.bool true)], args := [d1, d2, d3] }
  | _ => none }
def fnExactChartStepRow : OpenClaim := { program := "ytokphdpaghkakaagreat", sum := "0a02b63b7d710ed53d40fad48e6c1337b52e7e9a9da7d89130c8759beeb8ad54", func := "loop.example/stopgate/laws.FnExactChartStep", spec := "fnExactChartStep", unfollowed := true, recurses := true, loops := true, apart := false }
def FnExactChartStepSaid : Prop := fnExactChartStepRow.holds Tryz.pinned (OpenSpec.ofChange fnExactChartStepSpec)

/-- ITS FALSE NEIGHBOUR: 'it returns false'. Refute it at one input. -/
def fnExactChartStepWrong : ChangeSpec := { name := "fnExactChartStep", fn := fun _ => fun
  | [d1, d2, d3] => { results := [.lit (.bool false)], args := [d1, d2, d3] }
  | _ => none }
def FnExactChartStepWrongFalsely : Prop := fnExactChartStepRow.holds Tryz.pinned (OpenSpec.ofChange fnExactChartStepWrong)

/-- 'laws.FnChartFires': WHATEVER THE INPUT: true; the input reads as it did. -/
def fnChartFiresSpec : ChangeSpec := { name := "fnChartFires", fn := fun _ => fun
  | [d] => { results := [.lit (.bool true)], args := [d] }
  | _ => none }
def fnChartFiresRow : OpenClaim := { program := "ytokphdpaghkakaagreat", sum := "0a02b63b7d710ed53d40fad48e6c1337b52e7e9a9da7d89130c8759beeb8ad54", func := "loop.example/stopgate/laws.FnChartFires", spec := "fnChartFires", unfollowed := true, recurses := true, apart := false }
def FnChartFiresSaid : Prop := fnChartFiresRow.holds Tryz.pinned (OpenSpec.ofChange fnChartFiresSpec)

/-- ITS FALSE NEIGHBOUR: 'it returns false'. Refute it at one input. -/
def fnChartFiresWrong : ChangeSpec := { name := "fnChartFires", fn := fun _ => fun
  | [d] => { results := [.lit (.bool false)], args := [d] }
  | _ => none }
def FnChartFiresWrongFalsely : Prop := fnChartFiresRow.holds Tryz.pinned (OpenSpec.ofChange fnChartFiresWrong)

/-- 'laws.FnChartFree': WHATEVER THE INPUT: true; the input reads as it did. -/
def fnChartFreeSpec : ChangeSpec := { name := "fnChartFree", fn := fun _ => fun
  | [d] => { results := [.lit (.bool true)], args := [d] }
  | _ => none }
def fnChartFreeRow : OpenClaim := { program := "ytokphdpaghkakaagreat", sum := "0a02b63b7d710ed53d40fad48e6c1337b52e7e9a9da7d89130c8759beeb8ad54", func := "loop.example/stopgate/laws.FnChartFree", spec := "fnChartFree", unfollowed := true, recurses := true, apart := false }
def FnChartFreeSaid : Prop := fnChartFreeRow.holds Tryz.pinned (OpenSpec.ofChange fnChartFreeSpec)

/-- ITS FALSE NEIGHBOUR: 'it returns false'. Refute it at one input. -/
def fnChartFreeWrong : ChangeSpec := { name := "fnChartFree", fn := fun _ => fun
  | [d] => { results := [.lit (.bool false)], args := [d] }
  | _ => none }
def FnChartFreeWrongFalsely : Prop := fnChartFreeRow.holds Tryz.pinned (OpenSpec.ofChange fnChartFreeWrong)

/- THE SECOND FORM. 'bulk': how many values and letters a reading holds, each counted each time it is reached (what is shared counts as often as it is met; a slice's spare places count too). A statement '..UptoSaid' is the law's where the arguments, and the package variables that the reading takes, are together of bulk at most 1048576: NARROWER than '..Said'. Prove '..Said' where nothing that the law and all that it calls make is longer than what came in: it says more and counts as full. Else prove '..UptoSaid'. A law counts once. -/
mutual
def uptoBulk {H : Type} : DataW H → Nat
  | .lit (.string bytes) => bytes.length + 1
  | .lit _ => 1
  | .nil => 1
  | .ptr d => uptoBulk d + 1
  | .slice elems spare => uptoBulkAll elems + uptoBulkAll spare + 1
  | .agg parts => uptoBulkAll parts + 1
  | .iface _ d => uptoBulk d + 1
  | .map entries => uptoBulkEntries entries + 1
  | .held _ => 1
def uptoBulkAll {H : Type} : List (DataW H) → Nat
  | [] => 0
  | d :: r => uptoBulk d + uptoBulkAll r
def uptoBulkEntries {H : Type} : List (Lit × DataW H) → Nat
  | [] => 0
  | x :: r => uptoBulkEntry x + uptoBulkEntries r
def uptoBulkEntry {H : Type} : Lit × DataW H → Nat
  | (.string bytes, d) => bytes.length + uptoBulk d + 1
  | (_, d) => uptoBulk d + 1
 end
def uptoSmall : (H : Type) → List (DataW H) → Bool := fun _ ds => decide (uptoBulkAll ds ≤ 1048576)
def OpenSpec.upto (s : _root_.Go.ChangeSpec) : _root_.Go.OpenSpec := { _root_.Go.OpenSpec.ofChange s with cond := some uptoSmall }

/-- 'laws.FnExactChartFires', WHERE WHAT IT READS IS OF BULK AT MOST 1048576: true; the input reads as it did. -/
def fnExactChartFiresUptoRow : OpenClaim := { program := "ytokphdpaghkakaagreat", sum := "0a02b63b7d710ed53d40fad48e6c1337b52e7e9a9da7d89130c8759beeb8ad54", func := "loop.example/stopgate/laws.FnExactChartFires", spec := "fnExactChartFires", unfollowed := true, recurses := true, loops := true, apart := false, narrowed := true }
def FnExactChartFiresUptoSaid : Prop := fnExactChartFiresUptoRow.holds Tryz.pinned (OpenSpec.upto fnExactChartFiresSpec)

/-- 'laws.FnExactChartStep', WHERE WHAT IT READS IS OF BULK AT MOST 1048576: true; the input reads as it did. -/
def fnExactChartStepUptoRow : OpenClaim := { program := "ytokphdpaghkakaagreat", sum := "0a02b63b7d710ed53d40fad48e6c1337b52e7e9a9da7d89130c8759beeb8ad54", func := "loop.example/stopgate/laws.FnExactChartStep", spec := "fnExactChartStep", unfollowed := true, recurses := true, loops := true, apart := false, narrowed := true }
def FnExactChartStepUptoSaid : Prop := fnExactChartStepUptoRow.holds Tryz.pinned (OpenSpec.upto fnExactChartStepSpec)

/-- 'laws.FnChartFires', WHERE WHAT IT READS IS OF BULK AT MOST 1048576: true; the input reads as it did. -/
def fnChartFiresUptoRow : OpenClaim := { program := "ytokphdpaghkakaagreat", sum := "0a02b63b7d710ed53d40fad48e6c1337b52e7e9a9da7d89130c8759beeb8ad54", func := "loop.example/stopgate/laws.FnChartFires", spec := "fnChartFires", unfollowed := true, recurses := true, apart := false, narrowed := true }
def FnChartFiresUptoSaid : Prop := fnChartFiresUptoRow.holds Tryz.pinned (OpenSpec.upto fnChartFiresSpec)

/-- 'laws.FnChartFree', WHERE WHAT IT READS IS OF BULK AT MOST 1048576: true; the input reads as it did. -/
def fnChartFreeUptoRow : OpenClaim := { program := "ytokphdpaghkakaagreat", sum := "0a02b63b7d710ed53d40fad48e6c1337b52e7e9a9da7d89130c8759beeb8ad54", func := "loop.example/stopgate/laws.FnChartFree", spec := "fnChartFree", unfollowed := true, recurses := true, apart := false, narrowed := true }
def FnChartFreeUptoSaid : Prop := fnChartFreeUptoRow.holds Tryz.pinned (OpenSpec.upto fnChartFreeSpec)

end Rows
end Go.Proofs.YtokphdpaghkakaaGreat
